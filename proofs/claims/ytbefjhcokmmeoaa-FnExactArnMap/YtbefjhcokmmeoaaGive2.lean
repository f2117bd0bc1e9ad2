/- ArnGive at all places. -/
import Derived.Test.YtbefjhcokmmeoaaGive
namespace Go.Proofs.Ytbefjhcokmmeoaa
open Go.RowKit
set_option linter.unusedVariables false

theorem snodes_some {w : World} {a : Option Addr} {n : Nat} {ns : List Nd} (hs : SNodes w a n ns) (h : ns.length = 10) : n = 10 ∧ ∃ b off, a = some ⟨b, off, none⟩ := by
  obtain ⟨hz, h0 | ⟨b, off, rfl, hc⟩⟩ := hs
  · omega
  · exact ⟨by omega, b, off, rfl⟩

end Go.Proofs.Ytbefjhcokmmeoaa
