/- Contracts of the program's list methods at integers: replaced, same, with, without. -/
import Derived.Test.YtbjgepcbbonceaaInts
import Derived.Test.YtbjgepcbbonceaaAppend
namespace Go.Proofs.Ytbjgepcbbonceaa
open Go.RowKit
set_option linter.unusedVariables false

/-- The cells of the first f numbers, for an append. -/
theorem SInts.src_take {w : World} {a : Option Addr} {n : Nat} {zs : List Int} (hs : SInts w a n zs) {f : Nat} (hf : f ≤ n) :
    f = 0 ∨ ∃ ad, a = some ad ∧ ∀ j u, ((zs.take f).map (Value.int .i64))[j]? = some u → w.cell? (ad.add j) = some u := by
  obtain ⟨hz, h0 | ⟨b, off, rfl, hc⟩⟩ := hs
  · exact .inl (by omega)
  · refine .inr ⟨_, rfl, fun j u hj => ?_⟩
    have hjf : j < f := by
      have := (List.getElem?_eq_some_iff.1 hj).1
      simp at this
      omega
    rw [Addr.add_lit, hc j (by omega)]
    simpa [List.getD, List.getElem?_take, hjf, show j < zs.length by omega] using hj

/-- The cells of the numbers from t on, for an append. -/
theorem SInts.src_drop {w : World} {b off : Nat} {n cap : Nat} {zs : List Int} (hz : zs.length = n) (hc : ∀ i, i < n → w.cell? ⟨b, off + i, none⟩ = some (.int .i64 (zs.getD i 0))) {t : Nat} (hnc : n ≤ cap) {ao : Option Addr} (hao : ¬ cap = t → ao = some ⟨b, off + t, none⟩) :
    n - t = 0 ∨ ∃ ad, ao = some ad ∧ ∀ j u, ((zs.drop t).map (Value.int .i64))[j]? = some u → w.cell? (ad.add j) = some u := by
  by_cases h : n - t = 0
  · exact .inl h
  · refine .inr ⟨_, hao (by omega), fun j u hj => ?_⟩
    have hjf : j < n - t := by
      have := (List.getElem?_eq_some_iff.1 hj).1
      simp at this
      omega
    rw [Addr.add_lit, Nat.add_assoc, hc (t + j) (by omega)]
    simpa [List.getD, show t + j < zs.length by omega] using hj

end Go.Proofs.Ytbjgepcbbonceaa
