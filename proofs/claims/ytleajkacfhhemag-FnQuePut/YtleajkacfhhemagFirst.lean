/- Contracts of ListFirst, of the specification's and of the program's. -/
import Derived.Test.YtleajkacfhhemagInv
namespace Go.Proofs.Ytleajkacfhhemag
open Go.RowKit
set_option linter.unusedVariables false

/-- What ListFirst answers. -/
def firstC (zs : List Int) : Int := if zs.length = 0 then 1 else 2
def firstV (zs : List Int) : Int := zs.headD 0

set_option maxHeartbeats 400000 in
theorem implListFirst_any (a : Option Addr) (n cap : Nat) (zs : List Int) (w : World) (hs : SInts w a n zs) (hn : n ≤ 9223372036854775807) :
    Calls Try.prog 27 #[.slice a n cap] w fun e w' => e = .returned (.agg #[.int .i64 (firstC zs), .int .i64 (firstV zs)]) ∧ Below w.heap.size w w' := by
  have hz := hs.1
  match zs, hz with
  | [], hz =>
    have h0 : n = 0 := by simpa using hz.symm
    subst h0
    have e1 : firstC [] = 1 := rfl
    have e2 : firstV [] = 0 := rfl
    rw [e1, e2]
    clear hs
    go_enter Try.func27, Try.ntmps27
    go_wp2
    exact bodyPost_ret (v := .agg #[.int .i64 1, .int .i64 0]) (by simp [results, Try.results27, go_sem]) rfl ⟨rfl, (Below.refl _ _).alloc (Nat.le_refl _) _⟩
  | x :: r, hz =>
    have e1 : firstC (x :: r) = 2 := by simp [firstC]
    have e2 : firstV (x :: r) = x := rfl
    rw [e1, e2]
    obtain ⟨b, off, rfl, hc⟩ : ∃ b off, a = some ⟨b, off, none⟩ ∧ w.cell? ⟨b, off, none⟩ = some (.int .i64 x) := by
      obtain ⟨_, h0 | ⟨b, off, rfl, hc⟩⟩ := hs
      · simp at hz; omega
      · exact ⟨b, off, rfl, by simpa using hc 0 (by simp at hz; omega)⟩
    have hn0 : ((n : Int) == 0) = false := by simp at hz; simp; omega
    have hn3 : 0 < n := by simp at hz; omega
    have hcA := cell_kept ((Below.refl w.heap.size w).alloc (Nat.le_refl _) (.cells #[.int .i64 0, .int .i64 0] 27)) hc
    clear hs hz e1 e2
    go_enter Try.func27, Try.ntmps27
    go_wp2
    exact bodyPost_ret (v := .agg #[.int .i64 2, .int .i64 x]) (by simp [results, Try.results27, go_sem]) rfl ⟨rfl, (Below.refl _ _).alloc (Nat.le_refl _) _⟩

end Go.Proofs.Ytleajkacfhhemag
