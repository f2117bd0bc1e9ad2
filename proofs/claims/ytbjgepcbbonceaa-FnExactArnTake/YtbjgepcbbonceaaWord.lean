/- Contracts of WrdMake, WrdTo and WrdMark, of the specification's and of the program's. -/
import Derived.Test.YtbjgepcbbonceaaOk
namespace Go.Proofs.Ytbjgepcbbonceaa
open Go.RowKit
set_option linter.unusedVariables false

/-- The place to which a word leads. -/
def wTo (x : Int) : Int := if inB x 19 then x / 2 else 0
/-- Whether a word is marked. -/
def wMark (x : Int) : Bool := inB x 19 && (x % 2 == 1)
/-- The word of a place and a mark. -/
def wMake (x : Int) (m : Bool) : Int := if inB x 9 then (if m then 2 * x + 1 else 2 * x) else 0

theorem inB_parts {x hi : Int} (h : inB x hi = true) : 0 ≤ x ∧ x ≤ hi := by simpa [inB] using h

theorem ret_int {k : IntKind} {a b : Int} (h : a = b) : Ending.returned (.int k a) = .returned (.int k b) := by rw [h]

set_option maxHeartbeats 400000 in
theorem specWrdMark_any (x : Int) (w : World) :
    Calls Try.prog 20 #[.int .i64 x] w fun e w' => e = .returned (.bool (wMark x)) ∧ w' = w := by
  cases hx : inB x 19
  · have e : wMark x = false := by simp [wMark, hx]
    rw [e]
    go_enter Try.func20, Try.ntmps20
    go_wp2_with (go_at_call 19; refine (l1In_any _ _ _).mono ?_; rintro e w' ⟨rfl, rfl⟩)
    go_ret
    exact ⟨rfl, rfl⟩
  · obtain ⟨h0, h1⟩ := inB_parts hx
    go_enter Try.func20, Try.ntmps20
    go_wp2_with (go_at_call 19; refine (l1In_any _ _ _).mono ?_; rintro e w' ⟨rfl, rfl⟩)
    go_ret
    exact ⟨ret_bool (by simp [wMark, hx]), rfl⟩

set_option maxHeartbeats 400000 in
theorem valid_any (x : Int) (w : World) :
    Calls Try.prog 25 #[.int .i64 x] w fun e w' => e = .returned (.bool (inB x 19)) ∧ w' = w := by
  go_enter Try.func25, Try.ntmps25
  go_wp2_with (go_at_call 24; refine (within_any _ _ _).mono ?_; rintro e w' ⟨rfl, rfl⟩)
  go_ret
  exact ⟨rfl, rfl⟩

set_option maxHeartbeats 400000 in
theorem marked_any (x : Int) (w : World) :
    Calls Try.prog 26 #[.int .i64 x] w fun e w' => e = .returned (.bool (wMark x)) ∧ w' = w := by
  cases hx : inB x 19
  · have e : wMark x = false := by simp [wMark, hx]
    rw [e]
    go_enter Try.func26, Try.ntmps26
    go_wp2_with (go_at_call 25; refine (valid_any _ _).mono ?_; rintro e w' ⟨rfl, rfl⟩)
    go_ret
    exact ⟨rfl, rfl⟩
  · obtain ⟨h0, h1⟩ := inB_parts hx
    go_enter Try.func26, Try.ntmps26
    go_wp2_with (go_at_call 25; refine (valid_any _ _).mono ?_; rintro e w' ⟨rfl, rfl⟩)
    go_ret
    exact ⟨ret_bool (by simp [wMark, hx]), rfl⟩

end Go.Proofs.Ytbjgepcbbonceaa
