/- Contracts of WrdMake, WrdTo and WrdMark, of the specification's and of the program's. -/
import Derived.Test.YtbefjhcokmmeoaaOk
namespace Go.Proofs.Ytbefjhcokmmeoaa
open Go.RowKit
set_option linter.unusedVariables false

/-- The place to which a word leads. -/
def wTo (x : Int) : Int := if inB x 19 then x / 2 else 0
/-- Whether a word is marked. -/
def wMark (x : Int) : Bool := inB x 19 && (x % 2 == 1)
/-- The word of a place and a mark. -/
def wMake (x : Int) (m : Bool) : Int := if inB x 9 then (if m then 2 * x + 1 else 2 * x) else 0

theorem inB_parts {x hi : Int} (h : inB x hi = true) : 0 ≤ x ∧ x ≤ hi := by simpa [inB] using h

theorem ret_int {a b : Int} (h : a = b) : Ending.returned (.int .i64 a) = .returned (.int .i64 b) := by rw [h]

set_option maxHeartbeats 400000 in
theorem specWrdTo_any (x : Int) (w : World) :
    Calls Try.prog 53 #[.int .i64 x] w fun e w' => e = .returned (.int .i64 (wTo x)) ∧ w' = w := by
  cases hx : inB x 19
  · have e : wTo x = 0 := by simp [wTo, hx]
    rw [e]
    go_enter Try.func53, Try.ntmps53
    go_wp2_with (go_at_call 54; refine (l1In_any _ _ _).mono ?_; rintro e w' ⟨rfl, rfl⟩)
    go_ret
    exact ⟨rfl, rfl⟩
  · obtain ⟨h0, h1⟩ := inB_parts hx
    have e : wTo x = x / 2 := by simp [wTo, hx]
    rw [e]
    go_enter Try.func53, Try.ntmps53
    go_wp2_with (go_at_call 54; refine (l1In_any _ _ _).mono ?_; rintro e w' ⟨rfl, rfl⟩)
    go_ret
    exact ⟨ret_int (by omega), rfl⟩

set_option maxHeartbeats 400000 in
theorem specWrdMark_any (x : Int) (w : World) :
    Calls Try.prog 26 #[.int .i64 x] w fun e w' => e = .returned (.bool (wMark x)) ∧ w' = w := by
  cases hx : inB x 19
  · have e : wMark x = false := by simp [wMark, hx]
    rw [e]
    go_enter Try.func26, Try.ntmps26
    go_wp2_with (go_at_call 54; refine (l1In_any _ _ _).mono ?_; rintro e w' ⟨rfl, rfl⟩)
    go_ret
    exact ⟨rfl, rfl⟩
  · obtain ⟨h0, h1⟩ := inB_parts hx
    go_enter Try.func26, Try.ntmps26
    go_wp2_with (go_at_call 54; refine (l1In_any _ _ _).mono ?_; rintro e w' ⟨rfl, rfl⟩)
    go_ret
    exact ⟨ret_bool (by simp [wMark, hx]), rfl⟩

set_option maxHeartbeats 400000 in
theorem valid_any (x : Int) (w : World) :
    Calls Try.prog 84 #[.int .i64 x] w fun e w' => e = .returned (.bool (inB x 19)) ∧ w' = w := by
  go_enter Try.func84, Try.ntmps84
  go_wp2_with (go_at_call 72; refine (within_any _ _ _).mono ?_; rintro e w' ⟨rfl, rfl⟩)
  go_ret
  exact ⟨rfl, rfl⟩

set_option maxHeartbeats 400000 in
theorem to_any (x : Int) (w : World) :
    Calls Try.prog 83 #[.int .i64 x] w fun e w' => e = .returned (.int .i64 (wTo x)) ∧ w' = w := by
  cases hx : inB x 19
  · have e : wTo x = 0 := by simp [wTo, hx]
    rw [e]
    go_enter Try.func83, Try.ntmps83
    go_wp2_with (go_at_call 84; refine (valid_any _ _).mono ?_; rintro e w' ⟨rfl, rfl⟩)
    go_ret
    exact ⟨rfl, rfl⟩
  · obtain ⟨h0, h1⟩ := inB_parts hx
    have e : wTo x = x / 2 := by simp [wTo, hx]
    rw [e]
    go_enter Try.func83, Try.ntmps83
    go_wp2_with (go_at_call 84; refine (valid_any _ _).mono ?_; rintro e w' ⟨rfl, rfl⟩)
    go_ret
    exact ⟨ret_int (by omega), rfl⟩

set_option maxHeartbeats 400000 in
theorem marked_any (x : Int) (w : World) :
    Calls Try.prog 67 #[.int .i64 x] w fun e w' => e = .returned (.bool (wMark x)) ∧ w' = w := by
  cases hx : inB x 19
  · have e : wMark x = false := by simp [wMark, hx]
    rw [e]
    go_enter Try.func67, Try.ntmps67
    go_wp2_with (go_at_call 84; refine (valid_any _ _).mono ?_; rintro e w' ⟨rfl, rfl⟩)
    go_ret
    exact ⟨rfl, rfl⟩
  · obtain ⟨h0, h1⟩ := inB_parts hx
    go_enter Try.func67, Try.ntmps67
    go_wp2_with (go_at_call 84; refine (valid_any _ _).mono ?_; rintro e w' ⟨rfl, rfl⟩)
    go_ret
    exact ⟨ret_bool (by simp [wMark, hx]), rfl⟩

end Go.Proofs.Ytbefjhcokmmeoaa
