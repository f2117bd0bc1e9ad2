/- Contracts of WrdMake, WrdTo and WrdMark, of the specification's and of the program's. -/
import Derived.Test.YtcffoehldohooaaGA
namespace Go.Proofs.Ytcffoehldohooaa
open Go.RowKit
set_option linter.unusedVariables false

/-- The place to which a word leads. -/
def wTo (x : Int) : Int := if inB x 19 then x / 2 else 0
/-- Whether a word is marked. -/
def wMark (x : Int) : Bool := inB x 19 && (x % 2 == 1)
/-- The word of a place and a mark. -/
def wMake (x : Int) (m : Bool) : Int := if inB x 9 then (if m then 2 * x + 1 else 2 * x) else 0

theorem inB_parts {x hi : Int} (h : inB x hi = true) : 0 ≤ x ∧ x ≤ hi := by simpa [inB] using h

theorem ret_int {k : IntKind} {a b : Int} (h : a = b) : Ending.returned (.int k a) = .returned (.int k b) := by rw [h]

set_option maxHeartbeats 400000 in
theorem specWrdMake_any (x : Int) (m : Bool) (w : World) :
    Calls Try.prog 8 #[.int .i64 x, .bool m] w fun e w' => e = .returned (.int .i64 (wMake x m)) ∧ w' = w := by
  cases hx : inB x 9
  · have e : wMake x m = 0 := by simp [wMake, hx]
    rw [e]
    go_enter Try.func8, Try.ntmps8
    go_wp2_with (go_at_call 30; refine (l1In_any _ _ _).mono ?_; rintro e w' ⟨rfl, rfl⟩)
    go_ret
    exact ⟨rfl, rfl⟩
  · obtain ⟨h0, h1⟩ := inB_parts hx
    cases m
    · have e : wMake x false = 2 * x := by simp [wMake, hx]
      rw [e]
      go_enter Try.func8, Try.ntmps8
      go_wp2_with (go_at_call 30; refine (l1In_any _ _ _).mono ?_; rintro e w' ⟨rfl, rfl⟩)
      go_ret
      exact ⟨ret_int (by omega), rfl⟩
    · have e : wMake x true = 2 * x + 1 := by simp [wMake, hx]
      rw [e]
      go_enter Try.func8, Try.ntmps8
      go_wp2_with (go_at_call 30; refine (l1In_any _ _ _).mono ?_; rintro e w' ⟨rfl, rfl⟩)
      go_ret
      exact ⟨ret_int (by omega), rfl⟩

set_option maxHeartbeats 400000 in
theorem implWrdMake_any (x : Int) (m : Bool) (w : World) :
    Calls Try.prog 7 #[.int .i64 x, .bool m] w fun e w' => e = .returned (.int .i64 (wMake x m)) ∧ w' = w := by
  cases hx : inB x 9
  · have e : wMake x m = 0 := by simp [wMake, hx]
    rw [e]
    go_enter Try.func7, Try.ntmps7
    go_wp2_with (go_at_call 29; refine (within_any _ _ _).mono ?_; rintro e w' ⟨rfl, rfl⟩)
    go_ret
    exact ⟨rfl, rfl⟩
  · obtain ⟨h0, h1⟩ := inB_parts hx
    cases m
    · have e : wMake x false = 2 * x := by simp [wMake, hx]
      rw [e]
      go_enter Try.func7, Try.ntmps7
      go_wp2_with (go_at_call 29; refine (within_any _ _ _).mono ?_; rintro e w' ⟨rfl, rfl⟩)
      go_ret
      exact ⟨ret_int (by omega), rfl⟩
    · have e : wMake x true = 2 * x + 1 := by simp [wMake, hx]
      rw [e]
      go_enter Try.func7, Try.ntmps7
      go_wp2_with (go_at_call 29; refine (within_any _ _ _).mono ?_; rintro e w' ⟨rfl, rfl⟩)
      go_ret
      exact ⟨ret_int (by omega), rfl⟩

set_option maxHeartbeats 400000 in
theorem specWrdTo_any (x : Int) (w : World) :
    Calls Try.prog 10 #[.int .i64 x] w fun e w' => e = .returned (.int .i64 (wTo x)) ∧ w' = w := by
  cases hx : inB x 19
  · have e : wTo x = 0 := by simp [wTo, hx]
    rw [e]
    go_enter Try.func10, Try.ntmps10
    go_wp2_with (go_at_call 30; refine (l1In_any _ _ _).mono ?_; rintro e w' ⟨rfl, rfl⟩)
    go_ret
    exact ⟨rfl, rfl⟩
  · obtain ⟨h0, h1⟩ := inB_parts hx
    have e : wTo x = x / 2 := by simp [wTo, hx]
    rw [e]
    go_enter Try.func10, Try.ntmps10
    go_wp2_with (go_at_call 30; refine (l1In_any _ _ _).mono ?_; rintro e w' ⟨rfl, rfl⟩)
    go_ret
    exact ⟨ret_int (by omega), rfl⟩

set_option maxHeartbeats 400000 in
theorem specWrdMark_any (x : Int) (w : World) :
    Calls Try.prog 12 #[.int .i64 x] w fun e w' => e = .returned (.bool (wMark x)) ∧ w' = w := by
  cases hx : inB x 19
  · have e : wMark x = false := by simp [wMark, hx]
    rw [e]
    go_enter Try.func12, Try.ntmps12
    go_wp2_with (go_at_call 30; refine (l1In_any _ _ _).mono ?_; rintro e w' ⟨rfl, rfl⟩)
    go_ret
    exact ⟨rfl, rfl⟩
  · obtain ⟨h0, h1⟩ := inB_parts hx
    go_enter Try.func12, Try.ntmps12
    go_wp2_with (go_at_call 30; refine (l1In_any _ _ _).mono ?_; rintro e w' ⟨rfl, rfl⟩)
    go_ret
    exact ⟨ret_bool (by simp [wMark, hx]), rfl⟩

set_option maxHeartbeats 400000 in
theorem valid_any (x : Int) (w : World) :
    Calls Try.prog 55 #[.int .i64 x] w fun e w' => e = .returned (.bool (inB x 19)) ∧ w' = w := by
  go_enter Try.func55, Try.ntmps55
  go_wp2_with (go_at_call 29; refine (within_any _ _ _).mono ?_; rintro e w' ⟨rfl, rfl⟩)
  go_ret
  exact ⟨rfl, rfl⟩

set_option maxHeartbeats 400000 in
theorem to_any (x : Int) (w : World) :
    Calls Try.prog 31 #[.int .i64 x] w fun e w' => e = .returned (.int .i64 (wTo x)) ∧ w' = w := by
  cases hx : inB x 19
  · have e : wTo x = 0 := by simp [wTo, hx]
    rw [e]
    go_enter Try.func31, Try.ntmps31
    go_wp2_with (go_at_call 55; refine (valid_any _ _).mono ?_; rintro e w' ⟨rfl, rfl⟩)
    go_ret
    exact ⟨rfl, rfl⟩
  · obtain ⟨h0, h1⟩ := inB_parts hx
    have e : wTo x = x / 2 := by simp [wTo, hx]
    rw [e]
    go_enter Try.func31, Try.ntmps31
    go_wp2_with (go_at_call 55; refine (valid_any _ _).mono ?_; rintro e w' ⟨rfl, rfl⟩)
    go_ret
    exact ⟨ret_int (by omega), rfl⟩

set_option maxHeartbeats 400000 in
theorem marked_any (x : Int) (w : World) :
    Calls Try.prog 32 #[.int .i64 x] w fun e w' => e = .returned (.bool (wMark x)) ∧ w' = w := by
  cases hx : inB x 19
  · have e : wMark x = false := by simp [wMark, hx]
    rw [e]
    go_enter Try.func32, Try.ntmps32
    go_wp2_with (go_at_call 55; refine (valid_any _ _).mono ?_; rintro e w' ⟨rfl, rfl⟩)
    go_ret
    exact ⟨rfl, rfl⟩
  · obtain ⟨h0, h1⟩ := inB_parts hx
    go_enter Try.func32, Try.ntmps32
    go_wp2_with (go_at_call 55; refine (valid_any _ _).mono ?_; rintro e w' ⟨rfl, rfl⟩)
    go_ret
    exact ⟨ret_bool (by simp [wMark, hx]), rfl⟩

set_option maxHeartbeats 400000 in
theorem implWrdTo_any (x : Int) (w : World) :
    Calls Try.prog 9 #[.int .i64 x] w fun e w' => e = .returned (.int .i64 (wTo x)) ∧ w' = w := by
  go_enter Try.func9, Try.ntmps9
  go_wp2_with (go_at_call 31; refine (to_any _ _).mono ?_; rintro e w' ⟨rfl, rfl⟩)
  go_ret
  exact ⟨rfl, rfl⟩

set_option maxHeartbeats 400000 in
theorem implWrdMark_any (x : Int) (w : World) :
    Calls Try.prog 11 #[.int .i64 x] w fun e w' => e = .returned (.bool (wMark x)) ∧ w' = w := by
  go_enter Try.func11, Try.ntmps11
  go_wp2_with (go_at_call 32; refine (marked_any _ _).mono ?_; rintro e w' ⟨rfl, rfl⟩)
  go_ret
  exact ⟨rfl, rfl⟩

end Go.Proofs.Ytcffoehldohooaa
