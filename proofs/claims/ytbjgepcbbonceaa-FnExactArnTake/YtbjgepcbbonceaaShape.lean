/- Contracts of the tests of places one by one, and of their shape. -/
import Derived.Test.YtbjgepcbbonceaaArena
import Derived.Test.YtbjgepcbbonceaaWord
namespace Go.Proofs.Ytbjgepcbbonceaa
open Go.RowKit
set_option linter.unusedVariables false

/-- A place is ok. -/
def okN (x : Nd) : Bool := inB x.key 99 && (inB x.val 999 && (inB x.word 19 && (decide (0 ≤ x.ver) && decide (0 ≤ x.gen))))
/-- A place can be the head. -/
def headN (x : Nd) : Bool := x.used && (x.gen == 0 && (x.key == 0 && (x.val == 0 && !wMark x.word)))
/-- The number is a place but for the head. -/
def inP (x : Int) : Bool := decide (1 ≤ x) && decide (x ≤ 9)
/-- The right shape. -/
def shapeB (ns : List Nd) (t f l : Int) : Bool := decide (ns.length = 10) && (headN (ns.getD 0 Nd.zero) && (ns.all okN && (inB t 9 && (inP f && inP l))))

theorem inP_yes {x : Int} (h : 1 ≤ x) (k : x ≤ 9) : inP x = true := by simp [inP, h, k]

/-- The number lies between two. -/
def inR (x lo hi : Int) : Bool := decide (lo ≤ x) && decide (x ≤ hi)

set_option maxHeartbeats 400000 in
theorem l1InR_any (x lo hi : Int) (w : World) :
    Calls Try.prog 19 #[.int .i64 x, .int .i64 lo, .int .i64 hi] w fun e w' => e = .returned (.bool (inR x lo hi)) ∧ w' = w := by
  by_cases h0 : lo ≤ x
  · by_cases h1 : x ≤ hi
    · go_enter Try.func19, Try.ntmps19
      go_wp2
      go_ret
      exact ⟨ret_bool (by simp [inR, h0, h1]), rfl⟩
    · go_enter Try.func19, Try.ntmps19
      go_wp2
      go_ret
      exact ⟨ret_bool (by simp [inR]; omega), rfl⟩
  · go_enter Try.func19, Try.ntmps19
    go_wp2
    go_ret
    exact ⟨ret_bool (by simp [inR]; omega), rfl⟩

set_option maxHeartbeats 400000 in
theorem isPlace_any (x : Int) (w : World) :
    Calls Try.prog 37 #[.int .i64 x] w fun e w' => e = .returned (.bool (inP x)) ∧ w' = w := by
  by_cases h0 : x = 0
  · subst h0
    go_enter Try.func37, Try.ntmps37
    go_wp2
    go_ret
    exact ⟨rfl, rfl⟩
  · have h0' : (x == 0) = false := by simpa using h0
    have e1 : decide (0 ≤ x) = decide (1 ≤ x) := by simp; omega
    have he : inB x 9 = inP x := by simp [inB, inP, e1]
    go_enter Try.func37, Try.ntmps37
    go_wp2_with (go_at_call 24; refine (within_any _ _ _).mono ?_; rintro e w' ⟨rfl, rfl⟩)
    go_ret
    exact ⟨ret_bool (by simp [h0]), rfl⟩

set_option maxHeartbeats 400000 in
theorem nodeMarked_any (k v o r : Int) (u : Bool) (g : Int) (w : World) :
    Calls Try.prog 42 #[.agg #[.int .i64 k, .int .i64 v, .int .i64 o, .int .i64 r, .bool u, .int .i64 g]] w fun e w' => e = .returned (.bool (wMark o)) ∧ Below w.heap.size w w' := by
  go_enter Try.func42, Try.ntmps42
  go_wp2_with (go_at_call 26; refine (marked_any _ _).mono ?_; rintro e w' ⟨rfl, rfl⟩)
  go_ret
  exact ⟨rfl, al1 _ _⟩

set_option maxHeartbeats 400000 in
theorem l2Node_any (k v o r : Int) (u : Bool) (g : Int) (w : World) :
    Calls Try.prog 34 #[.agg #[.int .i64 k, .int .i64 v, .int .i64 o, .int .i64 r, .bool u, .int .i64 g]] w fun e w' => e = .returned (.bool (okN ⟨k, v, o, r, u, g⟩)) ∧ Below w.heap.size w w' := by
  cases h0 : inB k 99
  · go_enter Try.func34, Try.ntmps34
    go_wp2_with (go_at_call 19; refine (l1In_any _ _ _).mono ?_; rintro e w' ⟨rfl, rfl⟩)
    go_ret
    exact ⟨ret_bool (by simp [okN, *]), al1 _ _⟩
  · skip
    cases h1 : inB v 999
    · go_enter Try.func34, Try.ntmps34
      go_wp2_with (go_at_call 19; refine (l1In_any _ _ _).mono ?_; rintro e w' ⟨rfl, rfl⟩)
      go_ret
      exact ⟨ret_bool (by simp [okN, *]), al1 _ _⟩
    · skip
      cases h2 : inB o 19
      · go_enter Try.func34, Try.ntmps34
        go_wp2_with (go_at_call 19; refine (l1In_any _ _ _).mono ?_; rintro e w' ⟨rfl, rfl⟩)
        go_ret
        exact ⟨ret_bool (by simp [okN, *]), al1 _ _⟩
      · skip
        by_cases h3 : 0 ≤ g
        rotate_left
        · go_enter Try.func34, Try.ntmps34
          go_wp2_with (go_at_call 19; refine (l1In_any _ _ _).mono ?_; rintro e w' ⟨rfl, rfl⟩)
          go_ret
          exact ⟨ret_bool (by simp [okN, *]; try omega), al1 _ _⟩
        · skip
          by_cases h4 : 0 ≤ r
          rotate_left
          · go_enter Try.func34, Try.ntmps34
            go_wp2_with (go_at_call 19; refine (l1In_any _ _ _).mono ?_; rintro e w' ⟨rfl, rfl⟩)
            go_ret
            exact ⟨ret_bool (by simp [okN, *]; try omega), al1 _ _⟩
          · skip
            go_enter Try.func34, Try.ntmps34
            go_wp2_with (go_at_call 19; refine (l1In_any _ _ _).mono ?_; rintro e w' ⟨rfl, rfl⟩)
            go_ret
            exact ⟨ret_bool (by simp [okN, *]), al1 _ _⟩

set_option maxHeartbeats 400000 in
theorem inBounds_any (k v o r : Int) (u : Bool) (g : Int) (w : World) :
    Calls Try.prog 38 #[.agg #[.int .i64 k, .int .i64 v, .int .i64 o, .int .i64 r, .bool u, .int .i64 g]] w fun e w' => e = .returned (.bool (okN ⟨k, v, o, r, u, g⟩)) ∧ Below w.heap.size w w' := by
  cases h0 : inB k 99
  · go_enter Try.func38, Try.ntmps38
    go_wp2_with (first | (go_at_call 24; refine (within_any _ _ _).mono ?_; rintro e w' ⟨rfl, rfl⟩) | (go_at_call 25; refine (valid_any _ _).mono ?_; rintro e w' ⟨rfl, rfl⟩))
    go_ret
    exact ⟨ret_bool (by simp [okN, *]), al1 _ _⟩
  · skip
    cases h1 : inB v 999
    · go_enter Try.func38, Try.ntmps38
      go_wp2_with (first | (go_at_call 24; refine (within_any _ _ _).mono ?_; rintro e w' ⟨rfl, rfl⟩) | (go_at_call 25; refine (valid_any _ _).mono ?_; rintro e w' ⟨rfl, rfl⟩))
      go_ret
      exact ⟨ret_bool (by simp [okN, *]), al1 _ _⟩
    · skip
      cases h2 : inB o 19
      · go_enter Try.func38, Try.ntmps38
        go_wp2_with (first | (go_at_call 24; refine (within_any _ _ _).mono ?_; rintro e w' ⟨rfl, rfl⟩) | (go_at_call 25; refine (valid_any _ _).mono ?_; rintro e w' ⟨rfl, rfl⟩))
        go_ret
        exact ⟨ret_bool (by simp [okN, *]), al1 _ _⟩
      · skip
        by_cases h3 : 0 ≤ r
        rotate_left
        · go_enter Try.func38, Try.ntmps38
          go_wp2_with (first | (go_at_call 24; refine (within_any _ _ _).mono ?_; rintro e w' ⟨rfl, rfl⟩) | (go_at_call 25; refine (valid_any _ _).mono ?_; rintro e w' ⟨rfl, rfl⟩))
          go_ret
          exact ⟨ret_bool (by simp [okN, *]; try omega), al1 _ _⟩
        · skip
          by_cases h4 : 0 ≤ g
          rotate_left
          · go_enter Try.func38, Try.ntmps38
            go_wp2_with (first | (go_at_call 24; refine (within_any _ _ _).mono ?_; rintro e w' ⟨rfl, rfl⟩) | (go_at_call 25; refine (valid_any _ _).mono ?_; rintro e w' ⟨rfl, rfl⟩))
            go_ret
            exact ⟨ret_bool (by simp [okN, *]; try omega), al1 _ _⟩
          · skip
            go_enter Try.func38, Try.ntmps38
            go_wp2_with (first | (go_at_call 24; refine (within_any _ _ _).mono ?_; rintro e w' ⟨rfl, rfl⟩) | (go_at_call 25; refine (valid_any _ _).mono ?_; rintro e w' ⟨rfl, rfl⟩))
            go_ret
            exact ⟨ret_bool (by simp [okN, *]), al1 _ _⟩

set_option maxHeartbeats 400000 in
theorem isHead_any (k v o r : Int) (u : Bool) (g : Int) (w : World) :
    Calls Try.prog 36 #[.agg #[.int .i64 k, .int .i64 v, .int .i64 o, .int .i64 r, .bool u, .int .i64 g]] w fun e w' => e = .returned (.bool (headN ⟨k, v, o, r, u, g⟩)) ∧ Below w.heap.size w w' := by
  cases hm : wMark o
  · go_enter Try.func36, Try.ntmps36
    go_wp2_with fail
    refine (nodeMarked_any _ _ _ _ _ _ _).mono ?_
    rintro e w1 ⟨rfl, hb⟩
    have hb' := below_trans' (al1 w _) hb
    have bx := (boxN_new w k v o r u g 46 rfl).below hb
    have n0 := bx.c0
    have n1 := bx.c1
    have n2 := bx.c2
    have n3 := bx.c3
    have n4 := bx.c4
    have n5 := bx.c5
    clear hb bx
    go_wp2
    all_goals
      go_ret
      exact ⟨ret_bool (by simp [headN, *]), hb'⟩
  · go_enter Try.func36, Try.ntmps36
    go_wp2_with fail
    refine (nodeMarked_any _ _ _ _ _ _ _).mono ?_
    rintro e w1 ⟨rfl, hb⟩
    have hb' := below_trans' (al1 w _) hb
    clear hb
    go_wp2
    go_ret
    exact ⟨ret_bool (by simp [headN, hm]), hb'⟩

end Go.Proofs.Ytbjgepcbbonceaa
