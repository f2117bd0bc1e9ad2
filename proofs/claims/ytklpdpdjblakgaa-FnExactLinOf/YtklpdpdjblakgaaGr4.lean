/- Several texts in one: Shape, Shape2, Copy, Give, Give2, Path, PathS, OkS, OkS2, OkS3, OkS4. -/
import Derived.Test.YtklpdpdjblakgaaGr3
import Derived.Test.YtklpdpdjblakgaaGr1
import Derived.Deep.RegionHeldLaw
import Derived.Deep.RegionHeld
import Derived.Deep.QuietTactic
import Derived.BigQuiet
/- Shape -/
namespace Go.Proofs.Ytklpdpdjblakgaa
open Go.RowKit
set_option linter.unusedVariables false

/-- A place is ok. -/
def okN (x : Nd) : Bool := inB x.key 99 && (inB x.val 999 && (inB x.word 19 && (decide (0 ≤ x.ver) && decide (0 ≤ x.gen))))
/-- A place can be the head. -/
def headN (x : Nd) : Bool := x.used && (x.gen == 0 && (x.key == 0 && (x.val == 0 && !wMark x.word)))
/-- The number is a place but for the head. -/
def inP (x : Int) : Bool := decide (1 ≤ x) && decide (x ≤ 9)
/-- The right shape. -/
def shapeB (ns : List Nd) (t f l : Int) : Bool := decide (ns.length = 10) && (headN (ns.getD 0 Nd.zero) && (ns.all okN && (inB t 9 && (inP f && inP l))))

theorem inP_yes {x : Int} (h : 1 ≤ x) (k : x ≤ 9) : inP x = true := by simp [inP, h, k]

/-- The number lies between two. -/
def inR (x lo hi : Int) : Bool := decide (lo ≤ x) && decide (x ≤ hi)

set_option maxHeartbeats 400000 in
theorem l1InR_any (x lo hi : Int) (w : World) :
    Calls Try.prog 77 #[.int .i64 x, .int .i64 lo, .int .i64 hi] w fun e w' => e = .returned (.bool (inR x lo hi)) ∧ w' = w := by
  by_cases h0 : lo ≤ x
  · by_cases h1 : x ≤ hi
    · go_enter Try.func77, Try.ntmps77
      go_wp2
      go_ret
      exact ⟨ret_bool (by simp [inR, h0, h1]), rfl⟩
    · go_enter Try.func77, Try.ntmps77
      go_wp2
      go_ret
      exact ⟨ret_bool (by simp [inR]; omega), rfl⟩
  · go_enter Try.func77, Try.ntmps77
    go_wp2
    go_ret
    exact ⟨ret_bool (by simp [inR]; omega), rfl⟩

set_option maxHeartbeats 400000 in
theorem isPlace_any (x : Int) (w : World) :
    Calls Try.prog 96 #[.int .i64 x] w fun e w' => e = .returned (.bool (inP x)) ∧ w' = w := by
  by_cases h0 : x = 0
  · subst h0
    go_enter Try.func96, Try.ntmps96
    go_wp2
    go_ret
    exact ⟨rfl, rfl⟩
  · have h0' : (x == 0) = false := by simpa using h0
    have e1 : decide (0 ≤ x) = decide (1 ≤ x) := by simp; omega
    have he : inB x 9 = inP x := by simp [inB, inP, e1]
    go_enter Try.func96, Try.ntmps96
    go_wp2_with (go_at_call 95; refine (within_any _ _ _).mono ?_; rintro e w' ⟨rfl, rfl⟩)
    go_ret
    exact ⟨ret_bool (by simp [h0]), rfl⟩

set_option maxHeartbeats 400000 in
theorem nodeMarked_any (k v o r : Int) (u : Bool) (g : Int) (w : World) :
    Calls Try.prog 60 #[.agg #[.int .i64 k, .int .i64 v, .int .i64 o, .int .i64 r, .bool u, .int .i64 g]] w fun e w' => e = .returned (.bool (wMark o)) ∧ Below w.heap.size w w' := by
  go_enter Try.func60, Try.ntmps60
  go_wp2_with (go_at_call 89; refine (marked_any _ _).mono ?_; rintro e w' ⟨rfl, rfl⟩)
  go_ret
  exact ⟨rfl, al1 _ _⟩

set_option maxHeartbeats 400000 in
theorem leads_any (k v o r : Int) (u : Bool) (g : Int) (w : World) :
    Calls Try.prog 88 #[.agg #[.int .i64 k, .int .i64 v, .int .i64 o, .int .i64 r, .bool u, .int .i64 g]] w fun e w' => e = .returned (.int .i64 (wTo o)) ∧ Below w.heap.size w w' := by
  go_enter Try.func88, Try.ntmps88
  go_wp2_with (go_at_call 103; refine (to_any _ _).mono ?_; rintro e w' ⟨rfl, rfl⟩)
  go_ret
  exact ⟨rfl, al1 _ _⟩

set_option maxHeartbeats 400000 in
theorem l2Node_any (k v o r : Int) (u : Bool) (g : Int) (w : World) :
    Calls Try.prog 92 #[.agg #[.int .i64 k, .int .i64 v, .int .i64 o, .int .i64 r, .bool u, .int .i64 g]] w fun e w' => e = .returned (.bool (okN ⟨k, v, o, r, u, g⟩)) ∧ Below w.heap.size w w' := by
  cases h0 : inB k 99
  · go_enter Try.func92, Try.ntmps92
    go_wp2_with (go_at_call 77; refine (l1In_any _ _ _).mono ?_; rintro e w' ⟨rfl, rfl⟩)
    go_ret
    exact ⟨ret_bool (by simp [okN, *]), al1 _ _⟩
  · skip
    cases h1 : inB v 999
    · go_enter Try.func92, Try.ntmps92
      go_wp2_with (go_at_call 77; refine (l1In_any _ _ _).mono ?_; rintro e w' ⟨rfl, rfl⟩)
      go_ret
      exact ⟨ret_bool (by simp [okN, *]), al1 _ _⟩
    · skip
      cases h2 : inB o 19
      · go_enter Try.func92, Try.ntmps92
        go_wp2_with (go_at_call 77; refine (l1In_any _ _ _).mono ?_; rintro e w' ⟨rfl, rfl⟩)
        go_ret
        exact ⟨ret_bool (by simp [okN, *]), al1 _ _⟩
      · skip
        by_cases h3 : 0 ≤ g
        rotate_left
        · go_enter Try.func92, Try.ntmps92
          go_wp2_with (go_at_call 77; refine (l1In_any _ _ _).mono ?_; rintro e w' ⟨rfl, rfl⟩)
          go_ret
          exact ⟨ret_bool (by simp [okN, *]; try omega), al1 _ _⟩
        · skip
          by_cases h4 : 0 ≤ r
          rotate_left
          · go_enter Try.func92, Try.ntmps92
            go_wp2_with (go_at_call 77; refine (l1In_any _ _ _).mono ?_; rintro e w' ⟨rfl, rfl⟩)
            go_ret
            exact ⟨ret_bool (by simp [okN, *]; try omega), al1 _ _⟩
          · skip
            go_enter Try.func92, Try.ntmps92
            go_wp2_with (go_at_call 77; refine (l1In_any _ _ _).mono ?_; rintro e w' ⟨rfl, rfl⟩)
            go_ret
            exact ⟨ret_bool (by simp [okN, *]), al1 _ _⟩

set_option maxHeartbeats 400000 in
theorem inBounds_any (k v o r : Int) (u : Bool) (g : Int) (w : World) :
    Calls Try.prog 97 #[.agg #[.int .i64 k, .int .i64 v, .int .i64 o, .int .i64 r, .bool u, .int .i64 g]] w fun e w' => e = .returned (.bool (okN ⟨k, v, o, r, u, g⟩)) ∧ Below w.heap.size w w' := by
  cases h0 : inB k 99
  · go_enter Try.func97, Try.ntmps97
    go_wp2_with (first | (go_at_call 95; refine (within_any _ _ _).mono ?_; rintro e w' ⟨rfl, rfl⟩) | (go_at_call 104; refine (valid_any _ _).mono ?_; rintro e w' ⟨rfl, rfl⟩))
    go_ret
    exact ⟨ret_bool (by simp [okN, *]), al1 _ _⟩
  · skip
    cases h1 : inB v 999
    · go_enter Try.func97, Try.ntmps97
      go_wp2_with (first | (go_at_call 95; refine (within_any _ _ _).mono ?_; rintro e w' ⟨rfl, rfl⟩) | (go_at_call 104; refine (valid_any _ _).mono ?_; rintro e w' ⟨rfl, rfl⟩))
      go_ret
      exact ⟨ret_bool (by simp [okN, *]), al1 _ _⟩
    · skip
      cases h2 : inB o 19
      · go_enter Try.func97, Try.ntmps97
        go_wp2_with (first | (go_at_call 95; refine (within_any _ _ _).mono ?_; rintro e w' ⟨rfl, rfl⟩) | (go_at_call 104; refine (valid_any _ _).mono ?_; rintro e w' ⟨rfl, rfl⟩))
        go_ret
        exact ⟨ret_bool (by simp [okN, *]), al1 _ _⟩
      · skip
        by_cases h3 : 0 ≤ r
        rotate_left
        · go_enter Try.func97, Try.ntmps97
          go_wp2_with (first | (go_at_call 95; refine (within_any _ _ _).mono ?_; rintro e w' ⟨rfl, rfl⟩) | (go_at_call 104; refine (valid_any _ _).mono ?_; rintro e w' ⟨rfl, rfl⟩))
          go_ret
          exact ⟨ret_bool (by simp [okN, *]; try omega), al1 _ _⟩
        · skip
          by_cases h4 : 0 ≤ g
          rotate_left
          · go_enter Try.func97, Try.ntmps97
            go_wp2_with (first | (go_at_call 95; refine (within_any _ _ _).mono ?_; rintro e w' ⟨rfl, rfl⟩) | (go_at_call 104; refine (valid_any _ _).mono ?_; rintro e w' ⟨rfl, rfl⟩))
            go_ret
            exact ⟨ret_bool (by simp [okN, *]; try omega), al1 _ _⟩
          · skip
            go_enter Try.func97, Try.ntmps97
            go_wp2_with (first | (go_at_call 95; refine (within_any _ _ _).mono ?_; rintro e w' ⟨rfl, rfl⟩) | (go_at_call 104; refine (valid_any _ _).mono ?_; rintro e w' ⟨rfl, rfl⟩))
            go_ret
            exact ⟨ret_bool (by simp [okN, *]), al1 _ _⟩

set_option maxHeartbeats 400000 in
theorem isHead_any (k v o r : Int) (u : Bool) (g : Int) (w : World) :
    Calls Try.prog 94 #[.agg #[.int .i64 k, .int .i64 v, .int .i64 o, .int .i64 r, .bool u, .int .i64 g]] w fun e w' => e = .returned (.bool (headN ⟨k, v, o, r, u, g⟩)) ∧ Below w.heap.size w w' := by
  cases hm : wMark o
  · go_enter Try.func94, Try.ntmps94
    go_wp2_with fail
    refine (nodeMarked_any _ _ _ _ _ _ _).mono ?_
    rintro e w1 ⟨rfl, hb⟩
    have hb' := below_trans' (al1 w _) hb
    have bx := (boxN_new w k v o r u g 86 rfl).below hb
    have n0 := bx.c0
    have n1 := bx.c1
    have n2 := bx.c2
    have n3 := bx.c3
    have n4 := bx.c4
    have n5 := bx.c5
    clear hb bx
    go_wp2
    all_goals
      go_ret
      exact ⟨ret_bool (by simp [headN, *]), hb'⟩
  · go_enter Try.func94, Try.ntmps94
    go_wp2_with fail
    refine (nodeMarked_any _ _ _ _ _ _ _).mono ?_
    rintro e w1 ⟨rfl, hb⟩
    have hb' := below_trans' (al1 w _) hb
    clear hb
    go_wp2
    go_ret
    exact ⟨ret_bool (by simp [headN, hm]), hb'⟩

end Go.Proofs.Ytklpdpdjblakgaa

/- Shape2 -/
namespace Go.Proofs.Ytklpdpdjblakgaa
open Go.RowKit
set_option linter.unusedVariables false

theorem all_okN {ns : List Nd} (h : ∀ (j : Nat) x, ns[j]? = some x → okN x = true) : ns.all okN = true := by
  rw [List.all_eq_true]
  intro x hx
  obtain ⟨i, hi, rfl⟩ := List.mem_iff_getElem.1 hx
  exact h i _ (List.getElem?_eq_getElem hi)
theorem not_all_okN {ns : List Nd} {k : Nat} {x : Nd} (h : ns[k]? = some x) (hx : okN x = false) : ns.all okN = false := by
  rw [List.all_eq_false]
  exact ⟨x, List.mem_of_getElem? h, by simp [hx]⟩
theorem shapeB_len {ns : List Nd} (t f l : Int) (h : ¬ ns.length = 10) : shapeB ns t f l = false := by simp [shapeB, h]
theorem shapeB_head {ns : List Nd} {x : Nd} (t f l : Int) (h : ns[0]? = some x) (hx : headN x = false) : shapeB ns t f l = false := by simp [shapeB, List.getD, h, hx]
theorem shapeB_ok {ns : List Nd} (t f l : Int) {k : Nat} {x : Nd} (h : ns[k]? = some x) (hx : okN x = false) : shapeB ns t f l = false := by simp [shapeB, not_all_okN h hx]
theorem shapeB_yes {ns : List Nd} {t f l : Int} (h1 : ns.length = 10) (h2 : headN (ns.getD 0 Nd.zero) = true) (h3 : ns.all okN = true) (h4 : inB t 9 = true) (h5 : inP f = true) (h6 : inP l = true) : shapeB ns t f l = true := by
  unfold shapeB
  rw [h2, h3, h4, h5, h6]
  simp [h1]
theorem shapeB_parts {ns : List Nd} {t f l : Int} (h : shapeB ns t f l = true) : ns.length = 10 ∧ headN (ns.getD 0 Nd.zero) = true ∧ (∀ (j : Nat) x, ns[j]? = some x → okN x = true) ∧ inB t 9 = true ∧ inP f = true ∧ inP l = true := by
  simp only [shapeB, Bool.and_eq_true, decide_eq_true_eq] at h
  obtain ⟨h1, h2, h3, h4, h5, h6⟩ := h
  refine ⟨h1, h2, fun j x hx => ?_, h4, h5, h6⟩
  rw [List.all_eq_true] at h3
  exact h3 x (List.mem_of_getElem? hx)

set_option maxHeartbeats 1000000 in
theorem l2Shape_head (b off cap : Nat) (ns : List Nd) (t f l : Int) (w : World) (k v o r : Int) (u : Bool) (g : Int) (hx : ns[0]? = some ⟨k, v, o, r, u, g⟩) (hN : NodeAt w b off ⟨k, v, o, r, u, g⟩) (hh : headN ⟨k, v, o, r, u, g⟩ = false) :
    Calls Try.prog 71 #[.agg #[.slice (some ⟨b, off, none⟩) 10 cap, .int .i64 t, .int .i64 f, .int .i64 l]] w fun e w' => e = .returned (.bool (shapeB ns t f l)) ∧ Below w.heap.size w w' := by
  rw [shapeB_head t f l hx hh]
  have hM := hN.below (al1 w (.cells #[.slice (some ⟨b, off, none⟩) 10 cap, .int .i64 t, .int .i64 f, .int .i64 l] 43))
  have n0 := hM.c0
  have n1 := hM.c1
  have n2 := hM.c2
  have n4 := hM.c4
  have n5 := hM.c5
  dsimp only at n0 n1 n2 n4 n5
  clear hM hN hx
  cases u
  · go_enter Try.func71, Try.ntmps71
    go_wp2
    go_ret
    exact ⟨rfl, al1 _ _⟩
  · skip
    by_cases hg : g = 0
    rotate_left
    · have hg' : (g == 0) = false := by simpa using hg
      go_enter Try.func71, Try.ntmps71
      go_wp2
      go_ret
      exact ⟨rfl, al1 _ _⟩
    · subst hg
      by_cases hk : k = 0
      rotate_left
      · have hk' : (k == 0) = false := by simpa using hk
        go_enter Try.func71, Try.ntmps71
        go_wp2
        go_ret
        exact ⟨rfl, al1 _ _⟩
      · subst hk
        by_cases hv : v = 0
        rotate_left
        · have hv' : (v == 0) = false := by simpa using hv
          go_enter Try.func71, Try.ntmps71
          go_wp2
          go_ret
          exact ⟨rfl, al1 _ _⟩
        · subst hv
          have hm : wMark o = true := by simpa [headN] using hh
          clear hh
          go_enter Try.func71, Try.ntmps71
          go_wp2_with (go_at_call 53; refine (specWrdMark_any _ _).mono ?_; rintro e w' ⟨rfl, rfl⟩)
          go_ret
          exact ⟨rfl, al1 _ _⟩

set_option maxHeartbeats 2000000 in
theorem l2Shape_any (a : Option Addr) (n cap : Nat) (ns : List Nd) (t f l : Int) (w : World) (hs : SNodes w a n ns) (hn : n ≤ 9223372036854775807) :
    Calls Try.prog 71 #[.agg #[.slice a n cap, .int .i64 t, .int .i64 f, .int .i64 l]] w fun e w' => e = .returned (.bool (shapeB ns t f l)) ∧ Below w.heap.size w w' := by
  by_cases h10 : n = 10
  rotate_left
  · have h10' : ((n : Int) == 10) = false := by simp; omega
    rw [shapeB_len t f l (by rw [hs.1]; exact h10)]
    clear hs
    go_enter Try.func71, Try.ntmps71
    go_wp2
    go_ret
    exact ⟨rfl, al1 _ _⟩
  · subst h10
    obtain ⟨b, off, ⟨k, v, o, r, u, g⟩, rfl, hx, hN⟩ := hs.at (k := 0) (by omega)
    rw [Nat.zero_mul, Nat.add_zero] at hN
    cases hh : headN ⟨k, v, o, r, u, g⟩
    · exact l2Shape_head b off cap ns t f l w k v o r u g hx hN hh
    · have hh2 := hh
      simp only [headN, Bool.and_eq_true, beq_iff_eq, Bool.not_eq_true'] at hh2
      obtain ⟨rfl, rfl, rfl, rfl, hm⟩ := hh2
      have A := al1 w (.cells #[.slice (some ⟨b, off, none⟩) 10 cap, .int .i64 t, .int .i64 f, .int .i64 l] 43)
      have bx0 := boxA_new w (some ⟨b, off, none⟩) 10 cap t f l 43 rfl
      have hM := hN.below A
      have n0 := hM.c0
      have n1 := hM.c1
      have n2 := hM.c2
      have n4 := hM.c4
      have n5 := hM.c5
      dsimp only at n0 n1 n2 n4 n5
      have HH : Hid (headN (ns.getD 0 Nd.zero) = true) := by show _ = _; simp only [List.getD, hx]; exact hh
      have HS : Hid (SNodes w (some ⟨b, off, none⟩) 10 ns) := hs
      have HA : Hid (Below w.heap.size w (w.alloc (.cells #[.slice (some ⟨b, off, none⟩) 10 cap, .int .i64 t, .int .i64 f, .int .i64 l] 43)) ∧ BoxA (w.alloc (.cells #[.slice (some ⟨b, off, none⟩) 10 cap, .int .i64 t, .int .i64 f, .int .i64 l] 43)) w.heap.size (some ⟨b, off, none⟩) 10 cap t f l) := ⟨A, bx0⟩
      clear hM hN hx hh hs A bx0
      go_enter Try.func71, Try.ntmps71
      go_wp2_with (go_at_call 53; refine (specWrdMark_any _ _).mono ?_; rintro e w' ⟨rfl, rfl⟩)
      clear n0 n1 n2 n4 n5
      go_loopw [3] (fun i wr => ∃ k : Nat, k ≤ 10 ∧ i = .int .i64 k ∧ Below w.heap.size w wr ∧ BoxA wr w.heap.size (some ⟨b, off, none⟩) 10 cap t f l ∧ ∀ (j : Nat) x, j < k → ns[j]? = some x → okN x = true) (fun i _ => 10 - (intOf i).toNat)
      case atStart => exact ⟨0, by omega, rfl, HA.out.1, HA.out.2, fun j x hj => by omega⟩
      case round =>
        obtain ⟨k, hk, rfl, hbel, hbox, hall0⟩ := hrel
        have hall : Hid (∀ (j : Nat) x, j < k → ns[j]? = some x → okN x = true) := hall0
        have c0 := hbox.c0
        clear hall0
        by_cases hlt : k < 10
        · obtain ⟨b2, off2, ⟨x0, x1, x2, x3, x4, x5⟩, eab, hx, hN⟩ := (HS.out.below hbel).at hlt
          cases eab
          have n0 := hN.c0
          have n1 := hN.c1
          have n2 := hN.c2
          have n3 := hN.c3
          have n4 := hN.c4
          have n5 := hN.c5
          dsimp only at n0 n1 n2 n3 n4 n5
          have HX : Hid (ns[k]? = some ⟨x0, x1, x2, x3, x4, x5⟩) := hx
          clear hx hN
          go_wp2_with fail
          refine (l2Node_any _ _ _ _ _ _ _).mono ?_
          rintro e w1 ⟨rfl, hb1⟩
          have hb2 := below_trans' hbel hb1
          have bx2 := hbox.below hb1
          clear n0 n1 n2 n3 n4 n5 hb1 c0 hbox hbel
          cases hok : okN ⟨x0, x1, x2, x3, x4, x5⟩
          · go_wp2
            go_ret
            exact ⟨ret_bool (shapeB_ok t f l HX.out hok).symm, hb2⟩
          · go_wp2
            go_roundw
            case rel => exact ⟨k + 1, by omega, by go_num, hb2, bx2, fun j x hj hx => by
              by_cases e : j = k
              · subst e; rw [HX.out] at hx; cases hx; exact hok
              · exact hall.out j x (by omega) hx⟩
            case measure => simp [intOf]; omega
        · obtain rfl : k = 10 := by omega
          have c1 := hbox.c1
          have c2 := hbox.c2
          have c3 := hbox.c3
          have HAll : Hid (ns.all okN = true) := all_okN (fun j x hx => hall.out j x (by have := (List.getElem?_eq_some_iff.1 hx).1; have := HS.out.1; omega) hx)
          have HL : Hid (ns.length = 10) := HS.out.1
          clear hbox hall HS HA
          have et : Hid (inR t 0 9 = inB t 9 ∧ inR f 1 9 = inP f ∧ inR l 1 9 = inP l) := ⟨rfl, rfl, rfl⟩
          cases ht : inR t 0 9
          · go_wp2_with (go_at_call 77; refine (l1InR_any _ _ _ _).mono ?_; rintro e w' ⟨rfl, rfl⟩)
            go_ret
            exact ⟨ret_bool (by simp [shapeB, ← et.out.1, ht]), hbel⟩
          · cases hf : inR f 1 9
            · go_wp2_with (go_at_call 77; refine (l1InR_any _ _ _ _).mono ?_; rintro e w' ⟨rfl, rfl⟩)
              go_ret
              exact ⟨ret_bool (by simp [shapeB, ← et.out.2.1, hf]), hbel⟩
            · cases hl : inR l 1 9
              · go_wp2_with (go_at_call 77; refine (l1InR_any _ _ _ _).mono ?_; rintro e w' ⟨rfl, rfl⟩)
                go_ret
                exact ⟨ret_bool (by simp [shapeB, ← et.out.2.2, hl]), hbel⟩
              · go_wp2_with (go_at_call 77; refine (l1InR_any _ _ _ _).mono ?_; rintro e w' ⟨rfl, rfl⟩)
                go_ret
                exact ⟨ret_bool (shapeB_yes HL.out HH.out HAll.out ht hf hl).symm, hbel⟩

set_option maxHeartbeats 2000000 in
theorem shaped_any (a : Option Addr) (n cap : Nat) (ns : List Nd) (t f l : Int) (w : World) (hs : SNodes w a n ns) (hn : n ≤ 9223372036854775807) :
    Calls Try.prog 78 #[.agg #[.slice a n cap, .int .i64 t, .int .i64 f, .int .i64 l]] w fun e w' => e = .returned (.bool (shapeB ns t f l)) ∧ Below w.heap.size w w' := by
  by_cases h10 : n = 10
  rotate_left
  · have h10' : ((n : Int) == 10) = false := by simp; omega
    rw [shapeB_len t f l (by rw [hs.1]; exact h10)]
    clear hs
    go_enter Try.func78, Try.ntmps78
    go_wp2
    go_ret
    exact ⟨rfl, al1 _ _⟩
  · subst h10
    obtain ⟨b, off, ⟨k, v, o, r, u, g⟩, rfl, hx, hN⟩ := hs.at (k := 0) (by omega)
    rw [Nat.zero_mul, Nat.add_zero] at hN
    have A := al1 w (.cells #[.slice (some ⟨b, off, none⟩) 10 cap, .int .i64 t, .int .i64 f, .int .i64 l] 43)
    have bx0 := boxA_new w (some ⟨b, off, none⟩) 10 cap t f l 43 rfl
    have hM := hN.below A
    have n0 := hM.c0
    have n1 := hM.c1
    have n2 := hM.c2
    have n3 := hM.c3
    have n4 := hM.c4
    have n5 := hM.c5
    dsimp only at n0 n1 n2 n3 n4 n5
    have HX : Hid (ns[0]? = some ⟨k, v, o, r, u, g⟩) := hx
    have HS : Hid (SNodes w (some ⟨b, off, none⟩) 10 ns) := hs
    have HA : Hid (Below w.heap.size w (w.alloc (.cells #[.slice (some ⟨b, off, none⟩) 10 cap, .int .i64 t, .int .i64 f, .int .i64 l] 43)) ∧ BoxA (w.alloc (.cells #[.slice (some ⟨b, off, none⟩) 10 cap, .int .i64 t, .int .i64 f, .int .i64 l] 43)) w.heap.size (some ⟨b, off, none⟩) 10 cap t f l) := ⟨A, bx0⟩
    clear hM hN hx hs A bx0
    go_enter Try.func78, Try.ntmps78
    go_wp2_with fail
    refine (isHead_any _ _ _ _ _ _ _).mono ?_
    rintro e w1 ⟨rfl, hb1⟩
    have hbel := below_trans' HA.out.1 hb1
    have hbox := HA.out.2.below hb1
    have c0 := hbox.c0
    have c1 := hbox.c1
    have c2 := hbox.c2
    have c3 := hbox.c3
    clear hb1 n0 n1 n2 n3 n4 n5 HA
    cases hh : headN ⟨k, v, o, r, u, g⟩
    · go_wp2
      go_ret
      exact ⟨ret_bool (shapeB_head t f l HX.out hh).symm, hbel⟩
    · have HH : Hid (headN (ns.getD 0 Nd.zero) = true) := by show _ = _; simp only [List.getD, HX.out]; exact hh
      clear hh HX
      cases ht : inB t 9
      · go_wp2_with (go_at_call 95; refine (within_any _ _ _).mono ?_; rintro e w' ⟨rfl, rfl⟩)
        go_ret
        exact ⟨ret_bool (by simp [shapeB, ht]), hbel⟩
      · cases hf : inP f
        · go_wp2_with (first | (go_at_call 95; refine (within_any _ _ _).mono ?_; rintro e w' ⟨rfl, rfl⟩) | (go_at_call 96; refine (isPlace_any _ _).mono ?_; rintro e w' ⟨rfl, rfl⟩))
          go_ret
          exact ⟨ret_bool (by simp [shapeB, hf]), hbel⟩
        · cases hl : inP l
          · go_wp2_with (first | (go_at_call 95; refine (within_any _ _ _).mono ?_; rintro e w' ⟨rfl, rfl⟩) | (go_at_call 96; refine (isPlace_any _ _).mono ?_; rintro e w' ⟨rfl, rfl⟩))
            go_ret
            exact ⟨ret_bool (by simp [shapeB, hl]), hbel⟩
          · have HT : Hid (inB t 9 = true ∧ inP f = true ∧ inP l = true) := ⟨ht, hf, hl⟩
            have HBB : Hid (Below w.heap.size w w1) := hbel
            go_wp2_with (first | (go_at_call 95; refine (within_any _ _ _).mono ?_; rintro e w' ⟨rfl, rfl⟩) | (go_at_call 96; refine (isPlace_any _ _).mono ?_; rintro e w' ⟨rfl, rfl⟩))
            clear ht hf hl c0 c1 c2 c3
            go_loopw [4, 36] (fun _ i wr => ∃ k : Nat, k ≤ 10 ∧ i = .int .i64 k ∧ Below w.heap.size w wr ∧ BoxA wr w.heap.size (some ⟨b, off, none⟩) 10 cap t f l ∧ ∀ (j : Nat) x, j < k → ns[j]? = some x → okN x = true) (fun _ i _ => 10 - (intOf i).toNat)
            case atStart => exact ⟨0, by omega, rfl, hbel, hbox, fun j x hj => by omega⟩
            case round =>
              clear hbel hbox
              obtain ⟨k, hk, rfl, hbel, hbox, hall0⟩ := hrel
              have hall : Hid (∀ (j : Nat) x, j < k → ns[j]? = some x → okN x = true) := hall0
              clear hall0
              by_cases hlt : k < 10
              · obtain ⟨b2, off2, ⟨x0, x1, x2, x3, x4, x5⟩, eab, hx, hN⟩ := (HS.out.below hbel).at hlt
                cases eab
                have n0 := hN.c0
                have n1 := hN.c1
                have n2 := hN.c2
                have n3 := hN.c3
                have n4 := hN.c4
                have n5 := hN.c5
                dsimp only at n0 n1 n2 n3 n4 n5
                have HX : Hid (ns[k]? = some ⟨x0, x1, x2, x3, x4, x5⟩) := hx
                have HBx : Hid (Below w.heap.size w (wr.alloc (.cells #[.int .i64 x0, .int .i64 x1, .int .i64 x2, .int .i64 x3, .bool x4, .int .i64 x5] 86)) ∧ BoxA (wr.alloc (.cells #[.int .i64 x0, .int .i64 x1, .int .i64 x2, .int .i64 x3, .bool x4, .int .i64 x5] 86)) w.heap.size (some ⟨b, off, none⟩) 10 cap t f l) := ⟨below_trans' hbel (al1 _ _), hbox.below (al1 _ _)⟩
                clear hx hN hbel hbox
                go_wp2_with fail
                refine (inBounds_any _ _ _ _ _ _ _).mono ?_
                rintro e w2 ⟨rfl, hb1⟩
                have hb2 := below_trans' HBx.out.1 hb1
                have bx2 := HBx.out.2.below hb1
                clear n0 n1 n2 n3 n4 n5 hb1 HBx
                cases hok : okN ⟨x0, x1, x2, x3, x4, x5⟩
                · go_wp2
                  go_ret
                  exact ⟨ret_bool (shapeB_ok t f l HX.out hok).symm, hb2⟩
                · go_wp2
                  go_roundw
                  case rel => exact ⟨k + 1, by omega, by go_num, hb2, bx2, fun j x hj hx => by
                    by_cases e : j = k
                    · subst e; rw [HX.out] at hx; cases hx; exact hok
                    · exact hall.out j x (by omega) hx⟩
                  case measure => simp [intOf]; omega
              · obtain rfl : k = 10 := by omega
                have HAll : Hid (ns.all okN = true) := all_okN (fun j x hx => hall.out j x (by have := (List.getElem?_eq_some_iff.1 hx).1; have := HS.out.1; omega) hx)
                have HL : Hid (ns.length = 10) := HS.out.1
                clear hbox hall HS
                go_wp2
                go_ret
                exact ⟨ret_bool (shapeB_yes HL.out HH.out HAll.out HT.out.1 HT.out.2.1 HT.out.2.2).symm, hbel⟩

end Go.Proofs.Ytklpdpdjblakgaa

/- Copy -/
namespace Go.Proofs.Ytklpdpdjblakgaa
open Go.RowKit
set_option linter.unusedVariables false

/-- An append onto a row of one's own, as one step of a region that draws. -/
theorem step_append_mine {P : Program} {ops : Array Oper} {o : Oper} {a : Act} {w : World} {K : Act → World → Prop} {Q : Exit → Act → World → Prop} {E : Prop}
    (hg : o.guard = none) (s x : Operand) (t : TypeId) (hop : o.op = Op.call { callee := Callee.builtin Builtin.append, args := #[s, x], argTypes := #[t, t] })
    (base : Nat) (e : TypeId) (i : TypeInfo) (z : Value) (size bytes : Nat) (h1 : P.underlying t = some (.slice e)) (h2 : P.info? e = some i) (h3 : i.zero = some z) (h4 : i.size = size) (h5 : i.bytes = bytes) (h6 : z.cells.size = size) (h7 : 0 < size)
    (v : Value) (n : Nat) (xs : List Value) (hs : a.eval s = v) (hown : w.ownsRow base e size v n xs)
    (ad : Addr) (m c : Nat) (news : List Value) (hx : a.eval x = .slice (some ad) m c) (hn : news.length = m * size) (hc : ∀ j u, news[j]? = some u → w.cell? (ad.add j) = some u) (h1c : ∀ u ∈ news, u.oneCell' = true)
    (b1 : n + m ≤ maxLen) (b2 : (n + m) * bytes ≤ 140737488355328) (hbase : base ≤ w.heap.size)
    (hK : ∀ v' w', w'.ownsRow base e size v' (n + m) (xs ++ news) → w.grownBy w' v.ownBlock → K (a.put o.dst v') w') :
    if Region.wanted o (yielded ops a.tmps) = true then Oper.wp P o a w K Q else E := by
  have hw : Region.wanted o (yielded ops a.tmps) = true := by simp [Region.wanted, hg]
  rw [if_pos hw]
  obtain ⟨v', w', hrun, r1, r2, _⟩ := run_append_own (P := P) w base t o.type e i z size bytes h1 h2 h3 h4 h5 h6 h7 v n xs hown ad m c news hn hc h1c b1 b2 hbase
  unfold Oper.wp
  simp [execOp, hop, resolve, invoke, builtin, hs, hx, hrun, Result.andThen]
  exact hK v' w' r1 r2

theorem flatN_one (ns : List Nd) : ∀ u ∈ flatN ns, u.oneCell' = true := by
  intro u hu
  simp only [flatN, List.mem_flatMap, Nd.cells] at hu
  obtain ⟨x, _, hx⟩ := hu
  simp only [List.mem_cons, List.not_mem_nil, or_false] at hx
  rcases hx with rfl | rfl | rfl | rfl | rfl | rfl <;> rfl

/-- The cells of all places, for an append. -/
theorem SNodes.src {w : World} {b off n : Nat} {ns : List Nd} (hs : SNodes w (some ⟨b, off, none⟩) n ns) : ∀ j u, (flatN ns)[j]? = some u → w.cell? ((⟨b, off, none⟩ : Addr).add j) = some u := by
  intro j u hj
  have hl := (List.getElem?_eq_some_iff.1 hj).1
  rw [flatN_len] at hl
  have hjn : j / 6 < n := by have := hs.1; omega
  obtain ⟨b', off', x, e, hx, hN⟩ := hs.at hjn
  cases e
  rw [show j = j / 6 * 6 + j % 6 by omega, flatN_get _ _ _ (by omega), hx] at hj
  have h6 : j % 6 = 0 ∨ j % 6 = 1 ∨ j % 6 = 2 ∨ j % 6 = 3 ∨ j % 6 = 4 ∨ j % 6 = 5 := by omega
  rw [Addr.add_lit]
  rcases h6 with h | h | h | h | h | h <;> simp only [h, Option.bind_some, Nd.cells, List.getElem?_cons_zero, List.getElem?_cons_succ, Option.some.injEq] at hj <;> subst hj
  · rw [show off + j = off + j / 6 * 6 by omega]; exact hN.c0
  · rw [show off + j = off + j / 6 * 6 + 1 by omega]; exact hN.c1
  · rw [show off + j = off + j / 6 * 6 + 2 by omega]; exact hN.c2
  · rw [show off + j = off + j / 6 * 6 + 3 by omega]; exact hN.c3
  · rw [show off + j = off + j / 6 * 6 + 4 by omega]; exact hN.c4
  · rw [show off + j = off + j / 6 * 6 + 5 by omega]; exact hN.c5

/-- The answer is all places, in memory of its own. -/
def ArenaRes (ns : List Nd) (n : Nat) (t f l : Int) (e : Ending) (w w' : World) : Prop :=
  ∃ a c, e = .returned (.agg #[.slice a n c, .int .i64 t, .int .i64 f, .int .i64 l]) ∧ w'.ownsRow w.heap.size 86 6 (.slice a n c) n (flatN ns) ∧ Below w.heap.size w w'

theorem BoxA.grown {W W' : World} {b : Nat} {a : Option Addr} {n cap : Nat} {t f l : Int} (h : BoxA W b a n cap t f l) {row : Option Nat} (hg : W.grownBy W' row) (hne : some b ≠ row) : BoxA W' b a n cap t f l :=
  ⟨hg.cell h.c0 hne, hg.cell h.c1 hne, hg.cell h.c2 hne, hg.cell h.c3 hne⟩
theorem BoxA.drew {W : World} {b : Nat} {a : Option Addr} {n cap : Nat} {t f l : Int} (h : BoxA W b a n cap t f l) : BoxA W.drew b a n cap t f l := ⟨h.c0, h.c1, h.c2, h.c3⟩
theorem frozen_grown {W W' : World} {row : Option Nat} (hg : W.grownBy W' row) {b o : Nat} (hb : b < W.heap.size) (hne : some b ≠ row) (h : W.frozen? ⟨b, o, none⟩ = false) : W'.frozen? ⟨b, o, none⟩ = false :=
  (World.frozen?_of_block (w := W) (a := ⟨b, o, none⟩) (hg.block b hb hne)).trans h

/-- Behind an append onto the third of three new blocks: the first two, and all that was there. -/
theorem behind_lit {w w2 : World} {a : Option Addr} {n cap : Nat} {t f l : Int} (hg : (((w.alloc (.cells #[.slice a n cap, .int .i64 t, .int .i64 f, .int .i64 l] 43)).alloc (.cells #[.slice none 0 0, .int .i64 0, .int .i64 0, .int .i64 0] 43)).alloc (.cells #[] 86)).drew.grownBy w2 (some (w.heap.size + 1 + 1))) :
    BoxA w2 w.heap.size a n cap t f l ∧ BoxA w2 (w.heap.size + 1) none 0 0 0 0 0 ∧ (∀ j, w2.frozen? ⟨w.heap.size + 1, j, none⟩ = false) ∧ Below w.heap.size w w2 := by
  have B := below_trans' (below_trans' (al1 w (.cells #[.slice a n cap, .int .i64 t, .int .i64 f, .int .i64 l] 43)) (al1 _ (.cells #[.slice none 0 0, .int .i64 0, .int .i64 0, .int .i64 0] 43))) (al1 _ (.cells #[] 86))
  have b0 := ((boxA_new w a n cap t f l 43 rfl).below (al1 _ (.cells #[.slice none 0 0, .int .i64 0, .int .i64 0, .int .i64 0] 43))).below (al1 _ (.cells #[] 86))
  have b1 := (boxA_new (w.alloc (.cells #[.slice a n cap, .int .i64 t, .int .i64 f, .int .i64 l] 43)) none 0 0 0 0 0 43 (b := w.heap.size + 1) (by simp)).below (al1 _ (.cells #[] 86))
  refine ⟨b0.drew.grown hg (by simp; omega), b1.drew.grown hg (by simp), fun j => frozen_grown hg (by simp) (by simp) ?_, B.drew.grown hg (by simp; omega) (fun k e => by cases e; omega)⟩
  show World.frozen? (World.alloc _ _) _ = false
  rw [(al1 _ _).frozen (p := ⟨w.heap.size + 1, j, none⟩) (by simp)]
  exact frozen_at' _ _ _ j (by simp)

end Go.Proofs.Ytklpdpdjblakgaa

/- Give -/
namespace Go.Proofs.Ytklpdpdjblakgaa
open Go.RowKit
set_option linter.unusedVariables false

/-- The first two blocks of a function over all places: the argument's, and the answer's. -/
structure LocA (w : World) (a : Option Addr) (n cap : Nat) (t f l : Int) (W : World) : Prop where
  bel : Below w.heap.size w W
  box : BoxA W w.heap.size a n cap t f l
  res : BoxA W (w.heap.size + 1) none 0 0 0 0 0
  fz : ∀ j, W.frozen? ⟨w.heap.size + 1, j, none⟩ = false

theorem locA_start (w : World) (a : Option Addr) (n cap : Nat) (t f l : Int) : LocA w a n cap t f l ((w.alloc (.cells #[.slice a n cap, .int .i64 t, .int .i64 f, .int .i64 l] 43)).alloc (.cells #[.slice none 0 0, .int .i64 0, .int .i64 0, .int .i64 0] 43)) :=
  { bel := below_trans' (al1 w _) (al1 _ _), box := (boxA_new w a n cap t f l 43 rfl).below (al1 _ _), res := boxA_new _ none 0 0 0 0 0 43 (by simp), fz := fun j => frozen_at' _ _ _ j (by simp) }

theorem LocA.sz {w : World} {a : Option Addr} {n cap : Nat} {t f l : Int} {W : World} (h : LocA w a n cap t f l W) : w.heap.size + 1 < W.heap.size := h.res.lt

theorem LocA.below {w : World} {a : Option Addr} {n cap : Nat} {t f l : Int} {W W' : World} (h : LocA w a n cap t f l W) (hb : Below W.heap.size W W') : LocA w a n cap t f l W' :=
  { bel := below_trans' h.bel hb, box := h.box.below hb, res := h.res.below hb, fz := fun j => (hb.frozen (p := ⟨w.heap.size + 1, j, none⟩) h.sz).trans (h.fz j) }

theorem LocA.grown {w : World} {a : Option Addr} {n cap : Nat} {t f l : Int} {W W' : World} (h : LocA w a n cap t f l W) {g : Nat} (hg : W.grownBy W' (some g)) (hlt : w.heap.size + 1 < g) : LocA w a n cap t f l W' :=
  { bel := h.bel.grown hg h.bel.size (fun k e => by cases e; omega), box := h.box.grown hg (fun e => by cases e; omega), res := h.res.grown hg (fun e => by cases e; omega),
    fz := fun j => frozen_grown hg h.sz (fun e => by cases e; omega) (h.fz j) }

/-- A copy of all places, in a variable X. -/
structure CopyA (w : World) (a0 : Option Addr) (n0 cap0 : Nat) (t f l : Int) (X g c : Nat) (ns : List Nd) (W : World) : Prop where
  loc : LocA w a0 n0 cap0 t f l W
  x : BoxA W X (some ⟨g, 0, none⟩) 10 c t f l
  own : W.ownsRow (w.heap.size + 1 + 1) 86 6 (.slice (some ⟨g, 0, none⟩) 10 c) 10 (flatN ns)
  lt0 : w.heap.size + 1 < g
  lt1 : g < X

theorem CopyA.put {w : World} {a0 : Option Addr} {n0 cap0 : Nat} {t f l : Int} {X g c : Nat} {ns : List Nd} {W : World} (h : CopyA w a0 n0 cap0 t f l X g c ns W) (k : Nat) (y : Nd) : CopyA w a0 n0 cap0 t f l X g c (ns.set k y) (put6 W g (k * 6) y) := by
  obtain ⟨h1, h2, h3⟩ := own6_put h.own k y
  exact { loc := h.loc.grown h2 h.lt0, x := h.x.grown h2 (fun e => by have h1 : X = g := Option.some.inj e; have := h.lt1; omega), own := h1, lt0 := h.lt0, lt1 := h.lt1 }

theorem CopyA.below {w : World} {a0 : Option Addr} {n0 cap0 : Nat} {t f l : Int} {X g c : Nat} {ns : List Nd} {W W' : World} (h : CopyA w a0 n0 cap0 t f l X g c ns W) (hb : Below W.heap.size W W') : CopyA w a0 n0 cap0 t f l X g c ns W' :=
  { loc := h.loc.below hb, x := h.x.below hb, own := ownsRow_below h.own hb, lt0 := h.lt0, lt1 := h.lt1 }

theorem CopyA.drew {w : World} {a0 : Option Addr} {n0 cap0 : Nat} {t f l : Int} {X g c : Nat} {ns : List Nd} {W : World} (h : CopyA w a0 n0 cap0 t f l X g c ns W) : CopyA w a0 n0 cap0 t f l X g c ns W.drew :=
  h.below (Below.refl _ _).drew

theorem copyA_start {w : World} {a0 : Option Addr} {n0 cap0 : Nat} {t f l : Int} {W W' : World} (h : LocA w a0 n0 cap0 t f l W) {ns : List Nd} {a : Option Addr} {c : Nat} (ho : W'.ownsRow W.heap.size 86 6 (.slice a 10 c) 10 (flatN ns)) (hb : Below W.heap.size W W') :
    ∃ g, a = some ⟨g, 0, none⟩ ∧ CopyA w a0 n0 cap0 t f l W'.heap.size g c ns (W'.alloc (.cells #[.slice a 10 c, .int .i64 t, .int .i64 f, .int .i64 l] 43)) := by
  obtain ⟨a', c', e, _, h0 | ⟨g, rfl⟩⟩ := own6_shape ho
  · omega
  · cases e
    have hlt := ho.lt g rfl
    have := h.sz
    exact ⟨g, rfl, { loc := (h.below hb).below (al1 _ _), x := boxA_new _ _ _ _ _ _ _ _ rfl, own := own_mono (ownsRow_below ho (al1 _ _)) (by omega), lt0 := by omega, lt1 := hlt.2 }⟩

theorem CopyA.res {w : World} {a0 : Option Addr} {n0 cap0 : Nat} {t f l : Int} {X g c : Nat} {ns : List Nd} {W : World} (h : CopyA w a0 n0 cap0 t f l X g c ns W) :
    (putA W (w.heap.size + 1) (some ⟨g, 0, none⟩) 10 c t f l).ownsRow w.heap.size 86 6 (.slice (some ⟨g, 0, none⟩) 10 c) 10 (flatN ns) ∧ Below w.heap.size w (putA W (w.heap.size + 1) (some ⟨g, 0, none⟩) 10 c t f l) :=
  ⟨own_mono (own_putA h.own (by omega) _ _ _ _ _ _) (by omega), below_putA h.loc.bel (by omega) _ _ _ _ _ _⟩

/-- What ArnGive leaves at a place. -/
def gaveN (x : Nd) : Nd := ⟨0, 0, 0, 0, false, x.gen⟩
/-- What ArnGive leaves. -/
def giveL (ns : List Nd) (at_ : Int) : List Nd := if inP at_ && (ns.getD at_.toNat Nd.zero).used then ns.set at_.toNat (gaveN (ns.getD at_.toNat Nd.zero)) else ns

end Go.Proofs.Ytklpdpdjblakgaa

/- Give2 -/
namespace Go.Proofs.Ytklpdpdjblakgaa
open Go.RowKit
set_option linter.unusedVariables false

theorem snodes_some {w : World} {a : Option Addr} {n : Nat} {ns : List Nd} (hs : SNodes w a n ns) (h : ns.length = 10) : n = 10 ∧ ∃ b off, a = some ⟨b, off, none⟩ := by
  obtain ⟨hz, h0 | ⟨b, off, rfl, hc⟩⟩ := hs
  · omega
  · exact ⟨by omega, b, off, rfl⟩

end Go.Proofs.Ytklpdpdjblakgaa

/- Path -/
namespace Go.Proofs.Ytklpdpdjblakgaa
open Go.RowKit
set_option linter.unusedVariables false

theorem wTo_bounds (x : Int) : 0 ≤ wTo x ∧ wTo x ≤ 9 := by
  unfold wTo
  split
  · rename_i h
    obtain ⟨h0, h1⟩ := inB_parts h
    omega
  · omega

/-- To which place a place leads. -/
def nextN (ns : List Nd) (p : Int) : Int := wTo (ns.getD p.toNat Nd.zero).word
/-- Where one is behind k steps; 0 is the end. -/
def stepK (ns : List Nd) (p : Int) : Nat → Int
  | 0 => p
  | k + 1 => if stepK ns p k = 0 then 0 else nextN ns (stepK ns p k)
/-- The places of the first k steps. -/
def fromTo (ns : List Nd) (p : Int) : Nat → List Int
  | 0 => []
  | k + 1 => if stepK ns p k = 0 then fromTo ns p k else fromTo ns p k ++ [stepK ns p k]

theorem stepK_bounds (ns : List Nd) {p : Int} (h : inB p 9 = true) (k : Nat) : 0 ≤ stepK ns p k ∧ stepK ns p k ≤ 9 := by
  induction k with
  | zero => exact inB_parts h
  | succ k ih =>
    unfold stepK
    split
    · omega
    · exact wTo_bounds _
theorem fromTo_len (ns : List Nd) (p : Int) (k : Nat) : (fromTo ns p k).length ≤ k := by
  induction k with
  | zero => simp [fromTo]
  | succ k ih =>
    unfold fromTo
    split
    · omega
    · simp; omega
theorem fromTo_go {ns : List Nd} {p : Int} {k : Nat} {x : Int} (e : stepK ns p k = x) (h : ¬ x = 0) : fromTo ns p (k + 1) = fromTo ns p k ++ [x] ∧ stepK ns p (k + 1) = nextN ns x := by
  subst e
  simp [fromTo, stepK, h]
theorem fromTo_end {ns : List Nd} {p : Int} {k : Nat} (h : stepK ns p k = 0) : ∀ m, k ≤ m → fromTo ns p m = fromTo ns p k ∧ stepK ns p m = 0 := by
  intro m hm
  obtain ⟨d, rfl⟩ : ∃ d, m = k + d := ⟨m - k, by omega⟩
  induction d with
  | zero => exact ⟨rfl, h⟩
  | succ d ih =>
    obtain ⟨i1, i2⟩ := ih (by omega)
    have e : k + (d + 1) = (k + d) + 1 := by omega
    rw [e]
    simp [fromTo, stepK, i1, i2]

/-- The answer is a list of numbers in memory of its own. -/
def ListI (L : List Int) (e : Ending) (w w' : World) : Prop :=
  ∃ a c, e = .returned (.slice a L.length c) ∧ w'.ownsRow w.heap.size 3 1 (.slice a L.length c) L.length (L.map (Value.int .i64)) ∧ Below w.heap.size w w'

theorem own_int_lit (w : World) (o : Obj) : ((w.alloc o).alloc (.cells #[] 3)).ownsRow (w.heap.size + 1) 3 1 (.slice (some ⟨w.heap.size + 1, 0, none⟩) 0 0) 0 [] := by
  have := World.ownsRow_lit (base := w.heap.size + 1) (e := 3) (size := 1) (w.alloc o) #[] 0 (by simp) (by decide) rfl
  simp only [World.size_alloc] at this
  exact this

/-- What stands in the loop of l2From. -/
structure FromAt (w : World) (b off cap : Nat) (t f l : Int) (a' : Option Addr) (m c' : Nat) (L : List Int) (W : World) : Prop where
  bel : Below w.heap.size w W
  box : BoxA W w.heap.size (some ⟨b, off, none⟩) 10 cap t f l
  own : W.ownsRow (w.heap.size + 1) 3 1 (.slice a' m c') m (L.map (Value.int .i64))

theorem FromAt.below {w : World} {b off cap : Nat} {t f l : Int} {a' : Option Addr} {m c' : Nat} {L : List Int} {W W' : World} (h : FromAt w b off cap t f l a' m c' L W) (hb : Below W.heap.size W W') : FromAt w b off cap t f l a' m c' L W' :=
  { bel := below_trans' h.bel hb, box := h.box.below hb, own := ownsRow_below h.own hb }

/-- Behind an append. -/
theorem FromAt.grown {w : World} {b off cap : Nat} {t f l : Int} {a' : Option Addr} {m c' : Nat} {L : List Int} {W W' : World} (h : FromAt w b off cap t f l a' m c' L W) (hg : W.grownBy W' (Value.slice a' m c').ownBlock) {a2 : Option Addr} {m2 c2 : Nat} {L2 : List Int} (ho : W'.ownsRow (w.heap.size + 1) 3 1 (.slice a2 m2 c2) m2 (L2.map (Value.int .i64))) : FromAt w b off cap t f l a2 m2 c2 L2 W' :=
  { bel := h.bel.grown hg h.bel.size (fun k e => by have := (h.own.lt k e).1; omega), box := h.box.grown hg (fun e => by have := (h.own.lt _ e.symm).1; omega), own := ho }

set_option maxRecDepth 20000 in
set_option maxHeartbeats 1000000 in
theorem l2From_any (b off cap : Nat) (ns : List Nd) (t f l p : Int) (w : World) (hs : SNodes w (some ⟨b, off, none⟩) 10 ns) (hp : inB p 9 = true) :
    Calls Try.prog 75 #[.agg #[.slice (some ⟨b, off, none⟩) 10 cap, .int .i64 t, .int .i64 f, .int .i64 l], .int .i64 p] w fun e w' => ListI (fromTo ns p 9) e w w' := by
  obtain ⟨i0, hi, hz0, hz1, hz2⟩ := info_parts Try.info3
  have A1 := al1 w (.cells #[.slice (some ⟨b, off, none⟩) 10 cap, .int .i64 t, .int .i64 f, .int .i64 l] 43)
  have I0 : Hid (FromAt w b off cap t f l (some ⟨w.heap.size + 1, 0, none⟩) 0 0 [] ((w.alloc (.cells #[.slice (some ⟨b, off, none⟩) 10 cap, .int .i64 t, .int .i64 f, .int .i64 l] 43)).alloc (.cells #[] 3))) :=
    ⟨below_trans' A1 (al1 _ _), (boxA_new w _ _ _ _ _ _ 43 rfl).below (al1 _ _), own_int_lit w _⟩
  have HS : Hid (SNodes w (some ⟨b, off, none⟩) 10 ns) := hs
  have HP : Hid (inB p 9 = true) := hp
  clear A1 hs hp
  go_enter Try.func75, Try.ntmps75
  go_wp2
  go_loopw [5, 6, 7] (fun s at_ i wr => ∃ (k m : Nat) (a' : Option Addr) (c' : Nat), k ≤ 9 ∧ m ≤ k ∧ i = .int .i64 k ∧ at_ = .int .i64 (stepK ns p k) ∧ s = .slice a' m c' ∧ FromAt w b off cap t f l a' m c' (fromTo ns p k) wr) (fun _ _ i _ => 9 - (intOf i).toNat)
  case atStart => exact ⟨0, 0, _, 0, by omega, by omega, rfl, rfl, rfl, I0.out⟩
  case round =>
    obtain ⟨k, m, a', c', hk, hmk, rfl, rfl, rfl, I⟩ := hrel
    clear I0
    obtain ⟨x, hx⟩ : ∃ x, stepK ns p k = x := ⟨_, rfl⟩
    have hxb := stepK_bounds ns HP.out k
    rw [hx] at hxb ⊢
    have HX : Hid (stepK ns p k = x) := hx
    obtain ⟨L, hL⟩ : ∃ L, fromTo ns p k = L := ⟨_, rfl⟩
    have HL : Hid (fromTo ns p k = L) := hL
    rw [hL] at I
    have HI : Hid (FromAt w b off cap t f l a' m c' L wr) := I
    obtain ⟨hx0, hx9⟩ := hxb
    clear hx hL
    by_cases hlt : k < 9
    · by_cases hz : x = 0
      · have HE := (fromTo_end (k := k) (by rw [HX.out]; exact hz) 9 (by omega)).1
        have HR : Hid (fromTo ns p 9 = L) := HE.trans HL.out
        have hml : Hid (L.length = m) := by show _ = _; have := I.own.1; simpa using this
        have hb := I.bel
        subst hz
        clear I HE
        go_wp2
        go_ret
        refine ⟨a', c', ?_⟩
        rw [HR.out, hml.out]
        exact ⟨rfl, own_mono HI.out.own (by omega), hb⟩
      · have hpos : 0 < x := by omega
        obtain ⟨j, rfl⟩ : ∃ j : Nat, x = j := ⟨x.toNat, by omega⟩
        have hj : j < 10 := by omega
        have ownA := ownsRow_below I.own (al1 wr (.cells #[.int .i64 (j : Int)] 3))
        have src : Hid (∀ (jj : Nat) u, [Value.int .i64 (j : Int)][jj]? = some u → (wr.alloc (.cells #[.int .i64 (j : Int)] 3)).cell? ((⟨wr.heap.size, 0, none⟩ : Addr).add jj) = some u) := fun jj u h => by
          have h0 : jj = 0 := by have := (List.getElem?_eq_some_iff.1 h).1; simpa using this
          subst h0
          have hu : Value.int .i64 (j : Int) = u := by simpa using h
          subst hu
          rw [Addr.add_lit]
          simp
        have hsz := I.bel.size
        clear I
        go_wp2_with (at_builtin; go_must (refine wpList_append_own _ rfl (.tmp 18) (.tmp 20) 37 rfl (w.heap.size + 1) 3 i0 (.int .i64 0) 1 8 Try.underlying37 hi hz0 hz1 hz2 rfl (by decide) _ _ _ rfl ownA ⟨wr.heap.size, 0, none⟩ 1 1 [.int .i64 (j : Int)] rfl rfl src.out (by intro u hu; simp at hu; subst hu; rfl) (by unfold maxLen; omega) (by omega) (by simp; omega) ?_))
        intro v' w2 hown hgrow _
        have hown' : w2.ownsRow (w.heap.size + 1) 3 1 v' (m + 1) ((L ++ [(j : Int)]).map (Value.int .i64)) := by rw [List.map_append]; exact hown
        obtain ⟨a2, c2, hv, _⟩ := own_shape hown'
        rw [hv] at hown' ⊢
        have I2 := (HI.out.below (al1 wr (.cells #[.int .i64 (j : Int)] 3))).grown hgrow hown'
        have q0 := I2.box.c0
        obtain ⟨b', off', ⟨y0, y1, y2, y3, y4, y5⟩, eb, hy, hN⟩ := (HS.out.below I2.bel).at (k := j) hj
        cases eb
        have n2 := hN.c2
        dsimp only at n2
        have HN : Hid (fromTo ns p (k + 1) = L ++ [(j : Int)] ∧ stepK ns p (k + 1) = wTo y2) := by
          obtain ⟨h1, h2⟩ := fromTo_go HX.out hz
          rw [HL.out] at h1
          refine ⟨h1, h2.trans ?_⟩
          simp [nextN, List.getD, hy]
        have HI2 : Hid (FromAt w b off cap t f l a2 (m + 1) c2 (L ++ [(j : Int)]) w2) := I2
        clear hown hown' hgrow hv hN hy I2 ownA src HI
        go_wp2_with (go_at_call 76; refine (specWrdTo_any _ _).mono ?_; rintro e w' ⟨rfl, rfl⟩)
        go_roundw
        case rel => exact ⟨k + 1, m + 1, a2, c2, by omega, by omega, by go_num, by rw [HN.out.2], rfl, by rw [HN.out.1]; exact HI2.out⟩
        case measure => simp [intOf]; omega
    · obtain rfl : k = 9 := by omega
      have hml : Hid (L.length = m) := by show _ = _; have := I.own.1; simpa using this
      have hb := I.bel
      clear I
      go_wp2
      go_ret
      refine ⟨a', c', ?_⟩
      rw [HL.out, hml.out]
      exact ⟨rfl, own_mono HI.out.own (by omega), hb⟩

end Go.Proofs.Ytklpdpdjblakgaa

/- PathS -/
namespace Go.Proofs.Ytklpdpdjblakgaa
open Go.RowKit
set_option linter.unusedVariables false

/-- Where the map, the stack and the queue begin. -/
def begC (ns : List Nd) (t f l : Int) : Int := wTo (ns.getD 0 Nd.zero).word
def begS (ns : List Nd) (t f l : Int) : Int := t
def begQ (ns : List Nd) (t f l : Int) : Int := f
/-- The places from a beginning on, of a right shape. -/
def pathOf (p : List Nd → Int → Int → Int → Int) (ns : List Nd) (t f l : Int) : List Int := if shapeB ns t f l then fromTo ns (p ns t f l) 9 else []

theorem inP_inB {x : Int} (h : inP x = true) : inB x 9 = true := by
  simp [inP] at h
  simp [inB]
  omega
theorem begC_in (ns : List Nd) (t f l : Int) : inB (begC ns t f l) 9 = true := by
  have := wTo_bounds (ns.getD 0 Nd.zero).word
  exact inB_yes this.1 this.2

theorem own_int_lit1 (w : World) : (w.alloc (.cells #[] 3)).ownsRow w.heap.size 3 1 (.slice (some ⟨w.heap.size, 0, none⟩) 0 0) 0 [] := by
  exact World.ownsRow_lit (base := w.heap.size) (e := 3) (size := 1) w #[] 0 (Nat.le_refl _) (by decide) rfl

set_option maxHeartbeats 1000000 in
theorem specArnChain_bad (a : Option Addr) (n cap : Nat) (ns : List Nd) (t f l : Int) (w : World) (hs : SNodes w a n ns) (hn : n ≤ 9223372036854775807) (hsh : shapeB ns t f l = false) :
    Calls Try.prog 52 #[.agg #[.slice a n cap, .int .i64 t, .int .i64 f, .int .i64 l]] w fun e w' => ListI [] e w w' := by
  go_enter Try.func52, Try.ntmps52
  go_wp2_with fail
  refine (l2Shape_any _ _ _ ns t f l _ (hs.below (al1 w (.cells #[.slice a n cap, .int .i64 t, .int .i64 f, .int .i64 l] 43))) hn).mono ?_
  rintro e w1 ⟨rfl, hb1⟩
  have hbel := below_trans' (al1 w (.cells #[.slice a n cap, .int .i64 t, .int .i64 f, .int .i64 l] 43)) hb1
  rw [hsh]
  clear hs hb1
  go_wp2
  go_ret
  exact ⟨_, 0, rfl, own_mono (own_int_lit1 _) hbel.size, below_trans' hbel (al1 _ _)⟩

set_option maxHeartbeats 2000000 in
theorem specArnChain_ok (b off cap : Nat) (ns : List Nd) (t f l : Int) (w : World) (hs : SNodes w (some ⟨b, off, none⟩) 10 ns) (hsh : shapeB ns t f l = true) (hp : inB (begC ns t f l) 9 = true) :
    Calls Try.prog 52 #[.agg #[.slice (some ⟨b, off, none⟩) 10 cap, .int .i64 t, .int .i64 f, .int .i64 l]] w fun e w' => ListI (fromTo ns (begC ns t f l) 9) e w w' := by
  have A := al1 w (.cells #[.slice (some ⟨b, off, none⟩) 10 cap, .int .i64 t, .int .i64 f, .int .i64 l] 43)
  have bx := boxA_new w (some ⟨b, off, none⟩) 10 cap t f l 43 rfl
  go_enter Try.func52, Try.ntmps52
  go_wp2_with fail
  refine (l2Shape_any _ _ _ ns t f l _ (hs.below A) (by omega)).mono ?_
  rintro e w1 ⟨rfl, hb1⟩
  have hA1 := below_trans' A hb1
  have bx1 := bx.below hb1
  have p0 := bx1.c0
  have p1 := bx1.c1
  have p2 := bx1.c2
  have p3 := bx1.c3
  rw [hsh]
  have s1 := hs.below hA1
  obtain ⟨b', off', ⟨y0, y1, y2, y3, y4, y5⟩, eb, hy, hN⟩ := s1.at (k := 0) (by omega)
  cases eb
  rw [Nat.zero_mul, Nat.add_zero] at hN
  have n2 := hN.c2
  dsimp only at n2
  have HB : Hid (begC ns t f l = wTo y2) := by show _ = _; simp [begC, List.getD, hy]
  have hp2 : Hid (inB (wTo y2) 9 = true) := by show _ = _; rw [← HB.out]; exact hp
  have HS : Hid (SNodes w1 (some ⟨b, off, none⟩) 10 ns) := s1
  clear hs hb1 bx A bx1 hN hy s1 hp hsh
  go_wp2
  go_region_held (fun w' => w'.cell? ⟨w.heap.size, 0, none⟩ = some (.slice (some ⟨b, off, none⟩) 10 cap) ∧ w'.cell? ⟨w.heap.size, 1, none⟩ = some (.int .i64 t) ∧ w'.cell? ⟨w.heap.size, 2, none⟩ = some (.int .i64 f) ∧ w'.cell? ⟨w.heap.size, 3, none⟩ = some (.int .i64 l) ∧ w'.cell? ⟨b, off + 2, none⟩ = some (.int .i64 y2)) (go_keep) (first | (go_at_call 76; refine (specWrdTo_any _ _).mono ?_; rintro e w' ⟨rfl, rfl⟩) | (go_at_call 75; refine (l2From_any b off cap ns t f l _ _ (HS.out.below (Below.refl _ _).drew) hp2.out).mono ?_; rintro e w3 ⟨a3, c3, rfl, ho3, hb3⟩; have H3 : Hid (w3.ownsRow w1.heap.size 3 1 (.slice a3 (fromTo ns (wTo y2) 9).length c3) (fromTo ns (wTo y2) 9).length ((fromTo ns (wTo y2) 9).map (Value.int .i64)) ∧ Below w.heap.size w w3) := ⟨ho3, below_trans' hA1 (below_trans' (Below.refl _ _).drew hb3)⟩; have r0 := hb3.cell (p := ⟨w.heap.size, 0, none⟩) (by exact World.block_lt_of_cell? w1 ⟨w.heap.size, 0, none⟩ p0); have r1 := hb3.cell (p := ⟨w.heap.size, 1, none⟩) (by exact World.block_lt_of_cell? w1 ⟨w.heap.size, 0, none⟩ p0); have r2 := hb3.cell (p := ⟨w.heap.size, 2, none⟩) (by exact World.block_lt_of_cell? w1 ⟨w.heap.size, 0, none⟩ p0); have r3 := hb3.cell (p := ⟨w.heap.size, 3, none⟩) (by exact World.block_lt_of_cell? w1 ⟨w.heap.size, 0, none⟩ p0); have r4 := hb3.cell (p := ⟨b, off + 2, none⟩) (by exact World.block_lt_of_cell? w1 ⟨b, off + 2, none⟩ n2); clear ho3 hb3))
  go_wp2
  go_ret
  refine ⟨a3, c3, ?_⟩
  rw [HB.out]
  exact ⟨rfl, own_mono H3.out.1 hA1.size, H3.out.2⟩

theorem specArnChain_any (a : Option Addr) (n cap : Nat) (ns : List Nd) (t f l : Int) (w : World) (hs : SNodes w a n ns) (hn : n ≤ 1048576) :
    Calls Try.prog 52 #[.agg #[.slice a n cap, .int .i64 t, .int .i64 f, .int .i64 l]] w fun e w' => ListI (pathOf begC ns t f l) e w w' := by
  cases hsh : shapeB ns t f l
  · have e : pathOf begC ns t f l = [] := by simp [pathOf, hsh]
    rw [e]
    exact specArnChain_bad a n cap ns t f l w hs (by omega) hsh
  · obtain ⟨hl, _, _, h4, h5, _⟩ := shapeB_parts hsh
    obtain ⟨rfl, b, off, rfl⟩ := snodes_some hs hl
    have e : pathOf begC ns t f l = fromTo ns (begC ns t f l) 9 := by simp [pathOf, hsh]
    rw [e]
    exact specArnChain_ok b off cap ns t f l w hs hsh (begC_in ns t f l)

set_option maxHeartbeats 1000000 in
theorem specArnStacked_bad (a : Option Addr) (n cap : Nat) (ns : List Nd) (t f l : Int) (w : World) (hs : SNodes w a n ns) (hn : n ≤ 9223372036854775807) (hsh : shapeB ns t f l = false) :
    Calls Try.prog 55 #[.agg #[.slice a n cap, .int .i64 t, .int .i64 f, .int .i64 l]] w fun e w' => ListI [] e w w' := by
  go_enter Try.func55, Try.ntmps55
  go_wp2_with fail
  refine (l2Shape_any _ _ _ ns t f l _ (hs.below (al1 w (.cells #[.slice a n cap, .int .i64 t, .int .i64 f, .int .i64 l] 43))) hn).mono ?_
  rintro e w1 ⟨rfl, hb1⟩
  have hbel := below_trans' (al1 w (.cells #[.slice a n cap, .int .i64 t, .int .i64 f, .int .i64 l] 43)) hb1
  rw [hsh]
  clear hs hb1
  go_wp2
  go_ret
  exact ⟨_, 0, rfl, own_mono (own_int_lit1 _) hbel.size, below_trans' hbel (al1 _ _)⟩

set_option maxHeartbeats 2000000 in
theorem specArnStacked_ok (b off cap : Nat) (ns : List Nd) (t f l : Int) (w : World) (hs : SNodes w (some ⟨b, off, none⟩) 10 ns) (hsh : shapeB ns t f l = true) (hp : inB (begS ns t f l) 9 = true) :
    Calls Try.prog 55 #[.agg #[.slice (some ⟨b, off, none⟩) 10 cap, .int .i64 t, .int .i64 f, .int .i64 l]] w fun e w' => ListI (fromTo ns (begS ns t f l) 9) e w w' := by
  have A := al1 w (.cells #[.slice (some ⟨b, off, none⟩) 10 cap, .int .i64 t, .int .i64 f, .int .i64 l] 43)
  have bx := boxA_new w (some ⟨b, off, none⟩) 10 cap t f l 43 rfl
  go_enter Try.func55, Try.ntmps55
  go_wp2_with fail
  refine (l2Shape_any _ _ _ ns t f l _ (hs.below A) (by omega)).mono ?_
  rintro e w1 ⟨rfl, hb1⟩
  have hA1 := below_trans' A hb1
  have bx1 := bx.below hb1
  have p0 := bx1.c0
  have p1 := bx1.c1
  have p2 := bx1.c2
  have p3 := bx1.c3
  rw [hsh]
  have s1 := hs.below hA1
  clear hs hb1 bx A bx1 hsh
  go_wp2_with fail
  refine (l2From_any b off cap ns t f l _ _ s1 hp).mono ?_
  rintro e w3 ⟨a3, c3, rfl, ho3, hb3⟩
  have H3 : Hid (w3.ownsRow w1.heap.size 3 1 (.slice a3 (fromTo ns (begS ns t f l) 9).length c3) (fromTo ns (begS ns t f l) 9).length ((fromTo ns (begS ns t f l) 9).map (Value.int .i64)) ∧ Below w.heap.size w w3) := ⟨ho3, below_trans' hA1 hb3⟩
  clear ho3 hb3
  go_wp2
  go_ret
  exact ⟨a3, c3, rfl, own_mono H3.out.1 hA1.size, H3.out.2⟩

theorem specArnStacked_any (a : Option Addr) (n cap : Nat) (ns : List Nd) (t f l : Int) (w : World) (hs : SNodes w a n ns) (hn : n ≤ 1048576) :
    Calls Try.prog 55 #[.agg #[.slice a n cap, .int .i64 t, .int .i64 f, .int .i64 l]] w fun e w' => ListI (pathOf begS ns t f l) e w w' := by
  cases hsh : shapeB ns t f l
  · have e : pathOf begS ns t f l = [] := by simp [pathOf, hsh]
    rw [e]
    exact specArnStacked_bad a n cap ns t f l w hs (by omega) hsh
  · obtain ⟨hl, _, _, h4, h5, _⟩ := shapeB_parts hsh
    obtain ⟨rfl, b, off, rfl⟩ := snodes_some hs hl
    have e : pathOf begS ns t f l = fromTo ns (begS ns t f l) 9 := by simp [pathOf, hsh]
    rw [e]
    exact specArnStacked_ok b off cap ns t f l w hs hsh (h4)

set_option maxHeartbeats 1000000 in
theorem specArnQueued_bad (a : Option Addr) (n cap : Nat) (ns : List Nd) (t f l : Int) (w : World) (hs : SNodes w a n ns) (hn : n ≤ 9223372036854775807) (hsh : shapeB ns t f l = false) :
    Calls Try.prog 56 #[.agg #[.slice a n cap, .int .i64 t, .int .i64 f, .int .i64 l]] w fun e w' => ListI [] e w w' := by
  go_enter Try.func56, Try.ntmps56
  go_wp2_with fail
  refine (l2Shape_any _ _ _ ns t f l _ (hs.below (al1 w (.cells #[.slice a n cap, .int .i64 t, .int .i64 f, .int .i64 l] 43))) hn).mono ?_
  rintro e w1 ⟨rfl, hb1⟩
  have hbel := below_trans' (al1 w (.cells #[.slice a n cap, .int .i64 t, .int .i64 f, .int .i64 l] 43)) hb1
  rw [hsh]
  clear hs hb1
  go_wp2
  go_ret
  exact ⟨_, 0, rfl, own_mono (own_int_lit1 _) hbel.size, below_trans' hbel (al1 _ _)⟩

set_option maxHeartbeats 2000000 in
theorem specArnQueued_ok (b off cap : Nat) (ns : List Nd) (t f l : Int) (w : World) (hs : SNodes w (some ⟨b, off, none⟩) 10 ns) (hsh : shapeB ns t f l = true) (hp : inB (begQ ns t f l) 9 = true) :
    Calls Try.prog 56 #[.agg #[.slice (some ⟨b, off, none⟩) 10 cap, .int .i64 t, .int .i64 f, .int .i64 l]] w fun e w' => ListI (fromTo ns (begQ ns t f l) 9) e w w' := by
  have A := al1 w (.cells #[.slice (some ⟨b, off, none⟩) 10 cap, .int .i64 t, .int .i64 f, .int .i64 l] 43)
  have bx := boxA_new w (some ⟨b, off, none⟩) 10 cap t f l 43 rfl
  go_enter Try.func56, Try.ntmps56
  go_wp2_with fail
  refine (l2Shape_any _ _ _ ns t f l _ (hs.below A) (by omega)).mono ?_
  rintro e w1 ⟨rfl, hb1⟩
  have hA1 := below_trans' A hb1
  have bx1 := bx.below hb1
  have p0 := bx1.c0
  have p1 := bx1.c1
  have p2 := bx1.c2
  have p3 := bx1.c3
  rw [hsh]
  have s1 := hs.below hA1
  clear hs hb1 bx A bx1 hsh
  go_wp2_with fail
  refine (l2From_any b off cap ns t f l _ _ s1 hp).mono ?_
  rintro e w3 ⟨a3, c3, rfl, ho3, hb3⟩
  have H3 : Hid (w3.ownsRow w1.heap.size 3 1 (.slice a3 (fromTo ns (begQ ns t f l) 9).length c3) (fromTo ns (begQ ns t f l) 9).length ((fromTo ns (begQ ns t f l) 9).map (Value.int .i64)) ∧ Below w.heap.size w w3) := ⟨ho3, below_trans' hA1 hb3⟩
  clear ho3 hb3
  go_wp2
  go_ret
  exact ⟨a3, c3, rfl, own_mono H3.out.1 hA1.size, H3.out.2⟩

theorem specArnQueued_any (a : Option Addr) (n cap : Nat) (ns : List Nd) (t f l : Int) (w : World) (hs : SNodes w a n ns) (hn : n ≤ 1048576) :
    Calls Try.prog 56 #[.agg #[.slice a n cap, .int .i64 t, .int .i64 f, .int .i64 l]] w fun e w' => ListI (pathOf begQ ns t f l) e w w' := by
  cases hsh : shapeB ns t f l
  · have e : pathOf begQ ns t f l = [] := by simp [pathOf, hsh]
    rw [e]
    exact specArnQueued_bad a n cap ns t f l w hs (by omega) hsh
  · obtain ⟨hl, _, _, h4, h5, _⟩ := shapeB_parts hsh
    obtain ⟨rfl, b, off, rfl⟩ := snodes_some hs hl
    have e : pathOf begQ ns t f l = fromTo ns (begQ ns t f l) 9 := by simp [pathOf, hsh]
    rw [e]
    exact specArnQueued_ok b off cap ns t f l w hs hsh (inP_inB h5)

end Go.Proofs.Ytklpdpdjblakgaa

/- OkS -/
namespace Go.Proofs.Ytklpdpdjblakgaa
open Go.RowKit
set_option linter.unusedVariables false

/-- The place of a number. -/
def ndAt (ns : List Nd) (z : Int) : Nd := ns.getD z.toNat Nd.zero
/-- The number is one of some. -/
def hasB (zs : List Int) (x : Int) : Bool := zs.any (fun z => z == x)
/-- None of some is marked. -/
def bareB (ns : List Nd) (zs : List Int) : Bool := zs.all (fun z => !wMark (ndAt ns z).word)
/-- All of some are in use, and none of them stands among others. -/
def usedB (ns : List Nd) (zs os : List Int) : Bool := zs.all (fun z => (ndAt ns z).used && !hasB os z)
/-- The last of some leads to none. -/
def endB (ns : List Nd) (zs : List Int) : Bool := decide (zs.length = 0) || (nextN ns (zs.getD (zs.length - 1) 0) == 0)
/-- The queue's last one is that, or the one ahead of it. -/
def lastB (zs : List Int) (l : Int) : Bool := decide (0 < zs.length) && ((l == zs.getD (zs.length - 1) 0) || (decide (1 < zs.length) && (l == zs.getD (zs.length - 2) 0)))

theorem any_no {zs : List Int} {p : Int → Bool} (h : ∀ i, i < zs.length → p (zs.getD i 0) = false) : zs.any p = false := by
  rw [List.any_eq_false]
  intro x hx
  obtain ⟨i, hi, rfl⟩ := List.mem_iff_getElem.1 hx
  have := h i hi
  simpa [List.getD, hi] using this
theorem any_yes {zs : List Int} {p : Int → Bool} {i : Nat} (hi : i < zs.length) (h : p (zs.getD i 0) = true) : zs.any p = true := by
  rw [List.any_eq_true]
  exact ⟨zs[i], List.getElem_mem hi, by simpa [List.getD, hi] using h⟩
theorem all_yes {zs : List Int} {p : Int → Bool} (h : ∀ i, i < zs.length → p (zs.getD i 0) = true) : zs.all p = true := by
  rw [List.all_eq_true]
  intro x hx
  obtain ⟨i, hi, rfl⟩ := List.mem_iff_getElem.1 hx
  have := h i hi
  simpa [List.getD, hi] using this
theorem all_no {zs : List Int} {p : Int → Bool} {i : Nat} (hi : i < zs.length) (h : p (zs.getD i 0) = false) : zs.all p = false := by
  rw [List.all_eq_false]
  exact ⟨zs[i], List.getElem_mem hi, by simpa [List.getD, hi] using h⟩

set_option maxHeartbeats 800000 in
theorem l2Has_any (a : Option Addr) (n cap : Nat) (zs : List Int) (x : Int) (w : World) (hs : SInts w a n zs) (hn : n ≤ 1048576) :
    Calls Try.prog 93 #[.slice a n cap, .int .i64 x] w fun e w' => e = .returned (.bool (hasB zs x)) ∧ w' = w := by
  have HZ : Hid (zs.length = n) := hs.1
  go_enter Try.func93, Try.ntmps93
  go_wp2
  go_loop [5] (fun i => ∃ k : Nat, k ≤ n ∧ i = .int .i64 k ∧ ∀ j, j < k → (zs.getD j 0 == x) = false) (fun i => n - (intOf i).toNat)
  case atStart => exact ⟨0, Nat.zero_le _, rfl, fun j hj => by omega⟩
  case round =>
    obtain ⟨k, hk, rfl, hall0⟩ := hrel
    have hall : Hid (∀ j, j < k → (zs.getD j 0 == x) = false) := hall0
    clear hall0
    by_cases hlt : k < n
    · obtain ⟨hz, h0 | ⟨b, off, rfl, hc⟩⟩ := hs
      · omega
      · obtain ⟨y, hy⟩ : ∃ y, zs.getD k 0 = y := ⟨_, rfl⟩
        have h1 : w.cell? ⟨b, off + k, none⟩ = some (.int .i64 y) := by rw [← hy]; exact hc k hlt
        have HY : Hid (zs.getD k 0 = y) := hy
        clear hc hy hz
        cases he : (y == x)
        · go_wp2
          go_round
          case rel => exact ⟨k + 1, by omega, by go_num, fun j hj => by
            by_cases e : j = k
            · subst e; rw [HY.out]; exact he
            · exact hall.out j (by omega)⟩
          case measure => simp [intOf]; omega
        · go_wp2
          go_ret
          exact ⟨ret_bool (any_yes (i := k) (by rw [HZ.out]; exact hlt) (by rw [HY.out]; exact he)).symm, rfl⟩
    · obtain rfl : k = n := by omega
      clear hs
      go_wp2
      go_ret
      exact ⟨ret_bool (any_no (fun i hi => hall.out i (by rw [HZ.out] at hi; exact hi))).symm, rfl⟩

theorem BoxA.drew' {W : World} {b : Nat} {a : Option Addr} {n cap : Nat} {t f l : Int} (h : BoxA W b a n cap t f l) : BoxA W.drew b a n cap t f l := ⟨h.c0, h.c1, h.c2, h.c3⟩

/-- Some places. -/
def placesB (zs : List Int) : Prop := ∀ i, i < zs.length → 1 ≤ zs.getD i 0 ∧ zs.getD i 0 ≤ 9

set_option maxRecDepth 20000 in
set_option maxHeartbeats 2000000 in
theorem l2Bare_any (b off cap : Nat) (ns : List Nd) (t f l : Int) (a : Option Addr) (n c : Nat) (zs : List Int) (w : World) (hs : SNodes w (some ⟨b, off, none⟩) 10 ns) (hz : SInts w a n zs) (hn : n ≤ 1048576) (hp : placesB zs) :
    Calls Try.prog 73 #[.agg #[.slice (some ⟨b, off, none⟩) 10 cap, .int .i64 t, .int .i64 f, .int .i64 l], .slice a n c] w fun e w' => e = .returned (.bool (bareB ns zs)) ∧ Below w.heap.size w w' := by
  have HZ : Hid (zs.length = n) := hz.1
  have HP : Hid (placesB zs) := hp
  have A := al1 w (.cells #[.slice (some ⟨b, off, none⟩) 10 cap, .int .i64 t, .int .i64 f, .int .i64 l] 43)
  have I0 : Hid (Below w.heap.size w (w.alloc (.cells #[.slice (some ⟨b, off, none⟩) 10 cap, .int .i64 t, .int .i64 f, .int .i64 l] 43)) ∧ BoxA (w.alloc (.cells #[.slice (some ⟨b, off, none⟩) 10 cap, .int .i64 t, .int .i64 f, .int .i64 l] 43)) w.heap.size (some ⟨b, off, none⟩) 10 cap t f l) := ⟨A, boxA_new w _ _ _ _ _ _ 43 rfl⟩
  have HS : Hid (SNodes w (some ⟨b, off, none⟩) 10 ns ∧ SInts w a n zs) := ⟨hs, hz⟩
  clear A hs hz hp
  go_enter Try.func73, Try.ntmps73
  go_wp2
  go_loopw [5] (fun i wr => ∃ k : Nat, k ≤ n ∧ i = .int .i64 k ∧ Below w.heap.size w wr ∧ BoxA wr w.heap.size (some ⟨b, off, none⟩) 10 cap t f l ∧ ∀ j, j < k → (!wMark (ndAt ns (zs.getD j 0)).word) = true) (fun i _ => n - (intOf i).toNat)
  case atStart => exact ⟨0, Nat.zero_le _, rfl, I0.out.1, I0.out.2, fun j hj => by omega⟩
  case round =>
    obtain ⟨k, hk, rfl, hbel, hbox, hall0⟩ := hrel
    have hall : Hid (∀ j, j < k → (!wMark (ndAt ns (zs.getD j 0)).word) = true) := hall0
    clear hall0 I0
    by_cases hlt : k < n
    · obtain ⟨_, h0 | ⟨b', off', rfl, hc⟩⟩ := HS.out.2.below hbel
      · omega
      · obtain ⟨y, hy⟩ : ∃ y, zs.getD k 0 = y := ⟨_, rfl⟩
        have h1 : wr.cell? ⟨b', off' + k, none⟩ = some (.int .i64 y) := by rw [← hy]; exact hc k hlt
        have hyb := HP.out k (by rw [HZ.out]; exact hlt)
        rw [hy] at hyb
        obtain ⟨j, rfl⟩ : ∃ j : Nat, y = j := ⟨y.toNat, by omega⟩
        have hj : j < 10 := by omega
        obtain ⟨b2, off2, ⟨x0, x1, x2, x3, x4, x5⟩, eab, hx, hN⟩ := (HS.out.1.below hbel).at hj
        cases eab
        have n2 := hN.c2
        dsimp only at n2
        have c0 := hbox.c0
        have HM : Hid ((ndAt ns (zs.getD k 0)).word = x2) := by show _ = _; rw [hy]; simp [ndAt, List.getD, hx]
        have HB : Hid (Below w.heap.size w wr ∧ BoxA wr w.heap.size (some ⟨b, off, none⟩) 10 cap t f l) := ⟨hbel, hbox⟩
        clear hc hy hN hx hyb hbox hbel
        go_wp2
        go_region_held (fun w' => w'.cell? ⟨w.heap.size, 0, none⟩ = some (.slice (some ⟨b, off, none⟩) 10 cap) ∧ w'.cell? ⟨b', off' + k, none⟩ = some (.int .i64 (j : Int)) ∧ w'.cell? ⟨b, off + j * 6 + 2, none⟩ = some (.int .i64 x2)) (go_keep) (first | (go_at_call 53; refine (specWrdMark_any _ _).mono ?_; rintro e w' ⟨rfl, rfl⟩))
        cases hm : wMark x2
        · go_wp2
          go_roundw
          case rel => exact ⟨k + 1, by omega, by go_num, HB.out.1.drew, HB.out.2.drew', fun j2 hj2 => by
            by_cases e : j2 = k
            · subst e; rw [HM.out, hm]; rfl
            · exact hall.out j2 (by omega)⟩
          case measure => simp [intOf]; omega
        · go_wp2
          go_ret
          exact ⟨ret_bool (all_no (i := k) (by rw [HZ.out]; exact hlt) (by rw [HM.out, hm]; rfl)).symm, HB.out.1.drew⟩
    · obtain rfl : k = n := by omega
      clear hbox
      go_wp2
      go_ret
      exact ⟨ret_bool (all_yes (fun i hi => hall.out i (by rw [HZ.out] at hi; exact hi))).symm, hbel⟩

end Go.Proofs.Ytklpdpdjblakgaa

/- OkS2 -/
namespace Go.Proofs.Ytklpdpdjblakgaa
open Go.RowKit
set_option linter.unusedVariables false

theorem below_drewN (B : Nat) (w : World) (n : Nat) : Below B w (w.drewN n) := ⟨rfl, rfl, rfl, Nat.le_refl _, fun _ _ => rfl⟩

theorem wrap_in64 {x : Int} (h0 : -9223372036854775808 ≤ x) (h1 : x ≤ 9223372036854775807) : IntKind.i64.wrap x = x := Go.IntWalk.i64_in x ⟨h0, h1⟩

set_option maxRecDepth 20000 in
set_option maxHeartbeats 1000000 in
theorem l2Last_any (b off cap : Nat) (ns : List Nd) (t f l : Int) (a : Option Addr) (n c : Nat) (zs : List Int) (w : World) (hz : SInts w a n zs) (hn : n ≤ 1048576) :
    Calls Try.prog 74 #[.agg #[.slice (some ⟨b, off, none⟩) 10 cap, .int .i64 t, .int .i64 f, .int .i64 l], .slice a n c] w fun e w' => e = .returned (.bool (lastB zs l)) ∧ Below w.heap.size w w' := by
  have HZ : Hid (zs.length = n) := hz.1
  have A := al1 w (.cells #[.slice (some ⟨b, off, none⟩) 10 cap, .int .i64 t, .int .i64 f, .int .i64 l] 43)
  have bx := boxA_new w (some ⟨b, off, none⟩) 10 cap t f l 43 rfl
  have c3 := bx.c3
  by_cases h0 : n = 0
  · subst h0
    have e : lastB zs l = false := by simp [lastB, HZ.out]
    rw [e]
    clear hz bx
    go_enter Try.func74, Try.ntmps74
    go_wp2
    go_quiet (fail)
    go_wp2
    go_ret
    exact ⟨rfl, below_trans' A (below_drewN _ _ _)⟩
  · obtain ⟨_, h | ⟨b', off', rfl, hc⟩⟩ := hz.below A
    · omega
    · obtain ⟨y, hy⟩ : ∃ y, zs.getD (n - 1) 0 = y := ⟨_, rfl⟩
      have h1 := hc (n - 1) (by omega)
      rw [hy] at h1
      have hpos : (0 : Int) < (n : Int) := by omega
      have hd0 : decide (0 < n) = true := decide_eq_true (by omega)
      obtain ⟨m, hm⟩ : ∃ m : Nat, n - 1 = m := ⟨_, rfl⟩
      have wm : IntKind.i64.wrap ((n : Int) - 1) = (m : Int) := by rw [wrap_in64 (by omega) (by omega)]; omega
      have w0 : IntKind.i64.wrap 0 = 0 := rfl
      have hmn : (m : Int) < (n : Int) := by omega
      rw [hm] at h1 hy
      cases hl : (l == y)
      · by_cases hn1 : n = 1
        · subst hn1
          obtain rfl : m = 0 := by omega
          rw [Nat.add_zero] at h1
          have e : lastB zs l = false := by
            unfold lastB
            rw [HZ.out]
            show (decide (0 < 1) && ((l == zs.getD 0 0) || (decide (1 < 1) && _))) = false
            rw [hy, hl]
            rfl
          rw [e]
          clear hz bx hc hy
          go_enter Try.func74, Try.ntmps74
          go_wp2
          go_quiet (fail)
          go_wp2
          go_ret
          exact ⟨rfl, below_trans' A (below_drewN _ _ _)⟩
        · obtain ⟨z, hz2⟩ : ∃ z, zs.getD (n - 2) 0 = z := ⟨_, rfl⟩
          have h2 := hc (n - 2) (by omega)
          rw [hz2] at h2
          obtain ⟨m2, hm2⟩ : ∃ m2 : Nat, n - 2 = m2 := ⟨_, rfl⟩
          have wm2 : IntKind.i64.wrap ((n : Int) - 2) = (m2 : Int) := by rw [wrap_in64 (by omega) (by omega)]; omega
          have hmn2 : (m2 : Int) < (n : Int) := by omega
          rw [hm2] at h2 hz2
          have hpos2 : (1 : Int) < (n : Int) := by omega
          have hd1 : decide (1 < n) = true := decide_eq_true (by omega)
          have e : lastB zs l = (l == z) := by
            unfold lastB
            rw [HZ.out, hm, hm2, hy, hz2, hl, decide_eq_true (show 0 < n by omega), decide_eq_true (show 1 < n by omega)]
            rfl
          rw [e]
          clear hz bx hc hy
          go_enter Try.func74, Try.ntmps74
          go_wp2
          go_quiet (fail)
          go_wp2
          go_ret
          exact ⟨rfl, below_trans' A (below_drewN _ _ _)⟩
      · have e : lastB zs l = true := by
          unfold lastB
          rw [HZ.out, hm, hy, hl, decide_eq_true (show 0 < n by omega)]
          rfl
        rw [e]
        clear hz bx hc hy
        go_enter Try.func74, Try.ntmps74
        go_wp2
        go_quiet (fail)
        go_wp2
        go_ret
        exact ⟨rfl, below_trans' A (below_drewN _ _ _)⟩

end Go.Proofs.Ytklpdpdjblakgaa

/- OkS3 -/
namespace Go.Proofs.Ytklpdpdjblakgaa
open Go.RowKit
set_option linter.unusedVariables false

theorem usedB_yes {ns : List Nd} {zs os : List Int} (h : ∀ i, i < zs.length → ((ndAt ns (zs.getD i 0)).used && !hasB os (zs.getD i 0)) = true) : usedB ns zs os = true := all_yes h
theorem usedB_no {ns : List Nd} {zs os : List Int} {i : Nat} (hi : i < zs.length) (h : ((ndAt ns (zs.getD i 0)).used && !hasB os (zs.getD i 0)) = false) : usedB ns zs os = false := all_no hi h

set_option maxRecDepth 20000 in
set_option maxHeartbeats 2000000 in
theorem l2Ends_any (b off cap : Nat) (ns : List Nd) (t f l : Int) (a : Option Addr) (n c : Nat) (zs : List Int) (a2 : Option Addr) (n2 c2 : Nat) (os : List Int) (w : World) (hs : SNodes w (some ⟨b, off, none⟩) 10 ns) (hz : SInts w a n zs) (ho : SInts w a2 n2 os) (hn : n ≤ 1048576) (hn2 : n2 ≤ 1048576) (hp : placesB zs) :
    Calls Try.prog 72 #[.agg #[.slice (some ⟨b, off, none⟩) 10 cap, .int .i64 t, .int .i64 f, .int .i64 l], .slice a n c, .slice a2 n2 c2] w fun e w' => e = .returned (.bool (usedB ns zs os && endB ns zs)) ∧ Below w.heap.size w w' := by
  have HZ : Hid (zs.length = n) := hz.1
  have HP : Hid (placesB zs) := hp
  have A := al1 w (.cells #[.slice (some ⟨b, off, none⟩) 10 cap, .int .i64 t, .int .i64 f, .int .i64 l] 43)
  have I0 : Hid (Below w.heap.size w (w.alloc (.cells #[.slice (some ⟨b, off, none⟩) 10 cap, .int .i64 t, .int .i64 f, .int .i64 l] 43)) ∧ BoxA (w.alloc (.cells #[.slice (some ⟨b, off, none⟩) 10 cap, .int .i64 t, .int .i64 f, .int .i64 l] 43)) w.heap.size (some ⟨b, off, none⟩) 10 cap t f l) := ⟨A, boxA_new w _ _ _ _ _ _ 43 rfl⟩
  have HS : Hid (SNodes w (some ⟨b, off, none⟩) 10 ns ∧ SInts w a n zs ∧ SInts w a2 n2 os) := ⟨hs, hz, ho⟩
  clear A hs hz hp ho
  go_enter Try.func72, Try.ntmps72
  go_wp2
  go_loopw [7] (fun i wr => ∃ k : Nat, k ≤ n ∧ i = .int .i64 k ∧ Below w.heap.size w wr ∧ BoxA wr w.heap.size (some ⟨b, off, none⟩) 10 cap t f l ∧ ∀ j, j < k → ((ndAt ns (zs.getD j 0)).used && !hasB os (zs.getD j 0)) = true) (fun i _ => n - (intOf i).toNat)
  case atStart => exact ⟨0, Nat.zero_le _, rfl, I0.out.1, I0.out.2, fun j hj => by omega⟩
  case round =>
    obtain ⟨k, hk, rfl, hbel, hbox, hall0⟩ := hrel
    have hall : Hid (∀ j, j < k → ((ndAt ns (zs.getD j 0)).used && !hasB os (zs.getD j 0)) = true) := hall0
    clear hall0 I0
    have c0 := hbox.c0
    by_cases hlt : k < n
    · obtain ⟨_, h0 | ⟨b', off', rfl, hc⟩⟩ := HS.out.2.1.below hbel
      · omega
      · obtain ⟨y, hy⟩ : ∃ y, zs.getD k 0 = y := ⟨_, rfl⟩
        have h1 : wr.cell? ⟨b', off' + k, none⟩ = some (.int .i64 y) := by rw [← hy]; exact hc k hlt
        have hyb := HP.out k (by rw [HZ.out]; exact hlt)
        rw [hy] at hyb
        obtain ⟨j, rfl⟩ : ∃ j : Nat, y = j := ⟨y.toNat, by omega⟩
        have hj : j < 10 := by omega
        obtain ⟨b2, off2, ⟨x0, x1, x2, x3, x4, x5⟩, eab, hx, hN⟩ := (HS.out.1.below hbel).at hj
        cases eab
        have n4 := hN.c4
        dsimp only at n4
        have HM : Hid ((ndAt ns (zs.getD k 0)).used = x4 ∧ zs.getD k 0 = (j : Int)) := ⟨by rw [hy]; simp [ndAt, List.getD, hx], hy⟩
        have HB : Hid (Below w.heap.size w wr ∧ BoxA wr w.heap.size (some ⟨b, off, none⟩) 10 cap t f l) := ⟨hbel, hbox⟩
        have HO : Hid (SInts wr.drew a2 n2 os) := (HS.out.2.2.below hbel).below (Below.refl _ _).drew
        clear hc hy hN hx hyb hbox hbel
        cases x4
        · go_wp2
          go_quiet (fail)
          go_wp2
          go_ret
          exact ⟨ret_bool (by rw [usedB_no (i := k) (by rw [HZ.out]; exact hlt) (by rw [HM.out.1]; rfl)]; rfl), below_trans' HB.out.1 (below_drewN _ _ _)⟩
        · go_wp2
          go_region_held (fun w' => w'.cell? ⟨w.heap.size, 0, none⟩ = some (.slice (some ⟨b, off, none⟩) 10 cap) ∧ w'.cell? ⟨b', off' + k, none⟩ = some (.int .i64 (j : Int)) ∧ w'.cell? ⟨b, off + j * 6 + 4, none⟩ = some (.bool true)) (go_keep) (first | (go_at_call 93; refine (l2Has_any _ _ _ os _ _ HO.out hn2).mono ?_; rintro e w' ⟨rfl, rfl⟩))
          cases hm : hasB os (j : Int)
          · go_wp2
            go_roundw
            case rel => exact ⟨k + 1, by omega, by go_num, HB.out.1.drew, HB.out.2.drew', fun j2 hj2 => by
              by_cases e : j2 = k
              · subst e; rw [HM.out.1, HM.out.2, hm]; rfl
              · exact hall.out j2 (by omega)⟩
            case measure => simp [intOf]; omega
          · go_wp2
            go_ret
            exact ⟨ret_bool (by rw [usedB_no (i := k) (by rw [HZ.out]; exact hlt) (by rw [HM.out.1, HM.out.2, hm]; rfl)]; rfl), HB.out.1.drew⟩
    · obtain rfl : k = n := by omega
      have HU : Hid (usedB ns zs os = true) := usedB_yes (fun i hi => hall.out i (by rw [HZ.out] at hi; exact hi))
      by_cases hk0 : k = 0
      · subst hk0
        clear hbox
        go_wp2
        go_quiet (fail)
        go_wp2
        go_ret
        exact ⟨ret_bool (by rw [HU.out]; simp [endB, HZ.out]), below_trans' hbel (below_drewN _ _ _)⟩
      · obtain ⟨_, h0 | ⟨b', off', rfl, hc⟩⟩ := HS.out.2.1.below hbel
        · omega
        · obtain ⟨m, hm⟩ : ∃ m : Nat, k - 1 = m := ⟨_, rfl⟩
          obtain ⟨y, hy⟩ : ∃ y, zs.getD m 0 = y := ⟨_, rfl⟩
          have h1 : wr.cell? ⟨b', off' + m, none⟩ = some (.int .i64 y) := by rw [← hy]; exact hc m (by omega)
          have hyb := HP.out m (by rw [HZ.out]; omega)
          rw [hy] at hyb
          obtain ⟨j, rfl⟩ : ∃ j : Nat, y = j := ⟨y.toNat, by omega⟩
          have hj : j < 10 := by omega
          obtain ⟨b2, off2, ⟨x0, x1, x2, x3, x4, x5⟩, eab, hx, hN⟩ := (HS.out.1.below hbel).at hj
          cases eab
          have n2 := hN.c2
          dsimp only at n2
          have HE : Hid (endB ns zs = (wTo x2 == 0)) := by
            show _ = _
            unfold endB
            rw [HZ.out, hm, hy, decide_eq_false hk0]
            simp [nextN, List.getD, hx]
          have wm : IntKind.i64.wrap ((k : Int) - 1) = (m : Int) := by rw [wrap_in64 (by omega) (by omega)]; omega
          have hmk : (m : Int) < (k : Int) := by omega
          have hz : ((k : Int) == 0) = false := by simp; omega
          have HB : Hid (Below w.heap.size w wr) := hbel
          clear hc hy hN hx hyb hbox hbel hk0 hm
          go_wp2
          go_region_held (fun w' => w'.cell? ⟨w.heap.size, 0, none⟩ = some (.slice (some ⟨b, off, none⟩) 10 cap) ∧ w'.cell? ⟨b', off' + m, none⟩ = some (.int .i64 (j : Int)) ∧ w'.cell? ⟨b, off + j * 6 + 2, none⟩ = some (.int .i64 x2)) (go_keep) (first | (go_at_call 76; refine (specWrdTo_any _ _).mono ?_; rintro e w' ⟨rfl, rfl⟩))
          go_wp2
          go_ret
          exact ⟨ret_bool (by rw [HU.out, HE.out]; rfl), HB.out.drew⟩

end Go.Proofs.Ytklpdpdjblakgaa

/- OkS4 -/
namespace Go.Proofs.Ytklpdpdjblakgaa
open Go.RowKit
set_option linter.unusedVariables false

theorem fromTo_places (ns : List Nd) {p : Int} (h : inB p 9 = true) (k : Nat) : ∀ z ∈ fromTo ns p k, 1 ≤ z ∧ z ≤ 9 := by
  induction k with
  | zero => intro z hz; simp [fromTo] at hz
  | succ k ih =>
    intro z hz
    unfold fromTo at hz
    split at hz
    · exact ih z hz
    · rename_i h0
      rcases List.mem_append.1 hz with hz | hz
      · exact ih z hz
      · simp at hz
        have := stepK_bounds ns h k
        subst hz
        omega
theorem placesB_of {zs : List Int} (h : ∀ z ∈ zs, 1 ≤ z ∧ z ≤ 9) : placesB zs := by
  intro i hi
  have := h _ (List.getElem_mem hi)
  simpa [List.getD, hi] using this
theorem path_places {p : List Nd → Int → Int → Int → Int} {ns : List Nd} {t f l : Int} (hp : inB (p ns t f l) 9 = true) : placesB (pathOf p ns t f l) ∧ (pathOf p ns t f l).length ≤ 9 := by
  unfold pathOf
  split
  · exact ⟨placesB_of (fromTo_places ns hp 9), fromTo_len _ _ _⟩
  · exact ⟨fun i hi => by simp at hi, by simp⟩

/-- Keys rise along places. -/
def riseB (ns : List Nd) (zs : List Int) : Bool := (List.range (zs.length - 1)).all fun k => decide ((ndAt ns (zs.getD k 0)).key < (ndAt ns (zs.getD (k + 1) 0)).key)
theorem riseB_yes {ns : List Nd} {zs : List Int} (h : ∀ k, k < zs.length - 1 → (ndAt ns (zs.getD k 0)).key < (ndAt ns (zs.getD (k + 1) 0)).key) : riseB ns zs = true := by
  unfold riseB
  rw [List.all_eq_true]
  intro k hk
  exact decide_eq_true (h k (List.mem_range.1 hk))
theorem riseB_no {ns : List Nd} {zs : List Int} {k : Nat} (hk : k < zs.length - 1) (h : ¬ (ndAt ns (zs.getD k 0)).key < (ndAt ns (zs.getD (k + 1) 0)).key) : riseB ns zs = false := by
  unfold riseB
  rw [List.all_eq_false]
  exact ⟨k, List.mem_range.2 hk, by simpa using h⟩

/-- All are in use, none among others, and the last leads to none. -/
def endsB (ns : List Nd) (zs os : List Int) : Bool := usedB ns zs os && endB ns zs
/-- What ArnOk asks of three lists. -/
def okL3 (ns : List Nd) (l : Int) (C S Q : List Int) : Bool := endsB ns C [] && (endsB ns S C && (endsB ns Q (C ++ S) && (bareB ns S && (bareB ns Q && (lastB Q l && riseB ns C)))))
/-- Places are ok. -/
def okA (ns : List Nd) (t f l : Int) : Bool := shapeB ns t f l && okL3 ns l (pathOf begC ns t f l) (pathOf begS ns t f l) (pathOf begQ ns t f l)

/-- An append of numbers onto numbers of one's own, as one step of a region that draws. -/
theorem step_append_ints {ops : Array Oper} {o : Oper} {a : Act} {w : World} {K : Act → World → Prop} {Q : Exit → Act → World → Prop} {E : Prop}
    (hw : Region.wanted o (yielded ops a.tmps) = true) (s x : Operand) (hop : o.op = Op.call { callee := Callee.builtin Builtin.append, args := #[s, x], argTypes := #[37, 37] })
    (base : Nat) (aa : Option Addr) (n c : Nat) (ys : List Int) (hs : a.eval s = .slice aa n c) (hown : w.ownsRow base 3 1 (.slice aa n c) n (ys.map (Value.int .i64)))
    (ad : Option Addr) (m c2 : Nat) (zs : List Int) (hx : a.eval x = .slice ad m c2) (hz : SInts w ad m zs) (hn : n ≤ 1048576) (hm : m ≤ 1048576) (hbase : base ≤ w.heap.size)
    (hK : ∀ a' c' w', w'.ownsRow base 3 1 (.slice a' (n + m) c') (n + m) ((ys ++ zs).map (Value.int .i64)) → Below base w w' → K (a.put o.dst (.slice a' (n + m) c')) w') :
    if Region.wanted o (yielded ops a.tmps) = true then Oper.wp Try.prog o a w K Q else E := by
  obtain ⟨i0, hi, hz0, hz1, hz2⟩ := info_parts Try.info3
  rw [if_pos hw]
  unfold Oper.wp
  have hr : ∀ k, (Value.slice aa n c).ownBlock = some k → base ≤ k := by
    intro k hk
    exact (hown.lt k hk).1
  cases ad with
  | none =>
    obtain ⟨hl, h0 | ⟨b, off, e, _⟩⟩ := hz
    · subst h0
      have e : zs = [] := List.eq_nil_of_length_eq_zero hl
      subst e
      have hrun := run_append_none (P := Try.prog) w base 37 o.type 3 i0 1 Try.underlying37 hi (.slice aa n c) n c2 _ hown
      simp [execOp, hop, resolve, invoke, builtin, hs, hx, hrun, Result.andThen]
      have := hK aa c w (by simpa using hown) (Below.refl _ _)
      simp only [Nat.add_zero] at this
      exact this
    · cases e
  | some ad =>
    have hsrc := hz.src_take (f := m) (Nat.le_refl _)
    have hlen : zs.length = m := hz.1
    have hc : ∀ j u, (zs.map (Value.int .i64))[j]? = some u → w.cell? (ad.add j) = some u := by
      rcases hsrc with rfl | ⟨ad', e1, h⟩
      · intro j u hj
        rw [List.eq_nil_of_length_eq_zero hlen] at hj
        simp at hj
      · cases e1
        rw [List.take_of_length_le (by omega)] at h
        exact h
    obtain ⟨v', w', hrun, r1, r2, _⟩ := run_append_own (P := Try.prog) w base 37 o.type 3 i0 (.int .i64 0) 1 8 Try.underlying37 hi hz0 hz1 hz2 rfl (by decide) _ n _ hown ad m c2 (zs.map (Value.int .i64)) (by simp [hlen]) hc (ints_oneCell _ _) (by unfold maxLen; omega) (by omega) hbase
    simp [execOp, hop, resolve, invoke, builtin, hs, hx, hrun, Result.andThen]
    have r1' := r1
    rcases r1.2 with ⟨rfl, e⟩ | ⟨g, cap, cur, rfl, _⟩
    · rw [e] at r1' 
      have := hK none 0 w' (by rw [e]; simpa using r1') ((Below.refl _ _).grown r2 hbase hr)
      rw [e] at this
      exact this
    · exact hK (some ⟨g, 0, none⟩) cap w' (by simpa using r1) ((Below.refl _ _).grown r2 hbase hr)

end Go.Proofs.Ytklpdpdjblakgaa
