/- Contracts of the tests of the shape, of the specification's and of the program's. -/
import Derived.Test.YtbjgepcbbonceaaShape
namespace Go.Proofs.Ytbjgepcbbonceaa
open Go.RowKit
set_option linter.unusedVariables false

theorem all_okN {ns : List Nd} (h : ∀ (j : Nat) x, ns[j]? = some x → okN x = true) : ns.all okN = true := by
  rw [List.all_eq_true]
  intro x hx
  obtain ⟨i, hi, rfl⟩ := List.mem_iff_getElem.1 hx
  exact h i _ (List.getElem?_eq_getElem hi)
theorem not_all_okN {ns : List Nd} {k : Nat} {x : Nd} (h : ns[k]? = some x) (hx : okN x = false) : ns.all okN = false := by
  rw [List.all_eq_false]
  exact ⟨x, List.mem_of_getElem? h, by simp [hx]⟩
theorem shapeB_len {ns : List Nd} (t f l : Int) (h : ¬ ns.length = 10) : shapeB ns t f l = false := by simp [shapeB, h]
theorem shapeB_head {ns : List Nd} {x : Nd} (t f l : Int) (h : ns[0]? = some x) (hx : headN x = false) : shapeB ns t f l = false := by simp [shapeB, List.getD, h, hx]
theorem shapeB_ok {ns : List Nd} (t f l : Int) {k : Nat} {x : Nd} (h : ns[k]? = some x) (hx : okN x = false) : shapeB ns t f l = false := by simp [shapeB, not_all_okN h hx]
theorem shapeB_yes {ns : List Nd} {t f l : Int} (h1 : ns.length = 10) (h2 : headN (ns.getD 0 Nd.zero) = true) (h3 : ns.all okN = true) (h4 : inB t 9 = true) (h5 : inP f = true) (h6 : inP l = true) : shapeB ns t f l = true := by
  unfold shapeB
  rw [h2, h3, h4, h5, h6]
  simp [h1]
theorem shapeB_parts {ns : List Nd} {t f l : Int} (h : shapeB ns t f l = true) : ns.length = 10 ∧ headN (ns.getD 0 Nd.zero) = true ∧ (∀ (j : Nat) x, ns[j]? = some x → okN x = true) ∧ inB t 9 = true ∧ inP f = true ∧ inP l = true := by
  simp only [shapeB, Bool.and_eq_true, decide_eq_true_eq] at h
  obtain ⟨h1, h2, h3, h4, h5, h6⟩ := h
  refine ⟨h1, h2, fun j x hx => ?_, h4, h5, h6⟩
  rw [List.all_eq_true] at h3
  exact h3 x (List.mem_of_getElem? hx)

set_option maxHeartbeats 1000000 in
theorem l2Shape_head (b off cap : Nat) (ns : List Nd) (t f l : Int) (w : World) (k v o r : Int) (u : Bool) (g : Int) (hx : ns[0]? = some ⟨k, v, o, r, u, g⟩) (hN : NodeAt w b off ⟨k, v, o, r, u, g⟩) (hh : headN ⟨k, v, o, r, u, g⟩ = false) :
    Calls Try.prog 18 #[.agg #[.slice (some ⟨b, off, none⟩) 10 cap, .int .i64 t, .int .i64 f, .int .i64 l]] w fun e w' => e = .returned (.bool (shapeB ns t f l)) ∧ Below w.heap.size w w' := by
  rw [shapeB_head t f l hx hh]
  have hM := hN.below (al1 w (.cells #[.slice (some ⟨b, off, none⟩) 10 cap, .int .i64 t, .int .i64 f, .int .i64 l] 28))
  have n0 := hM.c0
  have n1 := hM.c1
  have n2 := hM.c2
  have n4 := hM.c4
  have n5 := hM.c5
  dsimp only at n0 n1 n2 n4 n5
  clear hM hN hx
  cases u
  · go_enter Try.func18, Try.ntmps18
    go_wp2
    go_ret
    exact ⟨rfl, al1 _ _⟩
  · skip
    by_cases hg : g = 0
    rotate_left
    · have hg' : (g == 0) = false := by simpa using hg
      go_enter Try.func18, Try.ntmps18
      go_wp2
      go_ret
      exact ⟨rfl, al1 _ _⟩
    · subst hg
      by_cases hk : k = 0
      rotate_left
      · have hk' : (k == 0) = false := by simpa using hk
        go_enter Try.func18, Try.ntmps18
        go_wp2
        go_ret
        exact ⟨rfl, al1 _ _⟩
      · subst hk
        by_cases hv : v = 0
        rotate_left
        · have hv' : (v == 0) = false := by simpa using hv
          go_enter Try.func18, Try.ntmps18
          go_wp2
          go_ret
          exact ⟨rfl, al1 _ _⟩
        · subst hv
          have hm : wMark o = true := by simpa [headN] using hh
          clear hh
          go_enter Try.func18, Try.ntmps18
          go_wp2_with (go_at_call 20; refine (specWrdMark_any _ _).mono ?_; rintro e w' ⟨rfl, rfl⟩)
          go_ret
          exact ⟨rfl, al1 _ _⟩

set_option maxHeartbeats 2000000 in
theorem l2Shape_any (a : Option Addr) (n cap : Nat) (ns : List Nd) (t f l : Int) (w : World) (hs : SNodes w a n ns) (hn : n ≤ 9223372036854775807) :
    Calls Try.prog 18 #[.agg #[.slice a n cap, .int .i64 t, .int .i64 f, .int .i64 l]] w fun e w' => e = .returned (.bool (shapeB ns t f l)) ∧ Below w.heap.size w w' := by
  by_cases h10 : n = 10
  rotate_left
  · have h10' : ((n : Int) == 10) = false := by simp; omega
    rw [shapeB_len t f l (by rw [hs.1]; exact h10)]
    clear hs
    go_enter Try.func18, Try.ntmps18
    go_wp2
    go_ret
    exact ⟨rfl, al1 _ _⟩
  · subst h10
    obtain ⟨b, off, ⟨k, v, o, r, u, g⟩, rfl, hx, hN⟩ := hs.at (k := 0) (by omega)
    rw [Nat.zero_mul, Nat.add_zero] at hN
    cases hh : headN ⟨k, v, o, r, u, g⟩
    · exact l2Shape_head b off cap ns t f l w k v o r u g hx hN hh
    · have hh2 := hh
      simp only [headN, Bool.and_eq_true, beq_iff_eq, Bool.not_eq_true'] at hh2
      obtain ⟨rfl, rfl, rfl, rfl, hm⟩ := hh2
      have A := al1 w (.cells #[.slice (some ⟨b, off, none⟩) 10 cap, .int .i64 t, .int .i64 f, .int .i64 l] 28)
      have bx0 := boxA_new w (some ⟨b, off, none⟩) 10 cap t f l 28 rfl
      have hM := hN.below A
      have n0 := hM.c0
      have n1 := hM.c1
      have n2 := hM.c2
      have n4 := hM.c4
      have n5 := hM.c5
      dsimp only at n0 n1 n2 n4 n5
      have HH : Hid (headN (ns.getD 0 Nd.zero) = true) := by show _ = _; simp only [List.getD, hx]; exact hh
      have HS : Hid (SNodes w (some ⟨b, off, none⟩) 10 ns) := hs
      have HA : Hid (Below w.heap.size w (w.alloc (.cells #[.slice (some ⟨b, off, none⟩) 10 cap, .int .i64 t, .int .i64 f, .int .i64 l] 28)) ∧ BoxA (w.alloc (.cells #[.slice (some ⟨b, off, none⟩) 10 cap, .int .i64 t, .int .i64 f, .int .i64 l] 28)) w.heap.size (some ⟨b, off, none⟩) 10 cap t f l) := ⟨A, bx0⟩
      clear hM hN hx hh hs A bx0
      go_enter Try.func18, Try.ntmps18
      go_wp2_with (go_at_call 20; refine (specWrdMark_any _ _).mono ?_; rintro e w' ⟨rfl, rfl⟩)
      clear n0 n1 n2 n4 n5
      go_loopw [3] (fun i wr => ∃ k : Nat, k ≤ 10 ∧ i = .int .i64 k ∧ Below w.heap.size w wr ∧ BoxA wr w.heap.size (some ⟨b, off, none⟩) 10 cap t f l ∧ ∀ (j : Nat) x, j < k → ns[j]? = some x → okN x = true) (fun i _ => 10 - (intOf i).toNat)
      case atStart => exact ⟨0, by omega, rfl, HA.out.1, HA.out.2, fun j x hj => by omega⟩
      case round =>
        obtain ⟨k, hk, rfl, hbel, hbox, hall0⟩ := hrel
        have hall : Hid (∀ (j : Nat) x, j < k → ns[j]? = some x → okN x = true) := hall0
        have c0 := hbox.c0
        clear hall0
        by_cases hlt : k < 10
        · obtain ⟨b2, off2, ⟨x0, x1, x2, x3, x4, x5⟩, eab, hx, hN⟩ := (HS.out.below hbel).at hlt
          cases eab
          have n0 := hN.c0
          have n1 := hN.c1
          have n2 := hN.c2
          have n3 := hN.c3
          have n4 := hN.c4
          have n5 := hN.c5
          dsimp only at n0 n1 n2 n3 n4 n5
          have HX : Hid (ns[k]? = some ⟨x0, x1, x2, x3, x4, x5⟩) := hx
          clear hx hN
          go_wp2_with fail
          refine (l2Node_any _ _ _ _ _ _ _).mono ?_
          rintro e w1 ⟨rfl, hb1⟩
          have hb2 := below_trans' hbel hb1
          have bx2 := hbox.below hb1
          clear n0 n1 n2 n3 n4 n5 hb1 c0 hbox hbel
          cases hok : okN ⟨x0, x1, x2, x3, x4, x5⟩
          · go_wp2
            go_ret
            exact ⟨ret_bool (shapeB_ok t f l HX.out hok).symm, hb2⟩
          · go_wp2
            go_roundw
            case rel => exact ⟨k + 1, by omega, by go_num, hb2, bx2, fun j x hj hx => by
              by_cases e : j = k
              · subst e; rw [HX.out] at hx; cases hx; exact hok
              · exact hall.out j x (by omega) hx⟩
            case measure => simp [intOf]; omega
        · obtain rfl : k = 10 := by omega
          have c1 := hbox.c1
          have c2 := hbox.c2
          have c3 := hbox.c3
          have HAll : Hid (ns.all okN = true) := all_okN (fun j x hx => hall.out j x (by have := (List.getElem?_eq_some_iff.1 hx).1; have := HS.out.1; omega) hx)
          have HL : Hid (ns.length = 10) := HS.out.1
          clear hbox hall HS HA
          have et : Hid (inR t 0 9 = inB t 9 ∧ inR f 1 9 = inP f ∧ inR l 1 9 = inP l) := ⟨rfl, rfl, rfl⟩
          cases ht : inR t 0 9
          · go_wp2_with (go_at_call 19; refine (l1InR_any _ _ _ _).mono ?_; rintro e w' ⟨rfl, rfl⟩)
            go_ret
            exact ⟨ret_bool (by simp [shapeB, ← et.out.1, ht]), hbel⟩
          · cases hf : inR f 1 9
            · go_wp2_with (go_at_call 19; refine (l1InR_any _ _ _ _).mono ?_; rintro e w' ⟨rfl, rfl⟩)
              go_ret
              exact ⟨ret_bool (by simp [shapeB, ← et.out.2.1, hf]), hbel⟩
            · cases hl : inR l 1 9
              · go_wp2_with (go_at_call 19; refine (l1InR_any _ _ _ _).mono ?_; rintro e w' ⟨rfl, rfl⟩)
                go_ret
                exact ⟨ret_bool (by simp [shapeB, ← et.out.2.2, hl]), hbel⟩
              · go_wp2_with (go_at_call 19; refine (l1InR_any _ _ _ _).mono ?_; rintro e w' ⟨rfl, rfl⟩)
                go_ret
                exact ⟨ret_bool (shapeB_yes HL.out HH.out HAll.out ht hf hl).symm, hbel⟩

set_option maxHeartbeats 2000000 in
theorem shaped_any (a : Option Addr) (n cap : Nat) (ns : List Nd) (t f l : Int) (w : World) (hs : SNodes w a n ns) (hn : n ≤ 9223372036854775807) :
    Calls Try.prog 23 #[.agg #[.slice a n cap, .int .i64 t, .int .i64 f, .int .i64 l]] w fun e w' => e = .returned (.bool (shapeB ns t f l)) ∧ Below w.heap.size w w' := by
  by_cases h10 : n = 10
  rotate_left
  · have h10' : ((n : Int) == 10) = false := by simp; omega
    rw [shapeB_len t f l (by rw [hs.1]; exact h10)]
    clear hs
    go_enter Try.func23, Try.ntmps23
    go_wp2
    go_ret
    exact ⟨rfl, al1 _ _⟩
  · subst h10
    obtain ⟨b, off, ⟨k, v, o, r, u, g⟩, rfl, hx, hN⟩ := hs.at (k := 0) (by omega)
    rw [Nat.zero_mul, Nat.add_zero] at hN
    have A := al1 w (.cells #[.slice (some ⟨b, off, none⟩) 10 cap, .int .i64 t, .int .i64 f, .int .i64 l] 28)
    have bx0 := boxA_new w (some ⟨b, off, none⟩) 10 cap t f l 28 rfl
    have hM := hN.below A
    have n0 := hM.c0
    have n1 := hM.c1
    have n2 := hM.c2
    have n3 := hM.c3
    have n4 := hM.c4
    have n5 := hM.c5
    dsimp only at n0 n1 n2 n3 n4 n5
    have HX : Hid (ns[0]? = some ⟨k, v, o, r, u, g⟩) := hx
    have HS : Hid (SNodes w (some ⟨b, off, none⟩) 10 ns) := hs
    have HA : Hid (Below w.heap.size w (w.alloc (.cells #[.slice (some ⟨b, off, none⟩) 10 cap, .int .i64 t, .int .i64 f, .int .i64 l] 28)) ∧ BoxA (w.alloc (.cells #[.slice (some ⟨b, off, none⟩) 10 cap, .int .i64 t, .int .i64 f, .int .i64 l] 28)) w.heap.size (some ⟨b, off, none⟩) 10 cap t f l) := ⟨A, bx0⟩
    clear hM hN hx hs A bx0
    go_enter Try.func23, Try.ntmps23
    go_wp2_with fail
    refine (isHead_any _ _ _ _ _ _ _).mono ?_
    rintro e w1 ⟨rfl, hb1⟩
    have hbel := below_trans' HA.out.1 hb1
    have hbox := HA.out.2.below hb1
    have c0 := hbox.c0
    have c1 := hbox.c1
    have c2 := hbox.c2
    have c3 := hbox.c3
    clear hb1 n0 n1 n2 n3 n4 n5 HA
    cases hh : headN ⟨k, v, o, r, u, g⟩
    · go_wp2
      go_ret
      exact ⟨ret_bool (shapeB_head t f l HX.out hh).symm, hbel⟩
    · have HH : Hid (headN (ns.getD 0 Nd.zero) = true) := by show _ = _; simp only [List.getD, HX.out]; exact hh
      clear hh HX
      cases ht : inB t 9
      · go_wp2_with (go_at_call 24; refine (within_any _ _ _).mono ?_; rintro e w' ⟨rfl, rfl⟩)
        go_ret
        exact ⟨ret_bool (by simp [shapeB, ht]), hbel⟩
      · cases hf : inP f
        · go_wp2_with (first | (go_at_call 24; refine (within_any _ _ _).mono ?_; rintro e w' ⟨rfl, rfl⟩) | (go_at_call 37; refine (isPlace_any _ _).mono ?_; rintro e w' ⟨rfl, rfl⟩))
          go_ret
          exact ⟨ret_bool (by simp [shapeB, hf]), hbel⟩
        · cases hl : inP l
          · go_wp2_with (first | (go_at_call 24; refine (within_any _ _ _).mono ?_; rintro e w' ⟨rfl, rfl⟩) | (go_at_call 37; refine (isPlace_any _ _).mono ?_; rintro e w' ⟨rfl, rfl⟩))
            go_ret
            exact ⟨ret_bool (by simp [shapeB, hl]), hbel⟩
          · have HT : Hid (inB t 9 = true ∧ inP f = true ∧ inP l = true) := ⟨ht, hf, hl⟩
            have HBB : Hid (Below w.heap.size w w1) := hbel
            go_wp2_with (first | (go_at_call 24; refine (within_any _ _ _).mono ?_; rintro e w' ⟨rfl, rfl⟩) | (go_at_call 37; refine (isPlace_any _ _).mono ?_; rintro e w' ⟨rfl, rfl⟩))
            clear ht hf hl c0 c1 c2 c3
            go_loopw [4, 36] (fun _ i wr => ∃ k : Nat, k ≤ 10 ∧ i = .int .i64 k ∧ Below w.heap.size w wr ∧ BoxA wr w.heap.size (some ⟨b, off, none⟩) 10 cap t f l ∧ ∀ (j : Nat) x, j < k → ns[j]? = some x → okN x = true) (fun _ i _ => 10 - (intOf i).toNat)
            case atStart => exact ⟨0, by omega, rfl, hbel, hbox, fun j x hj => by omega⟩
            case round =>
              clear hbel hbox
              obtain ⟨k, hk, rfl, hbel, hbox, hall0⟩ := hrel
              have hall : Hid (∀ (j : Nat) x, j < k → ns[j]? = some x → okN x = true) := hall0
              clear hall0
              by_cases hlt : k < 10
              · obtain ⟨b2, off2, ⟨x0, x1, x2, x3, x4, x5⟩, eab, hx, hN⟩ := (HS.out.below hbel).at hlt
                cases eab
                have n0 := hN.c0
                have n1 := hN.c1
                have n2 := hN.c2
                have n3 := hN.c3
                have n4 := hN.c4
                have n5 := hN.c5
                dsimp only at n0 n1 n2 n3 n4 n5
                have HX : Hid (ns[k]? = some ⟨x0, x1, x2, x3, x4, x5⟩) := hx
                have HBx : Hid (Below w.heap.size w (wr.alloc (.cells #[.int .i64 x0, .int .i64 x1, .int .i64 x2, .int .i64 x3, .bool x4, .int .i64 x5] 46)) ∧ BoxA (wr.alloc (.cells #[.int .i64 x0, .int .i64 x1, .int .i64 x2, .int .i64 x3, .bool x4, .int .i64 x5] 46)) w.heap.size (some ⟨b, off, none⟩) 10 cap t f l) := ⟨below_trans' hbel (al1 _ _), hbox.below (al1 _ _)⟩
                clear hx hN hbel hbox
                go_wp2_with fail
                refine (inBounds_any _ _ _ _ _ _ _).mono ?_
                rintro e w2 ⟨rfl, hb1⟩
                have hb2 := below_trans' HBx.out.1 hb1
                have bx2 := HBx.out.2.below hb1
                clear n0 n1 n2 n3 n4 n5 hb1 HBx
                cases hok : okN ⟨x0, x1, x2, x3, x4, x5⟩
                · go_wp2
                  go_ret
                  exact ⟨ret_bool (shapeB_ok t f l HX.out hok).symm, hb2⟩
                · go_wp2
                  go_roundw
                  case rel => exact ⟨k + 1, by omega, by go_num, hb2, bx2, fun j x hj hx => by
                    by_cases e : j = k
                    · subst e; rw [HX.out] at hx; cases hx; exact hok
                    · exact hall.out j x (by omega) hx⟩
                  case measure => simp [intOf]; omega
              · obtain rfl : k = 10 := by omega
                have HAll : Hid (ns.all okN = true) := all_okN (fun j x hx => hall.out j x (by have := (List.getElem?_eq_some_iff.1 hx).1; have := HS.out.1; omega) hx)
                have HL : Hid (ns.length = 10) := HS.out.1
                clear hbox hall HS
                go_wp2
                go_ret
                exact ⟨ret_bool (shapeB_yes HL.out HH.out HAll.out HT.out.1 HT.out.2.1 HT.out.2.2).symm, hbel⟩

end Go.Proofs.Ytbjgepcbbonceaa
