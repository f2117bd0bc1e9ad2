/- The program's PolOk. -/
import Derived.Test.YtcffoehldohooaaOutI
import Derived.Test.YtcffoehldohooaaPokS
namespace Go.Proofs.Ytcffoehldohooaa
open Go.RowKit
set_option linter.unusedVariables false

theorem withinR_any (x hi : Int) (w : World) : Calls Try.prog 29 #[.int .i64 x, .int .i64 hi] w fun e w' => e = .returned (.bool (inR x 0 hi)) ∧ w' = w := within_any x hi w
theorem isPlaceR_any (x : Int) (w : World) : Calls Try.prog 57 #[.int .i64 x] w fun e w' => e = .returned (.bool (inR x 1 9)) ∧ w' = w := isPlace_any x w

set_option maxHeartbeats 800000 in
theorem pinsInBounds_any (E : Int) (pa : Option Addr) (np pc : Nat) (la : Option Addr) (nl lc : Nat) (ps : List Int) (w : World) (hp : SInts w pa np ps) (h1 : np ≤ 1048576) (hE : 0 ≤ E ∧ E ≤ 100000) :
    Calls Try.prog 51 #[.agg #[.int .i64 E, .slice pa np pc, .slice la nl lc]] w fun e w' => e = .returned (.bool (ps.all (fun p => inR p 0 (E + 1)))) ∧ Below w.heap.size w w' := by
  have A := al1 w (.cells #[.int .i64 E, .slice pa np pc, .slice la nl lc] 38)
  have bx := boxP_new w E pa np pc la nl lc 38 rfl
  have HS : Hid (SInts w pa np ps ∧ ps.length = np) := ⟨hp, hp.1⟩
  have I0 : Hid (Below w.heap.size w (w.alloc (.cells #[.int .i64 E, .slice pa np pc, .slice la nl lc] 38)) ∧ BoxP (w.alloc (.cells #[.int .i64 E, .slice pa np pc, .slice la nl lc] 38)) w.heap.size E pa np pc la nl lc) := ⟨A, bx⟩
  clear hp A bx
  go_enter Try.func51, Try.ntmps51
  go_wp2
  go_loopw [4, 8] (fun _ i wr => ∃ k : Nat, k ≤ np ∧ i = .int .i64 k ∧ (Below w.heap.size w wr ∧ BoxP wr w.heap.size E pa np pc la nl lc) ∧ ∀ i, i < k → inR (ps.getD i 0) 0 (E + 1) = true) (fun _ i _ => np - (intOf i).toNat)
  case atStart => exact ⟨0, Nat.zero_le _, rfl, I0.out, fun i hi => by omega⟩
  case round =>
    obtain ⟨k, hk, rfl, I, G⟩ := hrel
    have HI : Hid ((Below w.heap.size w wr ∧ BoxP wr w.heap.size E pa np pc la nl lc) ∧ ∀ i, i < k → inR (ps.getD i 0) 0 (E + 1) = true) := ⟨I, G⟩
    clear I G I0
    by_cases hlt : k < np
    · obtain ⟨_, h0 | ⟨b, off, rfl, hc⟩⟩ := HS.out.1.below HI.out.1.1
      · omega
      · obtain ⟨p, hpp⟩ : ∃ p, ps.getD k 0 = p := ⟨_, rfl⟩
        have cp : wr.cell? ⟨b, off + k, none⟩ = some (.int .i64 p) := by rw [← hpp]; exact hc k hlt
        have c0 := HI.out.1.2.c0
        have HP : Hid (ps.getD k 0 = p) := hpp
        clear hc hpp
        cases hpin : inR p 0 (E + 1)
        · go_wp2_with (go_at_call 29; refine (withinR_any _ _ _).mono ?_; rintro e w' ⟨rfl, rfl⟩; rw [hpin])
          go_ret
          exact ⟨ret_bool (all_no (i := k) (by rw [HS.out.2]; exact hlt) (by rw [HP.out]; exact hpin)).symm, HI.out.1.1⟩
        · go_wp2_with (go_at_call 29; refine (withinR_any _ _ _).mono ?_; rintro e w' ⟨rfl, rfl⟩; rw [hpin])
          go_roundw
          case rel => exact ⟨k + 1, by omega, by go_num, HI.out.1, fun i hi => by
            by_cases e : i = k
            · subst e; rw [HP.out]; exact hpin
            · exact HI.out.2 i (by omega)⟩
          case measure => simp [intOf]; omega
    · obtain rfl : k = np := by omega
      go_wp2
      go_ret
      exact ⟨ret_bool (all_yes (fun i hi => HI.out.2 i (by rw [HS.out.2] at hi; exact hi))).symm, HI.out.1.1⟩

set_option maxHeartbeats 800000 in
theorem inBoundsO_any (x y E : Int) (w : World) :
    Calls Try.prog 66 #[.agg #[.int .i64 x, .int .i64 y], .int .i64 E] w fun e w' => e = .returned (.bool (okOld E (x, y))) ∧ Below w.heap.size w w' := by
  have A := al1 w (.cells #[.int .i64 x, .int .i64 y] 63)
  cases hA : inR x 1 9
  · have e : okOld E (x, y) = false := by simp [okOld, hA]
    rw [e]
    go_enter Try.func66, Try.ntmps66
    go_wp2_with (go_at_call 57; refine (isPlaceR_any _ _).mono ?_; rintro e w' ⟨rfl, rfl⟩; rw [hA])
    go_ret
    exact ⟨rfl, A⟩
  · have e : okOld E (x, y) = inR y 0 E := by simp [okOld, hA]
    rw [e]
    go_enter Try.func66, Try.ntmps66
    go_wp2_with (first | (go_at_call 57; refine (isPlaceR_any _ _).mono ?_; rintro e w' ⟨rfl, rfl⟩; rw [hA]) | (go_at_call 29; refine (withinR_any _ _ _).mono ?_; rintro e w' ⟨rfl, rfl⟩))
    go_ret
    exact ⟨rfl, A⟩

set_option maxRecDepth 20000 in
set_option maxHeartbeats 4000000 in
theorem outInBounds_any (E : Int) (pa : Option Addr) (np pc : Nat) (la : Option Addr) (nl lc : Nat) (oss : List (List Od)) (w : World) (hs : SLimbo w la nl oss) (h2 : nl ≤ 1048576) (h3 : sumL oss ≤ 1048576) :
    Calls Try.prog 52 #[.agg #[.int .i64 E, .slice pa np pc, .slice la nl lc]] w fun e w' => e = .returned (.bool (oss.all (fun os => os.all (okOld E)))) ∧ Below w.heap.size w w' := by
  have A := al1 w (.cells #[.int .i64 E, .slice pa np pc, .slice la nl lc] 38)
  have bx := boxP_new w E pa np pc la nl lc 38 rfl
  have HZ : Hid (sumL oss ≤ 1048576 ∧ oss.length = nl) := ⟨h3, hs.1⟩
  go_enter Try.func52, Try.ntmps52
  go_wp2_with fail
  refine (rings_any _ _ _ _ _ _ _ oss _ (hs.below A) h2 h3).mono ?_
  rintro e w1 ⟨g, hg1, hg2, rfl, hR, hb1⟩
  have HR : Hid (SRings w1 g nl oss ∧ Below w.heap.size w w1 ∧ BoxP w1 w.heap.size E pa np pc la nl lc) := ⟨hR, below_trans' A hb1, bx.below hb1⟩
  clear hs h3 A hb1 hR hg1 hg2 bx
  go_wp2
  go_loopw [4, 5, 9] (fun _ _ i wr => ∃ k : Nat, k ≤ nl ∧ i = .int .i64 k ∧ Below w1.heap.size w1 wr ∧ (oss.take k).all (fun os => os.all (okOld E)) = true) (fun _ _ i _ => nl - (intOf i).toNat)
  case atStart => exact ⟨0, Nat.zero_le _, rfl, Below.refl _ _, by simp⟩
  case round =>
    obtain ⟨k, hk, rfl, I, G⟩ := hrel
    have HI : Hid (Below w1.heap.size w1 wr ∧ (oss.take k).all (fun os => os.all (okOld E)) = true) := ⟨I, G⟩
    clear I G
    by_cases hlt : k < nl
    · obtain ⟨os, ho⟩ : ∃ os, oss[k]? = some os := ⟨_, List.getElem?_eq_getElem (by rw [HZ.out.2]; exact hlt)⟩
      obtain ⟨gi, q0, q1, q2, hO, hgi⟩ := (HR.out.1.below HI.out.1).2 k os ho
      have HGI : Hid (SOlds w1 (some ⟨gi, 0, none⟩) os.length os ∧ gi < w1.heap.size) := by
        obtain ⟨gi', k0, _, _, k3, k4⟩ := HR.out.1.2 k os ho
        have e := (cell_kept HI.out.1 k0).symm.trans q0
        simp at e
        subst e
        exact ⟨k3, k4⟩
      have HO : Hid (oss[k]? = some os) := ho
      obtain ⟨n, e⟩ : ∃ n, os.length = n := ⟨_, rfl⟩
      have HN : Hid (os.length = n ∧ n ≤ 1048576) := ⟨e, by have := sumL_mem ho; have := HZ.out.1; omega⟩
      have hn1 := HN.out.2
      rw [e] at q0 q2
      have J0 : Hid (TakeAt w1 wr.heap.size gi n 0 (wr.alloc (.cells #[.slice (some ⟨gi, 0, none⟩) n n, .int .i64 0, .int .i64 n] 78))) := by
        refine ⟨below_trans' HI.out.1 (al1 _ _), ?_, HI.out.1.size⟩
        have := ringAt_new wr gi n 0 n rfl
        simpa using this
      have HG : Hid ((oss.take k).all (fun os => os.all (okOld E)) = true) := HI.out.2
      clear hO ho e hgi
      go_wp2
      obtain ⟨r, hr⟩ : ∃ r, wr.heap.size = r := ⟨_, rfl⟩
      rw [hr] at J0 ⊢
      clear hr HI q0 q1 q2
      go_loopw [5] (fun _ wr => ∃ j : Nat, j ≤ n ∧ TakeAt w1 r gi n j wr ∧ (os.take j).all (okOld E) = true) (fun _ wr => ringLeft wr r)
      case atStart => exact ⟨0, Nat.zero_le _, J0.out, by simp⟩
      case round =>
        obtain ⟨j, hj, T, G⟩ := hrel
        clear J0
        have HT : Hid (TakeAt w1 r gi n j wr ∧ (os.take j).all (okOld E) = true) := ⟨T, G⟩
        have c2 := T.ring.c2
        by_cases hlt2 : j < n
        · obtain ⟨hO, hgi⟩ := HGI.out
          rw [HN.out.1] at hO
          obtain ⟨b2, off2, x, y, eb, hx, x0, x1⟩ := (hO.below T.bel).at hlt2
          cases eb
          rw [Nat.zero_add] at x0 x1
          have emod : j % n = j := Nat.mod_eq_of_lt hlt2
          have HTK : Hid (RingAt wr r gi n ((j % n : Nat) : Int) ((n : Int) - (j : Int)) ∧ wr.cell? ⟨gi, (j % n) * 2, none⟩ = some (.int .i64 x) ∧ wr.cell? ⟨gi, (j % n) * 2 + 1, none⟩ = some (.int .i64 y) ∧ r ≠ gi) := ⟨T.ring, by rw [emod]; exact x0, by rw [emod]; exact x1, by have := T.up; omega⟩
          have hml : j % n < n := by omega
          have HX : Hid (os[j]? = some (x, y)) := hx
          clear T G hO hx x0 x1 emod hgi
          go_wp2_with fail
          refine (take_any r gi n (j % n) ((n : Int) - (j : Int)) x y _ HTK.out.1 hml hn1 (by omega) (by omega) HTK.out.2.1 HTK.out.2.2.1 HTK.out.2.2.2).mono ?_
          rintro e w2 ⟨rfl, hr2, hg2⟩
          have HT2 : Hid (TakeAt w1 r gi n (j + 1) (w2.alloc (.cells #[.int .i64 x, .int .i64 y] 63))) := by
            have h : TakeAt w1 r gi n (j + 1) w2 := ⟨HT.out.1.bel.grown hg2 HT.out.1.bel.size (fun k e => by cases e; exact HT.out.1.up), by
              rw [mod_next hlt2] at hr2
              have e : (n : Int) - (j : Int) - 1 = (n : Int) - ((j + 1 : Nat) : Int) := by omega
              rw [e] at hr2
              exact hr2, HT.out.1.up⟩
            exact ⟨below_trans' h.bel (al1 _ _), h.ring.below (al1 _ _), h.up⟩
          have p0 := (HR.out.2.2.below HT2.out.bel).c0
          clear hr2 hg2 HTK c2
          cases hok : okOld E (x, y)
          · go_wp2_with fail
            refine (inBoundsO_any _ _ _ _).mono ?_
            rintro e w3 ⟨rfl, hb3⟩
            rw [hok]
            have hB := below_trans' HT2.out.bel hb3
            clear hb3 p0
            go_wp2
            go_ret
            refine ⟨ret_bool ?_, below_trans' HR.out.2.1 hB⟩
            symm
            rw [List.all_eq_false]
            refine ⟨os, List.mem_of_getElem? HO.out, ?_⟩
            have : os.all (okOld E) = false := by
              rw [List.all_eq_false]
              exact ⟨(x, y), List.mem_of_getElem? HX.out, by simp [hok]⟩
            simp [this]
          · go_wp2_with fail
            refine (inBoundsO_any _ _ _ _).mono ?_
            rintro e w3 ⟨rfl, hb3⟩
            rw [hok]
            have HT3 : Hid (TakeAt w1 r gi n (j + 1) w3) := ⟨below_trans' HT2.out.bel hb3, HT2.out.ring.below hb3, HT2.out.up⟩
            have HG3 : Hid ((os.take (j + 1)).all (okOld E) = true) := by
              show _ = _
              rw [take_one HX.out, List.all_append, HT.out.2]
              simp [hok]
            have ML : Hid (ringLeft w3 r < ringLeft wr r) := by
              show _ < _
              rw [HT3.out.left, HT.out.1.left]
              omega
            clear hb3 p0
            go_wp2
            go_roundw
            case rel => exact ⟨j + 1, by omega, HT3.out, HG3.out⟩
            case measure => exact ML.out
        · obtain rfl : j = n := by omega
          have HJ : Hid (Below w1.heap.size w1 wr ∧ (oss.take (k + 1)).all (fun os => os.all (okOld E)) = true) := by
            refine ⟨HT.out.1.bel, ?_⟩
            have h := HT.out.2
            rw [List.take_of_length_le (by rw [HN.out.1]; exact Nat.le_refl _)] at h
            rw [take_one HO.out, List.all_append, HG.out]
            simpa using h
          clear T G
          rw [Int.sub_self] at c2
          go_wp2
          go_roundw
          case rel => exact ⟨k + 1, by omega, by go_num, HJ.out.1, HJ.out.2⟩
          case measure => simp [intOf]; omega
    · obtain rfl : k = nl := by omega
      go_wp2
      go_ret
      have h := HI.out.2
      rw [List.take_of_length_le (by rw [HZ.out.2]; exact Nat.le_refl _)] at h
      exact ⟨ret_bool h.symm, below_trans' HR.out.2.1 HI.out.1⟩

end Go.Proofs.Ytcffoehldohooaa
