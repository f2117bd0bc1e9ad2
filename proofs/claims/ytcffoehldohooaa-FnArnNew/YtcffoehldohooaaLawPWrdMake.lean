/- For every two slices of bytes the law FnWrdMake answers true and leaves its arguments as they were. No condition. -/
import Derived.Test.YtcffoehldohooaaDrawW
import Derived.Test.YtcffoehldohooaaWord
import Derived.Test.YtcffoehldohooaaMapOk
import Derived.Test.YtcffoehldohooaaFrame
namespace Go.Proofs.Ytcffoehldohooaa
open Go.ChangeShapes Go.WideShapes Go.ChangeAt Go.RowKit
set_option linter.unusedVariables false

theorem Try.cells5 : Try.prog.cellsOf 5 = 1 := by kernel_rfl

/-- What the reading of an argument tells of a slice of bytes. -/
theorem sbytes_of_open {H : Type} {enc : TypeId × Value → H} {W : World} {a0 : Option Addr} {len0 cap0 : Nat} {d0 : DataW H} {p0 : List MemPlace}
    (h0 : DataW.Trod enc Try.prog W 0 (fun _ => true) true 22 (.slice a0 len0 cap0) d0 p0) : SBytes W a0 len0 ∧ len0 ≤ cap0 ∧ len0 ≤ 9223372036854775807 := by
  obtain ⟨fuel, hf⟩ := h0
  rcases open_ints Try.underlying22 Try.underlying5 Try.cells5 hf with ⟨hcs, _⟩ | ⟨x, l, c, zs, hcs, _, hl, hm, hz, _, hcell, hwz⟩
  · simp [Value.cells] at hcs
    obtain ⟨rfl, rfl, rfl⟩ := hcs
    exact ⟨.inl rfl, Nat.le_refl _, by omega⟩
  · simp [Value.cells] at hcs
    obtain ⟨rfl, rfl, rfl⟩ := hcs
    unfold maxLen at hm
    refine ⟨?_, hl, by omega⟩
    by_cases h0 : len0 = 0
    · exact .inl h0
    · obtain ⟨b, off, spot⟩ := x
      have hc := hcell 0 (by simp at hz; omega)
      have hspot : spot = none := by simpa [Addr.add] using World.cell?_spot hc
      subst hspot
      refine .inr ⟨b, off, rfl, fun i hi => ?_⟩
      have := hcell i (by simp at hz; omega)
      rw [Addr.add_lit] at this
      have hb := range_u8 hwz i
      rw [List.getD_eq_getElem?_getD] at this
      exact ⟨_, by omega, by omega, this⟩

set_option maxHeartbeats 400000 in
theorem tgOk_any (w : World) : Calls Try.prog 13 #[] w fun e w' => e = .returned (.bool true) ∧ Below w.heap.size w w' := by
  have e0 : okM [] 0 = true := by decide
  go_enter Try.func13, Try.ntmps13
  go_wp2_with fail
  refine (implMapOk_any none 0 0 [] w ⟨rfl, .inl rfl⟩ (by omega)).mono ?_
  rintro e w1 ⟨rfl, hb⟩
  rw [e0]
  go_wp2
  go_ret
  exact ⟨rfl, hb⟩

theorem make_of {u : Int} (h0 : 0 ≤ u) (h1 : u ≤ 19) : wMake (wTo u) (wMark u) = u := by
  have e1 : inB u 19 = true := by simp [inB, h0, h1]
  have e2 : inB (u / 2) 9 = true := by simp [inB]; omega
  unfold wMake wTo wMark
  rw [e1]
  simp only [if_true, Bool.true_and, e2]
  by_cases h : u % 2 = 1
  · simp [h]; omega
  · have h2 : (u % 2 == 1) = false := by simpa using h
    simp [h2]; omega
theorem to_make {x : Int} (m : Bool) (h0 : 0 ≤ x) (h1 : x ≤ 9) : wTo (wMake x m) = x ∧ wMark (wMake x m) = m := by
  have e1 : inB x 9 = true := by simp [inB, h0, h1]
  unfold wMake
  rw [e1]
  cases m
  · have e2 : inB (2 * x) 19 = true := by simp [inB]; omega
    simp only [if_true, Bool.false_eq_true, if_false, wTo, wMark, e2, Bool.true_and]
    refine ⟨by omega, ?_⟩
    simp
  · have e2 : inB (2 * x + 1) 19 = true := by simp [inB]; omega
    simp only [if_true, wTo, wMark, e2, Bool.true_and]
    refine ⟨by omega, ?_⟩
    simp
theorem make_out {x : Int} (m : Bool) (h : ¬ (0 ≤ x ∧ x ≤ 9)) : wMake x m = 0 := by
  have e1 : inB x 9 = false := by simp [inB]; omega
  unfold wMake
  rw [e1]
  rfl

set_option maxRecDepth 20000 in
set_option maxHeartbeats 4000000 in
theorem wrdMake_walk (a : Option Addr) (n cap : Nat) (a' : Option Addr) (n' cap' : Nat) (w : World) (hs : SBytes w a n) (hs' : SBytes w a' n') (hc : n ≤ cap) (hc' : n' ≤ cap') (hm : n ≤ 9223372036854775807) (hm' : n' ≤ 9223372036854775807) :
    Calls Try.prog 3 #[.slice a n cap, .slice a' n' cap'] w fun e w' => e = .returned (.bool true) ∧ Below w.heap.size w w' := by
  by_cases hn : n ≤ 1048576
  · have hni : ¬ (1048576 : Int) < (n : Int) := by omega
    by_cases hn2 : n' ≤ 1048576
    · have hni2 : ¬ (1048576 : Int) < (n' : Int) := by omega
      go_enter Try.func3, Try.ntmps3
      go_wp2_with fail
      refine (drawWrdMake_any a n cap w hs hc hn).mono ?_
      rintro e w1 ⟨x, mk, rfl, hb1⟩
      go_wp2_with fail
      refine (drawWrdTo_any a' n' cap' w1 (sbytes_below hs' hb1) hc' hn2).mono ?_
      rintro e w2 ⟨u, rfl, hb2⟩
      have HB : Hid (Below w.heap.size w w2) := below_trans' hb1 hb2
      clear hb1 hb2 hs hs'
      obtain ⟨M, hM⟩ : ∃ M, wMake x mk = M := ⟨_, rfl⟩
      have HM : Hid (wMake x mk = M) := hM
      go_wp2_with fail
      refine (implWrdMake_any x mk _).mono ?_
      rintro e w3 ⟨rfl, rfl⟩
      rw [hM]
      go_wp2_with fail
      refine (specWrdMake_any x mk _).mono ?_
      rintro e w4 ⟨rfl, rfl⟩
      rw [hM]
      clear hM
      go_wp2_with fail
      refine (implWrdTo_any u _).mono ?_
      rintro e w5 ⟨rfl, rfl⟩
      obtain ⟨T, hT⟩ : ∃ T, wTo u = T := ⟨_, rfl⟩
      have HT : Hid (wTo u = T) := hT
      rw [hT]
      go_wp2_with fail
      refine (specWrdTo_any u _).mono ?_
      rintro e w6 ⟨rfl, rfl⟩
      rw [hT]
      clear hT
      go_wp2_with fail
      refine (implWrdMark_any u _).mono ?_
      rintro e w7 ⟨rfl, rfl⟩
      obtain ⟨K, hK⟩ : ∃ K, wMark u = K := ⟨_, rfl⟩
      have HK : Hid (wMark u = K) := hK
      rw [hK]
      go_wp2_with fail
      refine (specWrdMark_any u _).mono ?_
      rintro e w8 ⟨rfl, rfl⟩
      rw [hK]
      clear hK
      by_cases hu : 0 ≤ u ∧ u ≤ 19
      · obtain ⟨hu0, hu1⟩ := hu
        go_wp2_with fail
        refine (implWrdTo_any u _).mono ?_
        rintro e w9 ⟨rfl, rfl⟩
        rw [HT.out]
        go_wp2_with fail
        refine (implWrdMark_any u _).mono ?_
        rintro e w10 ⟨rfl, rfl⟩
        rw [HK.out]
        go_wp2_with fail
        refine (implWrdMake_any T K _).mono ?_
        rintro e w11 ⟨rfl, rfl⟩
        have e9 : wMake T K = u := by rw [← HT.out, ← HK.out]; exact make_of hu0 hu1
        rw [e9]
        clear e9
        by_cases hx : 0 ≤ x ∧ x ≤ 9
        · obtain ⟨hx0, hx1⟩ := hx
          have hx2 : ¬ x < 0 := by omega
          have hx3 : ¬ 9 < x := by omega
          go_wp2_with fail
          refine (implWrdTo_any M _).mono ?_
          rintro e w12 ⟨rfl, rfl⟩
          have e12 : wTo M = x := by rw [← HM.out]; exact (to_make mk hx0 hx1).1
          rw [e12]
          clear e12
          go_wp2_with fail
          refine (implWrdMark_any M _).mono ?_
          rintro e w13 ⟨rfl, rfl⟩
          have e13 : wMark M = mk := by rw [← HM.out]; exact (to_make mk hx0 hx1).2
          rw [e13]
          clear e13
          go_wp2_with fail
          refine (tgOk_any _).mono ?_
          rintro e w14 ⟨rfl, hb14⟩
          have HB2 : Hid (Below w.heap.size w w14) := below_trans' HB.out hb14
          clear hb14
          go_wp2
          go_ret
          exact ⟨rfl, HB2.out⟩
        · have e0 : M = 0 := by rw [← HM.out]; exact make_out mk hx
          subst e0
          have hx' : x < 0 ∨ 9 < x := by omega
          rcases hx' with hx' | hx'
          · go_wp2_with fail
            refine (tgOk_any _).mono ?_
            rintro e w14 ⟨rfl, hb14⟩
            have HB2 : Hid (Below w.heap.size w w14) := below_trans' HB.out hb14
            clear hb14
            go_wp2
            go_ret
            exact ⟨rfl, HB2.out⟩
          · have hx2 : ¬ x < 0 := by omega
            go_wp2_with fail
            refine (tgOk_any _).mono ?_
            rintro e w14 ⟨rfl, hb14⟩
            have HB2 : Hid (Below w.heap.size w w14) := below_trans' HB.out hb14
            clear hb14
            go_wp2
            go_ret
            exact ⟨rfl, HB2.out⟩
      · have hu' : u < 0 ∨ 19 < u := by omega
        rcases hu' with hu' | hu'
        · have hu2 : ¬ 0 ≤ u := by omega
          by_cases hx : 0 ≤ x ∧ x ≤ 9
          · obtain ⟨hx0, hx1⟩ := hx
            have hx2 : ¬ x < 0 := by omega
            have hx3 : ¬ 9 < x := by omega
            go_wp2_with fail
            refine (implWrdTo_any M _).mono ?_
            rintro e w12 ⟨rfl, rfl⟩
            have e12 : wTo M = x := by rw [← HM.out]; exact (to_make mk hx0 hx1).1
            rw [e12]
            clear e12
            go_wp2_with fail
            refine (implWrdMark_any M _).mono ?_
            rintro e w13 ⟨rfl, rfl⟩
            have e13 : wMark M = mk := by rw [← HM.out]; exact (to_make mk hx0 hx1).2
            rw [e13]
            clear e13
            go_wp2_with fail
            refine (tgOk_any _).mono ?_
            rintro e w14 ⟨rfl, hb14⟩
            have HB2 : Hid (Below w.heap.size w w14) := below_trans' HB.out hb14
            clear hb14
            go_wp2
            go_ret
            exact ⟨rfl, HB2.out⟩
          · have e0 : M = 0 := by rw [← HM.out]; exact make_out mk hx
            subst e0
            have hx' : x < 0 ∨ 9 < x := by omega
            rcases hx' with hx' | hx'
            · go_wp2_with fail
              refine (tgOk_any _).mono ?_
              rintro e w14 ⟨rfl, hb14⟩
              have HB2 : Hid (Below w.heap.size w w14) := below_trans' HB.out hb14
              clear hb14
              go_wp2
              go_ret
              exact ⟨rfl, HB2.out⟩
            · have hx2 : ¬ x < 0 := by omega
              go_wp2_with fail
              refine (tgOk_any _).mono ?_
              rintro e w14 ⟨rfl, hb14⟩
              have HB2 : Hid (Below w.heap.size w w14) := below_trans' HB.out hb14
              clear hb14
              go_wp2
              go_ret
              exact ⟨rfl, HB2.out⟩
        · have hu2 : 0 ≤ u := by omega
          have hu3 : ¬ u ≤ 19 := by omega
          by_cases hx : 0 ≤ x ∧ x ≤ 9
          · obtain ⟨hx0, hx1⟩ := hx
            have hx2 : ¬ x < 0 := by omega
            have hx3 : ¬ 9 < x := by omega
            go_wp2_with fail
            refine (implWrdTo_any M _).mono ?_
            rintro e w12 ⟨rfl, rfl⟩
            have e12 : wTo M = x := by rw [← HM.out]; exact (to_make mk hx0 hx1).1
            rw [e12]
            clear e12
            go_wp2_with fail
            refine (implWrdMark_any M _).mono ?_
            rintro e w13 ⟨rfl, rfl⟩
            have e13 : wMark M = mk := by rw [← HM.out]; exact (to_make mk hx0 hx1).2
            rw [e13]
            clear e13
            go_wp2_with fail
            refine (tgOk_any _).mono ?_
            rintro e w14 ⟨rfl, hb14⟩
            have HB2 : Hid (Below w.heap.size w w14) := below_trans' HB.out hb14
            clear hb14
            go_wp2
            go_ret
            exact ⟨rfl, HB2.out⟩
          · have e0 : M = 0 := by rw [← HM.out]; exact make_out mk hx
            subst e0
            have hx' : x < 0 ∨ 9 < x := by omega
            rcases hx' with hx' | hx'
            · go_wp2_with fail
              refine (tgOk_any _).mono ?_
              rintro e w14 ⟨rfl, hb14⟩
              have HB2 : Hid (Below w.heap.size w w14) := below_trans' HB.out hb14
              clear hb14
              go_wp2
              go_ret
              exact ⟨rfl, HB2.out⟩
            · have hx2 : ¬ x < 0 := by omega
              go_wp2_with fail
              refine (tgOk_any _).mono ?_
              rintro e w14 ⟨rfl, hb14⟩
              have HB2 : Hid (Below w.heap.size w w14) := below_trans' HB.out hb14
              clear hb14
              go_wp2
              go_ret
              exact ⟨rfl, HB2.out⟩
    · have hni2 : (1048576 : Int) < (n' : Int) := by omega
      clear hs hs'
      go_enter Try.func3, Try.ntmps3
      go_wp2
      go_ret
      exact ⟨rfl, Below.refl _ _⟩
  · have hni : (1048576 : Int) < (n : Int) := by omega
    clear hs hs'
    go_enter Try.func3, Try.ntmps3
    go_wp2
    go_ret
    exact ⟨rfl, Below.refl _ _⟩

set_option maxRecDepth 100000 in
theorem wrdMake_lifted (os : Os) (started : os.Started) (H : Type) (enc : TypeId × Value → H) :
    ReturnsInHanded {} Try.checked os 3 .any (Rows.fnWrdMakeSpec.pre6 enc Try.prog Try.f3 Rows.fnWrdMakeRow.domain false) (Rows.fnWrdMakeSpec.post enc Try.prog Try.f3 false true false false) := by
  refine returnsInHanded_of_change (C := Try.checked) own started (by kernel_rfl) Try.func3
    (ChangeSpec.witness6 (enc := enc) (C := Try.checked) false ⟨#[], #[.slice none 0 0, .slice none 0 0], []⟩ 8 (by kernel_rfl) (by kernel_rfl) (by kernel_rfl) (by kernel_rfl)) ?_
  intro W base args ds gs before hval0 hW hcnd _
  have hval : ∀ (j : Nat) t v, Try.f3.params[j]? = some t → args[j]? = some v → Value.okWide Try.prog W .any base t v := hval0
  have hW' := hW
  obtain ⟨p, q, hA0, hV, rfl, hfz, hnd⟩ := hW
  have hA : DataW.TrodAll enc Try.prog W 0 (fun _ => true) true Try.f3.params.toList args.toList ds p := hA0
  rw [Try.params3] at hA hval
  obtain ⟨v0, vs0, d0, ds0, p0, q0, hargs, rfl, rfl, h0, r0⟩ := trodAll_cons hA
  obtain ⟨v1, vs1, d1, ds1, p1, q1, rfl, rfl, rfl, h1, r1⟩ := trodAll_cons r0
  obtain ⟨rfl, rfl, rfl⟩ := trodAll_nil r1
  obtain rfl : args = #[v0, v1] := by cases args; simp_all
  obtain ⟨rfl, rfl⟩ := trodVars_none hV
  obtain ⟨a0, len0, cap0, rfl⟩ := okWide_slice Try.underlying22 (hval 0 22 v0 rfl rfl)
  obtain ⟨a1, len1, cap1, rfl⟩ := okWide_slice Try.underlying22 (hval 1 22 v1 rfl rfl)
  have k0 := h0
  have k1 := h1
  have lt1 : ∀ x ∈ p1, x.block < W.heap.size := by obtain ⟨m, hm⟩ := k1; exact DataW.trod_lt m _ _ _ hm
  have lt0 : ∀ x ∈ p0, x.block < W.heap.size := by obtain ⟨m, hm⟩ := k0; exact DataW.trod_lt m _ _ _ hm
  obtain ⟨hs, hc, hm⟩ := sbytes_of_open h0
  obtain ⟨hs1, hc1, hm1⟩ := sbytes_of_open h1
  clear hA0 hval0
  refine (wrdMake_walk a0 len0 cap0 a1 len1 cap1 W hs hs1 hc hc1 hm hm1).mono fun e W' ⟨he, bel⟩ => ?_
  subst he
  exact ⟨_, rfl, _, _, _, [], _, [], hW', trodAll_mk1 (shut_bool Try.underlying4 _), (trodAll_cons_mk (Below.trod laidOut (by kernel_rfl) (of_decide_eq_true (by kernel_rfl)) k0 bel lt0) (trodAll_cons_mk (Below.trod laidOut (by kernel_rfl) (of_decide_eq_true (by kernel_rfl)) k1 bel lt1) trodAll_mk0)), rfl, bel.frame _, fun h => by cases h⟩

theorem wrdMake_holds : Rows.FnWrdMakeSaid :=
  OpenClaim.holds_of_wide 3 Try.f3 rfl rfl rfl rfl rfl rfl rfl ⟨rfl, rfl, rfl, rfl, rfl⟩ rfl rfl rfl rfl rfl (by kernel_rfl) Try.func3 (by kernel_rfl)
    (of_decide_eq_true (by kernel_rfl)) (by unfold Func.isWrapper; first | (rw [if_pos (by decide +kernel)]; kernel_rfl) | (rw [if_neg (by decide +kernel)]; exact ⟨rfl, rfl⟩))
    (fun os started H enc _ => wrdMake_lifted os started H enc)

#print axioms wrdMake_holds

end Go.Proofs.Ytcffoehldohooaa
