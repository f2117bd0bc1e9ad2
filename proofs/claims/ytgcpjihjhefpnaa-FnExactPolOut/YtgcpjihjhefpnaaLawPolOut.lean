/- For every pool the law FnExactPolOut answers true and leaves its argument as it was: PolOut of the program answers as that of the specification, writes into no argument, and its answer lies in memory of its own. No condition. -/
import Derived.Test.YtgcpjihjhefpnaaOutI
import Derived.Test.YtgcpjihjhefpnaaFrameP
import Derived.Test.YtgcpjihjhefpnaaPLInv
import Derived.Deep.RegionHeld
namespace Go.Proofs.Ytgcpjihjhefpnaa
open Go.ChangeShapes Go.WideShapes Go.ChangeAt Go.RowKit
set_option linter.unusedVariables false

set_option maxHeartbeats 8000000 in
theorem polOut_core (E : Int) (pa : Option Addr) (np pc : Nat) (la : Option Addr) (nl lc : Nat) (ps : List Int) (oss : List (List Od)) (w : World) (hp : SInts w pa np ps) (hs : SLimbo w la nl oss) (h1 : np ≤ 1048576) (h2 : nl ≤ 1048576) (h3 : sumL oss ≤ 1048576) (hsum : (np : Int) + ((nl : Int) + (sumL oss : Nat)) ≤ 1048576) (hm : ∀ (i : Nat) (os : List Od), oss[i]? = some os → os.length ≤ 9223372036854775807) (L : List Int)
    (hspec : Hid (∀ (W : World) (gp gl : Nat), SInts W (some ⟨gp, 0, none⟩) np ps → SLimbo W (some ⟨gl, 0, none⟩) nl oss → Calls Try.prog 16 #[.agg #[.int .i64 E, .slice (some ⟨gp, 0, none⟩) np np, .slice (some ⟨gl, 0, none⟩) nl nl]] W fun e w' => ListI L e W w'))
    (himpl : Hid (∀ (W : World) (gp gl : Nat), SInts W (some ⟨gp, 0, none⟩) np ps → SLimbo W (some ⟨gl, 0, none⟩) nl oss → Calls Try.prog 17 #[.agg #[.int .i64 E, .slice (some ⟨gp, 0, none⟩) np np, .slice (some ⟨gl, 0, none⟩) nl nl]] W fun e w' => ListI L e W w')) (hN : L.length ≤ 2000000) :
    Calls Try.prog 5 #[.agg #[.int .i64 E, .slice pa np pc, .slice la nl lc]] w fun e w' => e = .returned (.bool true) ∧ Below w.heap.size w w' := by
  have hleft : Hid (leftR ((np : Int) + ((nl : Int) + (sumL oss : Nat))) 1048576 = 1048576 - ((np : Int) + ((nl : Int) + (sumL oss : Nat)))) := leftR_pos hsum
  have HA : Hid (SInts w pa np ps ∧ SLimbo w la nl oss) := ⟨hp, hs⟩
  have HMX : Hid (∀ (i : Nat) (os : List Od), oss[i]? = some os → os.length ≤ 9223372036854775807) := hm
  clear hp hs hm
  have B0 := al1 w (.cells #[.int .i64 E, .slice pa np pc, .slice la nl lc] 32)
  have bx0 := boxP_new w E pa np pc la nl lc 32 rfl
  go_enter Try.func5, Try.ntmps5
  go_wp2_with fail
  refine (szPolPool_any _ _ _ _ _ _ _ oss _ _ (HA.out.2.below B0) (by omega) (by omega) HMX.out (by omega) (by omega)).mono ?_
  rintro e w0 ⟨rfl, hb0⟩
  rw [hleft.out]
  have hA0 := below_trans' B0 hb0
  have bx := bx0.below hb0
  have p0 := bx.c0
  have p1 := bx.c1
  have p2 := bx.c2
  clear B0 hb0 bx0
  go_wp2_with fail
  refine (toPolPool_any _ _ _ _ _ _ _ ps oss _ (HA.out.1.below hA0) (HA.out.2.below hA0) h1 h2 h3).mono ?_
  rintro e w1 ⟨g1, g2, rfl, ho1, hb1⟩
  have hA1 := below_trans' hA0 hb1
  have bx1 := bx.below hb1
  clear bx hb1 hA0 p0 p1 p2
  go_wp2_with fail
  refine (hspec.out _ _ _ ho1.sp ho1.sl).mono ?_
  rintro e w2 ⟨aw, cw, rfl, ow, hb2⟩
  have bx3 := bx1.below hb2
  have hA3 := below_trans' hA1 hb2
  have p0 := bx3.c0
  have p1 := bx3.c1
  have p2 := bx3.c2
  clear ho1 bx3
  go_wp2_with fail
  refine (toPolPool_any _ _ _ _ _ _ _ ps oss _ (HA.out.1.below hA3) (HA.out.2.below hA3) h1 h2 h3).mono ?_
  rintro e w4 ⟨gp, gl, rfl, ox, hb4⟩
  have s5 := ox.sp.below (al1 w4 (.cells #[.int .i64 E, .slice (some ⟨gp, 0, none⟩) np np, .slice (some ⟨gl, 0, none⟩) nl nl] 25))
  have t5 := ox.sl.below (al1 w4 (.cells #[.int .i64 E, .slice (some ⟨gp, 0, none⟩) np np, .slice (some ⟨gl, 0, none⟩) nl nl] 25))
  clear hA3 p0 p1 p2
  go_wp2_with fail
  refine (himpl.out _ _ _ s5 t5).mono ?_
  rintro e w6 ⟨ag, cg, rfl, og, hb6⟩
  obtain ⟨S1, S2, S3, I7⟩ := linvP_start hA1 bx1 hb2 ow hb4 ox hb6 og
  clear hA1 bx1 hb2 ow hb4 ox hb6 og s5 t5
  go_wp2_with fail
  refine (eqIntS_yes _ _ _ _ _ L _ (own_sints I7.og) (own_sints I7.ow) (by omega)).mono ?_
  rintro e w9 ⟨rfl, hb9⟩
  have I9 : Hid (LInvP w E pa np pc la nl lc S1 S2 S3 aw L.length cw L (PoolBox S1 S2 w4.heap.size E gp np gl nl ps oss) ag cg L w9) := I7.below hb9
  clear I7 hb9
  have x0 := I9.out.hx.1.c0
  have x1 := I9.out.hx.1.c1
  have x2 := I9.out.hx.1.c2
  have p0 := I9.out.bp_.c0
  have p1 := I9.out.bp_.c1
  have p2 := I9.out.bp_.c2
  go_wp2
  go_region_held (fun w' => w'.cell? ⟨w4.heap.size, 0, none⟩ = some (.int .i64 E) ∧ w'.cell? ⟨w4.heap.size, 1, none⟩ = some (.slice (some ⟨gp, 0, none⟩) np np) ∧ w'.cell? ⟨w4.heap.size, 2, none⟩ = some (.slice (some ⟨gl, 0, none⟩) nl nl) ∧ w'.cell? ⟨w.heap.size, 0, none⟩ = some (.int .i64 E) ∧ w'.cell? ⟨w.heap.size, 1, none⟩ = some (.slice pa np pc) ∧ w'.cell? ⟨w.heap.size, 2, none⟩ = some (.slice la nl lc)) (go_keep) (first | (go_at_call 14; refine (toPolPool_any _ _ _ _ _ _ _ ps oss _ (HA.out.1.below I9.out.bel.drew) (HA.out.2.below I9.out.bel.drew) h1 h2 h3).mono ?_; rintro e w10 ⟨gq, gm, rfl, ho10, hb10⟩; have I10 : Hid (LInvP w E pa np pc la nl lc S1 S2 S3 aw L.length cw L (PoolBox S1 S2 w4.heap.size E gp np gl nl ps oss) ag cg L w10) := I9.out.below (below_trans' (Below.refl w9.heap.size w9).drew hb10); have HO10 : Hid (SInts w10 (some ⟨gq, 0, none⟩) np ps ∧ SLimbo w10 (some ⟨gm, 0, none⟩) nl oss) := ⟨ho10.sp, ho10.sl⟩; have y0 := I10.out.hx.1.c0; have z0 := I10.out.bp_.c0; have y1 := I10.out.hx.1.c1; have z1 := I10.out.bp_.c1; have y2 := I10.out.hx.1.c2; have z2 := I10.out.bp_.c2; clear hb10 ho10) | (go_at_call 9; refine (eqPolPool_yes _ _ _ _ _ _ _ _ _ _ _ ps oss _ I10.out.hx.2.sp HO10.out.1 I10.out.hx.2.sl HO10.out.2 h1 h2 h3).mono ?_; rintro e w11 ⟨rfl, hb11⟩; have I11 : Hid (LInvP w E pa np pc la nl lc S1 S2 S3 aw L.length cw L (PoolBox S1 S2 w4.heap.size E gp np gl nl ps oss) ag cg L w11) := I10.out.below hb11; have u0 := I11.out.hx.1.c0; have v0 := I11.out.bp_.c0; have u1 := I11.out.hx.1.c1; have v1 := I11.out.bp_.c1; have u2 := I11.out.hx.1.c2; have v2 := I11.out.bp_.c2; clear hb11))
  clear x0 x1 x2 p0 p1 p2 y0 y1 y2 z0 z1 z2
  clear I9 I10 HO10
  go_wp2_with fail
  refine (markPolPool_any _ gp np gl nl S1 S2 ps oss _ I11.out.hx.2 h1 h2 h3 I11.out.far).mono ?_
  rintro e w12 ⟨k12, hk12, rfl, ht12⟩
  have I12 := I11.out.turn ht12
  clear I11 ht12
  clear u0 u1 u2 v0 v1 v2
  go_wp2_with fail
  refine (eqIntS_yes _ _ _ _ _ L _ (own_sints I12.og) (own_sints I12.ow) (by omega)).mono ?_
  rintro e w13 ⟨rfl, hb13⟩
  have I13 := I12.below hb13
  clear I12 hb13
  go_wp2_with fail
  refine (markIntS_any _ _ _ _ L 1 _ I13.og (by omega) (by omega)).mono ?_
  rintro e w14 ⟨rfl, ho14, hg14, _⟩
  have I14 := I13.markG hg14 ho14
  clear I13 ho14 hg14
  go_wp2_with fail
  refine (heldIntS_any _ _ _ 1 _ (own_sints I14.og) (by omega) (by omega)).mono ?_
  rintro e w15 ⟨rfl, rfl⟩
  have p0 := I14.bp_.c0
  have p1 := I14.bp_.c1
  have p2 := I14.bp_.c2
  go_wp2_with fail
  refine (toPolPool_any _ _ _ _ _ _ _ ps oss _ (HA.out.1.below I14.bel) (HA.out.2.below I14.bel) h1 h2 h3).mono ?_
  rintro e w16 ⟨g16, l16, rfl, ho16, hb16⟩
  have I16 := I14.below hb16
  clear I14 hb16
  clear p0 p1 p2
  go_wp2_with fail
  refine (himpl.out _ _ _ ho16.sp ho16.sl).mono ?_
  rintro e w17 ⟨ah, ch, rfl, oh, hb17⟩
  have I18 := I16.below hb17
  have sh := own_sints oh
  clear I16 hb17 oh ho16
  go_wp2_with fail
  refine (eqIntS_yes _ _ _ _ _ L _ sh (own_sints I18.ow) (by omega)).mono ?_
  rintro e w19 ⟨rfl, hb19⟩
  have I19 := I18.below hb19
  clear I18 hb19 sh
  go_wp2_with fail
  refine (heldIntS_any _ _ _ 1 _ (own_sints I19.og) (by omega) (by omega)).mono ?_
  rintro e w20 ⟨rfl, rfl⟩
  have hbel := I19.bel
  clear I19
  go_wp2
  go_ret
  exact ⟨rfl, hbel⟩

set_option maxHeartbeats 400000 in
theorem polOut_walk (E : Int) (pa : Option Addr) (np pc : Nat) (la : Option Addr) (nl lc : Nat) (ps : List Int) (oss : List (List Od)) (w : World) (hp : SInts w pa np ps) (hs : SLimbo w la nl oss) (hn1 : np ≤ 9223372036854775807) (hn2 : nl ≤ 9223372036854775807) (hm : ∀ (i : Nat) (os : List Od), oss[i]? = some os → os.length ≤ 9223372036854775807) :
    Calls Try.prog 5 #[.agg #[.int .i64 E, .slice pa np pc, .slice la nl lc]] w fun e w' => e = .returned (.bool true) ∧ Below w.heap.size w w' := by
  by_cases hn : (np : Int) + ((nl : Int) + (sumL oss : Nat)) ≤ 1048576
  · have k1 : np ≤ 1048576 := by omega
    have k2 : nl ≤ 1048576 := by omega
    have k3 : sumL oss ≤ 1048576 := by omega
    exact polOut_core E pa np pc la nl lc ps oss w hp hs k1 k2 k3 hn hm (outL oss) (fun W gp gl h h' => specPolOut_any E _ np np _ nl nl oss W h' k2 k3) (fun W gp gl h h' => implPolOut_any E _ np np _ nl nl oss W h' k2 k3) (by rw [outL_len]; omega)
  · have HS : Hid (SLimbo w la nl oss ∧ (∀ (i : Nat) (os : List Od), oss[i]? = some os → os.length ≤ 9223372036854775807)) := ⟨hs, hm⟩
    have hleft : Hid (leftR ((np : Int) + ((nl : Int) + (sumL oss : Nat))) 1048576 = -1) := leftR_neg hn
    clear hs hp hm
    go_enter Try.func5, Try.ntmps5
    go_wp2_with fail
    refine (szPolPool_any _ _ _ _ _ _ _ oss _ _ (HS.out.1.below (al1 _ _)) hn1 hn2 HS.out.2 (by omega) (by omega)).mono ?_
    rintro e w0 ⟨rfl, hb0⟩
    rw [hleft.out]
    have hb := below_trans' (al1 w _) hb0
    clear hb0
    go_wp2
    go_ret
    exact ⟨rfl, hb⟩

set_option maxRecDepth 100000 in
theorem polOut_lifted (os : Os) (started : os.Started) (H : Type) (enc : TypeId × Value → H) :
    ReturnsInHanded {} Try.checked os 5 .any (Rows.fnExactPolOutSpec.pre6 enc Try.prog Try.f5 Rows.fnExactPolOutRow.domain false) (Rows.fnExactPolOutSpec.post enc Try.prog Try.f5 false true false false) := by
  refine returnsInHanded_of_change (C := Try.checked) own started (by kernel_rfl) Try.func5
    (ChangeSpec.witness6 (enc := enc) (C := Try.checked) false ⟨#[], #[.agg #[.int .i64 0, .slice none 0 0, .slice none 0 0]], []⟩ 8 (by kernel_rfl) (by kernel_rfl) (by kernel_rfl) (by kernel_rfl)) ?_
  intro W base args ds gs before hval0 hW hcnd _
  have hval : ∀ (j : Nat) t v, Try.f5.params[j]? = some t → args[j]? = some v → Value.okWide Try.prog W .any base t v := hval0
  have hW' := hW
  obtain ⟨p, q, hA0, hV, rfl, hfz, hnd⟩ := hW
  have hA : DataW.TrodAll enc Try.prog W 0 (fun _ => true) true Try.f5.params.toList args.toList ds p := hA0
  rw [Try.params5] at hA hval
  obtain ⟨v0, vs0, d0, ds0, p0, q0, hargs, rfl, rfl, h0, r0⟩ := trodAll_cons hA
  obtain ⟨rfl, rfl, rfl⟩ := trodAll_nil r0
  obtain rfl : args = #[v0] := by cases args; simp_all
  obtain ⟨rfl, rfl⟩ := trodVars_none hV
  have k0 := h0
  have lt0 : ∀ x ∈ p0, x.block < W.heap.size := by obtain ⟨m, hm⟩ := k0; exact DataW.trod_lt m _ _ _ hm
  obtain ⟨E, pa, np, pc, la, nl, lc, ps, oss, rfl, hp, hn1, hs, hn2, hm⟩ := pool_of_open (hval 0 32 v0 rfl rfl) h0
  clear hA0 hval0
  refine (polOut_walk E pa np pc la nl lc ps oss W hp hs hn1 hn2 hm).mono fun e W' ⟨he, bel⟩ => ?_
  subst he
  exact ⟨_, rfl, _, _, _, [], _, [], hW', trodAll_mk1 (shut_bool Try.underlying4 _), (trodAll_cons_mk (Below.trod laidOut (by kernel_rfl) (of_decide_eq_true (by kernel_rfl)) k0 bel lt0) trodAll_mk0), rfl, bel.frame _, fun h => by cases h⟩

theorem polOut_holds : Rows.FnExactPolOutSaid :=
  OpenClaim.holds_of_wide 5 Try.f5 rfl rfl rfl rfl rfl rfl rfl ⟨rfl, rfl, rfl, rfl, rfl⟩ rfl rfl rfl rfl rfl (by kernel_rfl) Try.func5 (by kernel_rfl)
    (of_decide_eq_true (by kernel_rfl)) (by unfold Func.isWrapper; first | (rw [if_pos (by decide +kernel)]; kernel_rfl) | (rw [if_neg (by decide +kernel)]; exact ⟨rfl, rfl⟩))
    (fun os started H enc _ => polOut_lifted os started H enc)

#print axioms polOut_holds

end Go.Proofs.Ytgcpjihjhefpnaa
