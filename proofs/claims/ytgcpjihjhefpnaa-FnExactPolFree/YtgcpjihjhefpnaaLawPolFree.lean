/- For every pool and any two integers the law FnExactPolFree answers true and leaves its arguments as they were: PolFree of the program answers as that of the specification and writes into no argument. No condition. -/
import Derived.Test.YtgcpjihjhefpnaaPokI2
import Derived.Test.YtgcpjihjhefpnaaFrameP
import Derived.Test.YtgcpjihjhefpnaaPInv
import Derived.Test.YtgcpjihjhefpnaaFree3
import Derived.Deep.RegionHeld
namespace Go.Proofs.Ytgcpjihjhefpnaa
open Go.ChangeShapes Go.WideShapes Go.ChangeAt Go.RowKit
set_option linter.unusedVariables false

set_option maxHeartbeats 4000000 in
theorem polFree_core (E : Int) (pa : Option Addr) (np pc : Nat) (la : Option Addr) (nl lc : Nat) (ps : List Int) (oss : List (List Od)) (hd : Int) (ep : Int) (w : World) (hp : SInts w pa np ps) (hs : SLimbo w la nl oss) (h1 : np ≤ 1048576) (h2 : nl ≤ 1048576) (h3 : sumL oss ≤ 1048576) (hsum : (np : Int) + ((nl : Int) + (sumL oss : Nat)) ≤ 1048576) (hm : ∀ (i : Nat) (os : List Od), oss[i]? = some os → os.length ≤ 9223372036854775807) (V : Int)
    (hspec : Hid (∀ (W : World) (gp gl : Nat), SInts W (some ⟨gp, 0, none⟩) np ps → SLimbo W (some ⟨gl, 0, none⟩) nl oss → Calls Try.prog 21 #[.agg #[.int .i64 E, .slice (some ⟨gp, 0, none⟩) np np, .slice (some ⟨gl, 0, none⟩) nl nl], .int .i64 hd, .int .i64 ep] W fun e w' => e = .returned (.int .i64 V) ∧ Below W.heap.size W w'))
    (himpl : Hid (∀ (W : World) (gp gl : Nat), SInts W (some ⟨gp, 0, none⟩) np ps → SLimbo W (some ⟨gl, 0, none⟩) nl oss → Calls Try.prog 22 #[.agg #[.int .i64 E, .slice (some ⟨gp, 0, none⟩) np np, .slice (some ⟨gl, 0, none⟩) nl nl], .int .i64 hd, .int .i64 ep] W fun e w' => e = .returned (.int .i64 V) ∧ Below W.heap.size W w')) :
    Calls Try.prog 6 #[.agg #[.int .i64 E, .slice pa np pc, .slice la nl lc], .int .i64 hd, .int .i64 ep] w fun e w' => e = .returned (.bool true) ∧ Below w.heap.size w w' := by
  have hleft : Hid (leftR ((np : Int) + ((nl : Int) + (sumL oss : Nat))) 1048576 = 1048576 - ((np : Int) + ((nl : Int) + (sumL oss : Nat)))) := leftR_pos hsum
  have HA : Hid (SInts w pa np ps ∧ SLimbo w la nl oss) := ⟨hp, hs⟩
  have HMX : Hid (∀ (i : Nat) (os : List Od), oss[i]? = some os → os.length ≤ 9223372036854775807) := hm
  clear hp hs hm
  have B0 := al1 w (.cells #[.int .i64 E, .slice pa np pc, .slice la nl lc] 32)
  have bx0 := boxP_new w E pa np pc la nl lc 32 rfl
  go_enter Try.func6, Try.ntmps6
  go_wp2_with fail
  refine (szPolPool_any _ _ _ _ _ _ _ oss _ _ (HA.out.2.below B0) (by omega) (by omega) HMX.out (by omega) (by omega)).mono ?_
  rintro e w0 ⟨rfl, hb0⟩
  rw [hleft.out]
  have hA0 := below_trans' B0 hb0
  have bx := bx0.below hb0
  have p0 := bx.c0
  have p1 := bx.c1
  have p2 := bx.c2
  clear B0 hb0 bx0
  go_wp2_with fail
  refine (toPolPool_any _ _ _ _ _ _ _ ps oss _ (HA.out.1.below hA0) (HA.out.2.below hA0) h1 h2 h3).mono ?_
  rintro e w1 ⟨g1, g2, rfl, ho1, hb1⟩
  have hA1 := below_trans' hA0 hb1
  have bx1 := bx.below hb1
  clear bx hb1 hA0 p0 p1 p2
  go_wp2_with fail
  refine (hspec.out _ _ _ ho1.sp ho1.sl).mono ?_
  rintro e w2 ⟨rfl, hb2⟩
  have bx3 := bx1.below hb2
  have hA3 := below_trans' hA1 hb2
  have p0 := bx3.c0
  have p1 := bx3.c1
  have p2 := bx3.c2
  clear ho1 bx1 hA1 hb2
  go_wp2_with fail
  refine (toPolPool_any _ _ _ _ _ _ _ ps oss _ (HA.out.1.below hA3) (HA.out.2.below hA3) h1 h2 h3).mono ?_
  rintro e w4 ⟨gp, gl, rfl, ox, hb4⟩
  have I5 := xinvP_start hA3 bx3 hb4 ox
  clear hA3 bx3 hb4 ox p0 p1 p2
  go_wp2_with fail
  refine (himpl.out _ _ _ I5.sp I5.sl).mono ?_
  rintro e w9 ⟨rfl, hb9⟩
  have I9 : Hid (XInvP w E pa np pc la nl lc w4.heap.size gp gl ps oss w9) := I5.below hb9
  clear I5 hb9
  have x0 := I9.out.bx_.c0
  have x1 := I9.out.bx_.c1
  have x2 := I9.out.bx_.c2
  have p0 := I9.out.bp_.c0
  have p1 := I9.out.bp_.c1
  have p2 := I9.out.bp_.c2
  go_wp2
  go_region_held (fun w' => w'.cell? ⟨w4.heap.size, 0, none⟩ = some (.int .i64 E) ∧ w'.cell? ⟨w4.heap.size, 1, none⟩ = some (.slice (some ⟨gp, 0, none⟩) np np) ∧ w'.cell? ⟨w4.heap.size, 2, none⟩ = some (.slice (some ⟨gl, 0, none⟩) nl nl) ∧ w'.cell? ⟨w.heap.size, 0, none⟩ = some (.int .i64 E) ∧ w'.cell? ⟨w.heap.size, 1, none⟩ = some (.slice pa np pc) ∧ w'.cell? ⟨w.heap.size, 2, none⟩ = some (.slice la nl lc)) (go_keep) (first | (go_at_call 14; refine (toPolPool_any _ _ _ _ _ _ _ ps oss _ (HA.out.1.below I9.out.bel.drew) (HA.out.2.below I9.out.bel.drew) h1 h2 h3).mono ?_; rintro e w10 ⟨gq, gm, rfl, ho10, hb10⟩; have I10 : Hid (XInvP w E pa np pc la nl lc w4.heap.size gp gl ps oss w10) := I9.out.below (below_trans' (Below.refl w9.heap.size w9).drew hb10); have HO10 : Hid (SInts w10 (some ⟨gq, 0, none⟩) np ps ∧ SLimbo w10 (some ⟨gm, 0, none⟩) nl oss) := ⟨ho10.sp, ho10.sl⟩; have y0 := I10.out.bx_.c0; have z0 := I10.out.bp_.c0; have y1 := I10.out.bx_.c1; have z1 := I10.out.bp_.c1; have y2 := I10.out.bx_.c2; have z2 := I10.out.bp_.c2; clear hb10 ho10) | (go_at_call 9; refine (eqPolPool_yes _ _ _ _ _ _ _ _ _ _ _ ps oss _ I10.out.sp HO10.out.1 I10.out.sl HO10.out.2 h1 h2 h3).mono ?_; rintro e w11 ⟨rfl, hb11⟩; have I11 : Hid (XInvP w E pa np pc la nl lc w4.heap.size gp gl ps oss w11) := I10.out.below hb11; have u0 := I11.out.bx_.c0; have v0 := I11.out.bp_.c0; have u1 := I11.out.bx_.c1; have v1 := I11.out.bp_.c1; have u2 := I11.out.bx_.c2; have v2 := I11.out.bp_.c2; clear hb11))
  clear x0 x1 x2 p0 p1 p2 y0 y1 y2 z0 z1 z2 u0 u1 u2 v0 v1 v2
  clear I9 I10 HO10
  go_wp2
  go_ret
  exact ⟨rfl, I11.out.bel⟩

set_option maxHeartbeats 400000 in
theorem polFree_walk (E : Int) (pa : Option Addr) (np pc : Nat) (la : Option Addr) (nl lc : Nat) (ps : List Int) (oss : List (List Od)) (hd : Int) (ep : Int) (w : World) (hp : SInts w pa np ps) (hs : SLimbo w la nl oss) (hn1 : np ≤ 9223372036854775807) (hn2 : nl ≤ 9223372036854775807) (hm : ∀ (i : Nat) (os : List Od), oss[i]? = some os → os.length ≤ 9223372036854775807) :
    Calls Try.prog 6 #[.agg #[.int .i64 E, .slice pa np pc, .slice la nl lc], .int .i64 hd, .int .i64 ep] w fun e w' => e = .returned (.bool true) ∧ Below w.heap.size w w' := by
  by_cases hn : (np : Int) + ((nl : Int) + (sumL oss : Nat)) ≤ 1048576
  · have k1 : np ≤ 1048576 := by omega
    have k2 : nl ≤ 1048576 := by omega
    have k3 : sumL oss ≤ 1048576 := by omega
    exact polFree_core E pa np pc la nl lc ps oss hd ep w hp hs k1 k2 k3 hn hm (freeP E ps oss hd ep) (fun W gp gl h h' => specPolFree_any E _ np np _ nl nl ps oss hd ep W h h' k1 k2 k3) (fun W gp gl h h' => implPolFree_any E _ np np _ nl nl ps oss hd ep W h h' k1 k2 k3)
  · have HS : Hid (SLimbo w la nl oss ∧ (∀ (i : Nat) (os : List Od), oss[i]? = some os → os.length ≤ 9223372036854775807)) := ⟨hs, hm⟩
    have hleft : Hid (leftR ((np : Int) + ((nl : Int) + (sumL oss : Nat))) 1048576 = -1) := leftR_neg hn
    clear hs hp hm
    go_enter Try.func6, Try.ntmps6
    go_wp2_with fail
    refine (szPolPool_any _ _ _ _ _ _ _ oss _ _ (HS.out.1.below (al1 _ _)) hn1 hn2 HS.out.2 (by omega) (by omega)).mono ?_
    rintro e w0 ⟨rfl, hb0⟩
    rw [hleft.out]
    have hb := below_trans' (al1 w _) hb0
    clear hb0
    go_wp2
    go_ret
    exact ⟨rfl, hb⟩

set_option maxRecDepth 100000 in
theorem polFree_lifted (os : Os) (started : os.Started) (H : Type) (enc : TypeId × Value → H) :
    ReturnsInHanded {} Try.checked os 6 .any (Rows.fnExactPolFreeSpec.pre6 enc Try.prog Try.f6 Rows.fnExactPolFreeRow.domain false) (Rows.fnExactPolFreeSpec.post enc Try.prog Try.f6 false true false false) := by
  refine returnsInHanded_of_change (C := Try.checked) own started (by kernel_rfl) Try.func6
    (ChangeSpec.witness6 (enc := enc) (C := Try.checked) false ⟨#[], #[.agg #[.int .i64 0, .slice none 0 0, .slice none 0 0], .int .i64 0, .int .i64 0], []⟩ 8 (by kernel_rfl) (by kernel_rfl) (by kernel_rfl) (by kernel_rfl)) ?_
  intro W base args ds gs before hval0 hW hcnd _
  have hval : ∀ (j : Nat) t v, Try.f6.params[j]? = some t → args[j]? = some v → Value.okWide Try.prog W .any base t v := hval0
  have hW' := hW
  obtain ⟨p, q, hA0, hV, rfl, hfz, hnd⟩ := hW
  have hA : DataW.TrodAll enc Try.prog W 0 (fun _ => true) true Try.f6.params.toList args.toList ds p := hA0
  rw [Try.params6] at hA hval
  obtain ⟨v0, vs0, d0, ds0, p0, q0, hargs, rfl, rfl, h0, r0⟩ := trodAll_cons hA
  obtain ⟨v1, vs1, d1, ds1, p1, q1, rfl, rfl, rfl, h1, r1⟩ := trodAll_cons r0
  obtain ⟨v2, vs2, d2, ds2, p2, q2, rfl, rfl, rfl, h2, r2⟩ := trodAll_cons r1
  obtain ⟨rfl, rfl, rfl⟩ := trodAll_nil r2
  obtain rfl : args = #[v0, v1, v2] := by cases args; simp_all
  obtain ⟨rfl, rfl⟩ := trodVars_none hV
  have k0 := h0
  have lt0 : ∀ x ∈ p0, x.block < W.heap.size := by obtain ⟨m, hm⟩ := k0; exact DataW.trod_lt m _ _ _ hm
  obtain ⟨E, pa, np, pc, la, nl, lc, ps, oss, rfl, hp, hn1, hs, hn2, hm⟩ := pool_of_open (hval 0 32 v0 rfl rfl) h0
  obtain ⟨hd, rfl, rfl, rfl, wx1⟩ := open_int Try.underlying3 (hval 1 3 v1 rfl rfl) h1
  obtain ⟨ep, rfl, rfl, rfl, wx2⟩ := open_int Try.underlying3 (hval 2 3 v2 rfl rfl) h2
  clear hA0 hval0
  refine (polFree_walk E pa np pc la nl lc ps oss hd ep W hp hs hn1 hn2 hm).mono fun e W' ⟨he, bel⟩ => ?_
  subst he
  exact ⟨_, rfl, _, _, _, [], _, [], hW', trodAll_mk1 (shut_bool Try.underlying4 _), (trodAll_cons_mk (Below.trod laidOut (by kernel_rfl) (of_decide_eq_true (by kernel_rfl)) k0 bel lt0) (trodAll_cons_mk (shut_int Try.underlying3 wx1) (trodAll_cons_mk (shut_int Try.underlying3 wx2) trodAll_mk0))), rfl, bel.frame _, fun h => by cases h⟩

theorem polFree_holds : Rows.FnExactPolFreeSaid :=
  OpenClaim.holds_of_wide 6 Try.f6 rfl rfl rfl rfl rfl rfl rfl ⟨rfl, rfl, rfl, rfl, rfl⟩ rfl rfl rfl rfl rfl (by kernel_rfl) Try.func6 (by kernel_rfl)
    (of_decide_eq_true (by kernel_rfl)) (by unfold Func.isWrapper; first | (rw [if_pos (by decide +kernel)]; kernel_rfl) | (rw [if_neg (by decide +kernel)]; exact ⟨rfl, rfl⟩))
    (fun os started H enc _ => polFree_lifted os started H enc)

#print axioms polFree_holds

end Go.Proofs.Ytgcpjihjhefpnaa
