/- For all places the law FnExactArnTake answers true and leaves its argument as it was: ArnTake of the program answers as that of the specification, writes into no argument, and its answer lies in memory of its own. No condition. -/
import Derived.Test.YtbjgepcbbonceaaAInv
import Derived.Test.YtbjgepcbbonceaaTake3
import Derived.Test.YtbjgepcbbonceaaFrame3
import Derived.Deep.RegionHeld
namespace Go.Proofs.Ytbjgepcbbonceaa
open Go.ChangeShapes Go.WideShapes Go.ChangeAt Go.RowKit
set_option linter.unusedVariables false

set_option maxHeartbeats 8000000 in
theorem arnTake_core (a : Option Addr) (n cap : Nat) (ns : List Nd) (t f l : Int) (w : World) (hs : SNodes w a n ns) (hn : n ≤ 1048576) (L : List Nd) (N : Nat) (T F E : Int) (B : Int)
    (hspec : Hid (∀ (W : World) (g : Nat), SNodes W (some ⟨g, 0, none⟩) n ns → Calls Try.prog 13 #[.agg #[.slice (some ⟨g, 0, none⟩) n n, .int .i64 t, .int .i64 f, .int .i64 l]] W fun e w' => ArenaRes2 (.int .i64 B) L N T F E e W w'))
    (himpl : Hid (∀ (W : World) (g : Nat), SNodes W (some ⟨g, 0, none⟩) n ns → Calls Try.prog 14 #[.agg #[.slice (some ⟨g, 0, none⟩) n n, .int .i64 t, .int .i64 f, .int .i64 l]] W fun e w' => ArenaRes2 (.int .i64 B) L N T F E e W w')) (hN : N ≤ 2000000) :
    Calls Try.prog 4 #[.agg #[.slice a n cap, .int .i64 t, .int .i64 f, .int .i64 l]] w fun e w' => e = .returned (.bool true) ∧ Below w.heap.size w w' := by
  have hn' : ¬ (1048576 : Int) < (n : Int) := by omega
  have hsz : Hid ((n : Int) ≤ 1048576) := by show _ ≤ _; omega
  have B0 := al1 w (.cells #[.slice a n cap, .int .i64 t, .int .i64 f, .int .i64 l] 24)
  have bx0 := boxA_new w a n cap t f l 24 rfl
  go_enter Try.func4, Try.ntmps4
  go_wp2_with fail
  refine (szArnArena_any _ _ _ _ _ _ _ _ (by omega) (by omega) (by omega)).mono ?_
  rintro e w0 ⟨rfl, hb0⟩
  rw [if_pos hsz.out]
  have hA0 := below_trans' B0 hb0
  have bx := bx0.below hb0
  have p0 := bx.c0
  have p1 := bx.c1
  have p2 := bx.c2
  have p3 := bx.c3
  clear B0 hb0 bx0
  go_wp2_with fail
  refine (toArnArena_any _ _ _ ns _ _ _ _ (hs.below hA0) hn).mono ?_
  rintro e w1 ⟨g1, hg1, rfl, ho1, hb1⟩
  have hA1 := below_trans' hA0 hb1
  have bx1 := bx.below hb1
  clear bx hb1 hA0
  clear p0 p1 p2 p3
  go_wp2_with fail
  refine (hspec.out _ _ (own6_snodes ho1)).mono ?_
  rintro e w2 ⟨aw, cw, rfl, ow, hb2⟩
  have T3 := below_trans' hb2 (al1 w2 (.cells #[.slice aw N cw, .int .i64 T, .int .i64 F, .int .i64 E] 28))
  have bx3 := bx1.below T3
  have hA3 := below_trans' hA1 T3
  have p0 := bx3.c0
  have p1 := bx3.c1
  have p2 := bx3.c2
  have p3 := bx3.c3
  clear ho1 bx3 T3
  go_wp2_with fail
  refine (toArnArena_any _ _ _ ns _ _ _ _ (hs.below hA3) hn).mono ?_
  rintro e w4 ⟨gx, hgx, rfl, ox, hb4⟩
  have s5 := own6_snodes (ownsRow_below ox (al1 w4 (.cells #[.slice (some ⟨gx, 0, none⟩) n n, .int .i64 t, .int .i64 f, .int .i64 l] 28)))
  clear hA3 hgx
  clear p0 p1 p2 p3
  go_wp2_with fail
  refine (himpl.out _ _ s5).mono ?_
  rintro e w6 ⟨ag, cg, rfl, og, hb6⟩
  obtain ⟨S1, S2, S3, I7⟩ := ainv_start hA1 bx1 hb2 ow hb4 ox hb6 og
  have c0 := I7.bw_.c0
  have c1 := I7.bw_.c1
  have c2 := I7.bw_.c2
  have c3 := I7.bw_.c3
  have d0 := I7.bg_.c0
  have d1 := I7.bg_.c1
  have d2 := I7.bg_.c2
  have d3 := I7.bg_.c3
  clear hA1 bx1 hb2 ow hb4 ox hb6 og s5
  go_wp2_with fail
  refine (eqArnArena_yes _ _ _ _ _ L _ _ _ _ (own6_snodes I7.og) (own6_snodes I7.ow) (by omega)).mono ?_
  rintro e w9 ⟨rfl, hb9⟩
  have I9 : Hid (AInv w a n cap t f l S1 S2 S3 w2.heap.size aw N cw L T F E w4.heap.size gx ns w6.heap.size ag cg L w9) := I7.below hb9
  clear I7 hb9
  clear c0 c1 c2 c3 d0 d1 d2 d3
  have x0 := I9.out.bx_.c0
  have x1 := I9.out.bx_.c1
  have x2 := I9.out.bx_.c2
  have x3 := I9.out.bx_.c3
  have p0 := I9.out.bp_.c0
  have p1 := I9.out.bp_.c1
  have p2 := I9.out.bp_.c2
  have p3 := I9.out.bp_.c3
  go_wp2
  go_region_held (fun w' => w'.cell? ⟨w4.heap.size, 0, none⟩ = some (.slice (some ⟨gx, 0, none⟩) n n) ∧ w'.cell? ⟨w4.heap.size, 1, none⟩ = some (.int .i64 t) ∧ w'.cell? ⟨w4.heap.size, 2, none⟩ = some (.int .i64 f) ∧ w'.cell? ⟨w4.heap.size, 3, none⟩ = some (.int .i64 l) ∧ w'.cell? ⟨w.heap.size, 0, none⟩ = some (.slice a n cap) ∧ w'.cell? ⟨w.heap.size, 1, none⟩ = some (.int .i64 t) ∧ w'.cell? ⟨w.heap.size, 2, none⟩ = some (.int .i64 f) ∧ w'.cell? ⟨w.heap.size, 3, none⟩ = some (.int .i64 l)) (go_keep) (first | (go_at_call 8; refine (toArnArena_any _ _ _ ns _ _ _ _ (hs.below I9.out.bel.drew) hn).mono ?_; rintro e w10 ⟨g10, hg10, rfl, ho10, hb10⟩; have I10 : Hid (AInv w a n cap t f l S1 S2 S3 w2.heap.size aw N cw L T F E w4.heap.size gx ns w6.heap.size ag cg L w10) := I9.out.below (below_trans' (Below.refl w9.heap.size w9).drew hb10); have HO10 : Hid (SNodes w10 (some ⟨g10, 0, none⟩) n ns) := own6_snodes ho10; have y0 := I10.out.bx_.c0; have z0 := I10.out.bp_.c0; have y1 := I10.out.bx_.c1; have z1 := I10.out.bp_.c1; have y2 := I10.out.bx_.c2; have z2 := I10.out.bp_.c2; have y3 := I10.out.bx_.c3; have z3 := I10.out.bp_.c3; clear hb10 ho10 hg10) | (go_at_call 10; refine (eqArnArena_yes _ _ _ _ _ ns _ _ _ _ (own6_snodes I10.out.ox) HO10.out (by omega)).mono ?_; rintro e w11 ⟨rfl, hb11⟩; have I11 : Hid (AInv w a n cap t f l S1 S2 S3 w2.heap.size aw N cw L T F E w4.heap.size gx ns w6.heap.size ag cg L w11) := I10.out.below hb11; have u0 := I11.out.bx_.c0; have v0 := I11.out.bp_.c0; have u1 := I11.out.bx_.c1; have v1 := I11.out.bp_.c1; have u2 := I11.out.bx_.c2; have v2 := I11.out.bp_.c2; have u3 := I11.out.bx_.c3; have v3 := I11.out.bp_.c3; clear hb11))
  clear x0 x1 x2 x3 p0 p1 p2 p3 y0 y1 y2 y3 z0 z1 z2 z3
  clear I9 I10 HO10
  go_wp2_with fail
  refine (markArnArena_any _ _ _ _ ns _ _ _ 1 _ I11.out.ox (by omega) (by omega) (by omega)).mono ?_
  rintro e w12 ⟨rfl, ho12, hg12⟩
  have I12 := I11.out.markX hg12 ho12
  clear I11 ho12 hg12
  clear u0 u1 u2 u3 v0 v1 v2 v3
  have c0 := I12.bw_.c0
  have c1 := I12.bw_.c1
  have c2 := I12.bw_.c2
  have c3 := I12.bw_.c3
  have d0 := I12.bg_.c0
  have d1 := I12.bg_.c1
  have d2 := I12.bg_.c2
  have d3 := I12.bg_.c3
  go_wp2_with fail
  refine (eqArnArena_yes _ _ _ _ _ L _ _ _ _ (own6_snodes I12.og) (own6_snodes I12.ow) (by omega)).mono ?_
  rintro e w13 ⟨rfl, hb13⟩
  have I13 := I12.below hb13
  clear I12 hb13
  clear c0 c1 c2 c3 d0 d1 d2 d3
  have d0 := I13.bg_.c0
  have d1 := I13.bg_.c1
  have d2 := I13.bg_.c2
  have d3 := I13.bg_.c3
  go_wp2_with fail
  refine (markArnArena_any _ _ _ _ L _ _ _ 1 _ I13.og (by omega) (by omega) (by omega)).mono ?_
  rintro e w14 ⟨rfl, ho14, hg14⟩
  have I14 := I13.markG hg14 ho14
  clear I13 ho14 hg14
  clear d0 d1 d2 d3
  have d0 := I14.bg_.c0
  have d1 := I14.bg_.c1
  have d2 := I14.bg_.c2
  have d3 := I14.bg_.c3
  go_wp2_with fail
  refine (heldArnArena_any _ _ _ _ _ _ 1 _ (own6_snodes I14.og) (by omega) (by omega) (by omega)).mono ?_
  rintro e w15 ⟨rfl, hb15⟩
  have I15 := I14.below hb15
  clear I14 hb15
  clear d0 d1 d2 d3
  have p0 := I15.bp_.c0
  have p1 := I15.bp_.c1
  have p2 := I15.bp_.c2
  have p3 := I15.bp_.c3
  go_wp2_with fail
  refine (toArnArena_any _ _ _ ns _ _ _ _ (hs.below I15.bel) hn).mono ?_
  rintro e w16 ⟨g16, hg16, rfl, ho16, hb16⟩
  have I16 := I15.below hb16
  clear I15 hb16
  clear p0 p1 p2 p3
  go_wp2_with fail
  refine (himpl.out _ _ (own6_snodes ho16)).mono ?_
  rintro e w17 ⟨ah, ch, rfl, oh, hb17⟩
  have T18 := al1 w17 (.cells #[.slice ah N ch, .int .i64 T, .int .i64 F, .int .i64 E] 28)
  have I18 := (I16.below hb17).below T18
  have sh := own6_snodes (ownsRow_below oh T18)
  have c0 := I18.bw_.c0
  have c1 := I18.bw_.c1
  have c2 := I18.bw_.c2
  have c3 := I18.bw_.c3
  have bh := boxA_new w17 ah N ch T F E 28 rfl
  have d0 := bh.c0
  have d1 := bh.c1
  have d2 := bh.c2
  have d3 := bh.c3
  clear I16 hb17 oh T18 ho16 bh
  go_wp2_with fail
  refine (eqArnArena_yes _ _ _ _ _ L _ _ _ _ sh (own6_snodes I18.ow) (by omega)).mono ?_
  rintro e w19 ⟨rfl, hb19⟩
  have I19 := I18.below hb19
  clear I18 hb19 sh
  clear c0 c1 c2 c3 d0 d1 d2 d3
  have d0 := I19.bg_.c0
  have d1 := I19.bg_.c1
  have d2 := I19.bg_.c2
  have d3 := I19.bg_.c3
  go_wp2_with fail
  refine (heldArnArena_any _ _ _ _ _ _ 1 _ (own6_snodes I19.og) (by omega) (by omega) (by omega)).mono ?_
  rintro e w20 ⟨rfl, hb20⟩
  have hbel := below_trans' I19.bel hb20
  clear I19 hb20
  clear d0 d1 d2 d3
  go_wp2
  go_ret
  exact ⟨rfl, hbel⟩

set_option maxHeartbeats 400000 in
theorem arnTake_walk (a : Option Addr) (n cap : Nat) (ns : List Nd) (t f l : Int) (w : World) (hs : SNodes w a n ns) (hm : n ≤ 9223372036854775807) :
    Calls Try.prog 4 #[.agg #[.slice a n cap, .int .i64 t, .int .i64 f, .int .i64 l]] w fun e w' => e = .returned (.bool true) ∧ Below w.heap.size w w' := by
  by_cases hn : n ≤ 1048576
  · exact arnTake_core a n cap ns t f l w hs hn (if shapeB ns t f l then takeL ns else []) (if shapeB ns t f l then 10 else 0) (if shapeB ns t f l then t else 0) (if shapeB ns t f l then f else 0) (if shapeB ns t f l then l else 0) (if shapeB ns t f l then (takeK ns : Nat) else 0) (fun W g h => specArnTake_any _ n n ns t f l W h hn) (fun W g h => implArnTake_any _ n n ns t f l W h hn (Nat.le_refl _) (by omega)) (by split <;> omega)
  · clear hs
    go_enter Try.func4, Try.ntmps4
    go_wp2_with fail
    refine (szArnArena_any _ _ _ _ _ _ _ _ hm (by omega) (by omega)).mono ?_
    rintro e w0 ⟨rfl, hb0⟩
    rw [if_neg (show ¬ (n : Int) ≤ 1048576 by omega)]
    have hb := below_trans' (al1 w _) hb0
    clear hb0
    go_wp2
    go_ret
    exact ⟨rfl, hb⟩

set_option maxRecDepth 100000 in
theorem arnTake_lifted (os : Os) (started : os.Started) (H : Type) (enc : TypeId × Value → H) :
    ReturnsInHanded {} Try.checked os 4 .any (Rows.fnExactArnTakeSpec.pre6 enc Try.prog Try.f4 Rows.fnExactArnTakeRow.domain false) (Rows.fnExactArnTakeSpec.post enc Try.prog Try.f4 false true false false) := by
  refine returnsInHanded_of_change (C := Try.checked) own started (by kernel_rfl) Try.func4
    (ChangeSpec.witness6 (enc := enc) (C := Try.checked) false ⟨#[], #[.agg #[.slice none 0 0, .int .i64 0, .int .i64 0, .int .i64 0]], []⟩ 8 (by kernel_rfl) (by kernel_rfl) (by kernel_rfl) (by kernel_rfl)) ?_
  intro W base args ds gs before hval0 hW hcnd _
  have hval : ∀ (j : Nat) t v, Try.f4.params[j]? = some t → args[j]? = some v → Value.okWide Try.prog W .any base t v := hval0
  have hW' := hW
  obtain ⟨p, q, hA0, hV, rfl, hfz, hnd⟩ := hW
  have hA : DataW.TrodAll enc Try.prog W 0 (fun _ => true) true Try.f4.params.toList args.toList ds p := hA0
  rw [Try.params4] at hA hval
  obtain ⟨v0, vs0, d0, ds0, p0, q0, hargs, rfl, rfl, h0, r0⟩ := trodAll_cons hA
  obtain ⟨rfl, rfl, rfl⟩ := trodAll_nil r0
  obtain rfl : args = #[v0] := by cases args; simp_all
  obtain ⟨rfl, rfl⟩ := trodVars_none hV
  have k0 := h0
  have lt0 : ∀ x ∈ p0, x.block < W.heap.size := by obtain ⟨m, hm⟩ := k0; exact DataW.trod_lt m _ _ _ hm
  obtain ⟨a0, len0, cap0, tt, ff, ll, ns, rfl, hs, hm⟩ := arena_of_open (hval 0 24 v0 rfl rfl) h0
  clear hA0 hval0
  refine (arnTake_walk a0 len0 cap0 ns tt ff ll W hs hm).mono fun e W' ⟨he, bel⟩ => ?_
  subst he
  exact ⟨_, rfl, _, _, _, [], _, [], hW', trodAll_mk1 (shut_bool Try.underlying4 _), (trodAll_cons_mk (Below.trod laidOut (by kernel_rfl) (of_decide_eq_true (by kernel_rfl)) k0 bel lt0) trodAll_mk0), rfl, bel.frame _, fun h => by cases h⟩

theorem arnTake_holds : Rows.FnExactArnTakeSaid :=
  OpenClaim.holds_of_wide 4 Try.f4 rfl rfl rfl rfl rfl rfl rfl ⟨rfl, rfl, rfl, rfl, rfl⟩ rfl rfl rfl rfl rfl (by kernel_rfl) Try.func4 (by kernel_rfl)
    (of_decide_eq_true (by kernel_rfl)) (by unfold Func.isWrapper; first | (rw [if_pos (by decide +kernel)]; kernel_rfl) | (rw [if_neg (by decide +kernel)]; exact ⟨rfl, rfl⟩))
    (fun os started H enc _ => arnTake_lifted os started H enc)

#print axioms arnTake_holds

end Go.Proofs.Ytbjgepcbbonceaa
