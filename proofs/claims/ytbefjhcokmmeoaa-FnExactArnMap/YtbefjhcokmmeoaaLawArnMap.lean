/- For all places the law FnExactArnMap answers true and leaves its argument as it was: ArnMap of the program answers as that of the specification, writes into no argument, and its answer lies in memory of its own. No condition. -/
import Derived.Test.YtbefjhcokmmeoaaEInv
import Derived.Test.YtbefjhcokmmeoaaFrame3
import Derived.Deep.RegionHeld
namespace Go.Proofs.Ytbefjhcokmmeoaa
open Go.ChangeShapes Go.WideShapes Go.ChangeAt Go.RowKit
set_option linter.unusedVariables false

set_option maxHeartbeats 8000000 in
theorem arnMap_core (a : Option Addr) (n cap : Nat) (ns : List Nd) (t f l : Int) (w : World) (hs : SNodes w a n ns) (hn : n ≤ 1048576) (N : Nat) (L : List Int)
    (hspec : Hid (∀ (W : World) (g : Nat), SNodes W (some ⟨g, 0, none⟩) n ns → Calls Try.prog 7 #[.agg #[.slice (some ⟨g, 0, none⟩) n n, .int .i64 t, .int .i64 f, .int .i64 l]] W fun e w' => MapR N L e W w'))
    (himpl : Hid (∀ (W : World) (g : Nat), SNodes W (some ⟨g, 0, none⟩) n ns → Calls Try.prog 9 #[.agg #[.slice (some ⟨g, 0, none⟩) n n, .int .i64 t, .int .i64 f, .int .i64 l]] W fun e w' => MapR N L e W w')) (hN : N ≤ 2000000) :
    Calls Try.prog 3 #[.agg #[.slice a n cap, .int .i64 t, .int .i64 f, .int .i64 l]] w fun e w' => e = .returned (.bool true) ∧ Below w.heap.size w w' := by
  have hn' : ¬ (1048576 : Int) < (n : Int) := by omega
  have hsz : Hid ((n : Int) ≤ 1048576) := by show _ ≤ _; omega
  have B0 := al1 w (.cells #[.slice a n cap, .int .i64 t, .int .i64 f, .int .i64 l] 24)
  have bx0 := boxA_new w a n cap t f l 24 rfl
  go_enter Try.func3, Try.ntmps3
  go_wp2_with fail
  refine (szArnArena_any _ _ _ _ _ _ _ _ (by omega) (by omega) (by omega)).mono ?_
  rintro e w0 ⟨rfl, hb0⟩
  rw [if_pos hsz.out]
  have hA0 := below_trans' B0 hb0
  have bx := bx0.below hb0
  have p0 := bx.c0
  have p1 := bx.c1
  have p2 := bx.c2
  have p3 := bx.c3
  clear B0 hb0 bx0
  go_wp2_with fail
  refine (toArnArena_any _ _ _ ns _ _ _ _ (hs.below hA0) hn).mono ?_
  rintro e w1 ⟨g1, hg1, rfl, ho1, hb1⟩
  have hA1 := below_trans' hA0 hb1
  have bx1 := bx.below hb1
  clear bx hb1 hA0
  clear p0 p1 p2 p3
  go_wp2_with fail
  refine (hspec.out _ _ (own6_snodes ho1)).mono ?_
  rintro e w2 ⟨aw, cw, rfl, ow, hb2⟩
  have T3 := al1 w2 (.cells #[.slice aw N cw] 28)
  have bx3 := (bx1.below hb2).below T3
  have hA3 := below_trans' (below_trans' hA1 hb2) T3
  have p0 := bx3.c0
  have p1 := bx3.c1
  have p2 := bx3.c2
  have p3 := bx3.c3
  clear ho1 bx3 T3
  go_wp2_with fail
  refine (toArnArena_any _ _ _ ns _ _ _ _ (hs.below hA3) hn).mono ?_
  rintro e w4 ⟨gx, hgx, rfl, ox, hb4⟩
  have s5 := own6_snodes (ownsRow_below ox (al1 w4 (.cells #[.slice (some ⟨gx, 0, none⟩) n n, .int .i64 t, .int .i64 f, .int .i64 l] 32)))
  clear hA3 hgx
  clear p0 p1 p2 p3
  go_wp2_with fail
  refine (himpl.out _ _ s5).mono ?_
  rintro e w6 ⟨ag, cg, rfl, og, hb6⟩
  obtain ⟨S1, S2, S3, I7⟩ := einv_start hA1 bx1 hb2 ow hb4 ox hb6 og
  clear hA1 bx1 hb2 ow hb4 ox hb6 og s5
  have c1 := I7.c1
  have c3 := I7.c3
  go_wp2_with fail
  refine (eqMapMap_yes _ _ _ _ _ L _ (own2_sints I7.og) (own2_sints I7.ow) (by omega)).mono ?_
  rintro e w9 ⟨rfl, hb9⟩
  have I9 : Hid (EInv w a n cap t f l S1 S2 S3 w2.heap.size aw N cw L w4.heap.size gx ns w6.heap.size ag cg L w9) := I7.below hb9
  clear I7 hb9 c1 c3
  have x0 := I9.out.bx_.c0
  have x1 := I9.out.bx_.c1
  have x2 := I9.out.bx_.c2
  have x3 := I9.out.bx_.c3
  have p0 := I9.out.bp_.c0
  have p1 := I9.out.bp_.c1
  have p2 := I9.out.bp_.c2
  have p3 := I9.out.bp_.c3
  go_wp2
  go_region_held (fun w' => w'.cell? ⟨w4.heap.size, 0, none⟩ = some (.slice (some ⟨gx, 0, none⟩) n n) ∧ w'.cell? ⟨w4.heap.size, 1, none⟩ = some (.int .i64 t) ∧ w'.cell? ⟨w4.heap.size, 2, none⟩ = some (.int .i64 f) ∧ w'.cell? ⟨w4.heap.size, 3, none⟩ = some (.int .i64 l) ∧ w'.cell? ⟨w.heap.size, 0, none⟩ = some (.slice a n cap) ∧ w'.cell? ⟨w.heap.size, 1, none⟩ = some (.int .i64 t) ∧ w'.cell? ⟨w.heap.size, 2, none⟩ = some (.int .i64 f) ∧ w'.cell? ⟨w.heap.size, 3, none⟩ = some (.int .i64 l)) (go_keep) (first | (go_at_call 8; refine (toArnArena_any _ _ _ ns _ _ _ _ (hs.below I9.out.bel.drew) hn).mono ?_; rintro e w10 ⟨g10, hg10, rfl, ho10, hb10⟩; have I10 : Hid (EInv w a n cap t f l S1 S2 S3 w2.heap.size aw N cw L w4.heap.size gx ns w6.heap.size ag cg L w10) := I9.out.below (below_trans' (Below.refl w9.heap.size w9).drew hb10); have HO10 : Hid (SNodes w10 (some ⟨g10, 0, none⟩) n ns) := own6_snodes ho10; have y0 := I10.out.bx_.c0; have z0 := I10.out.bp_.c0; have y1 := I10.out.bx_.c1; have z1 := I10.out.bp_.c1; have y2 := I10.out.bx_.c2; have z2 := I10.out.bp_.c2; have y3 := I10.out.bx_.c3; have z3 := I10.out.bp_.c3; clear hb10 ho10 hg10) | (go_at_call 11; refine (eqArnArena_yes _ _ _ _ _ ns _ _ _ _ (own6_snodes I10.out.ox) HO10.out (by omega)).mono ?_; rintro e w11 ⟨rfl, hb11⟩; have I11 : Hid (EInv w a n cap t f l S1 S2 S3 w2.heap.size aw N cw L w4.heap.size gx ns w6.heap.size ag cg L w11) := I10.out.below hb11; have u0 := I11.out.bx_.c0; have v0 := I11.out.bp_.c0; have u1 := I11.out.bx_.c1; have v1 := I11.out.bp_.c1; have u2 := I11.out.bx_.c2; have v2 := I11.out.bp_.c2; have u3 := I11.out.bx_.c3; have v3 := I11.out.bp_.c3; clear hb11))
  clear x0 x1 x2 x3 p0 p1 p2 p3 y0 y1 y2 y3 z0 z1 z2 z3
  clear I9 I10 HO10
  go_wp2_with fail
  refine (markArnArena_any _ _ _ _ ns _ _ _ 1 _ I11.out.ox (by omega) (by omega) (by omega)).mono ?_
  rintro e w12 ⟨rfl, ho12, hg12⟩
  have I12 := I11.out.markX hg12 ho12
  clear I11 ho12 hg12
  clear u0 u1 u2 u3 v0 v1 v2 v3
  have c1 := I12.c1
  have c3 := I12.c3
  go_wp2_with fail
  refine (eqMapMap_yes _ _ _ _ _ L _ (own2_sints I12.og) (own2_sints I12.ow) (by omega)).mono ?_
  rintro e w13 ⟨rfl, hb13⟩
  have I13 := I12.below hb13
  clear I12 hb13 c1 c3
  have c3 := I13.c3
  go_wp2_with fail
  refine (markMapMap_any _ _ _ _ L 1 _ I13.og (by omega) (by omega) (by omega)).mono ?_
  rintro e w14 ⟨rfl, ho14, hg14⟩
  have I14 := I13.markG hg14 ho14
  clear I13 ho14 hg14 c3
  have c3 := I14.c3
  go_wp2_with fail
  refine (heldMapMap_any _ _ _ 1 _ (own2_sints I14.og) (by omega) (by omega)).mono ?_
  rintro e w15 ⟨rfl, hb15⟩
  have I15 := I14.below hb15
  clear I14 hb15 c3
  have p0 := I15.bp_.c0
  have p1 := I15.bp_.c1
  have p2 := I15.bp_.c2
  have p3 := I15.bp_.c3
  go_wp2_with fail
  refine (toArnArena_any _ _ _ ns _ _ _ _ (hs.below I15.bel) hn).mono ?_
  rintro e w16 ⟨g16, hg16, rfl, ho16, hb16⟩
  have I16 := I15.below hb16
  clear I15 hb16
  clear p0 p1 p2 p3
  go_wp2_with fail
  refine (himpl.out _ _ (own6_snodes ho16)).mono ?_
  rintro e w17 ⟨ah, ch, rfl, oh, hb17⟩
  have T18 := al1 w17 (.cells #[.slice ah N ch] 28)
  have I18 := (I16.below hb17).below T18
  have sh := own2_sints (ownsRow_below oh T18)
  have ch0 := cell_at w17 #[.slice ah N ch] 28 0 rfl (v := .slice ah N ch) rfl
  have c1 := I18.c1
  clear I16 hb17 oh ho16 T18
  go_wp2_with fail
  refine (eqMapMap_yes _ _ _ _ _ L _ sh (own2_sints I18.ow) (by omega)).mono ?_
  rintro e w19 ⟨rfl, hb19⟩
  have I19 := I18.below hb19
  clear I18 hb19 sh ch0 c1
  have c3 := I19.c3
  go_wp2_with fail
  refine (heldMapMap_any _ _ _ 1 _ (own2_sints I19.og) (by omega) (by omega)).mono ?_
  rintro e w20 ⟨rfl, hb20⟩
  have hbel := below_trans' I19.bel hb20
  clear I19 hb20 c3
  go_wp2
  go_ret
  exact ⟨rfl, hbel⟩

theorem mapP_len (ns : List Nd) (t f l : Int) : (mapP ns t f l).length ≤ 2000000 := by
  unfold mapP
  split
  · exact Nat.le_trans (unm_len _ _) (pathOf_len _ ns t f l)
  · simp

set_option maxHeartbeats 400000 in
theorem arnMap_walk (a : Option Addr) (n cap : Nat) (ns : List Nd) (t f l : Int) (w : World) (hs : SNodes w a n ns) (hm : n ≤ 9223372036854775807) :
    Calls Try.prog 3 #[.agg #[.slice a n cap, .int .i64 t, .int .i64 f, .int .i64 l]] w fun e w' => e = .returned (.bool true) ∧ Below w.heap.size w w' := by
  by_cases hn : n ≤ 1048576
  · exact arnMap_core a n cap ns t f l w hs hn (mapP ns t f l).length (entsOf ns (mapP ns t f l)) (fun W g h => specArnMap_any _ n n ns t f l W h hn) (fun W g h => implArnMap_any _ n n ns t f l W h hn) (mapP_len ns t f l)
  · clear hs
    go_enter Try.func3, Try.ntmps3
    go_wp2_with fail
    refine (szArnArena_any _ _ _ _ _ _ _ _ hm (by omega) (by omega)).mono ?_
    rintro e w0 ⟨rfl, hb0⟩
    rw [if_neg (show ¬ (n : Int) ≤ 1048576 by omega)]
    have hb := below_trans' (al1 w _) hb0
    clear hb0
    go_wp2
    go_ret
    exact ⟨rfl, hb⟩

set_option maxRecDepth 100000 in
theorem arnMap_lifted (os : Os) (started : os.Started) (H : Type) (enc : TypeId × Value → H) :
    ReturnsInHanded {} Try.checked os 3 .any (Rows.fnExactArnMapSpec.pre6 enc Try.prog Try.f3 Rows.fnExactArnMapRow.domain false) (Rows.fnExactArnMapSpec.post enc Try.prog Try.f3 false true false false) := by
  refine returnsInHanded_of_change (C := Try.checked) own started (by kernel_rfl) Try.func3
    (ChangeSpec.witness6 (enc := enc) (C := Try.checked) false ⟨#[], #[.agg #[.slice none 0 0, .int .i64 0, .int .i64 0, .int .i64 0]], []⟩ 8 (by kernel_rfl) (by kernel_rfl) (by kernel_rfl) (by kernel_rfl)) ?_
  intro W base args ds gs before hval0 hW hcnd _
  have hval : ∀ (j : Nat) t v, Try.f3.params[j]? = some t → args[j]? = some v → Value.okWide Try.prog W .any base t v := hval0
  have hW' := hW
  obtain ⟨p, q, hA0, hV, rfl, hfz, hnd⟩ := hW
  have hA : DataW.TrodAll enc Try.prog W 0 (fun _ => true) true Try.f3.params.toList args.toList ds p := hA0
  rw [Try.params3] at hA hval
  obtain ⟨v0, vs0, d0, ds0, p0, q0, hargs, rfl, rfl, h0, r0⟩ := trodAll_cons hA
  obtain ⟨rfl, rfl, rfl⟩ := trodAll_nil r0
  obtain rfl : args = #[v0] := by cases args; simp_all
  obtain ⟨rfl, rfl⟩ := trodVars_none hV
  have k0 := h0
  have lt0 : ∀ x ∈ p0, x.block < W.heap.size := by obtain ⟨m, hm⟩ := k0; exact DataW.trod_lt m _ _ _ hm
  obtain ⟨a0, len0, cap0, tt, ff, ll, ns, rfl, hs, hm⟩ := arena_of_open (hval 0 24 v0 rfl rfl) h0
  clear hA0 hval0
  refine (arnMap_walk a0 len0 cap0 ns tt ff ll W hs hm).mono fun e W' ⟨he, bel⟩ => ?_
  subst he
  exact ⟨_, rfl, _, _, _, [], _, [], hW', trodAll_mk1 (shut_bool Try.underlying4 _), (trodAll_cons_mk (Below.trod laidOut (by kernel_rfl) (of_decide_eq_true (by kernel_rfl)) k0 bel lt0) trodAll_mk0), rfl, bel.frame _, fun h => by cases h⟩

theorem arnMap_holds : Rows.FnExactArnMapSaid :=
  OpenClaim.holds_of_wide 3 Try.f3 rfl rfl rfl rfl rfl rfl rfl ⟨rfl, rfl, rfl, rfl, rfl⟩ rfl rfl rfl rfl rfl (by kernel_rfl) Try.func3 (by kernel_rfl)
    (of_decide_eq_true (by kernel_rfl)) (by unfold Func.isWrapper; first | (rw [if_pos (by decide +kernel)]; kernel_rfl) | (rw [if_neg (by decide +kernel)]; exact ⟨rfl, rfl⟩))
    (fun os started H enc _ => arnMap_lifted os started H enc)

#print axioms arnMap_holds

end Go.Proofs.Ytbefjhcokmmeoaa
