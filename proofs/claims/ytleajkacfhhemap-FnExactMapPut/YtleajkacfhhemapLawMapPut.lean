/- For every map, every key and every value the law FnExactMapPut answers true and leaves its arguments as they were: MapPut of the program answers as that of the specification, writes into no argument, and its answer lies in memory of its own. No condition. -/
import Derived.Test.YtleajkacfhhemapFrame2
import Derived.Test.YtleajkacfhhemapSpecPut
import Derived.Test.YtleajkacfhhemapInvM
namespace Go.Proofs.Ytleajkacfhhemap
open Go.ChangeShapes Go.WideShapes Go.ChangeAt Go.RowKit
set_option linter.unusedVariables false

set_option maxHeartbeats 8000000 in
theorem mapPut_core (a : Option Addr) (n cap : Nat) (zs : List Int) (x y : Int) (w : World) (hs : SInts w a (n * 2) zs) (hn : n ≤ 1048576) (L : List Int) (N : Nat) (C V : Int)
    (hspec : Hid (∀ (W : World) (a : Option Addr), SInts W a (n * 2) zs → Calls Try.prog 14 #[.agg #[.slice a n n], .int .i64 x, .int .i64 y] W fun e w' => MapRes L N C V e W w'))
    (himpl : Hid (∀ (W : World) (a : Option Addr), SInts W a (n * 2) zs → Calls Try.prog 15 #[.agg #[.slice a n n], .int .i64 x, .int .i64 y] W fun e w' => MapRes L N C V e W w')) (hN : N ≤ 2000000) :
    Calls Try.prog 5 #[.agg #[.slice a n cap], .int .i64 x, .int .i64 y] w fun e w' => e = .returned (.bool true) ∧ Below w.heap.size w w' := by
  have al : Hid (∀ (W : World) (o : Obj), Below W.heap.size W (W.alloc o)) := fun W o => (Below.refl _ _).alloc (Nat.le_refl _) o
  have hsz : Hid ((n : Int) ≤ 1048576) := by show _ ≤ _; omega
  have B0 := al.out w (.cells #[.slice a n cap] 24)
  have p0 : (w.alloc (.cells #[.slice a n cap] 24)).cell? ⟨w.heap.size, 0, none⟩ = some (.slice a n cap) := by simp
  go_enter Try.func5, Try.ntmps5
  go_wp2_with fail
  refine (szMapMap_any _ _ _ _ _ (by omega) (by omega) (by omega)).mono ?_
  rintro e w0 ⟨rfl, hb0⟩
  rw [if_pos hsz.out]
  have hA0 := below_trans' B0 hb0
  have q0 := cell_kept hb0 p0
  clear p0 B0 hb0
  go_wp2_with fail
  refine (toMapMap_any _ _ _ zs _ (hs.below hA0) hn).mono ?_
  rintro e w1 ⟨g1, hg1, rfl, ho1, hb1⟩
  have hA1 := below_trans' hA0 hb1
  have q1 := cell_kept hb1 q0
  clear q0 hb1 hA0
  go_wp2_with fail
  refine (hspec.out _ _ (own2_sints ho1)).mono ?_
  rintro e w2 ⟨aw, cw, rfl, ow, hb2⟩
  have hA2 := below_trans' hA1 hb2
  have q2 := cell_kept hb2 q1
  have hbase : Hid (w.heap.size + 1 ≤ w1.heap.size) := World.block_lt_of_cell? w1 ⟨w.heap.size, 0, none⟩ q1
  have T3 := below_trans' (al.out w2 (.cells #[.slice aw N cw] 29)) (al.out _ (.cells #[.int .i64 C, .int .i64 V] 34))
  have hA3 := below_trans' hA2 T3
  have q3 := cell_kept T3 q2
  clear q1 hb2 hA1 ho1 T3
  go_wp2_with fail
  refine (toMapMap_any _ _ _ zs _ (hs.below hA3) hn).mono ?_
  rintro e w4 ⟨gx, hgx, rfl, ox, hb4⟩
  have s5 := own2_sints (ownsRow_below ox (al.out w4 (.cells #[.slice (some ⟨gx, 0, none⟩) n n] 29)))
  clear hA3 q3
  go_wp2_with fail
  refine (himpl.out _ _ s5).mono ?_
  rintro e w6 ⟨ag, cg, rfl, og, hb6⟩
  have I7 := minv_start hA2 q2 hbase.out ow hb4 hgx ox og hb6
  have m1 := I7.mw
  have m2 := I7.mg
  clear hA2 q2 hbase ow hb4 hgx ox og hb6 s5
  go_wp2_with fail
  refine (eqMapMap_yes _ _ _ _ _ L _ (own2_sints I7.og) (own2_sints I7.ow) (by omega)).mono ?_
  rintro e w8 ⟨rfl, hb8⟩
  have I8 := I7.below hb8
  have k0 := I8.r0
  have k1 := I8.r1
  have k2 := I8.s0
  have k3 := I8.s1
  clear I7 hb8 m1 m2
  go_wp2_with fail
  refine (eqResRes_yes _ _ _).mono ?_
  rintro e w9 ⟨rfl, hb9⟩
  have I9 := I8.below hb9
  have HI9 : Hid (MInv w a n cap aw N cw L w2.heap.size C V gx w4.heap.size zs ag N cg L w6.heap.size w9) := I9
  have x9 := I9.mx
  have p9 := I9.p
  clear I8 hb9 k0 k1 k2 k3 I9
  go_wp2
  go_region_with (first | (go_at_call 8; refine (toMapMap_any _ _ _ zs _ (hs.below HI9.out.bel.drew) hn).mono ?_; rintro e w10 ⟨g10, hg10, rfl, ho10, hb10⟩; have HI10 : Hid (MInv w a n cap aw N cw L w2.heap.size C V gx w4.heap.size zs ag N cg L w6.heap.size w10) := HI9.out.below (W' := w10) (below_trans' (Below.refl w9.heap.size w9).drew hb10); have x10 := HI10.out.mx; have HO10 : Hid (SInts w10 (some ⟨g10, 0, none⟩) (n * 2) zs) := own2_sints ho10; clear ho10 hb10) | (go_at_call 10; refine (eqMapMap_yes _ _ _ _ _ zs _ (own2_sints HI10.out.ox) HO10.out (by omega)).mono ?_; rintro e w11 ⟨rfl, hb11⟩))
  all_goals
    have I11 := HI10.out.below hb11
    have x11 := I11.mx
    clear HI10 HI9 HO10 hb11 x9 p9
    go_wp2_with fail
    refine (markMapMap_any _ _ _ _ zs 1 _ I11.ox (by omega) (by omega) (by omega)).mono ?_
    rintro e w12 ⟨rfl, ho12, hg12⟩
    have I12 := I11.markX hg12 ho12
    have m1 := I12.mw
    have m2 := I12.mg
    clear I11 ho12 hg12 x11
    go_wp2_with fail
    refine (eqMapMap_yes _ _ _ _ _ L _ (own2_sints I12.og) (own2_sints I12.ow) (by omega)).mono ?_
    rintro e w13 ⟨rfl, hb13⟩
    have I13 := I12.below hb13
    have k0 := I13.r0
    have k1 := I13.r1
    have k2 := I13.s0
    have k3 := I13.s1
    clear I12 hb13 m1 m2
    go_wp2_with fail
    refine (eqResRes_yes _ _ _).mono ?_
    rintro e w14 ⟨rfl, hb14⟩
    have I14 := I13.below hb14
    have m2 := I14.mg
    clear I13 hb14 k0 k1 k2 k3
    go_wp2_with fail
    refine (markMapMap_any _ _ _ _ L 1 _ I14.og (by omega) (by omega) (by omega)).mono ?_
    rintro e w15 ⟨rfl, ho15, hg15⟩
    have I15 := I14.markG hg15 ho15
    have m3 := I15.mg
    clear I14 ho15 hg15 m2
    go_wp2_with fail
    refine (heldMapMap_any _ _ _ 1 _ (own2_sints I15.og) (by omega) (by omega)).mono ?_
    rintro e w16 ⟨rfl, hb16⟩
    have I16 := I15.below hb16
    have p16 := I16.p
    clear I15 hb16 m3
    go_wp2_with fail
    refine (toMapMap_any _ _ _ zs _ (hs.below I16.bel) hn).mono ?_
    rintro e w17 ⟨g17, hg17, rfl, ho17, hb17⟩
    have I17 := I16.below hb17
    clear I16 hb17 p16
    go_wp2_with fail
    refine (himpl.out _ _ (own2_sints ho17)).mono ?_
    rintro e w18 ⟨ah, ch, rfl, oh, hb18⟩
    have T19 := below_trans' (al.out w18 (.cells #[.slice ah N ch] 29)) (al.out _ (.cells #[.int .i64 C, .int .i64 V] 34))
    have I19 := (I17.below hb18).below T19
    have oh19 := ownsRow_below oh T19
    have m1 := I19.mw
    have mh : ((w18.alloc (.cells #[.slice ah N ch] 29)).alloc (.cells #[.int .i64 C, .int .i64 V] 34)).cell? ⟨w18.heap.size, 0, none⟩ = some (.slice ah N ch) := cell_kept (al.out _ _) (cell_at w18 _ _ 0 rfl rfl)
    have h0 : ((w18.alloc (.cells #[.slice ah N ch] 29)).alloc (.cells #[.int .i64 C, .int .i64 V] 34)).cell? ⟨w18.heap.size + 1, 0, none⟩ = some (.int .i64 C) := cell_at (w18.alloc _) _ _ 0 (by simp) rfl
    have h1 : ((w18.alloc (.cells #[.slice ah N ch] 29)).alloc (.cells #[.int .i64 C, .int .i64 V] 34)).cell? ⟨w18.heap.size + 1, 1, none⟩ = some (.int .i64 V) := cell_at (w18.alloc _) _ _ 1 (by simp) rfl
    clear I17 hb18 oh ho17 T19
    go_wp2_with fail
    refine (eqMapMap_yes _ _ _ _ _ L _ (own2_sints oh19) (own2_sints I19.ow) (by omega)).mono ?_
    rintro e w20 ⟨rfl, hb20⟩
    have I20 := I19.below hb20
    have k0 := I20.r0
    have k1 := I20.r1
    have k2 := cell_kept hb20 h0
    have k3 := cell_kept hb20 h1
    clear I19 hb20 m1 mh h0 h1 oh19
    go_wp2_with fail
    refine (eqResRes_yes _ _ _).mono ?_
    rintro e w21 ⟨rfl, hb21⟩
    have I21 := I20.below hb21
    have m3 := I21.mg
    clear I20 hb21 k0 k1 k2 k3
    go_wp2_with fail
    refine (heldMapMap_any _ _ _ 1 _ (own2_sints I21.og) (by omega) (by omega)).mono ?_
    rintro e w22 ⟨rfl, hb22⟩
    have hB := below_trans' I21.bel hb22
    clear I21 hb22 m3
    go_wp2
    go_ret
    exact ⟨rfl, hB⟩

set_option maxHeartbeats 400000 in
theorem mapPut_walk (a : Option Addr) (n cap : Nat) (zs : List Int) (x y : Int) (w : World) (hs : SInts w a (n * 2) zs) (hm : n ≤ 9223372036854775807) :
    Calls Try.prog 5 #[.agg #[.slice a n cap], .int .i64 x, .int .i64 y] w fun e w' => e = .returned (.bool true) ∧ Below w.heap.size w w' := by
  by_cases hn : n ≤ 1048576
  · exact mapPut_core a n cap zs x y w hs hn (ptL zs n x y) (ptN zs n x y) (ptC zs n x y) 0 (fun W a' h => specMapPut_any a' n zs x y W h hn) (fun W a' h => implMapPut_any a' n zs x y W h hn) (by have := ptN_le zs n x y; omega)
  · clear hs
    go_enter Try.func5, Try.ntmps5
    go_wp2_with fail
    refine (szMapMap_any _ _ _ _ _ hm (by omega) (by omega)).mono ?_
    rintro e w0 ⟨rfl, hb0⟩
    rw [if_neg (show ¬ (n : Int) ≤ 1048576 by omega)]
    have hB := below_trans' ((Below.refl w.heap.size w).alloc (Nat.le_refl _) _) hb0
    clear hb0
    go_wp2
    go_ret
    exact ⟨rfl, hB⟩

set_option maxRecDepth 100000 in
theorem mapPut_lifted (os : Os) (started : os.Started) (H : Type) (enc : TypeId × Value → H) :
    ReturnsInHanded {} Try.checked os 5 .any (Rows.fnExactMapPutSpec.pre6 enc Try.prog Try.f5 Rows.fnExactMapPutRow.domain false) (Rows.fnExactMapPutSpec.post enc Try.prog Try.f5 false true false false) := by
  refine returnsInHanded_of_change (C := Try.checked) own started (by kernel_rfl) Try.func5
    (ChangeSpec.witness6 (enc := enc) (C := Try.checked) false ⟨#[], #[.agg #[.slice none 0 0], .int .i64 0, .int .i64 0], []⟩ 8 (by kernel_rfl) (by kernel_rfl) (by kernel_rfl) (by kernel_rfl)) ?_
  intro W base args ds gs before hval0 hW hcnd _
  have hval : ∀ (j : Nat) t v, Try.f5.params[j]? = some t → args[j]? = some v → Value.okWide Try.prog W .any base t v := hval0
  have hW' := hW
  obtain ⟨p, q, hA0, hV, rfl, hfz, hnd⟩ := hW
  have hA : DataW.TrodAll enc Try.prog W 0 (fun _ => true) true Try.f5.params.toList args.toList ds p := hA0
  rw [Try.params5] at hA hval
  obtain ⟨v0, vs0, d0, ds0, p0, q0, hargs, rfl, rfl, h0, r0⟩ := trodAll_cons hA
  obtain ⟨v1, vs1, d1, ds1, p1, q1, rfl, rfl, rfl, h1, r1⟩ := trodAll_cons r0
  obtain ⟨v2, vs2, d2, ds2, p2, q2, rfl, rfl, rfl, h2, r2⟩ := trodAll_cons r1
  obtain ⟨rfl, rfl, rfl⟩ := trodAll_nil r2
  obtain rfl : args = #[v0, v1, v2] := by cases args; simp_all
  obtain ⟨rfl, rfl⟩ := trodVars_none hV
  have k0 := h0
  have lt0 : ∀ x ∈ p0, x.block < W.heap.size := by obtain ⟨m, hm⟩ := k0; exact DataW.trod_lt m _ _ _ hm
  obtain ⟨a0, len0, cap0, zs, rfl, hs, hm⟩ := ents_of_open (hval 0 24 v0 rfl rfl) h0
  obtain ⟨x, rfl, rfl, rfl, wx⟩ := open_int Try.underlying3 (hval 1 3 v1 rfl rfl) h1
  obtain ⟨y, rfl, rfl, rfl, wy⟩ := open_int Try.underlying3 (hval 2 3 v2 rfl rfl) h2
  clear hA0 hval0
  refine (mapPut_walk a0 len0 cap0 zs x y W hs hm).mono fun e W' ⟨he, bel⟩ => ?_
  subst he
  exact ⟨_, rfl, _, _, _, [], _, [], hW', trodAll_mk1 (shut_bool Try.underlying4 _), (trodAll_cons_mk (Below.trod laidOut (by kernel_rfl) (of_decide_eq_true (by kernel_rfl)) k0 bel lt0) (trodAll_cons_mk (shut_int Try.underlying3 wx) (trodAll_cons_mk (shut_int Try.underlying3 wy) trodAll_mk0))), rfl, bel.frame _, fun h => by cases h⟩

theorem mapPut_holds : Rows.FnExactMapPutSaid :=
  OpenClaim.holds_of_wide 5 Try.f5 rfl rfl rfl rfl rfl rfl rfl ⟨rfl, rfl, rfl, rfl, rfl⟩ rfl rfl rfl rfl rfl (by kernel_rfl) Try.func5 (by kernel_rfl)
    (of_decide_eq_true (by kernel_rfl)) (by unfold Func.isWrapper; first | (rw [if_pos (by decide +kernel)]; kernel_rfl) | (rw [if_neg (by decide +kernel)]; exact ⟨rfl, rfl⟩))
    (fun os started H enc _ => mapPut_lifted os started H enc)

#print axioms mapPut_holds
end Go.Proofs.Ytleajkacfhhemap
