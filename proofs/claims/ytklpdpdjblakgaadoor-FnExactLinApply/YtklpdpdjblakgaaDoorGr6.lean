/- Several texts in one: LinM1, LinM2, LinK. -/
import Derived.Test.YtklpdpdjblakgaaDoorGr5
/- LinM1 -/
namespace Go.Proofs.YtklpdpdjblakgaaDoor
open Go.RowKit
set_option linter.unusedVariables false

set_option maxRecDepth 20000 in
set_option maxHeartbeats 1000000 in
theorem slin1 (v : SV) (d : LD) (x y : Int) (w : World) (h : SS w v d) (hr : Room v d) (hf : Few d) (hg : Somes v) (hm : okM d.zs d.n = true) (hs : okL d.s = true) (hq : okL d.q = true) (ho : opB 1 x y = true) :
    Calls Tryd.prog 9 #[stV v d, .agg #[.int .i64 1, .int .i64 x, .int .i64 y]] w (SpRes d (getC d.zs d.n x) (getV d.zs d.n x) w) := by
  have B := linBoxes w v d 1 x y
  have HF : Hid (Few d ∧ Room v d ∧ SS w v d) := ⟨hf, hr, h⟩
  obtain ⟨⟨gs, hgs⟩, ⟨gq, hgq⟩⟩ := hg
  generalize hC : getC d.zs d.n x = C
  generalize hV : getV d.zs d.n x = V
  clear h hr hf
  go_enter Tryd.func9, Tryd.ntmps9
  go_wp2_with fail
  generalize hw0 : ((((w.alloc (.cells #[v.m d, v.s d, v.q d] 35)).alloc (.cells #[.int .i64 1, .int .i64 x, .int .i64 y] 41)).alloc (.cells #[.slice none 0 0, .slice none 0 0, .slice none 0 0] 35)).alloc (.cells #[.int .i64 0, .int .i64 0] 37)) = w0 at B ⊢
  clear hw0
  refine (specMapOk_any _ _ _ d.zs _ (HF.out.2.2.below B.bel).m (by have := HF.out.1.m; omega)).mono ?_
  rintro e w1 ⟨rfl, hb1⟩
  rw [hm]
  have B1 := B.below hb1
  obtain ⟨s0, s1, s2⟩ := B1.s.cells
  obtain ⟨p0, p1, p2⟩ := B1.o.cells
  have HB1 : Hid (LinB4 w w1 v d 1 x y) := B1
  clear B B1 hb1
  go_wp2_with fail
  refine (specListOk_any _ _ _ d.s _ (HF.out.2.2.below HB1.out.bel).s (by have := HF.out.1.s; omega)).mono ?_
  rintro e w1' ⟨rfl, rfl⟩
  rw [hs]
  go_wp2_with fail
  refine (specListOk_any _ _ _ d.q _ (HF.out.2.2.below HB1.out.bel).q (by have := HF.out.1.q; omega)).mono ?_
  rintro e w1' ⟨rfl, rfl⟩
  rw [hq]
  go_wp2_with fail
  refine (specOpOk_any 1 x y _).mono ?_
  rintro e w2 ⟨rfl, hb2⟩
  rw [ho]
  have B2 := HB1.out.below hb2
  clear s0 s1 s2 p0 p1 p2
  obtain ⟨s0, s1, s2⟩ := B2.s.cells
  have HB2 : Hid (LinB4 w w2 v d 1 x y) := B2
  clear HB1 B2 hb2 hm hs hq ho
  go_wp2_with fail
  refine (l7Copy_any v d _ (HF.out.2.2.below HB2.out.bel) HF.out.1).mono ?_
  rintro e w3 ⟨u, rfl, hst, hb3⟩
  have B3' := HB2.out.below hb3
  clear s0 s1 s2
  obtain ⟨s0, s1, s2⟩ := B3'.s.cells
  obtain ⟨p0, p1, p2⟩ := B3'.o.cells
  have n0 : w.heap.size + 4 ≤ w3.heap.size := B3'.sz
  have na : w.heap.size < w3.heap.size := by omega
  have na1 : w.heap.size < w3.heap.size + 1 := by omega
  have nb : w.heap.size + 1 < w3.heap.size := by omega
  have nb1 : w.heap.size + 1 < w3.heap.size + 1 := by omega
  have HLO : w2.heap.size ≤ w3.heap.size := hb3.size
  have HB3 : Hid (LinB4 w w3 v d 1 x y ∧ St w2.heap.size w3.heap.size u d w3 ∧ w.heap.size + 4 ≤ w2.heap.size) := ⟨B3', hst, HB2.out.sz⟩
  clear HB2 B3' hst hb3
  go_wp2_with fail
  refine (specMapGet_any _ _ _ d.zs x _ (HF.out.2.2.below (below_trans' (below_trans' HB3.out.1.bel (al1 w3 (.cells #[u.m d, u.s d, u.q d] 35))) (al1 _ (.cells #[.int .i64 2, .int .i64 0] 37)))).m (by have := HF.out.1.m; omega)).mono ?_
  rw [hC, hV]
  clear hC hV
  rintro e w4 ⟨rfl, hb4⟩
  have X4 := (b3_new w3 (u.m d) (u.s d) (u.q d) 35 rfl).below (below_trans' (al1 _ (.cells #[.int .i64 2, .int .i64 0] 37)) hb4)
  have Y4 := (b2_new (w3.alloc (.cells #[u.m d, u.s d, u.q d] 35)) (.int .i64 2) (.int .i64 0) 37 (b := w3.heap.size + 1) (by simp)).below hb4
  have m0 : w3.heap.size + 2 ≤ w4.heap.size := by have := hb4.size; simpa using this
  have m1 : w3.heap.size < w4.heap.size := by omega
  have m2 : w3.heap.size < w4.heap.size + 1 := by omega
  have m3 : w3.heap.size + 1 < w4.heap.size := by omega
  have m4 : w3.heap.size + 1 < w4.heap.size + 1 := by omega
  have b4 : Below w3.heap.size w3 w4 := below_trans' (below_trans' (al1 w3 (.cells #[u.m d, u.s d, u.q d] 35)) (al1 _ (.cells #[.int .i64 2, .int .i64 0] 37))) hb4
  have hb5 : Below w3.heap.size w3 ((w4.setCell ⟨w3.heap.size + 1, 0, none⟩ (.int .i64 C)).setCell ⟨w3.heap.size + 1, 1, none⟩ (.int .i64 V)) := (b4.setCell (p := ⟨w3.heap.size + 1, 0, none⟩) (by show w3.heap.size ≤ w3.heap.size + 1; omega) _).setCell (p := ⟨w3.heap.size + 1, 1, none⟩) (by show w3.heap.size ≤ w3.heap.size + 1; omega) _
  have X5 : B3 ((w4.setCell ⟨w3.heap.size + 1, 0, none⟩ (.int .i64 C)).setCell ⟨w3.heap.size + 1, 1, none⟩ (.int .i64 V)) w3.heap.size (u.m d) (u.s d) (u.q d) := (X4.far (by omega)).far (by omega)
  have Y5 : B2 ((w4.setCell ⟨w3.heap.size + 1, 0, none⟩ (.int .i64 C)).setCell ⟨w3.heap.size + 1, 1, none⟩ (.int .i64 V)) (w3.heap.size + 1) (.int .i64 C) (.int .i64 V) := Y4.set0.set1
  have OW : True := trivial
  obtain ⟨t0, t1, t2⟩ := X4.cells
  obtain ⟨f0, f1, f2⟩ := X4.frees
  have y0 := Y4.c0
  have y1 := Y4.c1
  have g0 := Y4.f 0
  have g1 := Y4.f 1
  have XX : Hid (_ ∧ _ ∧ _ ∧ _) := ⟨hb5, X5, Y5, OW⟩
  clear hb5 X5 Y5 OW hb4 X4 Y4 s0 s1 s2 p0 p1 p2 b4
  go_wp2
  obtain ⟨hb5, X5, Y5, OW⟩ := XX.out
  clear XX
  generalize hw5 : ((w4.setCell ⟨w3.heap.size + 1, 0, none⟩ (.int .i64 C)).setCell ⟨w3.heap.size + 1, 1, none⟩ (.int .i64 V)) = w5 at hb5 X5 Y5 OW ⊢
  clear hw5 t0 t1 t2 f0 f1 f2 y0 y1 g0 g1
  have B5 := HB3.out.1.below hb5
  obtain ⟨t0, t1, t2⟩ := X5.cells
  have r0 := Y5.c0
  have r1 := Y5.c1
  obtain ⟨k0, k1, k2⟩ := B5.r.cells
  obtain ⟨l0, l1, l2⟩ := B5.r.frees
  have i0 := B5.rr.c0
  have i1 := B5.rr.c1
  have j0 := B5.rr.f 0
  have j1 := B5.rr.f 1
  have HB5 : Hid (Below w3.heap.size w3 w5 ∧ LinB4 w w5 v d 1 x y ∧ _) := ⟨hb5, B5, OW⟩
  clear hb5 X5 Y5 B5 OW
  go_region_held (fun w' => w'.cell? ⟨w3.heap.size, 0, none⟩ = some (u.m d) ∧ w'.cell? ⟨w3.heap.size, 1, none⟩ = some (u.s d) ∧ w'.cell? ⟨w3.heap.size, 2, none⟩ = some (u.q d) ∧ w'.cell? ⟨w3.heap.size + 1, 0, none⟩ = some (.int .i64 C) ∧ w'.cell? ⟨w3.heap.size + 1, 1, none⟩ = some (.int .i64 V)) ((refine ⟨?_, ?_, ?_, ?_, ?_⟩ <;> (try (with_reducible (refine cell_drew ?_))) <;> (repeat (with_reducible (refine cell_far (by omega) ?_))) <;> (with_reducible assumption))) (fail)
  all_goals
    go_wp2
    refine bodyPost_ret (v := .tuple #[.agg #[(u.m d), (u.s d), (u.q d)], .agg #[.int .i64 C, .int .i64 V]]) (by simp [results, Tryd.results9, go_sem, k0, k1, k2, i0, i1]) rfl ?_
    exact SpRes.drew ⟨u, rfl, st_put5 (HB3.out.2.1.below (Nat.le_refl _) HB5.out.1) HB3.out.2.2 HB5.out.1.size _ _ _ _ _, below_put5 HB5.out.2.1.bel _ _ _ _ _⟩

set_option maxRecDepth 20000 in
set_option maxHeartbeats 1000000 in
theorem slin2 (v : SV) (d : LD) (x y : Int) (w : World) (h : SS w v d) (hr : Room v d) (hf : Few d) (hg : Somes v) (hm : okM d.zs d.n = true) (hs : okL d.s = true) (hq : okL d.q = true) (ho : opB 2 x y = true) :
    Calls Tryd.prog 9 #[stV v d, .agg #[.int .i64 2, .int .i64 x, .int .i64 y]] w (SpRes ⟨ptN d.zs d.n x y, ptL d.zs d.n x y, d.s, d.q⟩ (ptC d.zs d.n x y) (0) w) := by
  have B := linBoxes w v d 2 x y
  have HF : Hid (Few d ∧ Room v d ∧ SS w v d) := ⟨hf, hr, h⟩
  obtain ⟨⟨gs, hgs⟩, ⟨gq, hgq⟩⟩ := hg
  generalize hN : ptN d.zs d.n x y = N
  generalize hZ : ptL d.zs d.n x y = Z
  generalize hC : ptC d.zs d.n x y = C
  clear h hr hf
  go_enter Tryd.func9, Tryd.ntmps9
  go_wp2_with fail
  generalize hw0 : ((((w.alloc (.cells #[v.m d, v.s d, v.q d] 35)).alloc (.cells #[.int .i64 2, .int .i64 x, .int .i64 y] 41)).alloc (.cells #[.slice none 0 0, .slice none 0 0, .slice none 0 0] 35)).alloc (.cells #[.int .i64 0, .int .i64 0] 37)) = w0 at B ⊢
  clear hw0
  refine (specMapOk_any _ _ _ d.zs _ (HF.out.2.2.below B.bel).m (by have := HF.out.1.m; omega)).mono ?_
  rintro e w1 ⟨rfl, hb1⟩
  rw [hm]
  have B1 := B.below hb1
  obtain ⟨s0, s1, s2⟩ := B1.s.cells
  obtain ⟨p0, p1, p2⟩ := B1.o.cells
  have HB1 : Hid (LinB4 w w1 v d 2 x y) := B1
  clear B B1 hb1
  go_wp2_with fail
  refine (specListOk_any _ _ _ d.s _ (HF.out.2.2.below HB1.out.bel).s (by have := HF.out.1.s; omega)).mono ?_
  rintro e w1' ⟨rfl, rfl⟩
  rw [hs]
  go_wp2_with fail
  refine (specListOk_any _ _ _ d.q _ (HF.out.2.2.below HB1.out.bel).q (by have := HF.out.1.q; omega)).mono ?_
  rintro e w1' ⟨rfl, rfl⟩
  rw [hq]
  go_wp2_with fail
  refine (specOpOk_any 2 x y _).mono ?_
  rintro e w2 ⟨rfl, hb2⟩
  rw [ho]
  have B2 := HB1.out.below hb2
  clear s0 s1 s2 p0 p1 p2
  obtain ⟨s0, s1, s2⟩ := B2.s.cells
  have HB2 : Hid (LinB4 w w2 v d 2 x y) := B2
  clear HB1 B2 hb2 hm hs hq ho
  go_wp2_with fail
  refine (l7Copy_any v d _ (HF.out.2.2.below HB2.out.bel) HF.out.1).mono ?_
  rintro e w3 ⟨u, rfl, hst, hb3⟩
  have B3' := HB2.out.below hb3
  clear s0 s1 s2
  obtain ⟨s0, s1, s2⟩ := B3'.s.cells
  obtain ⟨p0, p1, p2⟩ := B3'.o.cells
  have n0 : w.heap.size + 4 ≤ w3.heap.size := B3'.sz
  have na : w.heap.size < w3.heap.size := by omega
  have na1 : w.heap.size < w3.heap.size + 1 := by omega
  have nb : w.heap.size + 1 < w3.heap.size := by omega
  have nb1 : w.heap.size + 1 < w3.heap.size + 1 := by omega
  have HLO : w2.heap.size ≤ w3.heap.size := hb3.size
  have HB3 : Hid (LinB4 w w3 v d 2 x y ∧ St w2.heap.size w3.heap.size u d w3 ∧ w.heap.size + 4 ≤ w2.heap.size) := ⟨B3', hst, HB2.out.sz⟩
  clear HB2 B3' hst hb3
  go_wp2_with fail
  refine (specMapPut_cap _ _ _ d.zs x y _ (HF.out.2.2.below (below_trans' (below_trans' HB3.out.1.bel (al1 w3 (.cells #[u.m d, u.s d, u.q d] 35))) (al1 _ (.cells #[.int .i64 2, .int .i64 0] 37)))).m (by have := HF.out.1.m; omega)).mono ?_
  rw [hN, hZ, hC]
  clear hN hZ hC
  rintro e w4 ⟨a', c', rfl, ow, hb4⟩
  have X4 := (b3_new w3 (u.m d) (u.s d) (u.q d) 35 rfl).below (below_trans' (al1 _ (.cells #[.int .i64 2, .int .i64 0] 37)) hb4)
  have Y4 := (b2_new (w3.alloc (.cells #[u.m d, u.s d, u.q d] 35)) (.int .i64 2) (.int .i64 0) 37 (b := w3.heap.size + 1) (by simp)).below hb4
  have m0 : w3.heap.size + 2 ≤ w4.heap.size := by have := hb4.size; simpa using this
  have m1 : w3.heap.size < w4.heap.size := by omega
  have m2 : w3.heap.size < w4.heap.size + 1 := by omega
  have m3 : w3.heap.size + 1 < w4.heap.size := by omega
  have m4 : w3.heap.size + 1 < w4.heap.size + 1 := by omega
  have b4 : Below w3.heap.size w3 w4 := below_trans' (below_trans' (al1 w3 (.cells #[u.m d, u.s d, u.q d] 35)) (al1 _ (.cells #[.int .i64 2, .int .i64 0] 37))) hb4
  have bz : (((w4.setCell ⟨w3.heap.size, 0, none⟩ (.slice a' N c')).setCell ⟨w3.heap.size + 1, 0, none⟩ (.int .i64 C)).setCell ⟨w3.heap.size + 1, 1, none⟩ (.int .i64 0)).heap.size = w4.heap.size := by simp
  have hAL : Below (((w4.setCell ⟨w3.heap.size, 0, none⟩ (.slice a' N c')).setCell ⟨w3.heap.size + 1, 0, none⟩ (.int .i64 C)).setCell ⟨w3.heap.size + 1, 1, none⟩ (.int .i64 0)).heap.size (((w4.setCell ⟨w3.heap.size, 0, none⟩ (.slice a' N c')).setCell ⟨w3.heap.size + 1, 0, none⟩ (.int .i64 C)).setCell ⟨w3.heap.size + 1, 1, none⟩ (.int .i64 0)) (((((w4.setCell ⟨w3.heap.size, 0, none⟩ (.slice a' N c')).setCell ⟨w3.heap.size + 1, 0, none⟩ (.int .i64 C)).setCell ⟨w3.heap.size + 1, 1, none⟩ (.int .i64 0)).alloc (.cells #[(.slice a' N c')] 33)).alloc (.cells #[.int .i64 C, .int .i64 0] 37)) := (below_trans' (al1 _ (.cells #[(.slice a' N c')] 33)) (al1 _ (.cells #[.int .i64 C, .int .i64 0] 37)))
  have hb5 : Below w3.heap.size w3 (((((w4.setCell ⟨w3.heap.size, 0, none⟩ (.slice a' N c')).setCell ⟨w3.heap.size + 1, 0, none⟩ (.int .i64 C)).setCell ⟨w3.heap.size + 1, 1, none⟩ (.int .i64 0)).alloc (.cells #[(.slice a' N c')] 33)).alloc (.cells #[.int .i64 C, .int .i64 0] 37)) := (((b4.setCell (p := ⟨w3.heap.size, 0, none⟩) (Nat.le_refl _) _).setCell (p := ⟨w3.heap.size + 1, 0, none⟩) (by show w3.heap.size ≤ w3.heap.size + 1; omega) _).setCell (p := ⟨w3.heap.size + 1, 1, none⟩) (by show w3.heap.size ≤ w3.heap.size + 1; omega) _).trans (hAL.mono (by rw [bz]; omega))
  have X5 : B3 (((((w4.setCell ⟨w3.heap.size, 0, none⟩ (.slice a' N c')).setCell ⟨w3.heap.size + 1, 0, none⟩ (.int .i64 C)).setCell ⟨w3.heap.size + 1, 1, none⟩ (.int .i64 0)).alloc (.cells #[(.slice a' N c')] 33)).alloc (.cells #[.int .i64 C, .int .i64 0] 37)) w3.heap.size (.slice a' N c') (u.s d) (u.q d) := (((X4.set0).far (by omega)).far (by omega)).below hAL
  have Y5 : B2 (((((w4.setCell ⟨w3.heap.size, 0, none⟩ (.slice a' N c')).setCell ⟨w3.heap.size + 1, 0, none⟩ (.int .i64 C)).setCell ⟨w3.heap.size + 1, 1, none⟩ (.int .i64 0)).alloc (.cells #[(.slice a' N c')] 33)).alloc (.cells #[.int .i64 C, .int .i64 0] 37)) (w3.heap.size + 1) (.int .i64 C) (.int .i64 0) := (((Y4.far (by omega)).set0).set1).below hAL
  have OW : (((((w4.setCell ⟨w3.heap.size, 0, none⟩ (.slice a' N c')).setCell ⟨w3.heap.size + 1, 0, none⟩ (.int .i64 C)).setCell ⟨w3.heap.size + 1, 1, none⟩ (.int .i64 0)).alloc (.cells #[(.slice a' N c')] 33)).alloc (.cells #[.int .i64 C, .int .i64 0] 37)).ownsRow w3.heap.size 84 2 (.slice a' N c') N (Z.map (Value.int .i64)) := ownsRow_below (own_far (own_far (own_far (own_mono ow (by simp) : w4.ownsRow (w3.heap.size + 2) 84 2 (.slice a' N c') N (Z.map (Value.int .i64))) (by omega) _) (by omega) _) (by omega) _ |> fun h => own_mono h (by omega)) hAL
  obtain ⟨t0, t1, t2⟩ := X4.cells
  obtain ⟨f0, f1, f2⟩ := X4.frees
  have y0 := Y4.c0
  have y1 := Y4.c1
  have g0 := Y4.f 0
  have g1 := Y4.f 1
  have XX : Hid (_ ∧ _ ∧ _ ∧ _) := ⟨hb5, X5, Y5, OW⟩
  clear hb5 X5 Y5 OW hb4 X4 Y4 s0 s1 s2 p0 p1 p2 b4 ow bz hAL
  go_wp2
  obtain ⟨hb5, X5, Y5, OW⟩ := XX.out
  clear XX
  generalize hw5 : (((((w4.setCell ⟨w3.heap.size, 0, none⟩ (.slice a' N c')).setCell ⟨w3.heap.size + 1, 0, none⟩ (.int .i64 C)).setCell ⟨w3.heap.size + 1, 1, none⟩ (.int .i64 0)).alloc (.cells #[(.slice a' N c')] 33)).alloc (.cells #[.int .i64 C, .int .i64 0] 37)) = w5 at hb5 X5 Y5 OW ⊢
  clear hw5 t0 t1 t2 f0 f1 f2 y0 y1 g0 g1
  have B5 := HB3.out.1.below hb5
  obtain ⟨t0, t1, t2⟩ := X5.cells
  have r0 := Y5.c0
  have r1 := Y5.c1
  obtain ⟨k0, k1, k2⟩ := B5.r.cells
  obtain ⟨l0, l1, l2⟩ := B5.r.frees
  have i0 := B5.rr.c0
  have i1 := B5.rr.c1
  have j0 := B5.rr.f 0
  have j1 := B5.rr.f 1
  have HB5 : Hid (Below w3.heap.size w3 w5 ∧ LinB4 w w5 v d 2 x y ∧ _) := ⟨hb5, B5, OW⟩
  clear hb5 X5 Y5 B5 OW
  go_region_held (fun w' => w'.cell? ⟨w3.heap.size, 0, none⟩ = some (.slice a' N c') ∧ w'.cell? ⟨w3.heap.size, 1, none⟩ = some (u.s d) ∧ w'.cell? ⟨w3.heap.size, 2, none⟩ = some (u.q d) ∧ w'.cell? ⟨w3.heap.size + 1, 0, none⟩ = some (.int .i64 C) ∧ w'.cell? ⟨w3.heap.size + 1, 1, none⟩ = some (.int .i64 0)) ((refine ⟨?_, ?_, ?_, ?_, ?_⟩ <;> (try (with_reducible (refine cell_drew ?_))) <;> (repeat (with_reducible (refine cell_far (by omega) ?_))) <;> (with_reducible assumption))) (fail)
  all_goals
    go_wp2
    refine bodyPost_ret (v := .tuple #[.agg #[(.slice a' N c'), (u.s d), (u.q d)], .agg #[.int .i64 C, .int .i64 0]]) (by simp [results, Tryd.results9, go_sem, k0, k1, k2, i0, i1]) rfl ?_
    have hN := st_newM HB3.out.2.1 HLO (Nat.le_refl _) HB5.out.1 HB5.out.2.2
    exact SpRes.drew ⟨⟨a', c', u.sa, u.sc, u.qa, u.qc⟩, rfl, st_put5 hN HB3.out.2.2 (Nat.le_refl _) _ _ _ _ _, below_put5 HB5.out.2.1.bel _ _ _ _ _⟩

set_option maxRecDepth 20000 in
set_option maxHeartbeats 1000000 in
theorem slin3 (v : SV) (d : LD) (x y : Int) (w : World) (h : SS w v d) (hr : Room v d) (hf : Few d) (hg : Somes v) (hm : okM d.zs d.n = true) (hs : okL d.s = true) (hq : okL d.q = true) (ho : opB 3 x y = true) :
    Calls Tryd.prog 9 #[stV v d, .agg #[.int .i64 3, .int .i64 x, .int .i64 y]] w (SpRes ⟨delN d.zs d.n x, delL d.zs d.n x, d.s, d.q⟩ (delC d.zs d.n x) (delV d.zs d.n x) w) := by
  have B := linBoxes w v d 3 x y
  have HF : Hid (Few d ∧ Room v d ∧ SS w v d) := ⟨hf, hr, h⟩
  obtain ⟨⟨gs, hgs⟩, ⟨gq, hgq⟩⟩ := hg
  generalize hN : delN d.zs d.n x = N
  generalize hZ : delL d.zs d.n x = Z
  generalize hC : delC d.zs d.n x = C
  generalize hV : delV d.zs d.n x = V
  clear h hr hf
  go_enter Tryd.func9, Tryd.ntmps9
  go_wp2_with fail
  generalize hw0 : ((((w.alloc (.cells #[v.m d, v.s d, v.q d] 35)).alloc (.cells #[.int .i64 3, .int .i64 x, .int .i64 y] 41)).alloc (.cells #[.slice none 0 0, .slice none 0 0, .slice none 0 0] 35)).alloc (.cells #[.int .i64 0, .int .i64 0] 37)) = w0 at B ⊢
  clear hw0
  refine (specMapOk_any _ _ _ d.zs _ (HF.out.2.2.below B.bel).m (by have := HF.out.1.m; omega)).mono ?_
  rintro e w1 ⟨rfl, hb1⟩
  rw [hm]
  have B1 := B.below hb1
  obtain ⟨s0, s1, s2⟩ := B1.s.cells
  obtain ⟨p0, p1, p2⟩ := B1.o.cells
  have HB1 : Hid (LinB4 w w1 v d 3 x y) := B1
  clear B B1 hb1
  go_wp2_with fail
  refine (specListOk_any _ _ _ d.s _ (HF.out.2.2.below HB1.out.bel).s (by have := HF.out.1.s; omega)).mono ?_
  rintro e w1' ⟨rfl, rfl⟩
  rw [hs]
  go_wp2_with fail
  refine (specListOk_any _ _ _ d.q _ (HF.out.2.2.below HB1.out.bel).q (by have := HF.out.1.q; omega)).mono ?_
  rintro e w1' ⟨rfl, rfl⟩
  rw [hq]
  go_wp2_with fail
  refine (specOpOk_any 3 x y _).mono ?_
  rintro e w2 ⟨rfl, hb2⟩
  rw [ho]
  have B2 := HB1.out.below hb2
  clear s0 s1 s2 p0 p1 p2
  obtain ⟨s0, s1, s2⟩ := B2.s.cells
  have HB2 : Hid (LinB4 w w2 v d 3 x y) := B2
  clear HB1 B2 hb2 hm hs hq ho
  go_wp2_with fail
  refine (l7Copy_any v d _ (HF.out.2.2.below HB2.out.bel) HF.out.1).mono ?_
  rintro e w3 ⟨u, rfl, hst, hb3⟩
  have B3' := HB2.out.below hb3
  clear s0 s1 s2
  obtain ⟨s0, s1, s2⟩ := B3'.s.cells
  obtain ⟨p0, p1, p2⟩ := B3'.o.cells
  have n0 : w.heap.size + 4 ≤ w3.heap.size := B3'.sz
  have na : w.heap.size < w3.heap.size := by omega
  have na1 : w.heap.size < w3.heap.size + 1 := by omega
  have nb : w.heap.size + 1 < w3.heap.size := by omega
  have nb1 : w.heap.size + 1 < w3.heap.size + 1 := by omega
  have HLO : w2.heap.size ≤ w3.heap.size := hb3.size
  have HB3 : Hid (LinB4 w w3 v d 3 x y ∧ St w2.heap.size w3.heap.size u d w3 ∧ w.heap.size + 4 ≤ w2.heap.size) := ⟨B3', hst, HB2.out.sz⟩
  clear HB2 B3' hst hb3
  go_wp2_with fail
  refine (specMapDel_cap _ _ _ d.zs x _ (HF.out.2.2.below (below_trans' (below_trans' HB3.out.1.bel (al1 w3 (.cells #[u.m d, u.s d, u.q d] 35))) (al1 _ (.cells #[.int .i64 2, .int .i64 0] 37)))).m (by have := HF.out.1.m; omega)).mono ?_
  rw [hN, hZ, hC, hV]
  clear hN hZ hC hV
  rintro e w4 ⟨a', c', rfl, ow, hb4⟩
  have X4 := (b3_new w3 (u.m d) (u.s d) (u.q d) 35 rfl).below (below_trans' (al1 _ (.cells #[.int .i64 2, .int .i64 0] 37)) hb4)
  have Y4 := (b2_new (w3.alloc (.cells #[u.m d, u.s d, u.q d] 35)) (.int .i64 2) (.int .i64 0) 37 (b := w3.heap.size + 1) (by simp)).below hb4
  have m0 : w3.heap.size + 2 ≤ w4.heap.size := by have := hb4.size; simpa using this
  have m1 : w3.heap.size < w4.heap.size := by omega
  have m2 : w3.heap.size < w4.heap.size + 1 := by omega
  have m3 : w3.heap.size + 1 < w4.heap.size := by omega
  have m4 : w3.heap.size + 1 < w4.heap.size + 1 := by omega
  have b4 : Below w3.heap.size w3 w4 := below_trans' (below_trans' (al1 w3 (.cells #[u.m d, u.s d, u.q d] 35)) (al1 _ (.cells #[.int .i64 2, .int .i64 0] 37))) hb4
  have bz : (((w4.setCell ⟨w3.heap.size, 0, none⟩ (.slice a' N c')).setCell ⟨w3.heap.size + 1, 0, none⟩ (.int .i64 C)).setCell ⟨w3.heap.size + 1, 1, none⟩ (.int .i64 V)).heap.size = w4.heap.size := by simp
  have hAL : Below (((w4.setCell ⟨w3.heap.size, 0, none⟩ (.slice a' N c')).setCell ⟨w3.heap.size + 1, 0, none⟩ (.int .i64 C)).setCell ⟨w3.heap.size + 1, 1, none⟩ (.int .i64 V)).heap.size (((w4.setCell ⟨w3.heap.size, 0, none⟩ (.slice a' N c')).setCell ⟨w3.heap.size + 1, 0, none⟩ (.int .i64 C)).setCell ⟨w3.heap.size + 1, 1, none⟩ (.int .i64 V)) (((((w4.setCell ⟨w3.heap.size, 0, none⟩ (.slice a' N c')).setCell ⟨w3.heap.size + 1, 0, none⟩ (.int .i64 C)).setCell ⟨w3.heap.size + 1, 1, none⟩ (.int .i64 V)).alloc (.cells #[(.slice a' N c')] 33)).alloc (.cells #[.int .i64 C, .int .i64 V] 37)) := (below_trans' (al1 _ (.cells #[(.slice a' N c')] 33)) (al1 _ (.cells #[.int .i64 C, .int .i64 V] 37)))
  have hb5 : Below w3.heap.size w3 (((((w4.setCell ⟨w3.heap.size, 0, none⟩ (.slice a' N c')).setCell ⟨w3.heap.size + 1, 0, none⟩ (.int .i64 C)).setCell ⟨w3.heap.size + 1, 1, none⟩ (.int .i64 V)).alloc (.cells #[(.slice a' N c')] 33)).alloc (.cells #[.int .i64 C, .int .i64 V] 37)) := (((b4.setCell (p := ⟨w3.heap.size, 0, none⟩) (Nat.le_refl _) _).setCell (p := ⟨w3.heap.size + 1, 0, none⟩) (by show w3.heap.size ≤ w3.heap.size + 1; omega) _).setCell (p := ⟨w3.heap.size + 1, 1, none⟩) (by show w3.heap.size ≤ w3.heap.size + 1; omega) _).trans (hAL.mono (by rw [bz]; omega))
  have X5 : B3 (((((w4.setCell ⟨w3.heap.size, 0, none⟩ (.slice a' N c')).setCell ⟨w3.heap.size + 1, 0, none⟩ (.int .i64 C)).setCell ⟨w3.heap.size + 1, 1, none⟩ (.int .i64 V)).alloc (.cells #[(.slice a' N c')] 33)).alloc (.cells #[.int .i64 C, .int .i64 V] 37)) w3.heap.size (.slice a' N c') (u.s d) (u.q d) := (((X4.set0).far (by omega)).far (by omega)).below hAL
  have Y5 : B2 (((((w4.setCell ⟨w3.heap.size, 0, none⟩ (.slice a' N c')).setCell ⟨w3.heap.size + 1, 0, none⟩ (.int .i64 C)).setCell ⟨w3.heap.size + 1, 1, none⟩ (.int .i64 V)).alloc (.cells #[(.slice a' N c')] 33)).alloc (.cells #[.int .i64 C, .int .i64 V] 37)) (w3.heap.size + 1) (.int .i64 C) (.int .i64 V) := (((Y4.far (by omega)).set0).set1).below hAL
  have OW : (((((w4.setCell ⟨w3.heap.size, 0, none⟩ (.slice a' N c')).setCell ⟨w3.heap.size + 1, 0, none⟩ (.int .i64 C)).setCell ⟨w3.heap.size + 1, 1, none⟩ (.int .i64 V)).alloc (.cells #[(.slice a' N c')] 33)).alloc (.cells #[.int .i64 C, .int .i64 V] 37)).ownsRow w3.heap.size 84 2 (.slice a' N c') N (Z.map (Value.int .i64)) := ownsRow_below (own_far (own_far (own_far (own_mono ow (by simp) : w4.ownsRow (w3.heap.size + 2) 84 2 (.slice a' N c') N (Z.map (Value.int .i64))) (by omega) _) (by omega) _) (by omega) _ |> fun h => own_mono h (by omega)) hAL
  obtain ⟨t0, t1, t2⟩ := X4.cells
  obtain ⟨f0, f1, f2⟩ := X4.frees
  have y0 := Y4.c0
  have y1 := Y4.c1
  have g0 := Y4.f 0
  have g1 := Y4.f 1
  have XX : Hid (_ ∧ _ ∧ _ ∧ _) := ⟨hb5, X5, Y5, OW⟩
  clear hb5 X5 Y5 OW hb4 X4 Y4 s0 s1 s2 p0 p1 p2 b4 ow bz hAL
  go_wp2
  obtain ⟨hb5, X5, Y5, OW⟩ := XX.out
  clear XX
  generalize hw5 : (((((w4.setCell ⟨w3.heap.size, 0, none⟩ (.slice a' N c')).setCell ⟨w3.heap.size + 1, 0, none⟩ (.int .i64 C)).setCell ⟨w3.heap.size + 1, 1, none⟩ (.int .i64 V)).alloc (.cells #[(.slice a' N c')] 33)).alloc (.cells #[.int .i64 C, .int .i64 V] 37)) = w5 at hb5 X5 Y5 OW ⊢
  clear hw5 t0 t1 t2 f0 f1 f2 y0 y1 g0 g1
  have B5 := HB3.out.1.below hb5
  obtain ⟨t0, t1, t2⟩ := X5.cells
  have r0 := Y5.c0
  have r1 := Y5.c1
  obtain ⟨k0, k1, k2⟩ := B5.r.cells
  obtain ⟨l0, l1, l2⟩ := B5.r.frees
  have i0 := B5.rr.c0
  have i1 := B5.rr.c1
  have j0 := B5.rr.f 0
  have j1 := B5.rr.f 1
  have HB5 : Hid (Below w3.heap.size w3 w5 ∧ LinB4 w w5 v d 3 x y ∧ _) := ⟨hb5, B5, OW⟩
  clear hb5 X5 Y5 B5 OW
  go_region_held (fun w' => w'.cell? ⟨w3.heap.size, 0, none⟩ = some (.slice a' N c') ∧ w'.cell? ⟨w3.heap.size, 1, none⟩ = some (u.s d) ∧ w'.cell? ⟨w3.heap.size, 2, none⟩ = some (u.q d) ∧ w'.cell? ⟨w3.heap.size + 1, 0, none⟩ = some (.int .i64 C) ∧ w'.cell? ⟨w3.heap.size + 1, 1, none⟩ = some (.int .i64 V)) ((refine ⟨?_, ?_, ?_, ?_, ?_⟩ <;> (try (with_reducible (refine cell_drew ?_))) <;> (repeat (with_reducible (refine cell_far (by omega) ?_))) <;> (with_reducible assumption))) (fail)
  all_goals
    go_wp2
    refine bodyPost_ret (v := .tuple #[.agg #[(.slice a' N c'), (u.s d), (u.q d)], .agg #[.int .i64 C, .int .i64 V]]) (by simp [results, Tryd.results9, go_sem, k0, k1, k2, i0, i1]) rfl ?_
    have hN := st_newM HB3.out.2.1 HLO (Nat.le_refl _) HB5.out.1 HB5.out.2.2
    exact SpRes.drew ⟨⟨a', c', u.sa, u.sc, u.qa, u.qc⟩, rfl, st_put5 hN HB3.out.2.2 (Nat.le_refl _) _ _ _ _ _, below_put5 HB5.out.2.1.bel _ _ _ _ _⟩

set_option maxRecDepth 20000 in
set_option maxHeartbeats 1000000 in
theorem slin4 (v : SV) (d : LD) (x y : Int) (w : World) (h : SS w v d) (hr : Room v d) (hf : Few d) (hg : Somes v) (hm : okM d.zs d.n = true) (hs : okL d.s = true) (hq : okL d.q = true) (ho : opB 4 x y = true) :
    Calls Tryd.prog 9 #[stV v d, .agg #[.int .i64 4, .int .i64 x, .int .i64 y]] w (SpRes d (2) (0) w) := by
  have B := linBoxes w v d 4 x y
  have HF : Hid (Few d ∧ Room v d ∧ SS w v d) := ⟨hf, hr, h⟩
  obtain ⟨⟨gs, hgs⟩, ⟨gq, hgq⟩⟩ := hg
  clear h hr hf
  go_enter Tryd.func9, Tryd.ntmps9
  go_wp2_with fail
  generalize hw0 : ((((w.alloc (.cells #[v.m d, v.s d, v.q d] 35)).alloc (.cells #[.int .i64 4, .int .i64 x, .int .i64 y] 41)).alloc (.cells #[.slice none 0 0, .slice none 0 0, .slice none 0 0] 35)).alloc (.cells #[.int .i64 0, .int .i64 0] 37)) = w0 at B ⊢
  clear hw0
  refine (specMapOk_any _ _ _ d.zs _ (HF.out.2.2.below B.bel).m (by have := HF.out.1.m; omega)).mono ?_
  rintro e w1 ⟨rfl, hb1⟩
  rw [hm]
  have B1 := B.below hb1
  obtain ⟨s0, s1, s2⟩ := B1.s.cells
  obtain ⟨p0, p1, p2⟩ := B1.o.cells
  have HB1 : Hid (LinB4 w w1 v d 4 x y) := B1
  clear B B1 hb1
  go_wp2_with fail
  refine (specListOk_any _ _ _ d.s _ (HF.out.2.2.below HB1.out.bel).s (by have := HF.out.1.s; omega)).mono ?_
  rintro e w1' ⟨rfl, rfl⟩
  rw [hs]
  go_wp2_with fail
  refine (specListOk_any _ _ _ d.q _ (HF.out.2.2.below HB1.out.bel).q (by have := HF.out.1.q; omega)).mono ?_
  rintro e w1' ⟨rfl, rfl⟩
  rw [hq]
  go_wp2_with fail
  refine (specOpOk_any 4 x y _).mono ?_
  rintro e w2 ⟨rfl, hb2⟩
  rw [ho]
  have B2 := HB1.out.below hb2
  clear s0 s1 s2 p0 p1 p2
  obtain ⟨s0, s1, s2⟩ := B2.s.cells
  have HB2 : Hid (LinB4 w w2 v d 4 x y) := B2
  clear HB1 B2 hb2 hm hs hq ho
  go_wp2_with fail
  refine (l7Copy_any v d _ (HF.out.2.2.below HB2.out.bel) HF.out.1).mono ?_
  rintro e w3 ⟨u, rfl, hst, hb3⟩
  have B3' := HB2.out.below hb3
  clear s0 s1 s2
  obtain ⟨s0, s1, s2⟩ := B3'.s.cells
  obtain ⟨p0, p1, p2⟩ := B3'.o.cells
  have n0 : w.heap.size + 4 ≤ w3.heap.size := B3'.sz
  have na : w.heap.size < w3.heap.size := by omega
  have na1 : w.heap.size < w3.heap.size + 1 := by omega
  have nb : w.heap.size + 1 < w3.heap.size := by omega
  have nb1 : w.heap.size + 1 < w3.heap.size + 1 := by omega
  have HLO : w2.heap.size ≤ w3.heap.size := hb3.size
  have HB3 : Hid (LinB4 w w3 v d 4 x y ∧ St w2.heap.size w3.heap.size u d w3 ∧ w.heap.size + 4 ≤ w2.heap.size) := ⟨B3', hst, HB2.out.sz⟩
  clear HB2 B3' hst hb3
  have hb5 : Below w3.heap.size w3 ((w3.alloc (.cells #[u.m d, u.s d, u.q d] 35)).alloc (.cells #[.int .i64 2, .int .i64 0] 37)) := below_trans' (al1 w3 (.cells #[u.m d, u.s d, u.q d] 35)) (al1 _ (.cells #[.int .i64 2, .int .i64 0] 37))
  have X5 : B3 ((w3.alloc (.cells #[u.m d, u.s d, u.q d] 35)).alloc (.cells #[.int .i64 2, .int .i64 0] 37)) w3.heap.size (u.m d) (u.s d) (u.q d) := (b3_new w3 (u.m d) (u.s d) (u.q d) 35 rfl).below (al1 _ (.cells #[.int .i64 2, .int .i64 0] 37))
  have Y5 : B2 ((w3.alloc (.cells #[u.m d, u.s d, u.q d] 35)).alloc (.cells #[.int .i64 2, .int .i64 0] 37)) (w3.heap.size + 1) (.int .i64 2) (.int .i64 0) := b2_new (w3.alloc (.cells #[u.m d, u.s d, u.q d] 35)) (.int .i64 2) (.int .i64 0) 37 (b := w3.heap.size + 1) (by simp)
  have OW : True := trivial
  have XX : Hid (_ ∧ _ ∧ _ ∧ _) := ⟨hb5, X5, Y5, OW⟩
  clear hb5 X5 Y5 OW
  go_wp2
  obtain ⟨hb5, X5, Y5, OW⟩ := XX.out
  clear XX
  generalize hw5 : ((w3.alloc (.cells #[u.m d, u.s d, u.q d] 35)).alloc (.cells #[.int .i64 2, .int .i64 0] 37)) = w5 at hb5 X5 Y5 OW ⊢
  clear hw5
  have B5 := HB3.out.1.below hb5
  obtain ⟨t0, t1, t2⟩ := X5.cells
  have r0 := Y5.c0
  have r1 := Y5.c1
  obtain ⟨k0, k1, k2⟩ := B5.r.cells
  obtain ⟨l0, l1, l2⟩ := B5.r.frees
  have i0 := B5.rr.c0
  have i1 := B5.rr.c1
  have j0 := B5.rr.f 0
  have j1 := B5.rr.f 1
  have HB5 : Hid (Below w3.heap.size w3 w5 ∧ LinB4 w w5 v d 4 x y ∧ _) := ⟨hb5, B5, OW⟩
  clear hb5 X5 Y5 B5 OW
  go_region_held (fun w' => w'.cell? ⟨w3.heap.size, 0, none⟩ = some (u.m d) ∧ w'.cell? ⟨w3.heap.size, 1, none⟩ = some (u.s d) ∧ w'.cell? ⟨w3.heap.size, 2, none⟩ = some (u.q d) ∧ w'.cell? ⟨w3.heap.size + 1, 0, none⟩ = some (.int .i64 2) ∧ w'.cell? ⟨w3.heap.size + 1, 1, none⟩ = some (.int .i64 0)) ((refine ⟨?_, ?_, ?_, ?_, ?_⟩ <;> (try (with_reducible (refine cell_drew ?_))) <;> (repeat (with_reducible (refine cell_far (by omega) ?_))) <;> (with_reducible assumption))) (fail)
  all_goals
    go_wp2
    refine bodyPost_ret (v := .tuple #[.agg #[(u.m d), (u.s d), (u.q d)], .agg #[.int .i64 2, .int .i64 0]]) (by simp [results, Tryd.results9, go_sem, k0, k1, k2, i0, i1]) rfl ?_
    exact SpRes.drew ⟨u, rfl, st_put5 (HB3.out.2.1.below (Nat.le_refl _) HB5.out.1) HB3.out.2.2 HB5.out.1.size _ _ _ _ _, below_put5 HB5.out.2.1.bel _ _ _ _ _⟩

set_option maxRecDepth 20000 in
set_option maxHeartbeats 1000000 in
theorem slin5 (v : SV) (d : LD) (x y : Int) (w : World) (h : SS w v d) (hr : Room v d) (hf : Few d) (hg : Somes v) (hm : okM d.zs d.n = true) (hs : okL d.s = true) (hq : okL d.q = true) (ho : opB 5 x y = true) :
    Calls Tryd.prog 9 #[stV v d, .agg #[.int .i64 5, .int .i64 x, .int .i64 y]] w (SpRes ⟨d.n, d.zs, putL d.s 0 y, d.q⟩ (putC d.s y) (0) w) := by
  have B := linBoxes w v d 5 x y
  have HF : Hid (Few d ∧ Room v d ∧ SS w v d) := ⟨hf, hr, h⟩
  obtain ⟨⟨gs, hgs⟩, ⟨gq, hgq⟩⟩ := hg
  generalize hZ : putL d.s 0 y = Z
  generalize hC : putC d.s y = C
  clear h hr hf
  go_enter Tryd.func9, Tryd.ntmps9
  go_wp2_with fail
  generalize hw0 : ((((w.alloc (.cells #[v.m d, v.s d, v.q d] 35)).alloc (.cells #[.int .i64 5, .int .i64 x, .int .i64 y] 41)).alloc (.cells #[.slice none 0 0, .slice none 0 0, .slice none 0 0] 35)).alloc (.cells #[.int .i64 0, .int .i64 0] 37)) = w0 at B ⊢
  clear hw0
  refine (specMapOk_any _ _ _ d.zs _ (HF.out.2.2.below B.bel).m (by have := HF.out.1.m; omega)).mono ?_
  rintro e w1 ⟨rfl, hb1⟩
  rw [hm]
  have B1 := B.below hb1
  obtain ⟨s0, s1, s2⟩ := B1.s.cells
  obtain ⟨p0, p1, p2⟩ := B1.o.cells
  have HB1 : Hid (LinB4 w w1 v d 5 x y) := B1
  clear B B1 hb1
  go_wp2_with fail
  refine (specListOk_any _ _ _ d.s _ (HF.out.2.2.below HB1.out.bel).s (by have := HF.out.1.s; omega)).mono ?_
  rintro e w1' ⟨rfl, rfl⟩
  rw [hs]
  go_wp2_with fail
  refine (specListOk_any _ _ _ d.q _ (HF.out.2.2.below HB1.out.bel).q (by have := HF.out.1.q; omega)).mono ?_
  rintro e w1' ⟨rfl, rfl⟩
  rw [hq]
  go_wp2_with fail
  refine (specOpOk_any 5 x y _).mono ?_
  rintro e w2 ⟨rfl, hb2⟩
  rw [ho]
  have B2 := HB1.out.below hb2
  clear s0 s1 s2 p0 p1 p2
  obtain ⟨s0, s1, s2⟩ := B2.s.cells
  have HB2 : Hid (LinB4 w w2 v d 5 x y) := B2
  clear HB1 B2 hb2 hm hs hq ho
  go_wp2_with fail
  refine (l7Copy_any v d _ (HF.out.2.2.below HB2.out.bel) HF.out.1).mono ?_
  rintro e w3 ⟨u, rfl, hst, hb3⟩
  have B3' := HB2.out.below hb3
  clear s0 s1 s2
  obtain ⟨s0, s1, s2⟩ := B3'.s.cells
  obtain ⟨p0, p1, p2⟩ := B3'.o.cells
  have n0 : w.heap.size + 4 ≤ w3.heap.size := B3'.sz
  have na : w.heap.size < w3.heap.size := by omega
  have na1 : w.heap.size < w3.heap.size + 1 := by omega
  have nb : w.heap.size + 1 < w3.heap.size := by omega
  have nb1 : w.heap.size + 1 < w3.heap.size + 1 := by omega
  have HLO : w2.heap.size ≤ w3.heap.size := hb3.size
  have HB3 : Hid (LinB4 w w3 v d 5 x y ∧ St w2.heap.size w3.heap.size u d w3 ∧ w.heap.size + 4 ≤ w2.heap.size) := ⟨B3', hst, HB2.out.sz⟩
  clear HB2 B3' hst hb3
  have HSS : SInts ((w3.alloc (.cells #[u.m d, u.s d, u.q d] 35)).alloc (.cells #[.int .i64 2, .int .i64 0] 37)) (some ⟨gs, 0, none⟩) d.s.length d.s := by
    have := (HF.out.2.2.below (below_trans' (below_trans' HB3.out.1.bel (al1 w3 (.cells #[u.m d, u.s d, u.q d] 35))) (al1 _ (.cells #[.int .i64 2, .int .i64 0] 37)))).s
    rw [hgs] at this
    exact this
  have evs : v.s d = .slice (some ⟨gs, 0, none⟩) d.s.length v.sc := by show Value.slice v.sa _ _ = _; rw [hgs]
  go_wp2_with fail
  clear evs
  refine (specStkPush_any gs 0 _ _ d.s y _ HSS (by have := HF.out.1.s; omega)).mono ?_
  rw [hZ, hC]
  clear hZ hC
  rintro e w4 ⟨N, a', c', rfl, ow, hb4⟩
  clear HSS
  have X4 := (b3_new w3 (u.m d) (u.s d) (u.q d) 35 rfl).below (below_trans' (al1 _ (.cells #[.int .i64 2, .int .i64 0] 37)) hb4)
  have Y4 := (b2_new (w3.alloc (.cells #[u.m d, u.s d, u.q d] 35)) (.int .i64 2) (.int .i64 0) 37 (b := w3.heap.size + 1) (by simp)).below hb4
  have m0 : w3.heap.size + 2 ≤ w4.heap.size := by have := hb4.size; simpa using this
  have m1 : w3.heap.size < w4.heap.size := by omega
  have m2 : w3.heap.size < w4.heap.size + 1 := by omega
  have m3 : w3.heap.size + 1 < w4.heap.size := by omega
  have m4 : w3.heap.size + 1 < w4.heap.size + 1 := by omega
  have b4 : Below w3.heap.size w3 w4 := below_trans' (below_trans' (al1 w3 (.cells #[u.m d, u.s d, u.q d] 35)) (al1 _ (.cells #[.int .i64 2, .int .i64 0] 37))) hb4
  have bz : (((w4.setCell ⟨w3.heap.size, 1, none⟩ (.slice a' N c')).setCell ⟨w3.heap.size + 1, 0, none⟩ (.int .i64 C)).setCell ⟨w3.heap.size + 1, 1, none⟩ (.int .i64 0)).heap.size = w4.heap.size := by simp
  have hAL : Below (((w4.setCell ⟨w3.heap.size, 1, none⟩ (.slice a' N c')).setCell ⟨w3.heap.size + 1, 0, none⟩ (.int .i64 C)).setCell ⟨w3.heap.size + 1, 1, none⟩ (.int .i64 0)).heap.size (((w4.setCell ⟨w3.heap.size, 1, none⟩ (.slice a' N c')).setCell ⟨w3.heap.size + 1, 0, none⟩ (.int .i64 C)).setCell ⟨w3.heap.size + 1, 1, none⟩ (.int .i64 0)) ((((w4.setCell ⟨w3.heap.size, 1, none⟩ (.slice a' N c')).setCell ⟨w3.heap.size + 1, 0, none⟩ (.int .i64 C)).setCell ⟨w3.heap.size + 1, 1, none⟩ (.int .i64 0)).alloc (.cells #[.int .i64 C, .int .i64 0] 37)) := (al1 _ (.cells #[.int .i64 C, .int .i64 0] 37))
  have hb5 : Below w3.heap.size w3 ((((w4.setCell ⟨w3.heap.size, 1, none⟩ (.slice a' N c')).setCell ⟨w3.heap.size + 1, 0, none⟩ (.int .i64 C)).setCell ⟨w3.heap.size + 1, 1, none⟩ (.int .i64 0)).alloc (.cells #[.int .i64 C, .int .i64 0] 37)) := (((b4.setCell (p := ⟨w3.heap.size, 1, none⟩) (Nat.le_refl _) _).setCell (p := ⟨w3.heap.size + 1, 0, none⟩) (by show w3.heap.size ≤ w3.heap.size + 1; omega) _).setCell (p := ⟨w3.heap.size + 1, 1, none⟩) (by show w3.heap.size ≤ w3.heap.size + 1; omega) _).trans (hAL.mono (by rw [bz]; omega))
  have X5 : B3 ((((w4.setCell ⟨w3.heap.size, 1, none⟩ (.slice a' N c')).setCell ⟨w3.heap.size + 1, 0, none⟩ (.int .i64 C)).setCell ⟨w3.heap.size + 1, 1, none⟩ (.int .i64 0)).alloc (.cells #[.int .i64 C, .int .i64 0] 37)) w3.heap.size (u.m d) (.slice a' N c') (u.q d) := (((X4.set1).far (by omega)).far (by omega)).below hAL
  have Y5 : B2 ((((w4.setCell ⟨w3.heap.size, 1, none⟩ (.slice a' N c')).setCell ⟨w3.heap.size + 1, 0, none⟩ (.int .i64 C)).setCell ⟨w3.heap.size + 1, 1, none⟩ (.int .i64 0)).alloc (.cells #[.int .i64 C, .int .i64 0] 37)) (w3.heap.size + 1) (.int .i64 C) (.int .i64 0) := (((Y4.far (by omega)).set0).set1).below hAL
  have OW : ((((w4.setCell ⟨w3.heap.size, 1, none⟩ (.slice a' N c')).setCell ⟨w3.heap.size + 1, 0, none⟩ (.int .i64 C)).setCell ⟨w3.heap.size + 1, 1, none⟩ (.int .i64 0)).alloc (.cells #[.int .i64 C, .int .i64 0] 37)).ownsRow w3.heap.size 3 1 (.slice a' N c') N (Z.map (Value.int .i64)) := ownsRow_below (own_far (own_far (own_far (own_mono ow (by simp) : w4.ownsRow (w3.heap.size + 2) 3 1 (.slice a' N c') N (Z.map (Value.int .i64))) (by omega) _) (by omega) _) (by omega) _ |> fun h => own_mono h (by omega)) hAL
  obtain ⟨t0, t1, t2⟩ := X4.cells
  obtain ⟨f0, f1, f2⟩ := X4.frees
  have y0 := Y4.c0
  have y1 := Y4.c1
  have g0 := Y4.f 0
  have g1 := Y4.f 1
  have XX : Hid (_ ∧ _ ∧ _ ∧ _) := ⟨hb5, X5, Y5, OW⟩
  clear hb5 X5 Y5 OW hb4 X4 Y4 s0 s1 s2 p0 p1 p2 b4 ow bz hAL
  go_wp2
  obtain ⟨hb5, X5, Y5, OW⟩ := XX.out
  clear XX
  generalize hw5 : ((((w4.setCell ⟨w3.heap.size, 1, none⟩ (.slice a' N c')).setCell ⟨w3.heap.size + 1, 0, none⟩ (.int .i64 C)).setCell ⟨w3.heap.size + 1, 1, none⟩ (.int .i64 0)).alloc (.cells #[.int .i64 C, .int .i64 0] 37)) = w5 at hb5 X5 Y5 OW ⊢
  clear hw5 t0 t1 t2 f0 f1 f2 y0 y1 g0 g1
  have B5 := HB3.out.1.below hb5
  obtain ⟨t0, t1, t2⟩ := X5.cells
  have r0 := Y5.c0
  have r1 := Y5.c1
  obtain ⟨k0, k1, k2⟩ := B5.r.cells
  obtain ⟨l0, l1, l2⟩ := B5.r.frees
  have i0 := B5.rr.c0
  have i1 := B5.rr.c1
  have j0 := B5.rr.f 0
  have j1 := B5.rr.f 1
  have HB5 : Hid (Below w3.heap.size w3 w5 ∧ LinB4 w w5 v d 5 x y ∧ _) := ⟨hb5, B5, OW⟩
  clear hb5 X5 Y5 B5 OW
  go_region_held (fun w' => w'.cell? ⟨w3.heap.size, 0, none⟩ = some (u.m d) ∧ w'.cell? ⟨w3.heap.size, 1, none⟩ = some (.slice a' N c') ∧ w'.cell? ⟨w3.heap.size, 2, none⟩ = some (u.q d) ∧ w'.cell? ⟨w3.heap.size + 1, 0, none⟩ = some (.int .i64 C) ∧ w'.cell? ⟨w3.heap.size + 1, 1, none⟩ = some (.int .i64 0)) ((refine ⟨?_, ?_, ?_, ?_, ?_⟩ <;> (try (with_reducible (refine cell_drew ?_))) <;> (repeat (with_reducible (refine cell_far (by omega) ?_))) <;> (with_reducible assumption))) (fail)
  all_goals
    go_wp2
    refine bodyPost_ret (v := .tuple #[.agg #[(u.m d), (.slice a' N c'), (u.q d)], .agg #[.int .i64 C, .int .i64 0]]) (by simp [results, Tryd.results9, go_sem, k0, k1, k2, i0, i1]) rfl ?_
    have eN : N = Z.length := by have := HB5.out.2.2.1; simpa using this.symm
    have hN := st_newS HB3.out.2.1 HLO (Nat.le_refl _) HB5.out.1 eN.symm HB5.out.2.2
    exact SpRes.drew ⟨⟨u.ma, u.mc, a', c', u.qa, u.qc⟩, by rw [eN], st_put5 hN HB3.out.2.2 (Nat.le_refl _) _ _ _ _ _, below_put5 HB5.out.2.1.bel _ _ _ _ _⟩

set_option maxRecDepth 20000 in
set_option maxHeartbeats 1000000 in
theorem slin6 (v : SV) (d : LD) (x y : Int) (w : World) (h : SS w v d) (hr : Room v d) (hf : Few d) (hg : Somes v) (hm : okM d.zs d.n = true) (hs : okL d.s = true) (hq : okL d.q = true) (ho : opB 6 x y = true) :
    Calls Tryd.prog 9 #[stV v d, .agg #[.int .i64 6, .int .i64 x, .int .i64 y]] w (SpRes ⟨d.n, d.zs, takeL d.s, d.q⟩ (takeC d.s) (takeV d.s) w) := by
  have B := linBoxes w v d 6 x y
  have HF : Hid (Few d ∧ Room v d ∧ SS w v d) := ⟨hf, hr, h⟩
  obtain ⟨⟨gs, hgs⟩, ⟨gq, hgq⟩⟩ := hg
  generalize hZ : takeL d.s = Z
  generalize hC : takeC d.s = C
  generalize hV : takeV d.s = V
  clear h hr hf
  go_enter Tryd.func9, Tryd.ntmps9
  go_wp2_with fail
  generalize hw0 : ((((w.alloc (.cells #[v.m d, v.s d, v.q d] 35)).alloc (.cells #[.int .i64 6, .int .i64 x, .int .i64 y] 41)).alloc (.cells #[.slice none 0 0, .slice none 0 0, .slice none 0 0] 35)).alloc (.cells #[.int .i64 0, .int .i64 0] 37)) = w0 at B ⊢
  clear hw0
  refine (specMapOk_any _ _ _ d.zs _ (HF.out.2.2.below B.bel).m (by have := HF.out.1.m; omega)).mono ?_
  rintro e w1 ⟨rfl, hb1⟩
  rw [hm]
  have B1 := B.below hb1
  obtain ⟨s0, s1, s2⟩ := B1.s.cells
  obtain ⟨p0, p1, p2⟩ := B1.o.cells
  have HB1 : Hid (LinB4 w w1 v d 6 x y) := B1
  clear B B1 hb1
  go_wp2_with fail
  refine (specListOk_any _ _ _ d.s _ (HF.out.2.2.below HB1.out.bel).s (by have := HF.out.1.s; omega)).mono ?_
  rintro e w1' ⟨rfl, rfl⟩
  rw [hs]
  go_wp2_with fail
  refine (specListOk_any _ _ _ d.q _ (HF.out.2.2.below HB1.out.bel).q (by have := HF.out.1.q; omega)).mono ?_
  rintro e w1' ⟨rfl, rfl⟩
  rw [hq]
  go_wp2_with fail
  refine (specOpOk_any 6 x y _).mono ?_
  rintro e w2 ⟨rfl, hb2⟩
  rw [ho]
  have B2 := HB1.out.below hb2
  clear s0 s1 s2 p0 p1 p2
  obtain ⟨s0, s1, s2⟩ := B2.s.cells
  have HB2 : Hid (LinB4 w w2 v d 6 x y) := B2
  clear HB1 B2 hb2 hm hs hq ho
  go_wp2_with fail
  refine (l7Copy_any v d _ (HF.out.2.2.below HB2.out.bel) HF.out.1).mono ?_
  rintro e w3 ⟨u, rfl, hst, hb3⟩
  have B3' := HB2.out.below hb3
  clear s0 s1 s2
  obtain ⟨s0, s1, s2⟩ := B3'.s.cells
  obtain ⟨p0, p1, p2⟩ := B3'.o.cells
  have n0 : w.heap.size + 4 ≤ w3.heap.size := B3'.sz
  have na : w.heap.size < w3.heap.size := by omega
  have na1 : w.heap.size < w3.heap.size + 1 := by omega
  have nb : w.heap.size + 1 < w3.heap.size := by omega
  have nb1 : w.heap.size + 1 < w3.heap.size + 1 := by omega
  have HLO : w2.heap.size ≤ w3.heap.size := hb3.size
  have HB3 : Hid (LinB4 w w3 v d 6 x y ∧ St w2.heap.size w3.heap.size u d w3 ∧ w.heap.size + 4 ≤ w2.heap.size) := ⟨B3', hst, HB2.out.sz⟩
  clear HB2 B3' hst hb3
  have HSS : SInts ((w3.alloc (.cells #[u.m d, u.s d, u.q d] 35)).alloc (.cells #[.int .i64 2, .int .i64 0] 37)) (some ⟨gs, 0, none⟩) d.s.length d.s := by
    have := (HF.out.2.2.below (below_trans' (below_trans' HB3.out.1.bel (al1 w3 (.cells #[u.m d, u.s d, u.q d] 35))) (al1 _ (.cells #[.int .i64 2, .int .i64 0] 37)))).s
    rw [hgs] at this
    exact this
  have evs : v.s d = .slice (some ⟨gs, 0, none⟩) d.s.length v.sc := by show Value.slice v.sa _ _ = _; rw [hgs]
  go_wp2_with fail
  clear evs
  refine (specListTake_cap gs 0 _ _ d.s _ HSS HF.out.2.1.s.1 HF.out.2.1.s.2).mono ?_
  rw [hZ, hC, hV]
  clear hZ hC hV
  rintro e w4 ⟨N, a', c', rfl, ow, hb4⟩
  clear HSS
  have X4 := (b3_new w3 (u.m d) (u.s d) (u.q d) 35 rfl).below (below_trans' (al1 _ (.cells #[.int .i64 2, .int .i64 0] 37)) hb4)
  have Y4 := (b2_new (w3.alloc (.cells #[u.m d, u.s d, u.q d] 35)) (.int .i64 2) (.int .i64 0) 37 (b := w3.heap.size + 1) (by simp)).below hb4
  have m0 : w3.heap.size + 2 ≤ w4.heap.size := by have := hb4.size; simpa using this
  have m1 : w3.heap.size < w4.heap.size := by omega
  have m2 : w3.heap.size < w4.heap.size + 1 := by omega
  have m3 : w3.heap.size + 1 < w4.heap.size := by omega
  have m4 : w3.heap.size + 1 < w4.heap.size + 1 := by omega
  have b4 : Below w3.heap.size w3 w4 := below_trans' (below_trans' (al1 w3 (.cells #[u.m d, u.s d, u.q d] 35)) (al1 _ (.cells #[.int .i64 2, .int .i64 0] 37))) hb4
  have bz : (((w4.setCell ⟨w3.heap.size, 1, none⟩ (.slice a' N c')).setCell ⟨w3.heap.size + 1, 0, none⟩ (.int .i64 C)).setCell ⟨w3.heap.size + 1, 1, none⟩ (.int .i64 V)).heap.size = w4.heap.size := by simp
  have hAL : Below (((w4.setCell ⟨w3.heap.size, 1, none⟩ (.slice a' N c')).setCell ⟨w3.heap.size + 1, 0, none⟩ (.int .i64 C)).setCell ⟨w3.heap.size + 1, 1, none⟩ (.int .i64 V)).heap.size (((w4.setCell ⟨w3.heap.size, 1, none⟩ (.slice a' N c')).setCell ⟨w3.heap.size + 1, 0, none⟩ (.int .i64 C)).setCell ⟨w3.heap.size + 1, 1, none⟩ (.int .i64 V)) ((((w4.setCell ⟨w3.heap.size, 1, none⟩ (.slice a' N c')).setCell ⟨w3.heap.size + 1, 0, none⟩ (.int .i64 C)).setCell ⟨w3.heap.size + 1, 1, none⟩ (.int .i64 V)).alloc (.cells #[.int .i64 C, .int .i64 V] 37)) := (al1 _ (.cells #[.int .i64 C, .int .i64 V] 37))
  have hb5 : Below w3.heap.size w3 ((((w4.setCell ⟨w3.heap.size, 1, none⟩ (.slice a' N c')).setCell ⟨w3.heap.size + 1, 0, none⟩ (.int .i64 C)).setCell ⟨w3.heap.size + 1, 1, none⟩ (.int .i64 V)).alloc (.cells #[.int .i64 C, .int .i64 V] 37)) := (((b4.setCell (p := ⟨w3.heap.size, 1, none⟩) (Nat.le_refl _) _).setCell (p := ⟨w3.heap.size + 1, 0, none⟩) (by show w3.heap.size ≤ w3.heap.size + 1; omega) _).setCell (p := ⟨w3.heap.size + 1, 1, none⟩) (by show w3.heap.size ≤ w3.heap.size + 1; omega) _).trans (hAL.mono (by rw [bz]; omega))
  have X5 : B3 ((((w4.setCell ⟨w3.heap.size, 1, none⟩ (.slice a' N c')).setCell ⟨w3.heap.size + 1, 0, none⟩ (.int .i64 C)).setCell ⟨w3.heap.size + 1, 1, none⟩ (.int .i64 V)).alloc (.cells #[.int .i64 C, .int .i64 V] 37)) w3.heap.size (u.m d) (.slice a' N c') (u.q d) := (((X4.set1).far (by omega)).far (by omega)).below hAL
  have Y5 : B2 ((((w4.setCell ⟨w3.heap.size, 1, none⟩ (.slice a' N c')).setCell ⟨w3.heap.size + 1, 0, none⟩ (.int .i64 C)).setCell ⟨w3.heap.size + 1, 1, none⟩ (.int .i64 V)).alloc (.cells #[.int .i64 C, .int .i64 V] 37)) (w3.heap.size + 1) (.int .i64 C) (.int .i64 V) := (((Y4.far (by omega)).set0).set1).below hAL
  have OW : ((((w4.setCell ⟨w3.heap.size, 1, none⟩ (.slice a' N c')).setCell ⟨w3.heap.size + 1, 0, none⟩ (.int .i64 C)).setCell ⟨w3.heap.size + 1, 1, none⟩ (.int .i64 V)).alloc (.cells #[.int .i64 C, .int .i64 V] 37)).ownsRow w3.heap.size 3 1 (.slice a' N c') N (Z.map (Value.int .i64)) := ownsRow_below (own_far (own_far (own_far (own_mono ow (by simp) : w4.ownsRow (w3.heap.size + 2) 3 1 (.slice a' N c') N (Z.map (Value.int .i64))) (by omega) _) (by omega) _) (by omega) _ |> fun h => own_mono h (by omega)) hAL
  obtain ⟨t0, t1, t2⟩ := X4.cells
  obtain ⟨f0, f1, f2⟩ := X4.frees
  have y0 := Y4.c0
  have y1 := Y4.c1
  have g0 := Y4.f 0
  have g1 := Y4.f 1
  have XX : Hid (_ ∧ _ ∧ _ ∧ _) := ⟨hb5, X5, Y5, OW⟩
  clear hb5 X5 Y5 OW hb4 X4 Y4 s0 s1 s2 p0 p1 p2 b4 ow bz hAL
  go_wp2
  obtain ⟨hb5, X5, Y5, OW⟩ := XX.out
  clear XX
  generalize hw5 : ((((w4.setCell ⟨w3.heap.size, 1, none⟩ (.slice a' N c')).setCell ⟨w3.heap.size + 1, 0, none⟩ (.int .i64 C)).setCell ⟨w3.heap.size + 1, 1, none⟩ (.int .i64 V)).alloc (.cells #[.int .i64 C, .int .i64 V] 37)) = w5 at hb5 X5 Y5 OW ⊢
  clear hw5 t0 t1 t2 f0 f1 f2 y0 y1 g0 g1
  have B5 := HB3.out.1.below hb5
  obtain ⟨t0, t1, t2⟩ := X5.cells
  have r0 := Y5.c0
  have r1 := Y5.c1
  obtain ⟨k0, k1, k2⟩ := B5.r.cells
  obtain ⟨l0, l1, l2⟩ := B5.r.frees
  have i0 := B5.rr.c0
  have i1 := B5.rr.c1
  have j0 := B5.rr.f 0
  have j1 := B5.rr.f 1
  have HB5 : Hid (Below w3.heap.size w3 w5 ∧ LinB4 w w5 v d 6 x y ∧ _) := ⟨hb5, B5, OW⟩
  clear hb5 X5 Y5 B5 OW
  go_region_held (fun w' => w'.cell? ⟨w3.heap.size, 0, none⟩ = some (u.m d) ∧ w'.cell? ⟨w3.heap.size, 1, none⟩ = some (.slice a' N c') ∧ w'.cell? ⟨w3.heap.size, 2, none⟩ = some (u.q d) ∧ w'.cell? ⟨w3.heap.size + 1, 0, none⟩ = some (.int .i64 C) ∧ w'.cell? ⟨w3.heap.size + 1, 1, none⟩ = some (.int .i64 V)) ((refine ⟨?_, ?_, ?_, ?_, ?_⟩ <;> (try (with_reducible (refine cell_drew ?_))) <;> (repeat (with_reducible (refine cell_far (by omega) ?_))) <;> (with_reducible assumption))) (fail)
  all_goals
    go_wp2
    refine bodyPost_ret (v := .tuple #[.agg #[(u.m d), (.slice a' N c'), (u.q d)], .agg #[.int .i64 C, .int .i64 V]]) (by simp [results, Tryd.results9, go_sem, k0, k1, k2, i0, i1]) rfl ?_
    have eN : N = Z.length := by have := HB5.out.2.2.1; simpa using this.symm
    have hN := st_newS HB3.out.2.1 HLO (Nat.le_refl _) HB5.out.1 eN.symm HB5.out.2.2
    exact SpRes.drew ⟨⟨u.ma, u.mc, a', c', u.qa, u.qc⟩, by rw [eN], st_put5 hN HB3.out.2.2 (Nat.le_refl _) _ _ _ _ _, below_put5 HB5.out.2.1.bel _ _ _ _ _⟩

end Go.Proofs.YtklpdpdjblakgaaDoor

/- LinM2 -/
namespace Go.Proofs.YtklpdpdjblakgaaDoor
open Go.RowKit
set_option linter.unusedVariables false

set_option maxRecDepth 20000 in
set_option maxHeartbeats 1000000 in
theorem slin7 (v : SV) (d : LD) (x y : Int) (w : World) (h : SS w v d) (hr : Room v d) (hf : Few d) (hg : Somes v) (hm : okM d.zs d.n = true) (hs : okL d.s = true) (hq : okL d.q = true) (ho : opB 7 x y = true) :
    Calls Tryd.prog 9 #[stV v d, .agg #[.int .i64 7, .int .i64 x, .int .i64 y]] w (SpRes ⟨d.n, d.zs, d.s, putL d.q d.q.length y⟩ (putC d.q y) (0) w) := by
  have B := linBoxes w v d 7 x y
  have HF : Hid (Few d ∧ Room v d ∧ SS w v d) := ⟨hf, hr, h⟩
  obtain ⟨⟨gs, hgs⟩, ⟨gq, hgq⟩⟩ := hg
  generalize hZ : putL d.q d.q.length y = Z
  generalize hC : putC d.q y = C
  clear h hr hf
  go_enter Tryd.func9, Tryd.ntmps9
  go_wp2_with fail
  generalize hw0 : ((((w.alloc (.cells #[v.m d, v.s d, v.q d] 35)).alloc (.cells #[.int .i64 7, .int .i64 x, .int .i64 y] 41)).alloc (.cells #[.slice none 0 0, .slice none 0 0, .slice none 0 0] 35)).alloc (.cells #[.int .i64 0, .int .i64 0] 37)) = w0 at B ⊢
  clear hw0
  refine (specMapOk_any _ _ _ d.zs _ (HF.out.2.2.below B.bel).m (by have := HF.out.1.m; omega)).mono ?_
  rintro e w1 ⟨rfl, hb1⟩
  rw [hm]
  have B1 := B.below hb1
  obtain ⟨s0, s1, s2⟩ := B1.s.cells
  obtain ⟨p0, p1, p2⟩ := B1.o.cells
  have HB1 : Hid (LinB4 w w1 v d 7 x y) := B1
  clear B B1 hb1
  go_wp2_with fail
  refine (specListOk_any _ _ _ d.s _ (HF.out.2.2.below HB1.out.bel).s (by have := HF.out.1.s; omega)).mono ?_
  rintro e w1' ⟨rfl, rfl⟩
  rw [hs]
  go_wp2_with fail
  refine (specListOk_any _ _ _ d.q _ (HF.out.2.2.below HB1.out.bel).q (by have := HF.out.1.q; omega)).mono ?_
  rintro e w1' ⟨rfl, rfl⟩
  rw [hq]
  go_wp2_with fail
  refine (specOpOk_any 7 x y _).mono ?_
  rintro e w2 ⟨rfl, hb2⟩
  rw [ho]
  have B2 := HB1.out.below hb2
  clear s0 s1 s2 p0 p1 p2
  obtain ⟨s0, s1, s2⟩ := B2.s.cells
  have HB2 : Hid (LinB4 w w2 v d 7 x y) := B2
  clear HB1 B2 hb2 hm hs hq ho
  go_wp2_with fail
  refine (l7Copy_any v d _ (HF.out.2.2.below HB2.out.bel) HF.out.1).mono ?_
  rintro e w3 ⟨u, rfl, hst, hb3⟩
  have B3' := HB2.out.below hb3
  clear s0 s1 s2
  obtain ⟨s0, s1, s2⟩ := B3'.s.cells
  obtain ⟨p0, p1, p2⟩ := B3'.o.cells
  have n0 : w.heap.size + 4 ≤ w3.heap.size := B3'.sz
  have na : w.heap.size < w3.heap.size := by omega
  have na1 : w.heap.size < w3.heap.size + 1 := by omega
  have nb : w.heap.size + 1 < w3.heap.size := by omega
  have nb1 : w.heap.size + 1 < w3.heap.size + 1 := by omega
  have HLO : w2.heap.size ≤ w3.heap.size := hb3.size
  have HB3 : Hid (LinB4 w w3 v d 7 x y ∧ St w2.heap.size w3.heap.size u d w3 ∧ w.heap.size + 4 ≤ w2.heap.size) := ⟨B3', hst, HB2.out.sz⟩
  clear HB2 B3' hst hb3
  have HSS : SInts ((w3.alloc (.cells #[u.m d, u.s d, u.q d] 35)).alloc (.cells #[.int .i64 2, .int .i64 0] 37)) (some ⟨gq, 0, none⟩) d.q.length d.q := by
    have := (HF.out.2.2.below (below_trans' (below_trans' HB3.out.1.bel (al1 w3 (.cells #[u.m d, u.s d, u.q d] 35))) (al1 _ (.cells #[.int .i64 2, .int .i64 0] 37)))).q
    rw [hgq] at this
    exact this
  have evs : v.q d = .slice (some ⟨gq, 0, none⟩) d.q.length v.qc := by show Value.slice v.qa _ _ = _; rw [hgq]
  go_wp2_with fail
  clear evs
  refine (specQuePut_any gq 0 _ _ d.q y _ HSS (by have := HF.out.1.q; omega)).mono ?_
  rw [hZ, hC]
  clear hZ hC
  rintro e w4 ⟨N, a', c', rfl, ow, hb4⟩
  clear HSS
  have X4 := (b3_new w3 (u.m d) (u.s d) (u.q d) 35 rfl).below (below_trans' (al1 _ (.cells #[.int .i64 2, .int .i64 0] 37)) hb4)
  have Y4 := (b2_new (w3.alloc (.cells #[u.m d, u.s d, u.q d] 35)) (.int .i64 2) (.int .i64 0) 37 (b := w3.heap.size + 1) (by simp)).below hb4
  have m0 : w3.heap.size + 2 ≤ w4.heap.size := by have := hb4.size; simpa using this
  have m1 : w3.heap.size < w4.heap.size := by omega
  have m2 : w3.heap.size < w4.heap.size + 1 := by omega
  have m3 : w3.heap.size + 1 < w4.heap.size := by omega
  have m4 : w3.heap.size + 1 < w4.heap.size + 1 := by omega
  have b4 : Below w3.heap.size w3 w4 := below_trans' (below_trans' (al1 w3 (.cells #[u.m d, u.s d, u.q d] 35)) (al1 _ (.cells #[.int .i64 2, .int .i64 0] 37))) hb4
  have bz : (((w4.setCell ⟨w3.heap.size, 2, none⟩ (.slice a' N c')).setCell ⟨w3.heap.size + 1, 0, none⟩ (.int .i64 C)).setCell ⟨w3.heap.size + 1, 1, none⟩ (.int .i64 0)).heap.size = w4.heap.size := by simp
  have hAL : Below (((w4.setCell ⟨w3.heap.size, 2, none⟩ (.slice a' N c')).setCell ⟨w3.heap.size + 1, 0, none⟩ (.int .i64 C)).setCell ⟨w3.heap.size + 1, 1, none⟩ (.int .i64 0)).heap.size (((w4.setCell ⟨w3.heap.size, 2, none⟩ (.slice a' N c')).setCell ⟨w3.heap.size + 1, 0, none⟩ (.int .i64 C)).setCell ⟨w3.heap.size + 1, 1, none⟩ (.int .i64 0)) ((((w4.setCell ⟨w3.heap.size, 2, none⟩ (.slice a' N c')).setCell ⟨w3.heap.size + 1, 0, none⟩ (.int .i64 C)).setCell ⟨w3.heap.size + 1, 1, none⟩ (.int .i64 0)).alloc (.cells #[.int .i64 C, .int .i64 0] 37)) := (al1 _ (.cells #[.int .i64 C, .int .i64 0] 37))
  have hb5 : Below w3.heap.size w3 ((((w4.setCell ⟨w3.heap.size, 2, none⟩ (.slice a' N c')).setCell ⟨w3.heap.size + 1, 0, none⟩ (.int .i64 C)).setCell ⟨w3.heap.size + 1, 1, none⟩ (.int .i64 0)).alloc (.cells #[.int .i64 C, .int .i64 0] 37)) := (((b4.setCell (p := ⟨w3.heap.size, 2, none⟩) (Nat.le_refl _) _).setCell (p := ⟨w3.heap.size + 1, 0, none⟩) (by show w3.heap.size ≤ w3.heap.size + 1; omega) _).setCell (p := ⟨w3.heap.size + 1, 1, none⟩) (by show w3.heap.size ≤ w3.heap.size + 1; omega) _).trans (hAL.mono (by rw [bz]; omega))
  have X5 : B3 ((((w4.setCell ⟨w3.heap.size, 2, none⟩ (.slice a' N c')).setCell ⟨w3.heap.size + 1, 0, none⟩ (.int .i64 C)).setCell ⟨w3.heap.size + 1, 1, none⟩ (.int .i64 0)).alloc (.cells #[.int .i64 C, .int .i64 0] 37)) w3.heap.size (u.m d) (u.s d) (.slice a' N c') := (((X4.set2).far (by omega)).far (by omega)).below hAL
  have Y5 : B2 ((((w4.setCell ⟨w3.heap.size, 2, none⟩ (.slice a' N c')).setCell ⟨w3.heap.size + 1, 0, none⟩ (.int .i64 C)).setCell ⟨w3.heap.size + 1, 1, none⟩ (.int .i64 0)).alloc (.cells #[.int .i64 C, .int .i64 0] 37)) (w3.heap.size + 1) (.int .i64 C) (.int .i64 0) := (((Y4.far (by omega)).set0).set1).below hAL
  have OW : ((((w4.setCell ⟨w3.heap.size, 2, none⟩ (.slice a' N c')).setCell ⟨w3.heap.size + 1, 0, none⟩ (.int .i64 C)).setCell ⟨w3.heap.size + 1, 1, none⟩ (.int .i64 0)).alloc (.cells #[.int .i64 C, .int .i64 0] 37)).ownsRow w3.heap.size 3 1 (.slice a' N c') N (Z.map (Value.int .i64)) := ownsRow_below (own_far (own_far (own_far (own_mono ow (by simp) : w4.ownsRow (w3.heap.size + 2) 3 1 (.slice a' N c') N (Z.map (Value.int .i64))) (by omega) _) (by omega) _) (by omega) _ |> fun h => own_mono h (by omega)) hAL
  obtain ⟨t0, t1, t2⟩ := X4.cells
  obtain ⟨f0, f1, f2⟩ := X4.frees
  have y0 := Y4.c0
  have y1 := Y4.c1
  have g0 := Y4.f 0
  have g1 := Y4.f 1
  have XX : Hid (_ ∧ _ ∧ _ ∧ _) := ⟨hb5, X5, Y5, OW⟩
  clear hb5 X5 Y5 OW hb4 X4 Y4 s0 s1 s2 p0 p1 p2 b4 ow bz hAL
  go_wp2
  obtain ⟨hb5, X5, Y5, OW⟩ := XX.out
  clear XX
  generalize hw5 : ((((w4.setCell ⟨w3.heap.size, 2, none⟩ (.slice a' N c')).setCell ⟨w3.heap.size + 1, 0, none⟩ (.int .i64 C)).setCell ⟨w3.heap.size + 1, 1, none⟩ (.int .i64 0)).alloc (.cells #[.int .i64 C, .int .i64 0] 37)) = w5 at hb5 X5 Y5 OW ⊢
  clear hw5 t0 t1 t2 f0 f1 f2 y0 y1 g0 g1
  have B5 := HB3.out.1.below hb5
  obtain ⟨t0, t1, t2⟩ := X5.cells
  have r0 := Y5.c0
  have r1 := Y5.c1
  obtain ⟨k0, k1, k2⟩ := B5.r.cells
  obtain ⟨l0, l1, l2⟩ := B5.r.frees
  have i0 := B5.rr.c0
  have i1 := B5.rr.c1
  have j0 := B5.rr.f 0
  have j1 := B5.rr.f 1
  have HB5 : Hid (Below w3.heap.size w3 w5 ∧ LinB4 w w5 v d 7 x y ∧ _) := ⟨hb5, B5, OW⟩
  clear hb5 X5 Y5 B5 OW
  go_region_held (fun w' => w'.cell? ⟨w3.heap.size, 0, none⟩ = some (u.m d) ∧ w'.cell? ⟨w3.heap.size, 1, none⟩ = some (u.s d) ∧ w'.cell? ⟨w3.heap.size, 2, none⟩ = some (.slice a' N c') ∧ w'.cell? ⟨w3.heap.size + 1, 0, none⟩ = some (.int .i64 C) ∧ w'.cell? ⟨w3.heap.size + 1, 1, none⟩ = some (.int .i64 0)) ((refine ⟨?_, ?_, ?_, ?_, ?_⟩ <;> (try (with_reducible (refine cell_drew ?_))) <;> (repeat (with_reducible (refine cell_far (by omega) ?_))) <;> (with_reducible assumption))) (fail)
  all_goals
    go_wp2
    refine bodyPost_ret (v := .tuple #[.agg #[(u.m d), (u.s d), (.slice a' N c')], .agg #[.int .i64 C, .int .i64 0]]) (by simp [results, Tryd.results9, go_sem, k0, k1, k2, i0, i1]) rfl ?_
    have eN : N = Z.length := by have := HB5.out.2.2.1; simpa using this.symm
    have hN := st_newQ HB3.out.2.1 HLO (Nat.le_refl _) HB5.out.1 eN.symm HB5.out.2.2
    exact SpRes.drew ⟨⟨u.ma, u.mc, u.sa, u.sc, a', c'⟩, by rw [eN], st_put5 hN HB3.out.2.2 (Nat.le_refl _) _ _ _ _ _, below_put5 HB5.out.2.1.bel _ _ _ _ _⟩

set_option maxRecDepth 20000 in
set_option maxHeartbeats 1000000 in
theorem slin8 (v : SV) (d : LD) (x y : Int) (w : World) (h : SS w v d) (hr : Room v d) (hf : Few d) (hg : Somes v) (hm : okM d.zs d.n = true) (hs : okL d.s = true) (hq : okL d.q = true) (ho : opB 8 x y = true) :
    Calls Tryd.prog 9 #[stV v d, .agg #[.int .i64 8, .int .i64 x, .int .i64 y]] w (SpRes ⟨d.n, d.zs, d.s, takeL d.q⟩ (takeC d.q) (takeV d.q) w) := by
  have B := linBoxes w v d 8 x y
  have HF : Hid (Few d ∧ Room v d ∧ SS w v d) := ⟨hf, hr, h⟩
  obtain ⟨⟨gs, hgs⟩, ⟨gq, hgq⟩⟩ := hg
  generalize hZ : takeL d.q = Z
  generalize hC : takeC d.q = C
  generalize hV : takeV d.q = V
  clear h hr hf
  go_enter Tryd.func9, Tryd.ntmps9
  go_wp2_with fail
  generalize hw0 : ((((w.alloc (.cells #[v.m d, v.s d, v.q d] 35)).alloc (.cells #[.int .i64 8, .int .i64 x, .int .i64 y] 41)).alloc (.cells #[.slice none 0 0, .slice none 0 0, .slice none 0 0] 35)).alloc (.cells #[.int .i64 0, .int .i64 0] 37)) = w0 at B ⊢
  clear hw0
  refine (specMapOk_any _ _ _ d.zs _ (HF.out.2.2.below B.bel).m (by have := HF.out.1.m; omega)).mono ?_
  rintro e w1 ⟨rfl, hb1⟩
  rw [hm]
  have B1 := B.below hb1
  obtain ⟨s0, s1, s2⟩ := B1.s.cells
  obtain ⟨p0, p1, p2⟩ := B1.o.cells
  have HB1 : Hid (LinB4 w w1 v d 8 x y) := B1
  clear B B1 hb1
  go_wp2_with fail
  refine (specListOk_any _ _ _ d.s _ (HF.out.2.2.below HB1.out.bel).s (by have := HF.out.1.s; omega)).mono ?_
  rintro e w1' ⟨rfl, rfl⟩
  rw [hs]
  go_wp2_with fail
  refine (specListOk_any _ _ _ d.q _ (HF.out.2.2.below HB1.out.bel).q (by have := HF.out.1.q; omega)).mono ?_
  rintro e w1' ⟨rfl, rfl⟩
  rw [hq]
  go_wp2_with fail
  refine (specOpOk_any 8 x y _).mono ?_
  rintro e w2 ⟨rfl, hb2⟩
  rw [ho]
  have B2 := HB1.out.below hb2
  clear s0 s1 s2 p0 p1 p2
  obtain ⟨s0, s1, s2⟩ := B2.s.cells
  have HB2 : Hid (LinB4 w w2 v d 8 x y) := B2
  clear HB1 B2 hb2 hm hs hq ho
  go_wp2_with fail
  refine (l7Copy_any v d _ (HF.out.2.2.below HB2.out.bel) HF.out.1).mono ?_
  rintro e w3 ⟨u, rfl, hst, hb3⟩
  have B3' := HB2.out.below hb3
  clear s0 s1 s2
  obtain ⟨s0, s1, s2⟩ := B3'.s.cells
  obtain ⟨p0, p1, p2⟩ := B3'.o.cells
  have n0 : w.heap.size + 4 ≤ w3.heap.size := B3'.sz
  have na : w.heap.size < w3.heap.size := by omega
  have na1 : w.heap.size < w3.heap.size + 1 := by omega
  have nb : w.heap.size + 1 < w3.heap.size := by omega
  have nb1 : w.heap.size + 1 < w3.heap.size + 1 := by omega
  have HLO : w2.heap.size ≤ w3.heap.size := hb3.size
  have HB3 : Hid (LinB4 w w3 v d 8 x y ∧ St w2.heap.size w3.heap.size u d w3 ∧ w.heap.size + 4 ≤ w2.heap.size) := ⟨B3', hst, HB2.out.sz⟩
  clear HB2 B3' hst hb3
  have HSS : SInts ((w3.alloc (.cells #[u.m d, u.s d, u.q d] 35)).alloc (.cells #[.int .i64 2, .int .i64 0] 37)) (some ⟨gq, 0, none⟩) d.q.length d.q := by
    have := (HF.out.2.2.below (below_trans' (below_trans' HB3.out.1.bel (al1 w3 (.cells #[u.m d, u.s d, u.q d] 35))) (al1 _ (.cells #[.int .i64 2, .int .i64 0] 37)))).q
    rw [hgq] at this
    exact this
  have evs : v.q d = .slice (some ⟨gq, 0, none⟩) d.q.length v.qc := by show Value.slice v.qa _ _ = _; rw [hgq]
  go_wp2_with fail
  clear evs
  refine (specListTake_cap gq 0 _ _ d.q _ HSS HF.out.2.1.q.1 HF.out.2.1.q.2).mono ?_
  rw [hZ, hC, hV]
  clear hZ hC hV
  rintro e w4 ⟨N, a', c', rfl, ow, hb4⟩
  clear HSS
  have X4 := (b3_new w3 (u.m d) (u.s d) (u.q d) 35 rfl).below (below_trans' (al1 _ (.cells #[.int .i64 2, .int .i64 0] 37)) hb4)
  have Y4 := (b2_new (w3.alloc (.cells #[u.m d, u.s d, u.q d] 35)) (.int .i64 2) (.int .i64 0) 37 (b := w3.heap.size + 1) (by simp)).below hb4
  have m0 : w3.heap.size + 2 ≤ w4.heap.size := by have := hb4.size; simpa using this
  have m1 : w3.heap.size < w4.heap.size := by omega
  have m2 : w3.heap.size < w4.heap.size + 1 := by omega
  have m3 : w3.heap.size + 1 < w4.heap.size := by omega
  have m4 : w3.heap.size + 1 < w4.heap.size + 1 := by omega
  have b4 : Below w3.heap.size w3 w4 := below_trans' (below_trans' (al1 w3 (.cells #[u.m d, u.s d, u.q d] 35)) (al1 _ (.cells #[.int .i64 2, .int .i64 0] 37))) hb4
  have bz : (((w4.setCell ⟨w3.heap.size, 2, none⟩ (.slice a' N c')).setCell ⟨w3.heap.size + 1, 0, none⟩ (.int .i64 C)).setCell ⟨w3.heap.size + 1, 1, none⟩ (.int .i64 V)).heap.size = w4.heap.size := by simp
  have hAL : Below (((w4.setCell ⟨w3.heap.size, 2, none⟩ (.slice a' N c')).setCell ⟨w3.heap.size + 1, 0, none⟩ (.int .i64 C)).setCell ⟨w3.heap.size + 1, 1, none⟩ (.int .i64 V)).heap.size (((w4.setCell ⟨w3.heap.size, 2, none⟩ (.slice a' N c')).setCell ⟨w3.heap.size + 1, 0, none⟩ (.int .i64 C)).setCell ⟨w3.heap.size + 1, 1, none⟩ (.int .i64 V)) ((((w4.setCell ⟨w3.heap.size, 2, none⟩ (.slice a' N c')).setCell ⟨w3.heap.size + 1, 0, none⟩ (.int .i64 C)).setCell ⟨w3.heap.size + 1, 1, none⟩ (.int .i64 V)).alloc (.cells #[.int .i64 C, .int .i64 V] 37)) := (al1 _ (.cells #[.int .i64 C, .int .i64 V] 37))
  have hb5 : Below w3.heap.size w3 ((((w4.setCell ⟨w3.heap.size, 2, none⟩ (.slice a' N c')).setCell ⟨w3.heap.size + 1, 0, none⟩ (.int .i64 C)).setCell ⟨w3.heap.size + 1, 1, none⟩ (.int .i64 V)).alloc (.cells #[.int .i64 C, .int .i64 V] 37)) := (((b4.setCell (p := ⟨w3.heap.size, 2, none⟩) (Nat.le_refl _) _).setCell (p := ⟨w3.heap.size + 1, 0, none⟩) (by show w3.heap.size ≤ w3.heap.size + 1; omega) _).setCell (p := ⟨w3.heap.size + 1, 1, none⟩) (by show w3.heap.size ≤ w3.heap.size + 1; omega) _).trans (hAL.mono (by rw [bz]; omega))
  have X5 : B3 ((((w4.setCell ⟨w3.heap.size, 2, none⟩ (.slice a' N c')).setCell ⟨w3.heap.size + 1, 0, none⟩ (.int .i64 C)).setCell ⟨w3.heap.size + 1, 1, none⟩ (.int .i64 V)).alloc (.cells #[.int .i64 C, .int .i64 V] 37)) w3.heap.size (u.m d) (u.s d) (.slice a' N c') := (((X4.set2).far (by omega)).far (by omega)).below hAL
  have Y5 : B2 ((((w4.setCell ⟨w3.heap.size, 2, none⟩ (.slice a' N c')).setCell ⟨w3.heap.size + 1, 0, none⟩ (.int .i64 C)).setCell ⟨w3.heap.size + 1, 1, none⟩ (.int .i64 V)).alloc (.cells #[.int .i64 C, .int .i64 V] 37)) (w3.heap.size + 1) (.int .i64 C) (.int .i64 V) := (((Y4.far (by omega)).set0).set1).below hAL
  have OW : ((((w4.setCell ⟨w3.heap.size, 2, none⟩ (.slice a' N c')).setCell ⟨w3.heap.size + 1, 0, none⟩ (.int .i64 C)).setCell ⟨w3.heap.size + 1, 1, none⟩ (.int .i64 V)).alloc (.cells #[.int .i64 C, .int .i64 V] 37)).ownsRow w3.heap.size 3 1 (.slice a' N c') N (Z.map (Value.int .i64)) := ownsRow_below (own_far (own_far (own_far (own_mono ow (by simp) : w4.ownsRow (w3.heap.size + 2) 3 1 (.slice a' N c') N (Z.map (Value.int .i64))) (by omega) _) (by omega) _) (by omega) _ |> fun h => own_mono h (by omega)) hAL
  obtain ⟨t0, t1, t2⟩ := X4.cells
  obtain ⟨f0, f1, f2⟩ := X4.frees
  have y0 := Y4.c0
  have y1 := Y4.c1
  have g0 := Y4.f 0
  have g1 := Y4.f 1
  have XX : Hid (_ ∧ _ ∧ _ ∧ _) := ⟨hb5, X5, Y5, OW⟩
  clear hb5 X5 Y5 OW hb4 X4 Y4 s0 s1 s2 p0 p1 p2 b4 ow bz hAL
  go_wp2
  obtain ⟨hb5, X5, Y5, OW⟩ := XX.out
  clear XX
  generalize hw5 : ((((w4.setCell ⟨w3.heap.size, 2, none⟩ (.slice a' N c')).setCell ⟨w3.heap.size + 1, 0, none⟩ (.int .i64 C)).setCell ⟨w3.heap.size + 1, 1, none⟩ (.int .i64 V)).alloc (.cells #[.int .i64 C, .int .i64 V] 37)) = w5 at hb5 X5 Y5 OW ⊢
  clear hw5 t0 t1 t2 f0 f1 f2 y0 y1 g0 g1
  have B5 := HB3.out.1.below hb5
  obtain ⟨t0, t1, t2⟩ := X5.cells
  have r0 := Y5.c0
  have r1 := Y5.c1
  obtain ⟨k0, k1, k2⟩ := B5.r.cells
  obtain ⟨l0, l1, l2⟩ := B5.r.frees
  have i0 := B5.rr.c0
  have i1 := B5.rr.c1
  have j0 := B5.rr.f 0
  have j1 := B5.rr.f 1
  have HB5 : Hid (Below w3.heap.size w3 w5 ∧ LinB4 w w5 v d 8 x y ∧ _) := ⟨hb5, B5, OW⟩
  clear hb5 X5 Y5 B5 OW
  go_region_held (fun w' => w'.cell? ⟨w3.heap.size, 0, none⟩ = some (u.m d) ∧ w'.cell? ⟨w3.heap.size, 1, none⟩ = some (u.s d) ∧ w'.cell? ⟨w3.heap.size, 2, none⟩ = some (.slice a' N c') ∧ w'.cell? ⟨w3.heap.size + 1, 0, none⟩ = some (.int .i64 C) ∧ w'.cell? ⟨w3.heap.size + 1, 1, none⟩ = some (.int .i64 V)) ((refine ⟨?_, ?_, ?_, ?_, ?_⟩ <;> (try (with_reducible (refine cell_drew ?_))) <;> (repeat (with_reducible (refine cell_far (by omega) ?_))) <;> (with_reducible assumption))) (fail)
  all_goals
    go_wp2
    refine bodyPost_ret (v := .tuple #[.agg #[(u.m d), (u.s d), (.slice a' N c')], .agg #[.int .i64 C, .int .i64 V]]) (by simp [results, Tryd.results9, go_sem, k0, k1, k2, i0, i1]) rfl ?_
    have eN : N = Z.length := by have := HB5.out.2.2.1; simpa using this.symm
    have hN := st_newQ HB3.out.2.1 HLO (Nat.le_refl _) HB5.out.1 eN.symm HB5.out.2.2
    exact SpRes.drew ⟨⟨u.ma, u.mc, u.sa, u.sc, a', c'⟩, by rw [eN], st_put5 hN HB3.out.2.2 (Nat.le_refl _) _ _ _ _ _, below_put5 HB5.out.2.1.bel _ _ _ _ _⟩

set_option maxRecDepth 20000 in
set_option maxHeartbeats 1000000 in
theorem slin9 (v : SV) (d : LD) (x y : Int) (w : World) (h : SS w v d) (hr : Room v d) (hf : Few d) (hg : Somes v) (hm : okM d.zs d.n = true) (hs : okL d.s = true) (hq : okL d.q = true) (ho : opB 9 x y = true) :
    Calls Tryd.prog 9 #[stV v d, .agg #[.int .i64 9, .int .i64 x, .int .i64 y]] w (SpRes d (nextC d.zs d.n x) (nextV d.zs d.n x) w) := by
  have B := linBoxes w v d 9 x y
  have HF : Hid (Few d ∧ Room v d ∧ SS w v d) := ⟨hf, hr, h⟩
  obtain ⟨⟨gs, hgs⟩, ⟨gq, hgq⟩⟩ := hg
  generalize hC : nextC d.zs d.n x = C
  generalize hV : nextV d.zs d.n x = V
  clear h hr hf
  go_enter Tryd.func9, Tryd.ntmps9
  go_wp2_with fail
  generalize hw0 : ((((w.alloc (.cells #[v.m d, v.s d, v.q d] 35)).alloc (.cells #[.int .i64 9, .int .i64 x, .int .i64 y] 41)).alloc (.cells #[.slice none 0 0, .slice none 0 0, .slice none 0 0] 35)).alloc (.cells #[.int .i64 0, .int .i64 0] 37)) = w0 at B ⊢
  clear hw0
  refine (specMapOk_any _ _ _ d.zs _ (HF.out.2.2.below B.bel).m (by have := HF.out.1.m; omega)).mono ?_
  rintro e w1 ⟨rfl, hb1⟩
  rw [hm]
  have B1 := B.below hb1
  obtain ⟨s0, s1, s2⟩ := B1.s.cells
  obtain ⟨p0, p1, p2⟩ := B1.o.cells
  have HB1 : Hid (LinB4 w w1 v d 9 x y) := B1
  clear B B1 hb1
  go_wp2_with fail
  refine (specListOk_any _ _ _ d.s _ (HF.out.2.2.below HB1.out.bel).s (by have := HF.out.1.s; omega)).mono ?_
  rintro e w1' ⟨rfl, rfl⟩
  rw [hs]
  go_wp2_with fail
  refine (specListOk_any _ _ _ d.q _ (HF.out.2.2.below HB1.out.bel).q (by have := HF.out.1.q; omega)).mono ?_
  rintro e w1' ⟨rfl, rfl⟩
  rw [hq]
  go_wp2_with fail
  refine (specOpOk_any 9 x y _).mono ?_
  rintro e w2 ⟨rfl, hb2⟩
  rw [ho]
  have B2 := HB1.out.below hb2
  clear s0 s1 s2 p0 p1 p2
  obtain ⟨s0, s1, s2⟩ := B2.s.cells
  have HB2 : Hid (LinB4 w w2 v d 9 x y) := B2
  clear HB1 B2 hb2 hm hs hq ho
  go_wp2_with fail
  refine (l7Copy_any v d _ (HF.out.2.2.below HB2.out.bel) HF.out.1).mono ?_
  rintro e w3 ⟨u, rfl, hst, hb3⟩
  have B3' := HB2.out.below hb3
  clear s0 s1 s2
  obtain ⟨s0, s1, s2⟩ := B3'.s.cells
  obtain ⟨p0, p1, p2⟩ := B3'.o.cells
  have n0 : w.heap.size + 4 ≤ w3.heap.size := B3'.sz
  have na : w.heap.size < w3.heap.size := by omega
  have na1 : w.heap.size < w3.heap.size + 1 := by omega
  have nb : w.heap.size + 1 < w3.heap.size := by omega
  have nb1 : w.heap.size + 1 < w3.heap.size + 1 := by omega
  have HLO : w2.heap.size ≤ w3.heap.size := hb3.size
  have HB3 : Hid (LinB4 w w3 v d 9 x y ∧ St w2.heap.size w3.heap.size u d w3 ∧ w.heap.size + 4 ≤ w2.heap.size) := ⟨B3', hst, HB2.out.sz⟩
  clear HB2 B3' hst hb3
  go_wp2_with fail
  refine (specMapNext_any _ _ _ d.zs x _ (HF.out.2.2.below (below_trans' (below_trans' HB3.out.1.bel (al1 w3 (.cells #[u.m d, u.s d, u.q d] 35))) (al1 _ (.cells #[.int .i64 2, .int .i64 0] 37)))).m (by have := HF.out.1.m; omega)).mono ?_
  rw [hC, hV]
  clear hC hV
  rintro e w4 ⟨rfl, hb4⟩
  have X4 := (b3_new w3 (u.m d) (u.s d) (u.q d) 35 rfl).below (below_trans' (al1 _ (.cells #[.int .i64 2, .int .i64 0] 37)) hb4)
  have Y4 := (b2_new (w3.alloc (.cells #[u.m d, u.s d, u.q d] 35)) (.int .i64 2) (.int .i64 0) 37 (b := w3.heap.size + 1) (by simp)).below hb4
  have m0 : w3.heap.size + 2 ≤ w4.heap.size := by have := hb4.size; simpa using this
  have m1 : w3.heap.size < w4.heap.size := by omega
  have m2 : w3.heap.size < w4.heap.size + 1 := by omega
  have m3 : w3.heap.size + 1 < w4.heap.size := by omega
  have m4 : w3.heap.size + 1 < w4.heap.size + 1 := by omega
  have b4 : Below w3.heap.size w3 w4 := below_trans' (below_trans' (al1 w3 (.cells #[u.m d, u.s d, u.q d] 35)) (al1 _ (.cells #[.int .i64 2, .int .i64 0] 37))) hb4
  have hb5 : Below w3.heap.size w3 ((w4.setCell ⟨w3.heap.size + 1, 0, none⟩ (.int .i64 C)).setCell ⟨w3.heap.size + 1, 1, none⟩ (.int .i64 V)) := (b4.setCell (p := ⟨w3.heap.size + 1, 0, none⟩) (by show w3.heap.size ≤ w3.heap.size + 1; omega) _).setCell (p := ⟨w3.heap.size + 1, 1, none⟩) (by show w3.heap.size ≤ w3.heap.size + 1; omega) _
  have X5 : B3 ((w4.setCell ⟨w3.heap.size + 1, 0, none⟩ (.int .i64 C)).setCell ⟨w3.heap.size + 1, 1, none⟩ (.int .i64 V)) w3.heap.size (u.m d) (u.s d) (u.q d) := (X4.far (by omega)).far (by omega)
  have Y5 : B2 ((w4.setCell ⟨w3.heap.size + 1, 0, none⟩ (.int .i64 C)).setCell ⟨w3.heap.size + 1, 1, none⟩ (.int .i64 V)) (w3.heap.size + 1) (.int .i64 C) (.int .i64 V) := Y4.set0.set1
  have OW : True := trivial
  obtain ⟨t0, t1, t2⟩ := X4.cells
  obtain ⟨f0, f1, f2⟩ := X4.frees
  have y0 := Y4.c0
  have y1 := Y4.c1
  have g0 := Y4.f 0
  have g1 := Y4.f 1
  have XX : Hid (_ ∧ _ ∧ _ ∧ _) := ⟨hb5, X5, Y5, OW⟩
  clear hb5 X5 Y5 OW hb4 X4 Y4 s0 s1 s2 p0 p1 p2 b4
  go_wp2
  obtain ⟨hb5, X5, Y5, OW⟩ := XX.out
  clear XX
  generalize hw5 : ((w4.setCell ⟨w3.heap.size + 1, 0, none⟩ (.int .i64 C)).setCell ⟨w3.heap.size + 1, 1, none⟩ (.int .i64 V)) = w5 at hb5 X5 Y5 OW ⊢
  clear hw5 t0 t1 t2 f0 f1 f2 y0 y1 g0 g1
  have B5 := HB3.out.1.below hb5
  obtain ⟨t0, t1, t2⟩ := X5.cells
  have r0 := Y5.c0
  have r1 := Y5.c1
  obtain ⟨k0, k1, k2⟩ := B5.r.cells
  obtain ⟨l0, l1, l2⟩ := B5.r.frees
  have i0 := B5.rr.c0
  have i1 := B5.rr.c1
  have j0 := B5.rr.f 0
  have j1 := B5.rr.f 1
  have HB5 : Hid (Below w3.heap.size w3 w5 ∧ LinB4 w w5 v d 9 x y ∧ _) := ⟨hb5, B5, OW⟩
  clear hb5 X5 Y5 B5 OW
  go_region_held (fun w' => w'.cell? ⟨w3.heap.size, 0, none⟩ = some (u.m d) ∧ w'.cell? ⟨w3.heap.size, 1, none⟩ = some (u.s d) ∧ w'.cell? ⟨w3.heap.size, 2, none⟩ = some (u.q d) ∧ w'.cell? ⟨w3.heap.size + 1, 0, none⟩ = some (.int .i64 C) ∧ w'.cell? ⟨w3.heap.size + 1, 1, none⟩ = some (.int .i64 V)) ((refine ⟨?_, ?_, ?_, ?_, ?_⟩ <;> (try (with_reducible (refine cell_drew ?_))) <;> (repeat (with_reducible (refine cell_far (by omega) ?_))) <;> (with_reducible assumption))) (fail)
  all_goals
    go_wp2
    refine bodyPost_ret (v := .tuple #[.agg #[(u.m d), (u.s d), (u.q d)], .agg #[.int .i64 C, .int .i64 V]]) (by simp [results, Tryd.results9, go_sem, k0, k1, k2, i0, i1]) rfl ?_
    exact SpRes.drew ⟨u, rfl, st_put5 (HB3.out.2.1.below (Nat.le_refl _) HB5.out.1) HB3.out.2.2 HB5.out.1.size _ _ _ _ _, below_put5 HB5.out.2.1.bel _ _ _ _ _⟩

set_option maxRecDepth 20000 in
set_option maxHeartbeats 1000000 in
theorem slin10 (v : SV) (d : LD) (x y : Int) (w : World) (h : SS w v d) (hr : Room v d) (hf : Few d) (hg : Somes v) (hm : okM d.zs d.n = true) (hs : okL d.s = true) (hq : okL d.q = true) (ho : opB 10 x y = true) :
    Calls Tryd.prog 9 #[stV v d, .agg #[.int .i64 10, .int .i64 x, .int .i64 y]] w (SpRes d (2) (cntV d.zs d.n x) w) := by
  have B := linBoxes w v d 10 x y
  have HF : Hid (Few d ∧ Room v d ∧ SS w v d) := ⟨hf, hr, h⟩
  obtain ⟨⟨gs, hgs⟩, ⟨gq, hgq⟩⟩ := hg
  generalize hV : cntV d.zs d.n x = V
  clear h hr hf
  go_enter Tryd.func9, Tryd.ntmps9
  go_wp2_with fail
  generalize hw0 : ((((w.alloc (.cells #[v.m d, v.s d, v.q d] 35)).alloc (.cells #[.int .i64 10, .int .i64 x, .int .i64 y] 41)).alloc (.cells #[.slice none 0 0, .slice none 0 0, .slice none 0 0] 35)).alloc (.cells #[.int .i64 0, .int .i64 0] 37)) = w0 at B ⊢
  clear hw0
  refine (specMapOk_any _ _ _ d.zs _ (HF.out.2.2.below B.bel).m (by have := HF.out.1.m; omega)).mono ?_
  rintro e w1 ⟨rfl, hb1⟩
  rw [hm]
  have B1 := B.below hb1
  obtain ⟨s0, s1, s2⟩ := B1.s.cells
  obtain ⟨p0, p1, p2⟩ := B1.o.cells
  have HB1 : Hid (LinB4 w w1 v d 10 x y) := B1
  clear B B1 hb1
  go_wp2_with fail
  refine (specListOk_any _ _ _ d.s _ (HF.out.2.2.below HB1.out.bel).s (by have := HF.out.1.s; omega)).mono ?_
  rintro e w1' ⟨rfl, rfl⟩
  rw [hs]
  go_wp2_with fail
  refine (specListOk_any _ _ _ d.q _ (HF.out.2.2.below HB1.out.bel).q (by have := HF.out.1.q; omega)).mono ?_
  rintro e w1' ⟨rfl, rfl⟩
  rw [hq]
  go_wp2_with fail
  refine (specOpOk_any 10 x y _).mono ?_
  rintro e w2 ⟨rfl, hb2⟩
  rw [ho]
  have B2 := HB1.out.below hb2
  clear s0 s1 s2 p0 p1 p2
  obtain ⟨s0, s1, s2⟩ := B2.s.cells
  have HB2 : Hid (LinB4 w w2 v d 10 x y) := B2
  clear HB1 B2 hb2 hm hs hq ho
  go_wp2_with fail
  refine (l7Copy_any v d _ (HF.out.2.2.below HB2.out.bel) HF.out.1).mono ?_
  rintro e w3 ⟨u, rfl, hst, hb3⟩
  have B3' := HB2.out.below hb3
  clear s0 s1 s2
  obtain ⟨s0, s1, s2⟩ := B3'.s.cells
  obtain ⟨p0, p1, p2⟩ := B3'.o.cells
  have n0 : w.heap.size + 4 ≤ w3.heap.size := B3'.sz
  have na : w.heap.size < w3.heap.size := by omega
  have na1 : w.heap.size < w3.heap.size + 1 := by omega
  have nb : w.heap.size + 1 < w3.heap.size := by omega
  have nb1 : w.heap.size + 1 < w3.heap.size + 1 := by omega
  have HLO : w2.heap.size ≤ w3.heap.size := hb3.size
  have HB3 : Hid (LinB4 w w3 v d 10 x y ∧ St w2.heap.size w3.heap.size u d w3 ∧ w.heap.size + 4 ≤ w2.heap.size) := ⟨B3', hst, HB2.out.sz⟩
  clear HB2 B3' hst hb3
  go_wp2_with fail
  refine (specMapCount_any _ _ _ d.zs x _ (HF.out.2.2.below (below_trans' (below_trans' HB3.out.1.bel (al1 w3 (.cells #[u.m d, u.s d, u.q d] 35))) (al1 _ (.cells #[.int .i64 2, .int .i64 0] 37)))).m (by have := HF.out.1.m; omega)).mono ?_
  rw [hV]
  clear hV
  rintro e w4 ⟨rfl, hb4⟩
  have X4 := (b3_new w3 (u.m d) (u.s d) (u.q d) 35 rfl).below (below_trans' (al1 _ (.cells #[.int .i64 2, .int .i64 0] 37)) hb4)
  have Y4 := (b2_new (w3.alloc (.cells #[u.m d, u.s d, u.q d] 35)) (.int .i64 2) (.int .i64 0) 37 (b := w3.heap.size + 1) (by simp)).below hb4
  have m0 : w3.heap.size + 2 ≤ w4.heap.size := by have := hb4.size; simpa using this
  have m1 : w3.heap.size < w4.heap.size := by omega
  have m2 : w3.heap.size < w4.heap.size + 1 := by omega
  have m3 : w3.heap.size + 1 < w4.heap.size := by omega
  have m4 : w3.heap.size + 1 < w4.heap.size + 1 := by omega
  have b4 : Below w3.heap.size w3 w4 := below_trans' (below_trans' (al1 w3 (.cells #[u.m d, u.s d, u.q d] 35)) (al1 _ (.cells #[.int .i64 2, .int .i64 0] 37))) hb4
  have hb5 : Below w3.heap.size w3 ((w4.setCell ⟨w3.heap.size + 1, 0, none⟩ (.int .i64 2)).setCell ⟨w3.heap.size + 1, 1, none⟩ (.int .i64 V)) := (b4.setCell (p := ⟨w3.heap.size + 1, 0, none⟩) (by show w3.heap.size ≤ w3.heap.size + 1; omega) _).setCell (p := ⟨w3.heap.size + 1, 1, none⟩) (by show w3.heap.size ≤ w3.heap.size + 1; omega) _
  have X5 : B3 ((w4.setCell ⟨w3.heap.size + 1, 0, none⟩ (.int .i64 2)).setCell ⟨w3.heap.size + 1, 1, none⟩ (.int .i64 V)) w3.heap.size (u.m d) (u.s d) (u.q d) := (X4.far (by omega)).far (by omega)
  have Y5 : B2 ((w4.setCell ⟨w3.heap.size + 1, 0, none⟩ (.int .i64 2)).setCell ⟨w3.heap.size + 1, 1, none⟩ (.int .i64 V)) (w3.heap.size + 1) (.int .i64 2) (.int .i64 V) := Y4.set0.set1
  have OW : True := trivial
  obtain ⟨t0, t1, t2⟩ := X4.cells
  obtain ⟨f0, f1, f2⟩ := X4.frees
  have y0 := Y4.c0
  have y1 := Y4.c1
  have g0 := Y4.f 0
  have g1 := Y4.f 1
  have XX : Hid (_ ∧ _ ∧ _ ∧ _) := ⟨hb5, X5, Y5, OW⟩
  clear hb5 X5 Y5 OW hb4 X4 Y4 s0 s1 s2 p0 p1 p2 b4
  go_wp2
  obtain ⟨hb5, X5, Y5, OW⟩ := XX.out
  clear XX
  generalize hw5 : ((w4.setCell ⟨w3.heap.size + 1, 0, none⟩ (.int .i64 2)).setCell ⟨w3.heap.size + 1, 1, none⟩ (.int .i64 V)) = w5 at hb5 X5 Y5 OW ⊢
  clear hw5 t0 t1 t2 f0 f1 f2 y0 y1 g0 g1
  have B5 := HB3.out.1.below hb5
  obtain ⟨t0, t1, t2⟩ := X5.cells
  have r0 := Y5.c0
  have r1 := Y5.c1
  obtain ⟨k0, k1, k2⟩ := B5.r.cells
  obtain ⟨l0, l1, l2⟩ := B5.r.frees
  have i0 := B5.rr.c0
  have i1 := B5.rr.c1
  have j0 := B5.rr.f 0
  have j1 := B5.rr.f 1
  have HB5 : Hid (Below w3.heap.size w3 w5 ∧ LinB4 w w5 v d 10 x y ∧ _) := ⟨hb5, B5, OW⟩
  clear hb5 X5 Y5 B5 OW
  go_region_held (fun w' => w'.cell? ⟨w3.heap.size, 0, none⟩ = some (u.m d) ∧ w'.cell? ⟨w3.heap.size, 1, none⟩ = some (u.s d) ∧ w'.cell? ⟨w3.heap.size, 2, none⟩ = some (u.q d) ∧ w'.cell? ⟨w3.heap.size + 1, 0, none⟩ = some (.int .i64 2) ∧ w'.cell? ⟨w3.heap.size + 1, 1, none⟩ = some (.int .i64 V)) ((refine ⟨?_, ?_, ?_, ?_, ?_⟩ <;> (try (with_reducible (refine cell_drew ?_))) <;> (repeat (with_reducible (refine cell_far (by omega) ?_))) <;> (with_reducible assumption))) (fail)
  all_goals
    go_wp2
    refine bodyPost_ret (v := .tuple #[.agg #[(u.m d), (u.s d), (u.q d)], .agg #[.int .i64 2, .int .i64 V]]) (by simp [results, Tryd.results9, go_sem, k0, k1, k2, i0, i1]) rfl ?_
    exact SpRes.drew ⟨u, rfl, st_put5 (HB3.out.2.1.below (Nat.le_refl _) HB5.out.1) HB3.out.2.2 HB5.out.1.size _ _ _ _ _, below_put5 HB5.out.2.1.bel _ _ _ _ _⟩

set_option maxRecDepth 20000 in
set_option maxHeartbeats 1000000 in
theorem slin11 (v : SV) (d : LD) (x y : Int) (w : World) (h : SS w v d) (hr : Room v d) (hf : Few d) (hg : Somes v) (hm : okM d.zs d.n = true) (hs : okL d.s = true) (hq : okL d.q = true) (ho : opB 11 x y = true) :
    Calls Tryd.prog 9 #[stV v d, .agg #[.int .i64 11, .int .i64 x, .int .i64 y]] w (SpRes d (firstC d.s) (firstV d.s) w) := by
  have B := linBoxes w v d 11 x y
  have HF : Hid (Few d ∧ Room v d ∧ SS w v d) := ⟨hf, hr, h⟩
  obtain ⟨⟨gs, hgs⟩, ⟨gq, hgq⟩⟩ := hg
  generalize hC : firstC d.s = C
  generalize hV : firstV d.s = V
  clear h hr hf
  go_enter Tryd.func9, Tryd.ntmps9
  go_wp2_with fail
  generalize hw0 : ((((w.alloc (.cells #[v.m d, v.s d, v.q d] 35)).alloc (.cells #[.int .i64 11, .int .i64 x, .int .i64 y] 41)).alloc (.cells #[.slice none 0 0, .slice none 0 0, .slice none 0 0] 35)).alloc (.cells #[.int .i64 0, .int .i64 0] 37)) = w0 at B ⊢
  clear hw0
  refine (specMapOk_any _ _ _ d.zs _ (HF.out.2.2.below B.bel).m (by have := HF.out.1.m; omega)).mono ?_
  rintro e w1 ⟨rfl, hb1⟩
  rw [hm]
  have B1 := B.below hb1
  obtain ⟨s0, s1, s2⟩ := B1.s.cells
  obtain ⟨p0, p1, p2⟩ := B1.o.cells
  have HB1 : Hid (LinB4 w w1 v d 11 x y) := B1
  clear B B1 hb1
  go_wp2_with fail
  refine (specListOk_any _ _ _ d.s _ (HF.out.2.2.below HB1.out.bel).s (by have := HF.out.1.s; omega)).mono ?_
  rintro e w1' ⟨rfl, rfl⟩
  rw [hs]
  go_wp2_with fail
  refine (specListOk_any _ _ _ d.q _ (HF.out.2.2.below HB1.out.bel).q (by have := HF.out.1.q; omega)).mono ?_
  rintro e w1' ⟨rfl, rfl⟩
  rw [hq]
  go_wp2_with fail
  refine (specOpOk_any 11 x y _).mono ?_
  rintro e w2 ⟨rfl, hb2⟩
  rw [ho]
  have B2 := HB1.out.below hb2
  clear s0 s1 s2 p0 p1 p2
  obtain ⟨s0, s1, s2⟩ := B2.s.cells
  have HB2 : Hid (LinB4 w w2 v d 11 x y) := B2
  clear HB1 B2 hb2 hm hs hq ho
  go_wp2_with fail
  refine (l7Copy_any v d _ (HF.out.2.2.below HB2.out.bel) HF.out.1).mono ?_
  rintro e w3 ⟨u, rfl, hst, hb3⟩
  have B3' := HB2.out.below hb3
  clear s0 s1 s2
  obtain ⟨s0, s1, s2⟩ := B3'.s.cells
  obtain ⟨p0, p1, p2⟩ := B3'.o.cells
  have n0 : w.heap.size + 4 ≤ w3.heap.size := B3'.sz
  have na : w.heap.size < w3.heap.size := by omega
  have na1 : w.heap.size < w3.heap.size + 1 := by omega
  have nb : w.heap.size + 1 < w3.heap.size := by omega
  have nb1 : w.heap.size + 1 < w3.heap.size + 1 := by omega
  have HLO : w2.heap.size ≤ w3.heap.size := hb3.size
  have HB3 : Hid (LinB4 w w3 v d 11 x y ∧ St w2.heap.size w3.heap.size u d w3 ∧ w.heap.size + 4 ≤ w2.heap.size) := ⟨B3', hst, HB2.out.sz⟩
  clear HB2 B3' hst hb3
  go_wp2_with fail
  refine (specListFirst_any _ _ _ d.s _ (HF.out.2.2.below (below_trans' (below_trans' HB3.out.1.bel (al1 w3 (.cells #[u.m d, u.s d, u.q d] 35))) (al1 _ (.cells #[.int .i64 2, .int .i64 0] 37)))).s (by have := HF.out.1.s; omega)).mono ?_
  rw [hC, hV]
  clear hC hV
  rintro e w4 ⟨rfl, hb4⟩
  have X4 := (b3_new w3 (u.m d) (u.s d) (u.q d) 35 rfl).below (below_trans' (al1 _ (.cells #[.int .i64 2, .int .i64 0] 37)) hb4)
  have Y4 := (b2_new (w3.alloc (.cells #[u.m d, u.s d, u.q d] 35)) (.int .i64 2) (.int .i64 0) 37 (b := w3.heap.size + 1) (by simp)).below hb4
  have m0 : w3.heap.size + 2 ≤ w4.heap.size := by have := hb4.size; simpa using this
  have m1 : w3.heap.size < w4.heap.size := by omega
  have m2 : w3.heap.size < w4.heap.size + 1 := by omega
  have m3 : w3.heap.size + 1 < w4.heap.size := by omega
  have m4 : w3.heap.size + 1 < w4.heap.size + 1 := by omega
  have b4 : Below w3.heap.size w3 w4 := below_trans' (below_trans' (al1 w3 (.cells #[u.m d, u.s d, u.q d] 35)) (al1 _ (.cells #[.int .i64 2, .int .i64 0] 37))) hb4
  have hb5 : Below w3.heap.size w3 ((w4.setCell ⟨w3.heap.size + 1, 0, none⟩ (.int .i64 C)).setCell ⟨w3.heap.size + 1, 1, none⟩ (.int .i64 V)) := (b4.setCell (p := ⟨w3.heap.size + 1, 0, none⟩) (by show w3.heap.size ≤ w3.heap.size + 1; omega) _).setCell (p := ⟨w3.heap.size + 1, 1, none⟩) (by show w3.heap.size ≤ w3.heap.size + 1; omega) _
  have X5 : B3 ((w4.setCell ⟨w3.heap.size + 1, 0, none⟩ (.int .i64 C)).setCell ⟨w3.heap.size + 1, 1, none⟩ (.int .i64 V)) w3.heap.size (u.m d) (u.s d) (u.q d) := (X4.far (by omega)).far (by omega)
  have Y5 : B2 ((w4.setCell ⟨w3.heap.size + 1, 0, none⟩ (.int .i64 C)).setCell ⟨w3.heap.size + 1, 1, none⟩ (.int .i64 V)) (w3.heap.size + 1) (.int .i64 C) (.int .i64 V) := Y4.set0.set1
  have OW : True := trivial
  obtain ⟨t0, t1, t2⟩ := X4.cells
  obtain ⟨f0, f1, f2⟩ := X4.frees
  have y0 := Y4.c0
  have y1 := Y4.c1
  have g0 := Y4.f 0
  have g1 := Y4.f 1
  have XX : Hid (_ ∧ _ ∧ _ ∧ _) := ⟨hb5, X5, Y5, OW⟩
  clear hb5 X5 Y5 OW hb4 X4 Y4 s0 s1 s2 p0 p1 p2 b4
  go_wp2
  obtain ⟨hb5, X5, Y5, OW⟩ := XX.out
  clear XX
  generalize hw5 : ((w4.setCell ⟨w3.heap.size + 1, 0, none⟩ (.int .i64 C)).setCell ⟨w3.heap.size + 1, 1, none⟩ (.int .i64 V)) = w5 at hb5 X5 Y5 OW ⊢
  clear hw5 t0 t1 t2 f0 f1 f2 y0 y1 g0 g1
  have B5 := HB3.out.1.below hb5
  obtain ⟨t0, t1, t2⟩ := X5.cells
  have r0 := Y5.c0
  have r1 := Y5.c1
  obtain ⟨k0, k1, k2⟩ := B5.r.cells
  obtain ⟨l0, l1, l2⟩ := B5.r.frees
  have i0 := B5.rr.c0
  have i1 := B5.rr.c1
  have j0 := B5.rr.f 0
  have j1 := B5.rr.f 1
  have HB5 : Hid (Below w3.heap.size w3 w5 ∧ LinB4 w w5 v d 11 x y ∧ _) := ⟨hb5, B5, OW⟩
  clear hb5 X5 Y5 B5 OW
  go_region_held (fun w' => w'.cell? ⟨w3.heap.size, 0, none⟩ = some (u.m d) ∧ w'.cell? ⟨w3.heap.size, 1, none⟩ = some (u.s d) ∧ w'.cell? ⟨w3.heap.size, 2, none⟩ = some (u.q d) ∧ w'.cell? ⟨w3.heap.size + 1, 0, none⟩ = some (.int .i64 C) ∧ w'.cell? ⟨w3.heap.size + 1, 1, none⟩ = some (.int .i64 V)) ((refine ⟨?_, ?_, ?_, ?_, ?_⟩ <;> (try (with_reducible (refine cell_drew ?_))) <;> (repeat (with_reducible (refine cell_far (by omega) ?_))) <;> (with_reducible assumption))) (fail)
  all_goals
    go_wp2
    refine bodyPost_ret (v := .tuple #[.agg #[(u.m d), (u.s d), (u.q d)], .agg #[.int .i64 C, .int .i64 V]]) (by simp [results, Tryd.results9, go_sem, k0, k1, k2, i0, i1]) rfl ?_
    exact SpRes.drew ⟨u, rfl, st_put5 (HB3.out.2.1.below (Nat.le_refl _) HB5.out.1) HB3.out.2.2 HB5.out.1.size _ _ _ _ _, below_put5 HB5.out.2.1.bel _ _ _ _ _⟩

set_option maxRecDepth 20000 in
set_option maxHeartbeats 1000000 in
theorem slin12 (v : SV) (d : LD) (x y : Int) (w : World) (h : SS w v d) (hr : Room v d) (hf : Few d) (hg : Somes v) (hm : okM d.zs d.n = true) (hs : okL d.s = true) (hq : okL d.q = true) (ho : opB 12 x y = true) :
    Calls Tryd.prog 9 #[stV v d, .agg #[.int .i64 12, .int .i64 x, .int .i64 y]] w (SpRes d (firstC d.q) (firstV d.q) w) := by
  have B := linBoxes w v d 12 x y
  have HF : Hid (Few d ∧ Room v d ∧ SS w v d) := ⟨hf, hr, h⟩
  obtain ⟨⟨gs, hgs⟩, ⟨gq, hgq⟩⟩ := hg
  generalize hC : firstC d.q = C
  generalize hV : firstV d.q = V
  clear h hr hf
  go_enter Tryd.func9, Tryd.ntmps9
  go_wp2_with fail
  generalize hw0 : ((((w.alloc (.cells #[v.m d, v.s d, v.q d] 35)).alloc (.cells #[.int .i64 12, .int .i64 x, .int .i64 y] 41)).alloc (.cells #[.slice none 0 0, .slice none 0 0, .slice none 0 0] 35)).alloc (.cells #[.int .i64 0, .int .i64 0] 37)) = w0 at B ⊢
  clear hw0
  refine (specMapOk_any _ _ _ d.zs _ (HF.out.2.2.below B.bel).m (by have := HF.out.1.m; omega)).mono ?_
  rintro e w1 ⟨rfl, hb1⟩
  rw [hm]
  have B1 := B.below hb1
  obtain ⟨s0, s1, s2⟩ := B1.s.cells
  obtain ⟨p0, p1, p2⟩ := B1.o.cells
  have HB1 : Hid (LinB4 w w1 v d 12 x y) := B1
  clear B B1 hb1
  go_wp2_with fail
  refine (specListOk_any _ _ _ d.s _ (HF.out.2.2.below HB1.out.bel).s (by have := HF.out.1.s; omega)).mono ?_
  rintro e w1' ⟨rfl, rfl⟩
  rw [hs]
  go_wp2_with fail
  refine (specListOk_any _ _ _ d.q _ (HF.out.2.2.below HB1.out.bel).q (by have := HF.out.1.q; omega)).mono ?_
  rintro e w1' ⟨rfl, rfl⟩
  rw [hq]
  go_wp2_with fail
  refine (specOpOk_any 12 x y _).mono ?_
  rintro e w2 ⟨rfl, hb2⟩
  rw [ho]
  have B2 := HB1.out.below hb2
  clear s0 s1 s2 p0 p1 p2
  obtain ⟨s0, s1, s2⟩ := B2.s.cells
  have HB2 : Hid (LinB4 w w2 v d 12 x y) := B2
  clear HB1 B2 hb2 hm hs hq ho
  go_wp2_with fail
  refine (l7Copy_any v d _ (HF.out.2.2.below HB2.out.bel) HF.out.1).mono ?_
  rintro e w3 ⟨u, rfl, hst, hb3⟩
  have B3' := HB2.out.below hb3
  clear s0 s1 s2
  obtain ⟨s0, s1, s2⟩ := B3'.s.cells
  obtain ⟨p0, p1, p2⟩ := B3'.o.cells
  have n0 : w.heap.size + 4 ≤ w3.heap.size := B3'.sz
  have na : w.heap.size < w3.heap.size := by omega
  have na1 : w.heap.size < w3.heap.size + 1 := by omega
  have nb : w.heap.size + 1 < w3.heap.size := by omega
  have nb1 : w.heap.size + 1 < w3.heap.size + 1 := by omega
  have HLO : w2.heap.size ≤ w3.heap.size := hb3.size
  have HB3 : Hid (LinB4 w w3 v d 12 x y ∧ St w2.heap.size w3.heap.size u d w3 ∧ w.heap.size + 4 ≤ w2.heap.size) := ⟨B3', hst, HB2.out.sz⟩
  clear HB2 B3' hst hb3
  go_wp2_with fail
  refine (specListFirst_any _ _ _ d.q _ (HF.out.2.2.below (below_trans' (below_trans' HB3.out.1.bel (al1 w3 (.cells #[u.m d, u.s d, u.q d] 35))) (al1 _ (.cells #[.int .i64 2, .int .i64 0] 37)))).q (by have := HF.out.1.q; omega)).mono ?_
  rw [hC, hV]
  clear hC hV
  rintro e w4 ⟨rfl, hb4⟩
  have X4 := (b3_new w3 (u.m d) (u.s d) (u.q d) 35 rfl).below (below_trans' (al1 _ (.cells #[.int .i64 2, .int .i64 0] 37)) hb4)
  have Y4 := (b2_new (w3.alloc (.cells #[u.m d, u.s d, u.q d] 35)) (.int .i64 2) (.int .i64 0) 37 (b := w3.heap.size + 1) (by simp)).below hb4
  have m0 : w3.heap.size + 2 ≤ w4.heap.size := by have := hb4.size; simpa using this
  have m1 : w3.heap.size < w4.heap.size := by omega
  have m2 : w3.heap.size < w4.heap.size + 1 := by omega
  have m3 : w3.heap.size + 1 < w4.heap.size := by omega
  have m4 : w3.heap.size + 1 < w4.heap.size + 1 := by omega
  have b4 : Below w3.heap.size w3 w4 := below_trans' (below_trans' (al1 w3 (.cells #[u.m d, u.s d, u.q d] 35)) (al1 _ (.cells #[.int .i64 2, .int .i64 0] 37))) hb4
  have hb5 : Below w3.heap.size w3 ((w4.setCell ⟨w3.heap.size + 1, 0, none⟩ (.int .i64 C)).setCell ⟨w3.heap.size + 1, 1, none⟩ (.int .i64 V)) := (b4.setCell (p := ⟨w3.heap.size + 1, 0, none⟩) (by show w3.heap.size ≤ w3.heap.size + 1; omega) _).setCell (p := ⟨w3.heap.size + 1, 1, none⟩) (by show w3.heap.size ≤ w3.heap.size + 1; omega) _
  have X5 : B3 ((w4.setCell ⟨w3.heap.size + 1, 0, none⟩ (.int .i64 C)).setCell ⟨w3.heap.size + 1, 1, none⟩ (.int .i64 V)) w3.heap.size (u.m d) (u.s d) (u.q d) := (X4.far (by omega)).far (by omega)
  have Y5 : B2 ((w4.setCell ⟨w3.heap.size + 1, 0, none⟩ (.int .i64 C)).setCell ⟨w3.heap.size + 1, 1, none⟩ (.int .i64 V)) (w3.heap.size + 1) (.int .i64 C) (.int .i64 V) := Y4.set0.set1
  have OW : True := trivial
  obtain ⟨t0, t1, t2⟩ := X4.cells
  obtain ⟨f0, f1, f2⟩ := X4.frees
  have y0 := Y4.c0
  have y1 := Y4.c1
  have g0 := Y4.f 0
  have g1 := Y4.f 1
  have XX : Hid (_ ∧ _ ∧ _ ∧ _) := ⟨hb5, X5, Y5, OW⟩
  clear hb5 X5 Y5 OW hb4 X4 Y4 s0 s1 s2 p0 p1 p2 b4
  go_wp2
  obtain ⟨hb5, X5, Y5, OW⟩ := XX.out
  clear XX
  generalize hw5 : ((w4.setCell ⟨w3.heap.size + 1, 0, none⟩ (.int .i64 C)).setCell ⟨w3.heap.size + 1, 1, none⟩ (.int .i64 V)) = w5 at hb5 X5 Y5 OW ⊢
  clear hw5 t0 t1 t2 f0 f1 f2 y0 y1 g0 g1
  have B5 := HB3.out.1.below hb5
  obtain ⟨t0, t1, t2⟩ := X5.cells
  have r0 := Y5.c0
  have r1 := Y5.c1
  obtain ⟨k0, k1, k2⟩ := B5.r.cells
  obtain ⟨l0, l1, l2⟩ := B5.r.frees
  have i0 := B5.rr.c0
  have i1 := B5.rr.c1
  have j0 := B5.rr.f 0
  have j1 := B5.rr.f 1
  have HB5 : Hid (Below w3.heap.size w3 w5 ∧ LinB4 w w5 v d 12 x y ∧ _) := ⟨hb5, B5, OW⟩
  clear hb5 X5 Y5 B5 OW
  go_region_held (fun w' => w'.cell? ⟨w3.heap.size, 0, none⟩ = some (u.m d) ∧ w'.cell? ⟨w3.heap.size, 1, none⟩ = some (u.s d) ∧ w'.cell? ⟨w3.heap.size, 2, none⟩ = some (u.q d) ∧ w'.cell? ⟨w3.heap.size + 1, 0, none⟩ = some (.int .i64 C) ∧ w'.cell? ⟨w3.heap.size + 1, 1, none⟩ = some (.int .i64 V)) ((refine ⟨?_, ?_, ?_, ?_, ?_⟩ <;> (try (with_reducible (refine cell_drew ?_))) <;> (repeat (with_reducible (refine cell_far (by omega) ?_))) <;> (with_reducible assumption))) (fail)
  all_goals
    go_wp2
    refine bodyPost_ret (v := .tuple #[.agg #[(u.m d), (u.s d), (u.q d)], .agg #[.int .i64 C, .int .i64 V]]) (by simp [results, Tryd.results9, go_sem, k0, k1, k2, i0, i1]) rfl ?_
    exact SpRes.drew ⟨u, rfl, st_put5 (HB3.out.2.1.below (Nat.le_refl _) HB5.out.1) HB3.out.2.2 HB5.out.1.size _ _ _ _ _, below_put5 HB5.out.2.1.bel _ _ _ _ _⟩

end Go.Proofs.YtklpdpdjblakgaaDoor

/- LinK -/
namespace Go.Proofs.YtklpdpdjblakgaaDoor
open Go.RowKit
set_option linter.unusedVariables false

set_option maxRecDepth 20000 in
set_option maxHeartbeats 1000000 in
theorem lin1 (v : SV) (d : LD) (x y : Int) (w : World) (h : SS w v d) (hr : Room v d) (hf : Few d) (ht : Tab w) (hs : stOk d.n d.zs d.s d.q = true) (ho : opB 1 x y = true) :
    Calls Tryd.prog 12 #[stV v d, .agg #[.int .i64 1, .int .i64 x, .int .i64 y]] w (OfRes w.heap.size d (getC d.zs d.n x) (getV d.zs d.n x) w) := by
  have B := linBoxes w v d 1 x y
  have HF : Hid (Few d ∧ Room v d ∧ SS w v d ∧ Tab w) := ⟨hf, hr, h, ht⟩
  clear h hr hf ht
  go_enter Tryd.func12, Tryd.ntmps12
  go_wp2_with fail
  generalize hw0 : ((((w.alloc (.cells #[v.m d, v.s d, v.q d] 35)).alloc (.cells #[.int .i64 1, .int .i64 x, .int .i64 y] 41)).alloc (.cells #[.slice none 0 0, .slice none 0 0, .slice none 0 0] 35)).alloc (.cells #[.int .i64 0, .int .i64 0] 37)) = w0 at B ⊢
  clear hw0
  refine (stateOk_any v d _ (HF.out.2.2.1.below B.bel) HF.out.1).mono ?_
  rintro e w1 ⟨rfl, hb1⟩
  rw [hs]
  have B1 := B.below hb1
  obtain ⟨p0, p1, p2⟩ := B1.o.cells
  have HB1 : Hid (LinB4 w w1 v d 1 x y) := B1
  clear B B1 hb1
  go_wp2_with fail
  refine (implOpOk_any 1 x y _ (HF.out.2.2.2.below HB1.out.bel)).mono ?_
  rintro e w2 ⟨rfl, hb2⟩
  rw [ho]
  have B2 := HB1.out.below hb2
  obtain ⟨o0, o1, o2⟩ := B2.o.cells
  obtain ⟨s0, s1, s2⟩ := B2.s.cells
  obtain ⟨m0, m1, m2⟩ := B2.r.cells
  obtain ⟨l0, l1, l2⟩ := B2.r.frees
  have i0 := B2.rr.c0
  have i1 := B2.rr.c1
  have j0 := B2.rr.f 0
  have j1 := B2.rr.f 1
  have HB2 : Hid (LinB4 w w2 v d 1 x y) := B2
  clear HB1 B2 hb2 p0 p1 p2 hs ho
  have hn : ∀ w : World, (nilAhead 250 102 (.agg #[.int .i64 x]) "loop.example/tuggers/impl.of").run Tryd.prog w = .ok (some false) w := fun _ => by kernel_rfl
  have hm : ∀ w : World, (method 250 102 (.agg #[.int .i64 x]) "loop.example/tuggers/impl.of").run Tryd.prog w = .ok (111, .agg #[.int .i64 x]) w := fun _ => by kernel_rfl
  go_wp2
  go_region_held (fun w' => w'.cell? ⟨w.heap.size, 0, none⟩ = some (v.m d) ∧ w'.cell? ⟨w.heap.size, 1, none⟩ = some (v.s d) ∧ w'.cell? ⟨w.heap.size, 2, none⟩ = some (v.q d) ∧ w'.cell? ⟨w.heap.size + 1, 0, none⟩ = some (.int .i64 1) ∧ w'.cell? ⟨w.heap.size + 1, 1, none⟩ = some (.int .i64 x) ∧ w'.cell? ⟨w.heap.size + 1, 2, none⟩ = some (.int .i64 y)) ((refine ⟨?_, ?_, ?_, ?_, ?_, ?_⟩ <;> (try (with_reducible (refine cell_drew ?_))) <;> (repeat (with_reducible (refine cell_far (by omega) ?_))) <;> (with_reducible assumption))) (first | (go_at_call 49; refine (thing1 x y _).mono ?_; rintro e w3 ⟨rfl, hb3⟩; have B3 := HB2.out.below (below_trans' (Below.refl w2.heap.size w2).drew hb3); obtain ⟨o03, o13, o23⟩ := B3.o.cells; obtain ⟨s03, s13, s23⟩ := B3.s.cells; obtain ⟨m03, m13, m23⟩ := B3.r.cells; obtain ⟨l03, l13, l23⟩ := B3.r.frees; have i03 := B3.rr.c0; have i13 := B3.rr.c1; have j03 := B3.rr.f 0; have j13 := B3.rr.f 1; have HB3 : Hid (LinB4 w w3 v d 1 x y) := B3; clear B3 hb3) | (go_at_call 50; refine (state_same v d _ (HF.out.2.2.1.below HB3.out.bel) HF.out.2.1 HF.out.1).mono ?_; rintro e w4 ⟨u, rfl, hst, hap, hb4⟩; have B4 := HB3.out.below hb4; obtain ⟨o04, o14, o24⟩ := B4.o.cells; obtain ⟨s04, s14, s24⟩ := B4.s.cells; obtain ⟨m04, m14, m24⟩ := B4.r.cells; obtain ⟨l04, l14, l24⟩ := B4.r.frees; have i04 := B4.rr.c0; have i14 := B4.rr.c1; have j04 := B4.rr.f 0; have j14 := B4.rr.f 1; have HB4 : Hid (LinB4 w w4 v d 1 x y) := B4; have HU : Hid (St w3.heap.size w4.heap.size u d w4 ∧ Apart u d ∧ Below w3.heap.size w3 w4) := ⟨hst, hap, hb4⟩; clear B4 hb4 hst hap) | (go_at_call 111; refine (of1 w3.heap.size w4.heap.size u d x y _ HU.out.1 HU.out.2.1 HF.out.1 HU.out.2.2.size (Nat.le_refl _)).mono ?_; rintro e w5 ⟨u5, rfl, hst, hap, hb5⟩; have B5 := HB4.out.below hb5; obtain ⟨o05, o15, o25⟩ := B5.o.cells; obtain ⟨s05, s15, s25⟩ := B5.s.cells; obtain ⟨m05, m15, m25⟩ := B5.r.cells; obtain ⟨l05, l15, l25⟩ := B5.r.frees; have i05 := B5.rr.c0; have i15 := B5.rr.c1; have j05 := B5.rr.f 0; have j15 := B5.rr.f 1; have HB5 : Hid (LinB4 w w5 v d 1 x y) := B5; have HV : Hid (St w3.heap.size w5.heap.size u5 d w5 ∧ Apart u5 d ∧ Below w4.heap.size w4 w5) := ⟨hst, hap, hb5⟩; clear B5 hb5 hst hap))
  all_goals
    have z3 : w.heap.size + 4 ≤ w3.heap.size := HB3.out.sz
    go_wp2
    refine bodyPost_ret (v := .tuple #[stV u5 d, .agg #[.int .i64 (getC d.zs d.n x), .int .i64 (getV d.zs d.n x)]]) (by simp [results, Tryd.results12, go_sem, m05, m15, m25, i05, i15]) rfl ?_
    exact ⟨u5, rfl, st_put5 HV.out.1 z3 (Nat.le_refl _) _ _ _ _ _, HV.out.2.1, below_put5 HB5.out.bel _ _ _ _ _⟩

set_option maxRecDepth 20000 in
set_option maxHeartbeats 1000000 in
theorem lin2 (v : SV) (d : LD) (x y : Int) (w : World) (h : SS w v d) (hr : Room v d) (hf : Few d) (ht : Tab w) (hs : stOk d.n d.zs d.s d.q = true) (ho : opB 2 x y = true) :
    Calls Tryd.prog 12 #[stV v d, .agg #[.int .i64 2, .int .i64 x, .int .i64 y]] w (OfRes w.heap.size ⟨ptN d.zs d.n x y, ptL d.zs d.n x y, d.s, d.q⟩ (ptC d.zs d.n x y) (0) w) := by
  have B := linBoxes w v d 2 x y
  have HF : Hid (Few d ∧ Room v d ∧ SS w v d ∧ Tab w) := ⟨hf, hr, h, ht⟩
  clear h hr hf ht
  go_enter Tryd.func12, Tryd.ntmps12
  go_wp2_with fail
  generalize hw0 : ((((w.alloc (.cells #[v.m d, v.s d, v.q d] 35)).alloc (.cells #[.int .i64 2, .int .i64 x, .int .i64 y] 41)).alloc (.cells #[.slice none 0 0, .slice none 0 0, .slice none 0 0] 35)).alloc (.cells #[.int .i64 0, .int .i64 0] 37)) = w0 at B ⊢
  clear hw0
  refine (stateOk_any v d _ (HF.out.2.2.1.below B.bel) HF.out.1).mono ?_
  rintro e w1 ⟨rfl, hb1⟩
  rw [hs]
  have B1 := B.below hb1
  obtain ⟨p0, p1, p2⟩ := B1.o.cells
  have HB1 : Hid (LinB4 w w1 v d 2 x y) := B1
  clear B B1 hb1
  go_wp2_with fail
  refine (implOpOk_any 2 x y _ (HF.out.2.2.2.below HB1.out.bel)).mono ?_
  rintro e w2 ⟨rfl, hb2⟩
  rw [ho]
  have B2 := HB1.out.below hb2
  obtain ⟨o0, o1, o2⟩ := B2.o.cells
  obtain ⟨s0, s1, s2⟩ := B2.s.cells
  obtain ⟨m0, m1, m2⟩ := B2.r.cells
  obtain ⟨l0, l1, l2⟩ := B2.r.frees
  have i0 := B2.rr.c0
  have i1 := B2.rr.c1
  have j0 := B2.rr.f 0
  have j1 := B2.rr.f 1
  have HB2 : Hid (LinB4 w w2 v d 2 x y) := B2
  clear HB1 B2 hb2 p0 p1 p2 hs ho
  have hn : ∀ w : World, (nilAhead 250 104 (.agg #[.int .i64 x, .int .i64 y]) "loop.example/tuggers/impl.of").run Tryd.prog w = .ok (some false) w := fun _ => by kernel_rfl
  have hm : ∀ w : World, (method 250 104 (.agg #[.int .i64 x, .int .i64 y]) "loop.example/tuggers/impl.of").run Tryd.prog w = .ok (112, .agg #[.int .i64 x, .int .i64 y]) w := fun _ => by kernel_rfl
  go_wp2
  go_region_held (fun w' => w'.cell? ⟨w.heap.size, 0, none⟩ = some (v.m d) ∧ w'.cell? ⟨w.heap.size, 1, none⟩ = some (v.s d) ∧ w'.cell? ⟨w.heap.size, 2, none⟩ = some (v.q d) ∧ w'.cell? ⟨w.heap.size + 1, 0, none⟩ = some (.int .i64 2) ∧ w'.cell? ⟨w.heap.size + 1, 1, none⟩ = some (.int .i64 x) ∧ w'.cell? ⟨w.heap.size + 1, 2, none⟩ = some (.int .i64 y)) ((refine ⟨?_, ?_, ?_, ?_, ?_, ?_⟩ <;> (try (with_reducible (refine cell_drew ?_))) <;> (repeat (with_reducible (refine cell_far (by omega) ?_))) <;> (with_reducible assumption))) (first | (go_at_call 49; refine (thing2 x y _).mono ?_; rintro e w3 ⟨rfl, hb3⟩; have B3 := HB2.out.below (below_trans' (Below.refl w2.heap.size w2).drew hb3); obtain ⟨o03, o13, o23⟩ := B3.o.cells; obtain ⟨s03, s13, s23⟩ := B3.s.cells; obtain ⟨m03, m13, m23⟩ := B3.r.cells; obtain ⟨l03, l13, l23⟩ := B3.r.frees; have i03 := B3.rr.c0; have i13 := B3.rr.c1; have j03 := B3.rr.f 0; have j13 := B3.rr.f 1; have HB3 : Hid (LinB4 w w3 v d 2 x y) := B3; clear B3 hb3) | (go_at_call 50; refine (state_same v d _ (HF.out.2.2.1.below HB3.out.bel) HF.out.2.1 HF.out.1).mono ?_; rintro e w4 ⟨u, rfl, hst, hap, hb4⟩; have B4 := HB3.out.below hb4; obtain ⟨o04, o14, o24⟩ := B4.o.cells; obtain ⟨s04, s14, s24⟩ := B4.s.cells; obtain ⟨m04, m14, m24⟩ := B4.r.cells; obtain ⟨l04, l14, l24⟩ := B4.r.frees; have i04 := B4.rr.c0; have i14 := B4.rr.c1; have j04 := B4.rr.f 0; have j14 := B4.rr.f 1; have HB4 : Hid (LinB4 w w4 v d 2 x y) := B4; have HU : Hid (St w3.heap.size w4.heap.size u d w4 ∧ Apart u d ∧ Below w3.heap.size w3 w4) := ⟨hst, hap, hb4⟩; clear B4 hb4 hst hap) | (go_at_call 112; refine (of2 w3.heap.size w4.heap.size u d x y _ HU.out.1 HU.out.2.1 HF.out.1 HU.out.2.2.size (Nat.le_refl _)).mono ?_; rintro e w5 ⟨u5, rfl, hst, hap, hb5⟩; have B5 := HB4.out.below hb5; obtain ⟨o05, o15, o25⟩ := B5.o.cells; obtain ⟨s05, s15, s25⟩ := B5.s.cells; obtain ⟨m05, m15, m25⟩ := B5.r.cells; obtain ⟨l05, l15, l25⟩ := B5.r.frees; have i05 := B5.rr.c0; have i15 := B5.rr.c1; have j05 := B5.rr.f 0; have j15 := B5.rr.f 1; have HB5 : Hid (LinB4 w w5 v d 2 x y) := B5; have HV : Hid (St w3.heap.size w5.heap.size u5 ⟨ptN d.zs d.n x y, ptL d.zs d.n x y, d.s, d.q⟩ w5 ∧ Apart u5 ⟨ptN d.zs d.n x y, ptL d.zs d.n x y, d.s, d.q⟩ ∧ Below w4.heap.size w4 w5) := ⟨hst, hap, hb5⟩; clear B5 hb5 hst hap))
  all_goals
    have z3 : w.heap.size + 4 ≤ w3.heap.size := HB3.out.sz
    go_wp2
    refine bodyPost_ret (v := .tuple #[stV u5 ⟨ptN d.zs d.n x y, ptL d.zs d.n x y, d.s, d.q⟩, .agg #[.int .i64 (ptC d.zs d.n x y), .int .i64 (0)]]) (by simp [results, Tryd.results12, go_sem, m05, m15, m25, i05, i15]) rfl ?_
    exact ⟨u5, rfl, st_put5 HV.out.1 z3 (Nat.le_refl _) _ _ _ _ _, HV.out.2.1, below_put5 HB5.out.bel _ _ _ _ _⟩

set_option maxRecDepth 20000 in
set_option maxHeartbeats 1000000 in
theorem lin3 (v : SV) (d : LD) (x y : Int) (w : World) (h : SS w v d) (hr : Room v d) (hf : Few d) (ht : Tab w) (hs : stOk d.n d.zs d.s d.q = true) (ho : opB 3 x y = true) :
    Calls Tryd.prog 12 #[stV v d, .agg #[.int .i64 3, .int .i64 x, .int .i64 y]] w (OfRes w.heap.size ⟨delN d.zs d.n x, delL d.zs d.n x, d.s, d.q⟩ (delC d.zs d.n x) (delV d.zs d.n x) w) := by
  have B := linBoxes w v d 3 x y
  have HF : Hid (Few d ∧ Room v d ∧ SS w v d ∧ Tab w) := ⟨hf, hr, h, ht⟩
  clear h hr hf ht
  go_enter Tryd.func12, Tryd.ntmps12
  go_wp2_with fail
  generalize hw0 : ((((w.alloc (.cells #[v.m d, v.s d, v.q d] 35)).alloc (.cells #[.int .i64 3, .int .i64 x, .int .i64 y] 41)).alloc (.cells #[.slice none 0 0, .slice none 0 0, .slice none 0 0] 35)).alloc (.cells #[.int .i64 0, .int .i64 0] 37)) = w0 at B ⊢
  clear hw0
  refine (stateOk_any v d _ (HF.out.2.2.1.below B.bel) HF.out.1).mono ?_
  rintro e w1 ⟨rfl, hb1⟩
  rw [hs]
  have B1 := B.below hb1
  obtain ⟨p0, p1, p2⟩ := B1.o.cells
  have HB1 : Hid (LinB4 w w1 v d 3 x y) := B1
  clear B B1 hb1
  go_wp2_with fail
  refine (implOpOk_any 3 x y _ (HF.out.2.2.2.below HB1.out.bel)).mono ?_
  rintro e w2 ⟨rfl, hb2⟩
  rw [ho]
  have B2 := HB1.out.below hb2
  obtain ⟨o0, o1, o2⟩ := B2.o.cells
  obtain ⟨s0, s1, s2⟩ := B2.s.cells
  obtain ⟨m0, m1, m2⟩ := B2.r.cells
  obtain ⟨l0, l1, l2⟩ := B2.r.frees
  have i0 := B2.rr.c0
  have i1 := B2.rr.c1
  have j0 := B2.rr.f 0
  have j1 := B2.rr.f 1
  have HB2 : Hid (LinB4 w w2 v d 3 x y) := B2
  clear HB1 B2 hb2 p0 p1 p2 hs ho
  have hn : ∀ w : World, (nilAhead 250 105 (.agg #[.int .i64 x]) "loop.example/tuggers/impl.of").run Tryd.prog w = .ok (some false) w := fun _ => by kernel_rfl
  have hm : ∀ w : World, (method 250 105 (.agg #[.int .i64 x]) "loop.example/tuggers/impl.of").run Tryd.prog w = .ok (113, .agg #[.int .i64 x]) w := fun _ => by kernel_rfl
  go_wp2
  go_region_held (fun w' => w'.cell? ⟨w.heap.size, 0, none⟩ = some (v.m d) ∧ w'.cell? ⟨w.heap.size, 1, none⟩ = some (v.s d) ∧ w'.cell? ⟨w.heap.size, 2, none⟩ = some (v.q d) ∧ w'.cell? ⟨w.heap.size + 1, 0, none⟩ = some (.int .i64 3) ∧ w'.cell? ⟨w.heap.size + 1, 1, none⟩ = some (.int .i64 x) ∧ w'.cell? ⟨w.heap.size + 1, 2, none⟩ = some (.int .i64 y)) ((refine ⟨?_, ?_, ?_, ?_, ?_, ?_⟩ <;> (try (with_reducible (refine cell_drew ?_))) <;> (repeat (with_reducible (refine cell_far (by omega) ?_))) <;> (with_reducible assumption))) (first | (go_at_call 49; refine (thing3 x y _).mono ?_; rintro e w3 ⟨rfl, hb3⟩; have B3 := HB2.out.below (below_trans' (Below.refl w2.heap.size w2).drew hb3); obtain ⟨o03, o13, o23⟩ := B3.o.cells; obtain ⟨s03, s13, s23⟩ := B3.s.cells; obtain ⟨m03, m13, m23⟩ := B3.r.cells; obtain ⟨l03, l13, l23⟩ := B3.r.frees; have i03 := B3.rr.c0; have i13 := B3.rr.c1; have j03 := B3.rr.f 0; have j13 := B3.rr.f 1; have HB3 : Hid (LinB4 w w3 v d 3 x y) := B3; clear B3 hb3) | (go_at_call 50; refine (state_same v d _ (HF.out.2.2.1.below HB3.out.bel) HF.out.2.1 HF.out.1).mono ?_; rintro e w4 ⟨u, rfl, hst, hap, hb4⟩; have B4 := HB3.out.below hb4; obtain ⟨o04, o14, o24⟩ := B4.o.cells; obtain ⟨s04, s14, s24⟩ := B4.s.cells; obtain ⟨m04, m14, m24⟩ := B4.r.cells; obtain ⟨l04, l14, l24⟩ := B4.r.frees; have i04 := B4.rr.c0; have i14 := B4.rr.c1; have j04 := B4.rr.f 0; have j14 := B4.rr.f 1; have HB4 : Hid (LinB4 w w4 v d 3 x y) := B4; have HU : Hid (St w3.heap.size w4.heap.size u d w4 ∧ Apart u d ∧ Below w3.heap.size w3 w4) := ⟨hst, hap, hb4⟩; clear B4 hb4 hst hap) | (go_at_call 113; refine (of3 w3.heap.size w4.heap.size u d x y _ HU.out.1 HU.out.2.1 HF.out.1 HU.out.2.2.size (Nat.le_refl _)).mono ?_; rintro e w5 ⟨u5, rfl, hst, hap, hb5⟩; have B5 := HB4.out.below hb5; obtain ⟨o05, o15, o25⟩ := B5.o.cells; obtain ⟨s05, s15, s25⟩ := B5.s.cells; obtain ⟨m05, m15, m25⟩ := B5.r.cells; obtain ⟨l05, l15, l25⟩ := B5.r.frees; have i05 := B5.rr.c0; have i15 := B5.rr.c1; have j05 := B5.rr.f 0; have j15 := B5.rr.f 1; have HB5 : Hid (LinB4 w w5 v d 3 x y) := B5; have HV : Hid (St w3.heap.size w5.heap.size u5 ⟨delN d.zs d.n x, delL d.zs d.n x, d.s, d.q⟩ w5 ∧ Apart u5 ⟨delN d.zs d.n x, delL d.zs d.n x, d.s, d.q⟩ ∧ Below w4.heap.size w4 w5) := ⟨hst, hap, hb5⟩; clear B5 hb5 hst hap))
  all_goals
    have z3 : w.heap.size + 4 ≤ w3.heap.size := HB3.out.sz
    go_wp2
    refine bodyPost_ret (v := .tuple #[stV u5 ⟨delN d.zs d.n x, delL d.zs d.n x, d.s, d.q⟩, .agg #[.int .i64 (delC d.zs d.n x), .int .i64 (delV d.zs d.n x)]]) (by simp [results, Tryd.results12, go_sem, m05, m15, m25, i05, i15]) rfl ?_
    exact ⟨u5, rfl, st_put5 HV.out.1 z3 (Nat.le_refl _) _ _ _ _ _, HV.out.2.1, below_put5 HB5.out.bel _ _ _ _ _⟩

set_option maxRecDepth 20000 in
set_option maxHeartbeats 1000000 in
theorem lin4 (v : SV) (d : LD) (x y : Int) (w : World) (h : SS w v d) (hr : Room v d) (hf : Few d) (ht : Tab w) (hs : stOk d.n d.zs d.s d.q = true) (ho : opB 4 x y = true) :
    Calls Tryd.prog 12 #[stV v d, .agg #[.int .i64 4, .int .i64 x, .int .i64 y]] w (OfRes w.heap.size d (2) (0) w) := by
  have B := linBoxes w v d 4 x y
  have HF : Hid (Few d ∧ Room v d ∧ SS w v d ∧ Tab w) := ⟨hf, hr, h, ht⟩
  clear h hr hf ht
  go_enter Tryd.func12, Tryd.ntmps12
  go_wp2_with fail
  generalize hw0 : ((((w.alloc (.cells #[v.m d, v.s d, v.q d] 35)).alloc (.cells #[.int .i64 4, .int .i64 x, .int .i64 y] 41)).alloc (.cells #[.slice none 0 0, .slice none 0 0, .slice none 0 0] 35)).alloc (.cells #[.int .i64 0, .int .i64 0] 37)) = w0 at B ⊢
  clear hw0
  refine (stateOk_any v d _ (HF.out.2.2.1.below B.bel) HF.out.1).mono ?_
  rintro e w1 ⟨rfl, hb1⟩
  rw [hs]
  have B1 := B.below hb1
  obtain ⟨p0, p1, p2⟩ := B1.o.cells
  have HB1 : Hid (LinB4 w w1 v d 4 x y) := B1
  clear B B1 hb1
  go_wp2_with fail
  refine (implOpOk_any 4 x y _ (HF.out.2.2.2.below HB1.out.bel)).mono ?_
  rintro e w2 ⟨rfl, hb2⟩
  rw [ho]
  have B2 := HB1.out.below hb2
  obtain ⟨o0, o1, o2⟩ := B2.o.cells
  obtain ⟨s0, s1, s2⟩ := B2.s.cells
  obtain ⟨m0, m1, m2⟩ := B2.r.cells
  obtain ⟨l0, l1, l2⟩ := B2.r.frees
  have i0 := B2.rr.c0
  have i1 := B2.rr.c1
  have j0 := B2.rr.f 0
  have j1 := B2.rr.f 1
  have HB2 : Hid (LinB4 w w2 v d 4 x y) := B2
  clear HB1 B2 hb2 p0 p1 p2 hs ho
  have hn : ∀ w : World, (nilAhead 250 107 (.agg #[]) "loop.example/tuggers/impl.of").run Tryd.prog w = .ok (some false) w := fun _ => by kernel_rfl
  have hm : ∀ w : World, (method 250 107 (.agg #[]) "loop.example/tuggers/impl.of").run Tryd.prog w = .ok (114, .agg #[]) w := fun _ => by kernel_rfl
  go_wp2
  go_region_held (fun w' => w'.cell? ⟨w.heap.size, 0, none⟩ = some (v.m d) ∧ w'.cell? ⟨w.heap.size, 1, none⟩ = some (v.s d) ∧ w'.cell? ⟨w.heap.size, 2, none⟩ = some (v.q d) ∧ w'.cell? ⟨w.heap.size + 1, 0, none⟩ = some (.int .i64 4) ∧ w'.cell? ⟨w.heap.size + 1, 1, none⟩ = some (.int .i64 x) ∧ w'.cell? ⟨w.heap.size + 1, 2, none⟩ = some (.int .i64 y)) ((refine ⟨?_, ?_, ?_, ?_, ?_, ?_⟩ <;> (try (with_reducible (refine cell_drew ?_))) <;> (repeat (with_reducible (refine cell_far (by omega) ?_))) <;> (with_reducible assumption))) (first | (go_at_call 49; refine (thing4 x y _).mono ?_; rintro e w3 ⟨rfl, hb3⟩; have B3 := HB2.out.below (below_trans' (Below.refl w2.heap.size w2).drew hb3); obtain ⟨o03, o13, o23⟩ := B3.o.cells; obtain ⟨s03, s13, s23⟩ := B3.s.cells; obtain ⟨m03, m13, m23⟩ := B3.r.cells; obtain ⟨l03, l13, l23⟩ := B3.r.frees; have i03 := B3.rr.c0; have i13 := B3.rr.c1; have j03 := B3.rr.f 0; have j13 := B3.rr.f 1; have HB3 : Hid (LinB4 w w3 v d 4 x y) := B3; clear B3 hb3) | (go_at_call 50; refine (state_same v d _ (HF.out.2.2.1.below HB3.out.bel) HF.out.2.1 HF.out.1).mono ?_; rintro e w4 ⟨u, rfl, hst, hap, hb4⟩; have B4 := HB3.out.below hb4; obtain ⟨o04, o14, o24⟩ := B4.o.cells; obtain ⟨s04, s14, s24⟩ := B4.s.cells; obtain ⟨m04, m14, m24⟩ := B4.r.cells; obtain ⟨l04, l14, l24⟩ := B4.r.frees; have i04 := B4.rr.c0; have i14 := B4.rr.c1; have j04 := B4.rr.f 0; have j14 := B4.rr.f 1; have HB4 : Hid (LinB4 w w4 v d 4 x y) := B4; have HU : Hid (St w3.heap.size w4.heap.size u d w4 ∧ Apart u d ∧ Below w3.heap.size w3 w4) := ⟨hst, hap, hb4⟩; clear B4 hb4 hst hap) | (go_at_call 114; refine (of4 w3.heap.size w4.heap.size u d x y _ HU.out.1 HU.out.2.1 HF.out.1 HU.out.2.2.size (Nat.le_refl _)).mono ?_; rintro e w5 ⟨u5, rfl, hst, hap, hb5⟩; have B5 := HB4.out.below hb5; obtain ⟨o05, o15, o25⟩ := B5.o.cells; obtain ⟨s05, s15, s25⟩ := B5.s.cells; obtain ⟨m05, m15, m25⟩ := B5.r.cells; obtain ⟨l05, l15, l25⟩ := B5.r.frees; have i05 := B5.rr.c0; have i15 := B5.rr.c1; have j05 := B5.rr.f 0; have j15 := B5.rr.f 1; have HB5 : Hid (LinB4 w w5 v d 4 x y) := B5; have HV : Hid (St w3.heap.size w5.heap.size u5 d w5 ∧ Apart u5 d ∧ Below w4.heap.size w4 w5) := ⟨hst, hap, hb5⟩; clear B5 hb5 hst hap))
  all_goals
    have z3 : w.heap.size + 4 ≤ w3.heap.size := HB3.out.sz
    go_wp2
    refine bodyPost_ret (v := .tuple #[stV u5 d, .agg #[.int .i64 (2), .int .i64 (0)]]) (by simp [results, Tryd.results12, go_sem, m05, m15, m25, i05, i15]) rfl ?_
    exact ⟨u5, rfl, st_put5 HV.out.1 z3 (Nat.le_refl _) _ _ _ _ _, HV.out.2.1, below_put5 HB5.out.bel _ _ _ _ _⟩

set_option maxRecDepth 20000 in
set_option maxHeartbeats 1000000 in
theorem lin5 (v : SV) (d : LD) (x y : Int) (w : World) (h : SS w v d) (hr : Room v d) (hf : Few d) (ht : Tab w) (hs : stOk d.n d.zs d.s d.q = true) (ho : opB 5 x y = true) :
    Calls Tryd.prog 12 #[stV v d, .agg #[.int .i64 5, .int .i64 x, .int .i64 y]] w (OfRes w.heap.size ⟨d.n, d.zs, putL d.s 0 y, d.q⟩ (putC d.s y) (0) w) := by
  have B := linBoxes w v d 5 x y
  have HF : Hid (Few d ∧ Room v d ∧ SS w v d ∧ Tab w) := ⟨hf, hr, h, ht⟩
  clear h hr hf ht
  go_enter Tryd.func12, Tryd.ntmps12
  go_wp2_with fail
  generalize hw0 : ((((w.alloc (.cells #[v.m d, v.s d, v.q d] 35)).alloc (.cells #[.int .i64 5, .int .i64 x, .int .i64 y] 41)).alloc (.cells #[.slice none 0 0, .slice none 0 0, .slice none 0 0] 35)).alloc (.cells #[.int .i64 0, .int .i64 0] 37)) = w0 at B ⊢
  clear hw0
  refine (stateOk_any v d _ (HF.out.2.2.1.below B.bel) HF.out.1).mono ?_
  rintro e w1 ⟨rfl, hb1⟩
  rw [hs]
  have B1 := B.below hb1
  obtain ⟨p0, p1, p2⟩ := B1.o.cells
  have HB1 : Hid (LinB4 w w1 v d 5 x y) := B1
  clear B B1 hb1
  go_wp2_with fail
  refine (implOpOk_any 5 x y _ (HF.out.2.2.2.below HB1.out.bel)).mono ?_
  rintro e w2 ⟨rfl, hb2⟩
  rw [ho]
  have B2 := HB1.out.below hb2
  obtain ⟨o0, o1, o2⟩ := B2.o.cells
  obtain ⟨s0, s1, s2⟩ := B2.s.cells
  obtain ⟨m0, m1, m2⟩ := B2.r.cells
  obtain ⟨l0, l1, l2⟩ := B2.r.frees
  have i0 := B2.rr.c0
  have i1 := B2.rr.c1
  have j0 := B2.rr.f 0
  have j1 := B2.rr.f 1
  have HB2 : Hid (LinB4 w w2 v d 5 x y) := B2
  clear HB1 B2 hb2 p0 p1 p2 hs ho
  have hn : ∀ w : World, (nilAhead 250 109 (.agg #[.int .i64 y]) "loop.example/tuggers/impl.of").run Tryd.prog w = .ok (some false) w := fun _ => by kernel_rfl
  have hm : ∀ w : World, (method 250 109 (.agg #[.int .i64 y]) "loop.example/tuggers/impl.of").run Tryd.prog w = .ok (115, .agg #[.int .i64 y]) w := fun _ => by kernel_rfl
  go_wp2
  go_region_held (fun w' => w'.cell? ⟨w.heap.size, 0, none⟩ = some (v.m d) ∧ w'.cell? ⟨w.heap.size, 1, none⟩ = some (v.s d) ∧ w'.cell? ⟨w.heap.size, 2, none⟩ = some (v.q d) ∧ w'.cell? ⟨w.heap.size + 1, 0, none⟩ = some (.int .i64 5) ∧ w'.cell? ⟨w.heap.size + 1, 1, none⟩ = some (.int .i64 x) ∧ w'.cell? ⟨w.heap.size + 1, 2, none⟩ = some (.int .i64 y)) ((refine ⟨?_, ?_, ?_, ?_, ?_, ?_⟩ <;> (try (with_reducible (refine cell_drew ?_))) <;> (repeat (with_reducible (refine cell_far (by omega) ?_))) <;> (with_reducible assumption))) (first | (go_at_call 49; refine (thing5 x y _).mono ?_; rintro e w3 ⟨rfl, hb3⟩; have B3 := HB2.out.below (below_trans' (Below.refl w2.heap.size w2).drew hb3); obtain ⟨o03, o13, o23⟩ := B3.o.cells; obtain ⟨s03, s13, s23⟩ := B3.s.cells; obtain ⟨m03, m13, m23⟩ := B3.r.cells; obtain ⟨l03, l13, l23⟩ := B3.r.frees; have i03 := B3.rr.c0; have i13 := B3.rr.c1; have j03 := B3.rr.f 0; have j13 := B3.rr.f 1; have HB3 : Hid (LinB4 w w3 v d 5 x y) := B3; clear B3 hb3) | (go_at_call 50; refine (state_same v d _ (HF.out.2.2.1.below HB3.out.bel) HF.out.2.1 HF.out.1).mono ?_; rintro e w4 ⟨u, rfl, hst, hap, hb4⟩; have B4 := HB3.out.below hb4; obtain ⟨o04, o14, o24⟩ := B4.o.cells; obtain ⟨s04, s14, s24⟩ := B4.s.cells; obtain ⟨m04, m14, m24⟩ := B4.r.cells; obtain ⟨l04, l14, l24⟩ := B4.r.frees; have i04 := B4.rr.c0; have i14 := B4.rr.c1; have j04 := B4.rr.f 0; have j14 := B4.rr.f 1; have HB4 : Hid (LinB4 w w4 v d 5 x y) := B4; have HU : Hid (St w3.heap.size w4.heap.size u d w4 ∧ Apart u d ∧ Below w3.heap.size w3 w4) := ⟨hst, hap, hb4⟩; clear B4 hb4 hst hap) | (go_at_call 115; refine (of5 w3.heap.size w4.heap.size u d x y _ HU.out.1 HU.out.2.1 HF.out.1 HU.out.2.2.size (Nat.le_refl _)).mono ?_; rintro e w5 ⟨u5, rfl, hst, hap, hb5⟩; have B5 := HB4.out.below hb5; obtain ⟨o05, o15, o25⟩ := B5.o.cells; obtain ⟨s05, s15, s25⟩ := B5.s.cells; obtain ⟨m05, m15, m25⟩ := B5.r.cells; obtain ⟨l05, l15, l25⟩ := B5.r.frees; have i05 := B5.rr.c0; have i15 := B5.rr.c1; have j05 := B5.rr.f 0; have j15 := B5.rr.f 1; have HB5 : Hid (LinB4 w w5 v d 5 x y) := B5; have HV : Hid (St w3.heap.size w5.heap.size u5 ⟨d.n, d.zs, putL d.s 0 y, d.q⟩ w5 ∧ Apart u5 ⟨d.n, d.zs, putL d.s 0 y, d.q⟩ ∧ Below w4.heap.size w4 w5) := ⟨hst, hap, hb5⟩; clear B5 hb5 hst hap))
  all_goals
    have z3 : w.heap.size + 4 ≤ w3.heap.size := HB3.out.sz
    go_wp2
    refine bodyPost_ret (v := .tuple #[stV u5 ⟨d.n, d.zs, putL d.s 0 y, d.q⟩, .agg #[.int .i64 (putC d.s y), .int .i64 (0)]]) (by simp [results, Tryd.results12, go_sem, m05, m15, m25, i05, i15]) rfl ?_
    exact ⟨u5, rfl, st_put5 HV.out.1 z3 (Nat.le_refl _) _ _ _ _ _, HV.out.2.1, below_put5 HB5.out.bel _ _ _ _ _⟩

set_option maxRecDepth 20000 in
set_option maxHeartbeats 1000000 in
theorem lin6 (v : SV) (d : LD) (x y : Int) (w : World) (h : SS w v d) (hr : Room v d) (hf : Few d) (ht : Tab w) (hs : stOk d.n d.zs d.s d.q = true) (ho : opB 6 x y = true) :
    Calls Tryd.prog 12 #[stV v d, .agg #[.int .i64 6, .int .i64 x, .int .i64 y]] w (OfRes w.heap.size ⟨d.n, d.zs, takeL d.s, d.q⟩ (takeC d.s) (takeV d.s) w) := by
  have B := linBoxes w v d 6 x y
  have HF : Hid (Few d ∧ Room v d ∧ SS w v d ∧ Tab w) := ⟨hf, hr, h, ht⟩
  clear h hr hf ht
  go_enter Tryd.func12, Tryd.ntmps12
  go_wp2_with fail
  generalize hw0 : ((((w.alloc (.cells #[v.m d, v.s d, v.q d] 35)).alloc (.cells #[.int .i64 6, .int .i64 x, .int .i64 y] 41)).alloc (.cells #[.slice none 0 0, .slice none 0 0, .slice none 0 0] 35)).alloc (.cells #[.int .i64 0, .int .i64 0] 37)) = w0 at B ⊢
  clear hw0
  refine (stateOk_any v d _ (HF.out.2.2.1.below B.bel) HF.out.1).mono ?_
  rintro e w1 ⟨rfl, hb1⟩
  rw [hs]
  have B1 := B.below hb1
  obtain ⟨p0, p1, p2⟩ := B1.o.cells
  have HB1 : Hid (LinB4 w w1 v d 6 x y) := B1
  clear B B1 hb1
  go_wp2_with fail
  refine (implOpOk_any 6 x y _ (HF.out.2.2.2.below HB1.out.bel)).mono ?_
  rintro e w2 ⟨rfl, hb2⟩
  rw [ho]
  have B2 := HB1.out.below hb2
  obtain ⟨o0, o1, o2⟩ := B2.o.cells
  obtain ⟨s0, s1, s2⟩ := B2.s.cells
  obtain ⟨m0, m1, m2⟩ := B2.r.cells
  obtain ⟨l0, l1, l2⟩ := B2.r.frees
  have i0 := B2.rr.c0
  have i1 := B2.rr.c1
  have j0 := B2.rr.f 0
  have j1 := B2.rr.f 1
  have HB2 : Hid (LinB4 w w2 v d 6 x y) := B2
  clear HB1 B2 hb2 p0 p1 p2 hs ho
  have hn : ∀ w : World, (nilAhead 250 110 (.agg #[]) "loop.example/tuggers/impl.of").run Tryd.prog w = .ok (some false) w := fun _ => by kernel_rfl
  have hm : ∀ w : World, (method 250 110 (.agg #[]) "loop.example/tuggers/impl.of").run Tryd.prog w = .ok (116, .agg #[]) w := fun _ => by kernel_rfl
  go_wp2
  go_region_held (fun w' => w'.cell? ⟨w.heap.size, 0, none⟩ = some (v.m d) ∧ w'.cell? ⟨w.heap.size, 1, none⟩ = some (v.s d) ∧ w'.cell? ⟨w.heap.size, 2, none⟩ = some (v.q d) ∧ w'.cell? ⟨w.heap.size + 1, 0, none⟩ = some (.int .i64 6) ∧ w'.cell? ⟨w.heap.size + 1, 1, none⟩ = some (.int .i64 x) ∧ w'.cell? ⟨w.heap.size + 1, 2, none⟩ = some (.int .i64 y)) ((refine ⟨?_, ?_, ?_, ?_, ?_, ?_⟩ <;> (try (with_reducible (refine cell_drew ?_))) <;> (repeat (with_reducible (refine cell_far (by omega) ?_))) <;> (with_reducible assumption))) (first | (go_at_call 49; refine (thing6 x y _).mono ?_; rintro e w3 ⟨rfl, hb3⟩; have B3 := HB2.out.below (below_trans' (Below.refl w2.heap.size w2).drew hb3); obtain ⟨o03, o13, o23⟩ := B3.o.cells; obtain ⟨s03, s13, s23⟩ := B3.s.cells; obtain ⟨m03, m13, m23⟩ := B3.r.cells; obtain ⟨l03, l13, l23⟩ := B3.r.frees; have i03 := B3.rr.c0; have i13 := B3.rr.c1; have j03 := B3.rr.f 0; have j13 := B3.rr.f 1; have HB3 : Hid (LinB4 w w3 v d 6 x y) := B3; clear B3 hb3) | (go_at_call 50; refine (state_same v d _ (HF.out.2.2.1.below HB3.out.bel) HF.out.2.1 HF.out.1).mono ?_; rintro e w4 ⟨u, rfl, hst, hap, hb4⟩; have B4 := HB3.out.below hb4; obtain ⟨o04, o14, o24⟩ := B4.o.cells; obtain ⟨s04, s14, s24⟩ := B4.s.cells; obtain ⟨m04, m14, m24⟩ := B4.r.cells; obtain ⟨l04, l14, l24⟩ := B4.r.frees; have i04 := B4.rr.c0; have i14 := B4.rr.c1; have j04 := B4.rr.f 0; have j14 := B4.rr.f 1; have HB4 : Hid (LinB4 w w4 v d 6 x y) := B4; have HU : Hid (St w3.heap.size w4.heap.size u d w4 ∧ Apart u d ∧ Below w3.heap.size w3 w4) := ⟨hst, hap, hb4⟩; clear B4 hb4 hst hap) | (go_at_call 116; refine (of6 w3.heap.size w4.heap.size u d x y _ HU.out.1 HU.out.2.1 HF.out.1 HU.out.2.2.size (Nat.le_refl _)).mono ?_; rintro e w5 ⟨u5, rfl, hst, hap, hb5⟩; have B5 := HB4.out.below hb5; obtain ⟨o05, o15, o25⟩ := B5.o.cells; obtain ⟨s05, s15, s25⟩ := B5.s.cells; obtain ⟨m05, m15, m25⟩ := B5.r.cells; obtain ⟨l05, l15, l25⟩ := B5.r.frees; have i05 := B5.rr.c0; have i15 := B5.rr.c1; have j05 := B5.rr.f 0; have j15 := B5.rr.f 1; have HB5 : Hid (LinB4 w w5 v d 6 x y) := B5; have HV : Hid (St w3.heap.size w5.heap.size u5 ⟨d.n, d.zs, takeL d.s, d.q⟩ w5 ∧ Apart u5 ⟨d.n, d.zs, takeL d.s, d.q⟩ ∧ Below w4.heap.size w4 w5) := ⟨hst, hap, hb5⟩; clear B5 hb5 hst hap))
  all_goals
    have z3 : w.heap.size + 4 ≤ w3.heap.size := HB3.out.sz
    go_wp2
    refine bodyPost_ret (v := .tuple #[stV u5 ⟨d.n, d.zs, takeL d.s, d.q⟩, .agg #[.int .i64 (takeC d.s), .int .i64 (takeV d.s)]]) (by simp [results, Tryd.results12, go_sem, m05, m15, m25, i05, i15]) rfl ?_
    exact ⟨u5, rfl, st_put5 HV.out.1 z3 (Nat.le_refl _) _ _ _ _ _, HV.out.2.1, below_put5 HB5.out.bel _ _ _ _ _⟩

end Go.Proofs.YtklpdpdjblakgaaDoor
