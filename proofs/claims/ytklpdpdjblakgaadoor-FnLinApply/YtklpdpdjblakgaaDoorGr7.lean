/- Several texts in one: LinK2, LinN, LOp, LMap, LMap2, LMap3. -/
import Derived.Test.YtklpdpdjblakgaaDoorGr5
import Derived.Test.YtklpdpdjblakgaaDoorGr6
import Derived.Test.YtklpdpdjblakgaaDoorGr3
import Derived.Deep.DeepCutAuto
import Derived.Laws.Rows
/- LinK2 -/
namespace Go.Proofs.YtklpdpdjblakgaaDoor
open Go.RowKit
set_option linter.unusedVariables false

set_option maxRecDepth 20000 in
set_option maxHeartbeats 1000000 in
theorem lin7 (v : SV) (d : LD) (x y : Int) (w : World) (h : SS w v d) (hr : Room v d) (hf : Few d) (ht : Tab w) (hs : stOk d.n d.zs d.s d.q = true) (ho : opB 7 x y = true) :
    Calls Tryd.prog 12 #[stV v d, .agg #[.int .i64 7, .int .i64 x, .int .i64 y]] w (OfRes w.heap.size ⟨d.n, d.zs, d.s, putL d.q d.q.length y⟩ (putC d.q y) (0) w) := by
  have B := linBoxes w v d 7 x y
  have HF : Hid (Few d ∧ Room v d ∧ SS w v d ∧ Tab w) := ⟨hf, hr, h, ht⟩
  clear h hr hf ht
  go_enter Tryd.func12, Tryd.ntmps12
  go_wp2_with fail
  generalize hw0 : ((((w.alloc (.cells #[v.m d, v.s d, v.q d] 35)).alloc (.cells #[.int .i64 7, .int .i64 x, .int .i64 y] 41)).alloc (.cells #[.slice none 0 0, .slice none 0 0, .slice none 0 0] 35)).alloc (.cells #[.int .i64 0, .int .i64 0] 37)) = w0 at B ⊢
  clear hw0
  refine (stateOk_any v d _ (HF.out.2.2.1.below B.bel) HF.out.1).mono ?_
  rintro e w1 ⟨rfl, hb1⟩
  rw [hs]
  have B1 := B.below hb1
  obtain ⟨p0, p1, p2⟩ := B1.o.cells
  have HB1 : Hid (LinB4 w w1 v d 7 x y) := B1
  clear B B1 hb1
  go_wp2_with fail
  refine (implOpOk_any 7 x y _ (HF.out.2.2.2.below HB1.out.bel)).mono ?_
  rintro e w2 ⟨rfl, hb2⟩
  rw [ho]
  have B2 := HB1.out.below hb2
  obtain ⟨o0, o1, o2⟩ := B2.o.cells
  obtain ⟨s0, s1, s2⟩ := B2.s.cells
  obtain ⟨m0, m1, m2⟩ := B2.r.cells
  obtain ⟨l0, l1, l2⟩ := B2.r.frees
  have i0 := B2.rr.c0
  have i1 := B2.rr.c1
  have j0 := B2.rr.f 0
  have j1 := B2.rr.f 1
  have HB2 : Hid (LinB4 w w2 v d 7 x y) := B2
  clear HB1 B2 hb2 p0 p1 p2 hs ho
  have hn : ∀ w : World, (nilAhead 250 111 (.agg #[.int .i64 y]) "loop.example/tuggers/impl.of").run Tryd.prog w = .ok (some false) w := fun _ => by kernel_rfl
  have hm : ∀ w : World, (method 250 111 (.agg #[.int .i64 y]) "loop.example/tuggers/impl.of").run Tryd.prog w = .ok (117, .agg #[.int .i64 y]) w := fun _ => by kernel_rfl
  go_wp2
  go_region_held (fun w' => w'.cell? ⟨w.heap.size, 0, none⟩ = some (v.m d) ∧ w'.cell? ⟨w.heap.size, 1, none⟩ = some (v.s d) ∧ w'.cell? ⟨w.heap.size, 2, none⟩ = some (v.q d) ∧ w'.cell? ⟨w.heap.size + 1, 0, none⟩ = some (.int .i64 7) ∧ w'.cell? ⟨w.heap.size + 1, 1, none⟩ = some (.int .i64 x) ∧ w'.cell? ⟨w.heap.size + 1, 2, none⟩ = some (.int .i64 y)) ((refine ⟨?_, ?_, ?_, ?_, ?_, ?_⟩ <;> (try (with_reducible (refine cell_drew ?_))) <;> (repeat (with_reducible (refine cell_far (by omega) ?_))) <;> (with_reducible assumption))) (first | (go_at_call 49; refine (thing7 x y _).mono ?_; rintro e w3 ⟨rfl, hb3⟩; have B3 := HB2.out.below (below_trans' (Below.refl w2.heap.size w2).drew hb3); obtain ⟨o03, o13, o23⟩ := B3.o.cells; obtain ⟨s03, s13, s23⟩ := B3.s.cells; obtain ⟨m03, m13, m23⟩ := B3.r.cells; obtain ⟨l03, l13, l23⟩ := B3.r.frees; have i03 := B3.rr.c0; have i13 := B3.rr.c1; have j03 := B3.rr.f 0; have j13 := B3.rr.f 1; have HB3 : Hid (LinB4 w w3 v d 7 x y) := B3; clear B3 hb3) | (go_at_call 50; refine (state_same v d _ (HF.out.2.2.1.below HB3.out.bel) HF.out.2.1 HF.out.1).mono ?_; rintro e w4 ⟨u, rfl, hst, hap, hb4⟩; have B4 := HB3.out.below hb4; obtain ⟨o04, o14, o24⟩ := B4.o.cells; obtain ⟨s04, s14, s24⟩ := B4.s.cells; obtain ⟨m04, m14, m24⟩ := B4.r.cells; obtain ⟨l04, l14, l24⟩ := B4.r.frees; have i04 := B4.rr.c0; have i14 := B4.rr.c1; have j04 := B4.rr.f 0; have j14 := B4.rr.f 1; have HB4 : Hid (LinB4 w w4 v d 7 x y) := B4; have HU : Hid (St w3.heap.size w4.heap.size u d w4 ∧ Apart u d ∧ Below w3.heap.size w3 w4) := ⟨hst, hap, hb4⟩; clear B4 hb4 hst hap) | (go_at_call 117; refine (of7 w3.heap.size w4.heap.size u d x y _ HU.out.1 HU.out.2.1 HF.out.1 HU.out.2.2.size (Nat.le_refl _)).mono ?_; rintro e w5 ⟨u5, rfl, hst, hap, hb5⟩; have B5 := HB4.out.below hb5; obtain ⟨o05, o15, o25⟩ := B5.o.cells; obtain ⟨s05, s15, s25⟩ := B5.s.cells; obtain ⟨m05, m15, m25⟩ := B5.r.cells; obtain ⟨l05, l15, l25⟩ := B5.r.frees; have i05 := B5.rr.c0; have i15 := B5.rr.c1; have j05 := B5.rr.f 0; have j15 := B5.rr.f 1; have HB5 : Hid (LinB4 w w5 v d 7 x y) := B5; have HV : Hid (St w3.heap.size w5.heap.size u5 ⟨d.n, d.zs, d.s, putL d.q d.q.length y⟩ w5 ∧ Apart u5 ⟨d.n, d.zs, d.s, putL d.q d.q.length y⟩ ∧ Below w4.heap.size w4 w5) := ⟨hst, hap, hb5⟩; clear B5 hb5 hst hap))
  all_goals
    have z3 : w.heap.size + 4 ≤ w3.heap.size := HB3.out.sz
    go_wp2
    refine bodyPost_ret (v := .tuple #[stV u5 ⟨d.n, d.zs, d.s, putL d.q d.q.length y⟩, .agg #[.int .i64 (putC d.q y), .int .i64 (0)]]) (by simp [results, Tryd.results12, go_sem, m05, m15, m25, i05, i15]) rfl ?_
    exact ⟨u5, rfl, st_put5 HV.out.1 z3 (Nat.le_refl _) _ _ _ _ _, HV.out.2.1, below_put5 HB5.out.bel _ _ _ _ _⟩

set_option maxRecDepth 20000 in
set_option maxHeartbeats 1000000 in
theorem lin8 (v : SV) (d : LD) (x y : Int) (w : World) (h : SS w v d) (hr : Room v d) (hf : Few d) (ht : Tab w) (hs : stOk d.n d.zs d.s d.q = true) (ho : opB 8 x y = true) :
    Calls Tryd.prog 12 #[stV v d, .agg #[.int .i64 8, .int .i64 x, .int .i64 y]] w (OfRes w.heap.size ⟨d.n, d.zs, d.s, takeL d.q⟩ (takeC d.q) (takeV d.q) w) := by
  have B := linBoxes w v d 8 x y
  have HF : Hid (Few d ∧ Room v d ∧ SS w v d ∧ Tab w) := ⟨hf, hr, h, ht⟩
  clear h hr hf ht
  go_enter Tryd.func12, Tryd.ntmps12
  go_wp2_with fail
  generalize hw0 : ((((w.alloc (.cells #[v.m d, v.s d, v.q d] 35)).alloc (.cells #[.int .i64 8, .int .i64 x, .int .i64 y] 41)).alloc (.cells #[.slice none 0 0, .slice none 0 0, .slice none 0 0] 35)).alloc (.cells #[.int .i64 0, .int .i64 0] 37)) = w0 at B ⊢
  clear hw0
  refine (stateOk_any v d _ (HF.out.2.2.1.below B.bel) HF.out.1).mono ?_
  rintro e w1 ⟨rfl, hb1⟩
  rw [hs]
  have B1 := B.below hb1
  obtain ⟨p0, p1, p2⟩ := B1.o.cells
  have HB1 : Hid (LinB4 w w1 v d 8 x y) := B1
  clear B B1 hb1
  go_wp2_with fail
  refine (implOpOk_any 8 x y _ (HF.out.2.2.2.below HB1.out.bel)).mono ?_
  rintro e w2 ⟨rfl, hb2⟩
  rw [ho]
  have B2 := HB1.out.below hb2
  obtain ⟨o0, o1, o2⟩ := B2.o.cells
  obtain ⟨s0, s1, s2⟩ := B2.s.cells
  obtain ⟨m0, m1, m2⟩ := B2.r.cells
  obtain ⟨l0, l1, l2⟩ := B2.r.frees
  have i0 := B2.rr.c0
  have i1 := B2.rr.c1
  have j0 := B2.rr.f 0
  have j1 := B2.rr.f 1
  have HB2 : Hid (LinB4 w w2 v d 8 x y) := B2
  clear HB1 B2 hb2 p0 p1 p2 hs ho
  have hn : ∀ w : World, (nilAhead 250 112 (.agg #[]) "loop.example/tuggers/impl.of").run Tryd.prog w = .ok (some false) w := fun _ => by kernel_rfl
  have hm : ∀ w : World, (method 250 112 (.agg #[]) "loop.example/tuggers/impl.of").run Tryd.prog w = .ok (118, .agg #[]) w := fun _ => by kernel_rfl
  go_wp2
  go_region_held (fun w' => w'.cell? ⟨w.heap.size, 0, none⟩ = some (v.m d) ∧ w'.cell? ⟨w.heap.size, 1, none⟩ = some (v.s d) ∧ w'.cell? ⟨w.heap.size, 2, none⟩ = some (v.q d) ∧ w'.cell? ⟨w.heap.size + 1, 0, none⟩ = some (.int .i64 8) ∧ w'.cell? ⟨w.heap.size + 1, 1, none⟩ = some (.int .i64 x) ∧ w'.cell? ⟨w.heap.size + 1, 2, none⟩ = some (.int .i64 y)) ((refine ⟨?_, ?_, ?_, ?_, ?_, ?_⟩ <;> (try (with_reducible (refine cell_drew ?_))) <;> (repeat (with_reducible (refine cell_far (by omega) ?_))) <;> (with_reducible assumption))) (first | (go_at_call 49; refine (thing8 x y _).mono ?_; rintro e w3 ⟨rfl, hb3⟩; have B3 := HB2.out.below (below_trans' (Below.refl w2.heap.size w2).drew hb3); obtain ⟨o03, o13, o23⟩ := B3.o.cells; obtain ⟨s03, s13, s23⟩ := B3.s.cells; obtain ⟨m03, m13, m23⟩ := B3.r.cells; obtain ⟨l03, l13, l23⟩ := B3.r.frees; have i03 := B3.rr.c0; have i13 := B3.rr.c1; have j03 := B3.rr.f 0; have j13 := B3.rr.f 1; have HB3 : Hid (LinB4 w w3 v d 8 x y) := B3; clear B3 hb3) | (go_at_call 50; refine (state_same v d _ (HF.out.2.2.1.below HB3.out.bel) HF.out.2.1 HF.out.1).mono ?_; rintro e w4 ⟨u, rfl, hst, hap, hb4⟩; have B4 := HB3.out.below hb4; obtain ⟨o04, o14, o24⟩ := B4.o.cells; obtain ⟨s04, s14, s24⟩ := B4.s.cells; obtain ⟨m04, m14, m24⟩ := B4.r.cells; obtain ⟨l04, l14, l24⟩ := B4.r.frees; have i04 := B4.rr.c0; have i14 := B4.rr.c1; have j04 := B4.rr.f 0; have j14 := B4.rr.f 1; have HB4 : Hid (LinB4 w w4 v d 8 x y) := B4; have HU : Hid (St w3.heap.size w4.heap.size u d w4 ∧ Apart u d ∧ Below w3.heap.size w3 w4) := ⟨hst, hap, hb4⟩; clear B4 hb4 hst hap) | (go_at_call 118; refine (of8 w3.heap.size w4.heap.size u d x y _ HU.out.1 HU.out.2.1 HF.out.1 HU.out.2.2.size (Nat.le_refl _)).mono ?_; rintro e w5 ⟨u5, rfl, hst, hap, hb5⟩; have B5 := HB4.out.below hb5; obtain ⟨o05, o15, o25⟩ := B5.o.cells; obtain ⟨s05, s15, s25⟩ := B5.s.cells; obtain ⟨m05, m15, m25⟩ := B5.r.cells; obtain ⟨l05, l15, l25⟩ := B5.r.frees; have i05 := B5.rr.c0; have i15 := B5.rr.c1; have j05 := B5.rr.f 0; have j15 := B5.rr.f 1; have HB5 : Hid (LinB4 w w5 v d 8 x y) := B5; have HV : Hid (St w3.heap.size w5.heap.size u5 ⟨d.n, d.zs, d.s, takeL d.q⟩ w5 ∧ Apart u5 ⟨d.n, d.zs, d.s, takeL d.q⟩ ∧ Below w4.heap.size w4 w5) := ⟨hst, hap, hb5⟩; clear B5 hb5 hst hap))
  all_goals
    have z3 : w.heap.size + 4 ≤ w3.heap.size := HB3.out.sz
    go_wp2
    refine bodyPost_ret (v := .tuple #[stV u5 ⟨d.n, d.zs, d.s, takeL d.q⟩, .agg #[.int .i64 (takeC d.q), .int .i64 (takeV d.q)]]) (by simp [results, Tryd.results12, go_sem, m05, m15, m25, i05, i15]) rfl ?_
    exact ⟨u5, rfl, st_put5 HV.out.1 z3 (Nat.le_refl _) _ _ _ _ _, HV.out.2.1, below_put5 HB5.out.bel _ _ _ _ _⟩

set_option maxRecDepth 20000 in
set_option maxHeartbeats 1000000 in
theorem lin9 (v : SV) (d : LD) (x y : Int) (w : World) (h : SS w v d) (hr : Room v d) (hf : Few d) (ht : Tab w) (hs : stOk d.n d.zs d.s d.q = true) (ho : opB 9 x y = true) :
    Calls Tryd.prog 12 #[stV v d, .agg #[.int .i64 9, .int .i64 x, .int .i64 y]] w (OfRes w.heap.size d (nextC d.zs d.n x) (nextV d.zs d.n x) w) := by
  have B := linBoxes w v d 9 x y
  have HF : Hid (Few d ∧ Room v d ∧ SS w v d ∧ Tab w) := ⟨hf, hr, h, ht⟩
  clear h hr hf ht
  go_enter Tryd.func12, Tryd.ntmps12
  go_wp2_with fail
  generalize hw0 : ((((w.alloc (.cells #[v.m d, v.s d, v.q d] 35)).alloc (.cells #[.int .i64 9, .int .i64 x, .int .i64 y] 41)).alloc (.cells #[.slice none 0 0, .slice none 0 0, .slice none 0 0] 35)).alloc (.cells #[.int .i64 0, .int .i64 0] 37)) = w0 at B ⊢
  clear hw0
  refine (stateOk_any v d _ (HF.out.2.2.1.below B.bel) HF.out.1).mono ?_
  rintro e w1 ⟨rfl, hb1⟩
  rw [hs]
  have B1 := B.below hb1
  obtain ⟨p0, p1, p2⟩ := B1.o.cells
  have HB1 : Hid (LinB4 w w1 v d 9 x y) := B1
  clear B B1 hb1
  go_wp2_with fail
  refine (implOpOk_any 9 x y _ (HF.out.2.2.2.below HB1.out.bel)).mono ?_
  rintro e w2 ⟨rfl, hb2⟩
  rw [ho]
  have B2 := HB1.out.below hb2
  obtain ⟨o0, o1, o2⟩ := B2.o.cells
  obtain ⟨s0, s1, s2⟩ := B2.s.cells
  obtain ⟨m0, m1, m2⟩ := B2.r.cells
  obtain ⟨l0, l1, l2⟩ := B2.r.frees
  have i0 := B2.rr.c0
  have i1 := B2.rr.c1
  have j0 := B2.rr.f 0
  have j1 := B2.rr.f 1
  have HB2 : Hid (LinB4 w w2 v d 9 x y) := B2
  clear HB1 B2 hb2 p0 p1 p2 hs ho
  have hn : ∀ w : World, (nilAhead 250 113 (.agg #[.int .i64 x]) "loop.example/tuggers/impl.of").run Tryd.prog w = .ok (some false) w := fun _ => by kernel_rfl
  have hm : ∀ w : World, (method 250 113 (.agg #[.int .i64 x]) "loop.example/tuggers/impl.of").run Tryd.prog w = .ok (119, .agg #[.int .i64 x]) w := fun _ => by kernel_rfl
  go_wp2
  go_region_held (fun w' => w'.cell? ⟨w.heap.size, 0, none⟩ = some (v.m d) ∧ w'.cell? ⟨w.heap.size, 1, none⟩ = some (v.s d) ∧ w'.cell? ⟨w.heap.size, 2, none⟩ = some (v.q d) ∧ w'.cell? ⟨w.heap.size + 1, 0, none⟩ = some (.int .i64 9) ∧ w'.cell? ⟨w.heap.size + 1, 1, none⟩ = some (.int .i64 x) ∧ w'.cell? ⟨w.heap.size + 1, 2, none⟩ = some (.int .i64 y)) ((refine ⟨?_, ?_, ?_, ?_, ?_, ?_⟩ <;> (try (with_reducible (refine cell_drew ?_))) <;> (repeat (with_reducible (refine cell_far (by omega) ?_))) <;> (with_reducible assumption))) (first | (go_at_call 49; refine (thing9 x y _).mono ?_; rintro e w3 ⟨rfl, hb3⟩; have B3 := HB2.out.below (below_trans' (Below.refl w2.heap.size w2).drew hb3); obtain ⟨o03, o13, o23⟩ := B3.o.cells; obtain ⟨s03, s13, s23⟩ := B3.s.cells; obtain ⟨m03, m13, m23⟩ := B3.r.cells; obtain ⟨l03, l13, l23⟩ := B3.r.frees; have i03 := B3.rr.c0; have i13 := B3.rr.c1; have j03 := B3.rr.f 0; have j13 := B3.rr.f 1; have HB3 : Hid (LinB4 w w3 v d 9 x y) := B3; clear B3 hb3) | (go_at_call 50; refine (state_same v d _ (HF.out.2.2.1.below HB3.out.bel) HF.out.2.1 HF.out.1).mono ?_; rintro e w4 ⟨u, rfl, hst, hap, hb4⟩; have B4 := HB3.out.below hb4; obtain ⟨o04, o14, o24⟩ := B4.o.cells; obtain ⟨s04, s14, s24⟩ := B4.s.cells; obtain ⟨m04, m14, m24⟩ := B4.r.cells; obtain ⟨l04, l14, l24⟩ := B4.r.frees; have i04 := B4.rr.c0; have i14 := B4.rr.c1; have j04 := B4.rr.f 0; have j14 := B4.rr.f 1; have HB4 : Hid (LinB4 w w4 v d 9 x y) := B4; have HU : Hid (St w3.heap.size w4.heap.size u d w4 ∧ Apart u d ∧ Below w3.heap.size w3 w4) := ⟨hst, hap, hb4⟩; clear B4 hb4 hst hap) | (go_at_call 119; refine (of9 w3.heap.size w4.heap.size u d x y _ HU.out.1 HU.out.2.1 HF.out.1 HU.out.2.2.size (Nat.le_refl _)).mono ?_; rintro e w5 ⟨u5, rfl, hst, hap, hb5⟩; have B5 := HB4.out.below hb5; obtain ⟨o05, o15, o25⟩ := B5.o.cells; obtain ⟨s05, s15, s25⟩ := B5.s.cells; obtain ⟨m05, m15, m25⟩ := B5.r.cells; obtain ⟨l05, l15, l25⟩ := B5.r.frees; have i05 := B5.rr.c0; have i15 := B5.rr.c1; have j05 := B5.rr.f 0; have j15 := B5.rr.f 1; have HB5 : Hid (LinB4 w w5 v d 9 x y) := B5; have HV : Hid (St w3.heap.size w5.heap.size u5 d w5 ∧ Apart u5 d ∧ Below w4.heap.size w4 w5) := ⟨hst, hap, hb5⟩; clear B5 hb5 hst hap))
  all_goals
    have z3 : w.heap.size + 4 ≤ w3.heap.size := HB3.out.sz
    go_wp2
    refine bodyPost_ret (v := .tuple #[stV u5 d, .agg #[.int .i64 (nextC d.zs d.n x), .int .i64 (nextV d.zs d.n x)]]) (by simp [results, Tryd.results12, go_sem, m05, m15, m25, i05, i15]) rfl ?_
    exact ⟨u5, rfl, st_put5 HV.out.1 z3 (Nat.le_refl _) _ _ _ _ _, HV.out.2.1, below_put5 HB5.out.bel _ _ _ _ _⟩

set_option maxRecDepth 20000 in
set_option maxHeartbeats 1000000 in
theorem lin10 (v : SV) (d : LD) (x y : Int) (w : World) (h : SS w v d) (hr : Room v d) (hf : Few d) (ht : Tab w) (hs : stOk d.n d.zs d.s d.q = true) (ho : opB 10 x y = true) :
    Calls Tryd.prog 12 #[stV v d, .agg #[.int .i64 10, .int .i64 x, .int .i64 y]] w (OfRes w.heap.size d (2) (cntV d.zs d.n x) w) := by
  have B := linBoxes w v d 10 x y
  have HF : Hid (Few d ∧ Room v d ∧ SS w v d ∧ Tab w) := ⟨hf, hr, h, ht⟩
  clear h hr hf ht
  go_enter Tryd.func12, Tryd.ntmps12
  go_wp2_with fail
  generalize hw0 : ((((w.alloc (.cells #[v.m d, v.s d, v.q d] 35)).alloc (.cells #[.int .i64 10, .int .i64 x, .int .i64 y] 41)).alloc (.cells #[.slice none 0 0, .slice none 0 0, .slice none 0 0] 35)).alloc (.cells #[.int .i64 0, .int .i64 0] 37)) = w0 at B ⊢
  clear hw0
  refine (stateOk_any v d _ (HF.out.2.2.1.below B.bel) HF.out.1).mono ?_
  rintro e w1 ⟨rfl, hb1⟩
  rw [hs]
  have B1 := B.below hb1
  obtain ⟨p0, p1, p2⟩ := B1.o.cells
  have HB1 : Hid (LinB4 w w1 v d 10 x y) := B1
  clear B B1 hb1
  go_wp2_with fail
  refine (implOpOk_any 10 x y _ (HF.out.2.2.2.below HB1.out.bel)).mono ?_
  rintro e w2 ⟨rfl, hb2⟩
  rw [ho]
  have B2 := HB1.out.below hb2
  obtain ⟨o0, o1, o2⟩ := B2.o.cells
  obtain ⟨s0, s1, s2⟩ := B2.s.cells
  obtain ⟨m0, m1, m2⟩ := B2.r.cells
  obtain ⟨l0, l1, l2⟩ := B2.r.frees
  have i0 := B2.rr.c0
  have i1 := B2.rr.c1
  have j0 := B2.rr.f 0
  have j1 := B2.rr.f 1
  have HB2 : Hid (LinB4 w w2 v d 10 x y) := B2
  clear HB1 B2 hb2 p0 p1 p2 hs ho
  have hn : ∀ w : World, (nilAhead 250 114 (.agg #[.int .i64 x]) "loop.example/tuggers/impl.of").run Tryd.prog w = .ok (some false) w := fun _ => by kernel_rfl
  have hm : ∀ w : World, (method 250 114 (.agg #[.int .i64 x]) "loop.example/tuggers/impl.of").run Tryd.prog w = .ok (120, .agg #[.int .i64 x]) w := fun _ => by kernel_rfl
  go_wp2
  go_region_held (fun w' => w'.cell? ⟨w.heap.size, 0, none⟩ = some (v.m d) ∧ w'.cell? ⟨w.heap.size, 1, none⟩ = some (v.s d) ∧ w'.cell? ⟨w.heap.size, 2, none⟩ = some (v.q d) ∧ w'.cell? ⟨w.heap.size + 1, 0, none⟩ = some (.int .i64 10) ∧ w'.cell? ⟨w.heap.size + 1, 1, none⟩ = some (.int .i64 x) ∧ w'.cell? ⟨w.heap.size + 1, 2, none⟩ = some (.int .i64 y)) ((refine ⟨?_, ?_, ?_, ?_, ?_, ?_⟩ <;> (try (with_reducible (refine cell_drew ?_))) <;> (repeat (with_reducible (refine cell_far (by omega) ?_))) <;> (with_reducible assumption))) (first | (go_at_call 49; refine (thing10 x y _).mono ?_; rintro e w3 ⟨rfl, hb3⟩; have B3 := HB2.out.below (below_trans' (Below.refl w2.heap.size w2).drew hb3); obtain ⟨o03, o13, o23⟩ := B3.o.cells; obtain ⟨s03, s13, s23⟩ := B3.s.cells; obtain ⟨m03, m13, m23⟩ := B3.r.cells; obtain ⟨l03, l13, l23⟩ := B3.r.frees; have i03 := B3.rr.c0; have i13 := B3.rr.c1; have j03 := B3.rr.f 0; have j13 := B3.rr.f 1; have HB3 : Hid (LinB4 w w3 v d 10 x y) := B3; clear B3 hb3) | (go_at_call 50; refine (state_same v d _ (HF.out.2.2.1.below HB3.out.bel) HF.out.2.1 HF.out.1).mono ?_; rintro e w4 ⟨u, rfl, hst, hap, hb4⟩; have B4 := HB3.out.below hb4; obtain ⟨o04, o14, o24⟩ := B4.o.cells; obtain ⟨s04, s14, s24⟩ := B4.s.cells; obtain ⟨m04, m14, m24⟩ := B4.r.cells; obtain ⟨l04, l14, l24⟩ := B4.r.frees; have i04 := B4.rr.c0; have i14 := B4.rr.c1; have j04 := B4.rr.f 0; have j14 := B4.rr.f 1; have HB4 : Hid (LinB4 w w4 v d 10 x y) := B4; have HU : Hid (St w3.heap.size w4.heap.size u d w4 ∧ Apart u d ∧ Below w3.heap.size w3 w4) := ⟨hst, hap, hb4⟩; clear B4 hb4 hst hap) | (go_at_call 120; refine (of10 w3.heap.size w4.heap.size u d x y _ HU.out.1 HU.out.2.1 HF.out.1 HU.out.2.2.size (Nat.le_refl _)).mono ?_; rintro e w5 ⟨u5, rfl, hst, hap, hb5⟩; have B5 := HB4.out.below hb5; obtain ⟨o05, o15, o25⟩ := B5.o.cells; obtain ⟨s05, s15, s25⟩ := B5.s.cells; obtain ⟨m05, m15, m25⟩ := B5.r.cells; obtain ⟨l05, l15, l25⟩ := B5.r.frees; have i05 := B5.rr.c0; have i15 := B5.rr.c1; have j05 := B5.rr.f 0; have j15 := B5.rr.f 1; have HB5 : Hid (LinB4 w w5 v d 10 x y) := B5; have HV : Hid (St w3.heap.size w5.heap.size u5 d w5 ∧ Apart u5 d ∧ Below w4.heap.size w4 w5) := ⟨hst, hap, hb5⟩; clear B5 hb5 hst hap))
  all_goals
    have z3 : w.heap.size + 4 ≤ w3.heap.size := HB3.out.sz
    go_wp2
    refine bodyPost_ret (v := .tuple #[stV u5 d, .agg #[.int .i64 (2), .int .i64 (cntV d.zs d.n x)]]) (by simp [results, Tryd.results12, go_sem, m05, m15, m25, i05, i15]) rfl ?_
    exact ⟨u5, rfl, st_put5 HV.out.1 z3 (Nat.le_refl _) _ _ _ _ _, HV.out.2.1, below_put5 HB5.out.bel _ _ _ _ _⟩

set_option maxRecDepth 20000 in
set_option maxHeartbeats 1000000 in
theorem lin11 (v : SV) (d : LD) (x y : Int) (w : World) (h : SS w v d) (hr : Room v d) (hf : Few d) (ht : Tab w) (hs : stOk d.n d.zs d.s d.q = true) (ho : opB 11 x y = true) :
    Calls Tryd.prog 12 #[stV v d, .agg #[.int .i64 11, .int .i64 x, .int .i64 y]] w (OfRes w.heap.size d (firstC d.s) (firstV d.s) w) := by
  have B := linBoxes w v d 11 x y
  have HF : Hid (Few d ∧ Room v d ∧ SS w v d ∧ Tab w) := ⟨hf, hr, h, ht⟩
  clear h hr hf ht
  go_enter Tryd.func12, Tryd.ntmps12
  go_wp2_with fail
  generalize hw0 : ((((w.alloc (.cells #[v.m d, v.s d, v.q d] 35)).alloc (.cells #[.int .i64 11, .int .i64 x, .int .i64 y] 41)).alloc (.cells #[.slice none 0 0, .slice none 0 0, .slice none 0 0] 35)).alloc (.cells #[.int .i64 0, .int .i64 0] 37)) = w0 at B ⊢
  clear hw0
  refine (stateOk_any v d _ (HF.out.2.2.1.below B.bel) HF.out.1).mono ?_
  rintro e w1 ⟨rfl, hb1⟩
  rw [hs]
  have B1 := B.below hb1
  obtain ⟨p0, p1, p2⟩ := B1.o.cells
  have HB1 : Hid (LinB4 w w1 v d 11 x y) := B1
  clear B B1 hb1
  go_wp2_with fail
  refine (implOpOk_any 11 x y _ (HF.out.2.2.2.below HB1.out.bel)).mono ?_
  rintro e w2 ⟨rfl, hb2⟩
  rw [ho]
  have B2 := HB1.out.below hb2
  obtain ⟨o0, o1, o2⟩ := B2.o.cells
  obtain ⟨s0, s1, s2⟩ := B2.s.cells
  obtain ⟨m0, m1, m2⟩ := B2.r.cells
  obtain ⟨l0, l1, l2⟩ := B2.r.frees
  have i0 := B2.rr.c0
  have i1 := B2.rr.c1
  have j0 := B2.rr.f 0
  have j1 := B2.rr.f 1
  have HB2 : Hid (LinB4 w w2 v d 11 x y) := B2
  clear HB1 B2 hb2 p0 p1 p2 hs ho
  have hn : ∀ w : World, (nilAhead 250 115 (.agg #[]) "loop.example/tuggers/impl.of").run Tryd.prog w = .ok (some false) w := fun _ => by kernel_rfl
  have hm : ∀ w : World, (method 250 115 (.agg #[]) "loop.example/tuggers/impl.of").run Tryd.prog w = .ok (121, .agg #[]) w := fun _ => by kernel_rfl
  go_wp2
  go_region_held (fun w' => w'.cell? ⟨w.heap.size, 0, none⟩ = some (v.m d) ∧ w'.cell? ⟨w.heap.size, 1, none⟩ = some (v.s d) ∧ w'.cell? ⟨w.heap.size, 2, none⟩ = some (v.q d) ∧ w'.cell? ⟨w.heap.size + 1, 0, none⟩ = some (.int .i64 11) ∧ w'.cell? ⟨w.heap.size + 1, 1, none⟩ = some (.int .i64 x) ∧ w'.cell? ⟨w.heap.size + 1, 2, none⟩ = some (.int .i64 y)) ((refine ⟨?_, ?_, ?_, ?_, ?_, ?_⟩ <;> (try (with_reducible (refine cell_drew ?_))) <;> (repeat (with_reducible (refine cell_far (by omega) ?_))) <;> (with_reducible assumption))) (first | (go_at_call 49; refine (thing11 x y _).mono ?_; rintro e w3 ⟨rfl, hb3⟩; have B3 := HB2.out.below (below_trans' (Below.refl w2.heap.size w2).drew hb3); obtain ⟨o03, o13, o23⟩ := B3.o.cells; obtain ⟨s03, s13, s23⟩ := B3.s.cells; obtain ⟨m03, m13, m23⟩ := B3.r.cells; obtain ⟨l03, l13, l23⟩ := B3.r.frees; have i03 := B3.rr.c0; have i13 := B3.rr.c1; have j03 := B3.rr.f 0; have j13 := B3.rr.f 1; have HB3 : Hid (LinB4 w w3 v d 11 x y) := B3; clear B3 hb3) | (go_at_call 50; refine (state_same v d _ (HF.out.2.2.1.below HB3.out.bel) HF.out.2.1 HF.out.1).mono ?_; rintro e w4 ⟨u, rfl, hst, hap, hb4⟩; have B4 := HB3.out.below hb4; obtain ⟨o04, o14, o24⟩ := B4.o.cells; obtain ⟨s04, s14, s24⟩ := B4.s.cells; obtain ⟨m04, m14, m24⟩ := B4.r.cells; obtain ⟨l04, l14, l24⟩ := B4.r.frees; have i04 := B4.rr.c0; have i14 := B4.rr.c1; have j04 := B4.rr.f 0; have j14 := B4.rr.f 1; have HB4 : Hid (LinB4 w w4 v d 11 x y) := B4; have HU : Hid (St w3.heap.size w4.heap.size u d w4 ∧ Apart u d ∧ Below w3.heap.size w3 w4) := ⟨hst, hap, hb4⟩; clear B4 hb4 hst hap) | (go_at_call 121; refine (of11 w3.heap.size w4.heap.size u d x y _ HU.out.1 HU.out.2.1 HF.out.1 HU.out.2.2.size (Nat.le_refl _)).mono ?_; rintro e w5 ⟨u5, rfl, hst, hap, hb5⟩; have B5 := HB4.out.below hb5; obtain ⟨o05, o15, o25⟩ := B5.o.cells; obtain ⟨s05, s15, s25⟩ := B5.s.cells; obtain ⟨m05, m15, m25⟩ := B5.r.cells; obtain ⟨l05, l15, l25⟩ := B5.r.frees; have i05 := B5.rr.c0; have i15 := B5.rr.c1; have j05 := B5.rr.f 0; have j15 := B5.rr.f 1; have HB5 : Hid (LinB4 w w5 v d 11 x y) := B5; have HV : Hid (St w3.heap.size w5.heap.size u5 d w5 ∧ Apart u5 d ∧ Below w4.heap.size w4 w5) := ⟨hst, hap, hb5⟩; clear B5 hb5 hst hap))
  all_goals
    have z3 : w.heap.size + 4 ≤ w3.heap.size := HB3.out.sz
    go_wp2
    refine bodyPost_ret (v := .tuple #[stV u5 d, .agg #[.int .i64 (firstC d.s), .int .i64 (firstV d.s)]]) (by simp [results, Tryd.results12, go_sem, m05, m15, m25, i05, i15]) rfl ?_
    exact ⟨u5, rfl, st_put5 HV.out.1 z3 (Nat.le_refl _) _ _ _ _ _, HV.out.2.1, below_put5 HB5.out.bel _ _ _ _ _⟩

set_option maxRecDepth 20000 in
set_option maxHeartbeats 1000000 in
theorem lin12 (v : SV) (d : LD) (x y : Int) (w : World) (h : SS w v d) (hr : Room v d) (hf : Few d) (ht : Tab w) (hs : stOk d.n d.zs d.s d.q = true) (ho : opB 12 x y = true) :
    Calls Tryd.prog 12 #[stV v d, .agg #[.int .i64 12, .int .i64 x, .int .i64 y]] w (OfRes w.heap.size d (firstC d.q) (firstV d.q) w) := by
  have B := linBoxes w v d 12 x y
  have HF : Hid (Few d ∧ Room v d ∧ SS w v d ∧ Tab w) := ⟨hf, hr, h, ht⟩
  clear h hr hf ht
  go_enter Tryd.func12, Tryd.ntmps12
  go_wp2_with fail
  generalize hw0 : ((((w.alloc (.cells #[v.m d, v.s d, v.q d] 35)).alloc (.cells #[.int .i64 12, .int .i64 x, .int .i64 y] 41)).alloc (.cells #[.slice none 0 0, .slice none 0 0, .slice none 0 0] 35)).alloc (.cells #[.int .i64 0, .int .i64 0] 37)) = w0 at B ⊢
  clear hw0
  refine (stateOk_any v d _ (HF.out.2.2.1.below B.bel) HF.out.1).mono ?_
  rintro e w1 ⟨rfl, hb1⟩
  rw [hs]
  have B1 := B.below hb1
  obtain ⟨p0, p1, p2⟩ := B1.o.cells
  have HB1 : Hid (LinB4 w w1 v d 12 x y) := B1
  clear B B1 hb1
  go_wp2_with fail
  refine (implOpOk_any 12 x y _ (HF.out.2.2.2.below HB1.out.bel)).mono ?_
  rintro e w2 ⟨rfl, hb2⟩
  rw [ho]
  have B2 := HB1.out.below hb2
  obtain ⟨o0, o1, o2⟩ := B2.o.cells
  obtain ⟨s0, s1, s2⟩ := B2.s.cells
  obtain ⟨m0, m1, m2⟩ := B2.r.cells
  obtain ⟨l0, l1, l2⟩ := B2.r.frees
  have i0 := B2.rr.c0
  have i1 := B2.rr.c1
  have j0 := B2.rr.f 0
  have j1 := B2.rr.f 1
  have HB2 : Hid (LinB4 w w2 v d 12 x y) := B2
  clear HB1 B2 hb2 p0 p1 p2 hs ho
  have hn : ∀ w : World, (nilAhead 250 116 (.agg #[]) "loop.example/tuggers/impl.of").run Tryd.prog w = .ok (some false) w := fun _ => by kernel_rfl
  have hm : ∀ w : World, (method 250 116 (.agg #[]) "loop.example/tuggers/impl.of").run Tryd.prog w = .ok (122, .agg #[]) w := fun _ => by kernel_rfl
  go_wp2
  go_region_held (fun w' => w'.cell? ⟨w.heap.size, 0, none⟩ = some (v.m d) ∧ w'.cell? ⟨w.heap.size, 1, none⟩ = some (v.s d) ∧ w'.cell? ⟨w.heap.size, 2, none⟩ = some (v.q d) ∧ w'.cell? ⟨w.heap.size + 1, 0, none⟩ = some (.int .i64 12) ∧ w'.cell? ⟨w.heap.size + 1, 1, none⟩ = some (.int .i64 x) ∧ w'.cell? ⟨w.heap.size + 1, 2, none⟩ = some (.int .i64 y)) ((refine ⟨?_, ?_, ?_, ?_, ?_, ?_⟩ <;> (try (with_reducible (refine cell_drew ?_))) <;> (repeat (with_reducible (refine cell_far (by omega) ?_))) <;> (with_reducible assumption))) (first | (go_at_call 49; refine (thing12 x y _).mono ?_; rintro e w3 ⟨rfl, hb3⟩; have B3 := HB2.out.below (below_trans' (Below.refl w2.heap.size w2).drew hb3); obtain ⟨o03, o13, o23⟩ := B3.o.cells; obtain ⟨s03, s13, s23⟩ := B3.s.cells; obtain ⟨m03, m13, m23⟩ := B3.r.cells; obtain ⟨l03, l13, l23⟩ := B3.r.frees; have i03 := B3.rr.c0; have i13 := B3.rr.c1; have j03 := B3.rr.f 0; have j13 := B3.rr.f 1; have HB3 : Hid (LinB4 w w3 v d 12 x y) := B3; clear B3 hb3) | (go_at_call 50; refine (state_same v d _ (HF.out.2.2.1.below HB3.out.bel) HF.out.2.1 HF.out.1).mono ?_; rintro e w4 ⟨u, rfl, hst, hap, hb4⟩; have B4 := HB3.out.below hb4; obtain ⟨o04, o14, o24⟩ := B4.o.cells; obtain ⟨s04, s14, s24⟩ := B4.s.cells; obtain ⟨m04, m14, m24⟩ := B4.r.cells; obtain ⟨l04, l14, l24⟩ := B4.r.frees; have i04 := B4.rr.c0; have i14 := B4.rr.c1; have j04 := B4.rr.f 0; have j14 := B4.rr.f 1; have HB4 : Hid (LinB4 w w4 v d 12 x y) := B4; have HU : Hid (St w3.heap.size w4.heap.size u d w4 ∧ Apart u d ∧ Below w3.heap.size w3 w4) := ⟨hst, hap, hb4⟩; clear B4 hb4 hst hap) | (go_at_call 122; refine (of12 w3.heap.size w4.heap.size u d x y _ HU.out.1 HU.out.2.1 HF.out.1 HU.out.2.2.size (Nat.le_refl _)).mono ?_; rintro e w5 ⟨u5, rfl, hst, hap, hb5⟩; have B5 := HB4.out.below hb5; obtain ⟨o05, o15, o25⟩ := B5.o.cells; obtain ⟨s05, s15, s25⟩ := B5.s.cells; obtain ⟨m05, m15, m25⟩ := B5.r.cells; obtain ⟨l05, l15, l25⟩ := B5.r.frees; have i05 := B5.rr.c0; have i15 := B5.rr.c1; have j05 := B5.rr.f 0; have j15 := B5.rr.f 1; have HB5 : Hid (LinB4 w w5 v d 12 x y) := B5; have HV : Hid (St w3.heap.size w5.heap.size u5 d w5 ∧ Apart u5 d ∧ Below w4.heap.size w4 w5) := ⟨hst, hap, hb5⟩; clear B5 hb5 hst hap))
  all_goals
    have z3 : w.heap.size + 4 ≤ w3.heap.size := HB3.out.sz
    go_wp2
    refine bodyPost_ret (v := .tuple #[stV u5 d, .agg #[.int .i64 (firstC d.q), .int .i64 (firstV d.q)]]) (by simp [results, Tryd.results12, go_sem, m05, m15, m25, i05, i15]) rfl ?_
    exact ⟨u5, rfl, st_put5 HV.out.1 z3 (Nat.le_refl _) _ _ _ _ _, HV.out.2.1, below_put5 HB5.out.bel _ _ _ _ _⟩

end Go.Proofs.YtklpdpdjblakgaaDoor

/- LinN -/
namespace Go.Proofs.YtklpdpdjblakgaaDoor
open Go.RowKit
set_option linter.unusedVariables false

set_option maxRecDepth 20000 in
set_option maxHeartbeats 1000000 in
theorem slinBad (v : SV) (d : LD) (k x y : Int) (w : World) (h : SS w v d) (hf : Few d) (hb : (okM d.zs d.n && (okL d.s && (okL d.q && opB k x y))) = false) :
    Calls Tryd.prog 9 #[stV v d, .agg #[.int .i64 k, .int .i64 x, .int .i64 y]] w (SpRes ⟨0, [], [], []⟩ 0 0 w) := by
  have B := linBoxes w v d k x y
  have HF : Hid (Few d ∧ SS w v d) := ⟨hf, h⟩
  have nil : ∀ (W : World) (e : TypeId) (sz lo hi : Nat), RowIn lo hi e sz (.slice none 0 0) 0 [] W := fun W e sz lo hi => ⟨⟨by simp, .inl ⟨rfl, rfl⟩⟩, fun k e => by cases e⟩
  have NIL : Hid (∀ (W : World) (lo hi : Nat), St lo hi ⟨none, 0, none, 0, none, 0⟩ ⟨0, [], [], []⟩ W) := fun W lo hi => ⟨nil _ _ _ _ _, nil _ _ _ _ _, nil _ _ _ _ _⟩
  clear h hf nil
  generalize hm : okM d.zs d.n = b1 at hb
  generalize hs : okL d.s = b2 at hb
  generalize hq : okL d.q = b3 at hb
  generalize ho : opB k x y = b4 at hb
  have HQ : Hid (okM d.zs d.n = b1 ∧ okL d.s = b2 ∧ okL d.q = b3 ∧ opB k x y = b4) := ⟨hm, hs, hq, ho⟩
  clear hm hs hq ho
  go_enter Tryd.func9, Tryd.ntmps9
  go_wp2_with fail
  generalize hw0 : ((((w.alloc (.cells #[v.m d, v.s d, v.q d] 35)).alloc (.cells #[.int .i64 k, .int .i64 x, .int .i64 y] 41)).alloc (.cells #[.slice none 0 0, .slice none 0 0, .slice none 0 0] 35)).alloc (.cells #[.int .i64 0, .int .i64 0] 37)) = w0 at B ⊢
  clear hw0
  refine (specMapOk_any _ _ _ d.zs _ (HF.out.2.below B.bel).m (by have := HF.out.1.m; omega)).mono ?_
  rintro e w1 ⟨rfl, hb1⟩
  rw [HQ.out.1]
  have B1 := B.below hb1
  obtain ⟨s0, s1, s2⟩ := B1.s.cells
  obtain ⟨p0, p1, p2⟩ := B1.o.cells
  obtain ⟨m0, m1, m2⟩ := B1.r.cells
  obtain ⟨l0, l1, l2⟩ := B1.r.frees
  have i0 := B1.rr.c0
  have i1 := B1.rr.c1
  have j0 := B1.rr.f 0
  have j1 := B1.rr.f 1
  have HB1 : Hid (LinB4 w w1 v d k x y) := B1
  clear B B1 hb1
  cases b1
  · clear hb
    go_wp2
    all_goals
      refine bodyPost_ret (v := .tuple #[stV ⟨none, 0, none, 0, none, 0⟩ ⟨0, [], [], []⟩, .agg #[.int .i64 0, .int .i64 0]]) (by simp [results, Tryd.results9, go_sem, m0, m1, m2, i0, i1]) rfl ?_
      exact ⟨_, rfl, NIL.out _ _ _, below_put5 HB1.out.bel _ _ _ _ _⟩
  go_wp2_with fail
  refine (specListOk_any _ _ _ d.s _ (HF.out.2.below HB1.out.bel).s (by have := HF.out.1.s; omega)).mono ?_
  rintro e w1' ⟨rfl, rfl⟩
  rw [HQ.out.2.1]
  cases b2
  · clear hb
    go_wp2
    all_goals
      refine bodyPost_ret (v := .tuple #[stV ⟨none, 0, none, 0, none, 0⟩ ⟨0, [], [], []⟩, .agg #[.int .i64 0, .int .i64 0]]) (by simp [results, Tryd.results9, go_sem, m0, m1, m2, i0, i1]) rfl ?_
      exact ⟨_, rfl, NIL.out _ _ _, below_put5 HB1.out.bel _ _ _ _ _⟩
  go_wp2_with fail
  refine (specListOk_any _ _ _ d.q _ (HF.out.2.below HB1.out.bel).q (by have := HF.out.1.q; omega)).mono ?_
  rintro e w1' ⟨rfl, rfl⟩
  rw [HQ.out.2.2.1]
  cases b3
  · clear hb
    go_wp2
    all_goals
      refine bodyPost_ret (v := .tuple #[stV ⟨none, 0, none, 0, none, 0⟩ ⟨0, [], [], []⟩, .agg #[.int .i64 0, .int .i64 0]]) (by simp [results, Tryd.results9, go_sem, m0, m1, m2, i0, i1]) rfl ?_
      exact ⟨_, rfl, NIL.out _ _ _, below_put5 HB1.out.bel _ _ _ _ _⟩
  obtain rfl : b4 = false := by simpa using hb
  clear m0 m1 m2 l0 l1 l2 i0 i1 j0 j1
  go_wp2_with fail
  refine (specOpOk_any k x y _).mono ?_
  rintro e w2 ⟨rfl, hb2⟩
  rw [HQ.out.2.2.2]
  have B2 := HB1.out.below hb2
  obtain ⟨m0, m1, m2⟩ := B2.r.cells
  obtain ⟨l0, l1, l2⟩ := B2.r.frees
  have i0 := B2.rr.c0
  have i1 := B2.rr.c1
  have j0 := B2.rr.f 0
  have j1 := B2.rr.f 1
  have HB2 : Hid (LinB4 w w2 v d k x y) := B2
  clear HB1 B2 hb2 p0 p1 p2 s0 s1 s2 hb
  go_wp2
  all_goals
    refine bodyPost_ret (v := .tuple #[stV ⟨none, 0, none, 0, none, 0⟩ ⟨0, [], [], []⟩, .agg #[.int .i64 0, .int .i64 0]]) (by simp [results, Tryd.results9, go_sem, m0, m1, m2, i0, i1]) rfl ?_
    exact ⟨_, rfl, NIL.out _ _ _, below_put5 HB2.out.bel _ _ _ _ _⟩

/-- What LinApply makes of a state. -/
def aD (k x y : Int) (d : LD) : LD := ⟨aN k x y d.n d.zs d.s d.q, aZ k x y d.n d.zs d.s d.q, aS k x y d.n d.zs d.s d.q, aQ k x y d.n d.zs d.s d.q⟩
def aCd (k x y : Int) (d : LD) : Int := aC k x y d.n d.zs d.s d.q
def aVd (k x y : Int) (d : LD) : Int := aV k x y d.n d.zs d.s d.q
def okD (k x y : Int) (d : LD) : Bool := apOk k x y d.n d.zs d.s d.q

theorem aD_bad {k x y : Int} {d : LD} (h : okD k x y d = false) : aD k x y d = ⟨0, [], [], []⟩ ∧ aCd k x y d = 0 ∧ aVd k x y d = 0 := by
  have h' : apOk k x y d.n d.zs d.s d.q = false := h
  refine ⟨?_, ?_, ?_⟩
  · simp only [aD, aN, aZ, aS, aQ, h']; rfl
  · simp only [aCd, aC, h']; rfl
  · simp only [aVd, aV, h']; rfl

theorem specLinApply_any (v : SV) (d : LD) (k x y : Int) (w : World) (h : SS w v d) (hr : Room v d) (hf : Few d) (hg : Somes v) :
    Calls Tryd.prog 9 #[stV v d, .agg #[.int .i64 k, .int .i64 x, .int .i64 y]] w (SpRes (aD k x y d) (aCd k x y d) (aVd k x y d) w) := by
  cases hb : okD k x y d
  · obtain ⟨e1, e2, e3⟩ := aD_bad hb
    rw [e1, e2, e3]
    refine slinBad v d k x y w h hf ?_
    simpa only [okD, apOk, stOk, Bool.and_assoc] using hb
  · have hb' : apOk k x y d.n d.zs d.s d.q = true := hb
    obtain ⟨h1, h2, h3, h4⟩ := apOk_parts hb'
    obtain ⟨ha, hc, _, _⟩ := opB_parts h4
    rcases (show k = 1 ∨ k = 2 ∨ k = 3 ∨ k = 4 ∨ k = 5 ∨ k = 6 ∨ k = 7 ∨ k = 8 ∨ k = 9 ∨ k = 10 ∨ k = 11 ∨ k = 12 by omega) with rfl | rfl | rfl | rfl | rfl | rfl | rfl | rfl | rfl | rfl | rfl | rfl
    · have e1 : aD 1 x y d = d := by simp only [aD, aN, aZ, aS, aQ, hb', if_true]; rfl
      have e2 : aCd 1 x y d = getC d.zs d.n x := by simp only [aCd, aC, hb', if_true]; rfl
      have e3 : aVd 1 x y d = getV d.zs d.n x := by simp only [aVd, aV, hb', if_true]; rfl
      rw [e1, e2, e3]
      exact slin1 v d x y w h hr hf hg h1 h2 h3 h4
    · have e1 : aD 2 x y d = ⟨ptN d.zs d.n x y, ptL d.zs d.n x y, d.s, d.q⟩ := by simp only [aD, aN, aZ, aS, aQ, hb', if_true]; rfl
      have e2 : aCd 2 x y d = ptC d.zs d.n x y := by simp only [aCd, aC, hb', if_true]; rfl
      have e3 : aVd 2 x y d = 0 := by simp only [aVd, aV, hb', if_true]; rfl
      rw [e1, e2, e3]
      exact slin2 v d x y w h hr hf hg h1 h2 h3 h4
    · have e1 : aD 3 x y d = ⟨delN d.zs d.n x, delL d.zs d.n x, d.s, d.q⟩ := by simp only [aD, aN, aZ, aS, aQ, hb', if_true]; rfl
      have e2 : aCd 3 x y d = delC d.zs d.n x := by simp only [aCd, aC, hb', if_true]; rfl
      have e3 : aVd 3 x y d = delV d.zs d.n x := by simp only [aVd, aV, hb', if_true]; rfl
      rw [e1, e2, e3]
      exact slin3 v d x y w h hr hf hg h1 h2 h3 h4
    · have e1 : aD 4 x y d = d := by simp only [aD, aN, aZ, aS, aQ, hb', if_true]; rfl
      have e2 : aCd 4 x y d = 2 := by simp only [aCd, aC, hb', if_true]; rfl
      have e3 : aVd 4 x y d = 0 := by simp only [aVd, aV, hb', if_true]; rfl
      rw [e1, e2, e3]
      exact slin4 v d x y w h hr hf hg h1 h2 h3 h4
    · have e1 : aD 5 x y d = ⟨d.n, d.zs, putL d.s 0 y, d.q⟩ := by simp only [aD, aN, aZ, aS, aQ, hb', if_true]; rfl
      have e2 : aCd 5 x y d = putC d.s y := by simp only [aCd, aC, hb', if_true]; rfl
      have e3 : aVd 5 x y d = 0 := by simp only [aVd, aV, hb', if_true]; rfl
      rw [e1, e2, e3]
      exact slin5 v d x y w h hr hf hg h1 h2 h3 h4
    · have e1 : aD 6 x y d = ⟨d.n, d.zs, takeL d.s, d.q⟩ := by simp only [aD, aN, aZ, aS, aQ, hb', if_true]; rfl
      have e2 : aCd 6 x y d = takeC d.s := by simp only [aCd, aC, hb', if_true]; rfl
      have e3 : aVd 6 x y d = takeV d.s := by simp only [aVd, aV, hb', if_true]; rfl
      rw [e1, e2, e3]
      exact slin6 v d x y w h hr hf hg h1 h2 h3 h4
    · have e1 : aD 7 x y d = ⟨d.n, d.zs, d.s, putL d.q d.q.length y⟩ := by simp only [aD, aN, aZ, aS, aQ, hb', if_true]; rfl
      have e2 : aCd 7 x y d = putC d.q y := by simp only [aCd, aC, hb', if_true]; rfl
      have e3 : aVd 7 x y d = 0 := by simp only [aVd, aV, hb', if_true]; rfl
      rw [e1, e2, e3]
      exact slin7 v d x y w h hr hf hg h1 h2 h3 h4
    · have e1 : aD 8 x y d = ⟨d.n, d.zs, d.s, takeL d.q⟩ := by simp only [aD, aN, aZ, aS, aQ, hb', if_true]; rfl
      have e2 : aCd 8 x y d = takeC d.q := by simp only [aCd, aC, hb', if_true]; rfl
      have e3 : aVd 8 x y d = takeV d.q := by simp only [aVd, aV, hb', if_true]; rfl
      rw [e1, e2, e3]
      exact slin8 v d x y w h hr hf hg h1 h2 h3 h4
    · have e1 : aD 9 x y d = d := by simp only [aD, aN, aZ, aS, aQ, hb', if_true]; rfl
      have e2 : aCd 9 x y d = nextC d.zs d.n x := by simp only [aCd, aC, hb', if_true]; rfl
      have e3 : aVd 9 x y d = nextV d.zs d.n x := by simp only [aVd, aV, hb', if_true]; rfl
      rw [e1, e2, e3]
      exact slin9 v d x y w h hr hf hg h1 h2 h3 h4
    · have e1 : aD 10 x y d = d := by simp only [aD, aN, aZ, aS, aQ, hb', if_true]; rfl
      have e2 : aCd 10 x y d = 2 := by simp only [aCd, aC, hb', if_true]; rfl
      have e3 : aVd 10 x y d = cntV d.zs d.n x := by simp only [aVd, aV, hb', if_true]; rfl
      rw [e1, e2, e3]
      exact slin10 v d x y w h hr hf hg h1 h2 h3 h4
    · have e1 : aD 11 x y d = d := by simp only [aD, aN, aZ, aS, aQ, hb', if_true]; rfl
      have e2 : aCd 11 x y d = firstC d.s := by simp only [aCd, aC, hb', if_true]; rfl
      have e3 : aVd 11 x y d = firstV d.s := by simp only [aVd, aV, hb', if_true]; rfl
      rw [e1, e2, e3]
      exact slin11 v d x y w h hr hf hg h1 h2 h3 h4
    · have e1 : aD 12 x y d = d := by simp only [aD, aN, aZ, aS, aQ, hb', if_true]; rfl
      have e2 : aCd 12 x y d = firstC d.q := by simp only [aCd, aC, hb', if_true]; rfl
      have e3 : aVd 12 x y d = firstV d.q := by simp only [aVd, aV, hb', if_true]; rfl
      rw [e1, e2, e3]
      exact slin12 v d x y w h hr hf hg h1 h2 h3 h4

theorem implLinApply_any (v : SV) (d : LD) (k x y : Int) (w : World) (h : SS w v d) (hr : Room v d) (hf : Few d) (ht : Tab w) :
    Calls Tryd.prog 12 #[stV v d, .agg #[.int .i64 k, .int .i64 x, .int .i64 y]] w (OfRes w.heap.size (aD k x y d) (aCd k x y d) (aVd k x y d) w) := by
  cases hb : okD k x y d
  · obtain ⟨e1, e2, e3⟩ := aD_bad hb
    rw [e1, e2, e3]
    exact linBad v d k x y w h hf ht hb
  · have hb' : apOk k x y d.n d.zs d.s d.q = true := hb
    obtain ⟨h1, h2, h3, h4⟩ := apOk_parts hb'
    have hst : stOk d.n d.zs d.s d.q = true := by simp [stOk, h1, h2, h3]
    obtain ⟨ha, hc, _, _⟩ := opB_parts h4
    rcases (show k = 1 ∨ k = 2 ∨ k = 3 ∨ k = 4 ∨ k = 5 ∨ k = 6 ∨ k = 7 ∨ k = 8 ∨ k = 9 ∨ k = 10 ∨ k = 11 ∨ k = 12 by omega) with rfl | rfl | rfl | rfl | rfl | rfl | rfl | rfl | rfl | rfl | rfl | rfl
    · have e1 : aD 1 x y d = d := by simp only [aD, aN, aZ, aS, aQ, hb', if_true]; rfl
      have e2 : aCd 1 x y d = getC d.zs d.n x := by simp only [aCd, aC, hb', if_true]; rfl
      have e3 : aVd 1 x y d = getV d.zs d.n x := by simp only [aVd, aV, hb', if_true]; rfl
      rw [e1, e2, e3]
      exact lin1 v d x y w h hr hf ht hst h4
    · have e1 : aD 2 x y d = ⟨ptN d.zs d.n x y, ptL d.zs d.n x y, d.s, d.q⟩ := by simp only [aD, aN, aZ, aS, aQ, hb', if_true]; rfl
      have e2 : aCd 2 x y d = ptC d.zs d.n x y := by simp only [aCd, aC, hb', if_true]; rfl
      have e3 : aVd 2 x y d = 0 := by simp only [aVd, aV, hb', if_true]; rfl
      rw [e1, e2, e3]
      exact lin2 v d x y w h hr hf ht hst h4
    · have e1 : aD 3 x y d = ⟨delN d.zs d.n x, delL d.zs d.n x, d.s, d.q⟩ := by simp only [aD, aN, aZ, aS, aQ, hb', if_true]; rfl
      have e2 : aCd 3 x y d = delC d.zs d.n x := by simp only [aCd, aC, hb', if_true]; rfl
      have e3 : aVd 3 x y d = delV d.zs d.n x := by simp only [aVd, aV, hb', if_true]; rfl
      rw [e1, e2, e3]
      exact lin3 v d x y w h hr hf ht hst h4
    · have e1 : aD 4 x y d = d := by simp only [aD, aN, aZ, aS, aQ, hb', if_true]; rfl
      have e2 : aCd 4 x y d = 2 := by simp only [aCd, aC, hb', if_true]; rfl
      have e3 : aVd 4 x y d = 0 := by simp only [aVd, aV, hb', if_true]; rfl
      rw [e1, e2, e3]
      exact lin4 v d x y w h hr hf ht hst h4
    · have e1 : aD 5 x y d = ⟨d.n, d.zs, putL d.s 0 y, d.q⟩ := by simp only [aD, aN, aZ, aS, aQ, hb', if_true]; rfl
      have e2 : aCd 5 x y d = putC d.s y := by simp only [aCd, aC, hb', if_true]; rfl
      have e3 : aVd 5 x y d = 0 := by simp only [aVd, aV, hb', if_true]; rfl
      rw [e1, e2, e3]
      exact lin5 v d x y w h hr hf ht hst h4
    · have e1 : aD 6 x y d = ⟨d.n, d.zs, takeL d.s, d.q⟩ := by simp only [aD, aN, aZ, aS, aQ, hb', if_true]; rfl
      have e2 : aCd 6 x y d = takeC d.s := by simp only [aCd, aC, hb', if_true]; rfl
      have e3 : aVd 6 x y d = takeV d.s := by simp only [aVd, aV, hb', if_true]; rfl
      rw [e1, e2, e3]
      exact lin6 v d x y w h hr hf ht hst h4
    · have e1 : aD 7 x y d = ⟨d.n, d.zs, d.s, putL d.q d.q.length y⟩ := by simp only [aD, aN, aZ, aS, aQ, hb', if_true]; rfl
      have e2 : aCd 7 x y d = putC d.q y := by simp only [aCd, aC, hb', if_true]; rfl
      have e3 : aVd 7 x y d = 0 := by simp only [aVd, aV, hb', if_true]; rfl
      rw [e1, e2, e3]
      exact lin7 v d x y w h hr hf ht hst h4
    · have e1 : aD 8 x y d = ⟨d.n, d.zs, d.s, takeL d.q⟩ := by simp only [aD, aN, aZ, aS, aQ, hb', if_true]; rfl
      have e2 : aCd 8 x y d = takeC d.q := by simp only [aCd, aC, hb', if_true]; rfl
      have e3 : aVd 8 x y d = takeV d.q := by simp only [aVd, aV, hb', if_true]; rfl
      rw [e1, e2, e3]
      exact lin8 v d x y w h hr hf ht hst h4
    · have e1 : aD 9 x y d = d := by simp only [aD, aN, aZ, aS, aQ, hb', if_true]; rfl
      have e2 : aCd 9 x y d = nextC d.zs d.n x := by simp only [aCd, aC, hb', if_true]; rfl
      have e3 : aVd 9 x y d = nextV d.zs d.n x := by simp only [aVd, aV, hb', if_true]; rfl
      rw [e1, e2, e3]
      exact lin9 v d x y w h hr hf ht hst h4
    · have e1 : aD 10 x y d = d := by simp only [aD, aN, aZ, aS, aQ, hb', if_true]; rfl
      have e2 : aCd 10 x y d = 2 := by simp only [aCd, aC, hb', if_true]; rfl
      have e3 : aVd 10 x y d = cntV d.zs d.n x := by simp only [aVd, aV, hb', if_true]; rfl
      rw [e1, e2, e3]
      exact lin10 v d x y w h hr hf ht hst h4
    · have e1 : aD 11 x y d = d := by simp only [aD, aN, aZ, aS, aQ, hb', if_true]; rfl
      have e2 : aCd 11 x y d = firstC d.s := by simp only [aCd, aC, hb', if_true]; rfl
      have e3 : aVd 11 x y d = firstV d.s := by simp only [aVd, aV, hb', if_true]; rfl
      rw [e1, e2, e3]
      exact lin11 v d x y w h hr hf ht hst h4
    · have e1 : aD 12 x y d = d := by simp only [aD, aN, aZ, aS, aQ, hb', if_true]; rfl
      have e2 : aCd 12 x y d = firstC d.q := by simp only [aCd, aC, hb', if_true]; rfl
      have e3 : aVd 12 x y d = firstV d.q := by simp only [aVd, aV, hb', if_true]; rfl
      rw [e1, e2, e3]
      exact lin12 v d x y w h hr hf ht hst h4

theorem ptN_le2 (zs : List Int) (n : Nat) (x y : Int) (h : n ≤ 1048576) : ptN zs n x y ≤ 1048576 := by
  unfold ptN
  split
  · rename_i hp
    have h8 := (okM_iff.1 (show okM zs n = true by unfold ptOk at hp; rw [Bool.and_eq_true] at hp; exact hp.1)).1
    split
    · exact h
    · split <;> omega
  · omega
theorem putL_le2 (zs : List Int) (i : Nat) (x : Int) (h : zs.length ≤ 1048576) : (putL zs i x).length ≤ 1048576 := by
  by_cases hk : okL zs = true
  · have := okL_len hk
    have := putL_len zs i x
    omega
  · have : putL zs i x = [] := by simp [putL, hk]
    rw [this]; simp
theorem aD_few {k x y : Int} {d : LD} (h : Few d) : Few (aD k x y d) := by
  have z : ∀ (b : Bool) (p q : Nat), p ≤ 1048576 → q ≤ 1048576 → (if b = true then p else q) ≤ 1048576 := fun b p q h1 h2 => by split <;> assumption
  refine ⟨?_, ?_, ?_⟩
  · show (if apOk k x y d.n d.zs d.s d.q = true then fN k x y d.n d.zs else 0) ≤ 1048576
    refine z _ _ _ ?_ (by omega)
    unfold fN
    split
    · exact ptN_le2 _ _ _ _ h.m
    · split
      · exact Nat.le_trans (delN_le _ _ _) h.m
      · exact h.m
  · show (if apOk k x y d.n d.zs d.s d.q = true then fS k y d.s else []).length ≤ 1048576
    split
    · unfold fS
      split
      · exact putL_le2 _ _ _ h.s
      · split
        · exact Nat.le_trans (takeL_len _) h.s
        · exact h.s
    · simp
  · show (if apOk k x y d.n d.zs d.s d.q = true then fQ k y d.q else []).length ≤ 1048576
    split
    · unfold fQ
      split
      · exact putL_le2 _ _ _ h.q
      · split
        · exact Nat.le_trans (takeL_len _) h.q
        · exact h.q
    · simp

end Go.Proofs.YtklpdpdjblakgaaDoor

/- LOp -/
namespace Go.Proofs.YtklpdpdjblakgaaDoor
open Go.RowKit
set_option linter.unusedVariables false

/-- What a draw of what is asked answers. -/
def DrawnO (R p : Nat) (w : World) (e : Ending) (w' : World) : Prop := ∃ (k x y : Int) (q : Nat), e = .returned (.agg #[.int .i64 k, .int .i64 x, .int .i64 y]) ∧ Rd w' R q ∧ q ≤ p + 20 ∧ KB R w w'

/-- What is asked, under way, in a block of its own, and the block of the answer. -/
structure OI (R b g p n : Nat) (w W : World) : Prop where
  op : ∃ k x y : Int, W.heap[g]? = some (.cells #[.int .i64 k, .int .i64 x, .int .i64 y] 41)
  res : W.heap[b]? = some (.cells #[.int .i64 0, .int .i64 0, .int .i64 0] 41)
  rd : ∃ q, Rd W R q ∧ q ≤ p + n
  kb : KB R w W
  lo : R < w.heap.size ∧ w.heap.size ≤ b ∧ b < g

theorem OI.more {R b g p n m : Nat} {w W : World} (h : OI R b g p n w W) (hm : n ≤ m) : OI R b g p m w W :=
  ⟨h.op, h.res, by obtain ⟨q, hr, hq⟩ := h.rd; exact ⟨q, hr, by omega⟩, h.kb, h.lo⟩

theorem OI.pick {R b g p n q : Nat} {w W W' : World} (h : OI R b g p n w W) (hp : Picked R (q + 1) W W') (hr : Rd W R q) (hq : q ≤ p + n) : OI R b g p (n + 1) w W' :=
  have hlo := h.lo
  ⟨by obtain ⟨k, x, y, e⟩ := h.op; exact ⟨k, x, y, (heap_picked hp (by omega)).trans e⟩, (heap_picked hp (by omega)).trans h.res, ⟨q + 1, rd_picked hr hp, by omega⟩, h.kb.trans (KB.of_picked hp), hlo⟩

theorem block_lt {W : World} {g : Nat} {o : Obj} (h : W.heap[g]? = some o) : g < W.heap.size := (Array.getElem?_eq_some_iff.1 h).1

theorem OI.alloc {R b g p n : Nat} {w W : World} (h : OI R b g p n w W) (o : Obj) : OI R b g p n w (W.alloc o) :=
  have hlo := h.lo
  have A := al1 W o
  ⟨by obtain ⟨k, x, y, e⟩ := h.op; exact ⟨k, x, y, (A.block g (block_lt e)).trans e⟩, (A.block b (block_lt h.res)).trans h.res, by obtain ⟨q, hr, hq⟩ := h.rd; exact ⟨q, rd_below hr A, hq⟩, h.kb.trans (KB.of_below A (by have := h.kb.size; omega)), hlo⟩

theorem OI.store {R b g p n : Nat} {w W : World} (h : OI R b g p n w W) (i : Nat) (v : Int) : OI R b g p n w (W.setCell ⟨g, i, none⟩ (.int .i64 v)) := by
  have hlo := h.lo
  refine ⟨?_, ?_, ?_, ?_, hlo⟩
  · obtain ⟨k, x, y, e⟩ := h.op
    have e2 := Joins.block_setCell (i := i) e (.int .i64 v)
    rcases i with _ | _ | _ | i
    · exact ⟨v, x, y, by simpa using e2⟩
    · exact ⟨k, v, y, by simpa using e2⟩
    · exact ⟨k, x, v, by simpa using e2⟩
    · exact ⟨k, x, y, by simpa using e2⟩
  · have : (W.setCell ⟨g, i, none⟩ (.int .i64 v)).heap[b]? = W.heap[b]? := ((Below.refl (b + 1) W).setCell (p := ⟨g, i, none⟩) (by show b + 1 ≤ g; omega) (.int .i64 v)).block b (by omega)
    exact this.trans h.res
  · obtain ⟨q, hr, hq⟩ := h.rd
    exact ⟨q, rd_setCell hr (by omega) _, hq⟩
  · exact kb_setCell h.kb (Nat.le_refl _) (by omega) (by omega) _

theorem cell_block2 {W : World} {g : Nat} {x y z : Value} {xs : List Value} {t : TypeId} (h : W.heap[g]? = some (.cells ⟨x :: y :: z :: xs⟩ t)) : W.cell? ⟨g, 2, none⟩ = some z := by simp [World.cell?, h]

theorem Tryd.info41 : (Tryd.prog.info? 41).map (·.size) = some 3 := by kernel_rfl

set_option maxRecDepth 20000 in
set_option maxHeartbeats 2000000 in
theorem op_any (R p : Nat) (n : Int) (w : World) (hr : Rd w R p) (hRw : R < w.heap.size) (hp : p ≤ 900000) (hn : 1 ≤ n) (hn2 : n ≤ 1000) :
    Calls Tryd.prog 60 #[.pointer (some ⟨R, 0, none⟩), .int .i64 n] w (DrawnO R p w) := by
  go_enter Tryd.func60, Tryd.ntmps60
  go_wp2_with fail
  obtain ⟨W0, hW0⟩ : ∃ W0, W0 = (w.alloc (.cells #[.int .i64 0, .int .i64 0, .int .i64 0] 41)).alloc (.cells #[.int .i64 1, .int .i64 2, .int .i64 2, .int .i64 2, .int .i64 3, .int .i64 3, .int .i64 4, .int .i64 5, .int .i64 5, .int .i64 6, .int .i64 7, .int .i64 7, .int .i64 8, .int .i64 9, .int .i64 10, .int .i64 10, .int .i64 11, .int .i64 12] 3) := ⟨_, rfl⟩
  rw [← hW0]
  have A1 := al1 w (.cells #[.int .i64 0, .int .i64 0, .int .i64 0] 41)
  have A2 := al1 (w.alloc (.cells #[.int .i64 0, .int .i64 0, .int .i64 0] 41)) (.cells #[.int .i64 1, .int .i64 2, .int .i64 2, .int .i64 2, .int .i64 3, .int .i64 3, .int .i64 4, .int .i64 5, .int .i64 5, .int .i64 6, .int .i64 7, .int .i64 7, .int .i64 8, .int .i64 9, .int .i64 10, .int .i64 10, .int .i64 11, .int .i64 12] 3)
  have hr0 : Rd W0 R p := by rw [hW0]; exact rd_below (rd_below hr A1) A2
  have hK0 : KB R w W0 := by rw [hW0]; exact (KB.of_below A1 (by omega)).trans (KB.of_below A2 (by simp; omega))
  have hz0 : W0.heap.size = w.heap.size + 2 := by rw [hW0]; simp
  have hres : W0.heap[w.heap.size]? = some (.cells #[.int .i64 0, .int .i64 0, .int .i64 0] 41) := by
    rw [hW0, A2.block _ (by simp)]; exact new_block w _
  have hlit : ∀ k, k < 18 → ∃ x : Int, W0.cell? ⟨w.heap.size + 1, k, none⟩ = some (.int .i64 x) := by
    intro k hk
    rw [hW0]
    have := lit_new (w.alloc (.cells #[.int .i64 0, .int .i64 0, .int .i64 0] 41)) [1, 2, 2, 2, 3, 3, 4, 5, 5, 6, 7, 7, 8, 9, 10, 10, 11, 12] (k := k) (by simpa using hk)
    simpa using this
  clear hW0 A1 A2
  refine (pick_any R p 18 _ hr0 (by omega) (by omega) (by omega)).mono ?_
  rintro e w1 ⟨k0, ⟨hk0, hk1⟩, rfl, hpk⟩
  obtain ⟨k0, rfl⟩ := Int.eq_ofNat_of_zero_le hk0
  obtain ⟨kind, hkind⟩ := hlit k0 (by omega)
  have hk18 : k0 < 18 := by omega
  have hx1 : w1.cell? ⟨w.heap.size + 1, k0, none⟩ = some (.int .i64 kind) := (KB.of_picked hpk).cell hkind (by omega)
  have hsz1 : w1.heap.size = w.heap.size + 2 := (picked_size' hpk).trans hz0
  have O1 : Hid (OI R w.heap.size (w.heap.size + 2) p 1 w (w1.alloc (.cells #[.int .i64 kind, .int .i64 0, .int .i64 0] 41))) := by
    have B := al1 w1 (.cells #[.int .i64 kind, .int .i64 0, .int .i64 0] 41)
    have hres1 := (heap_picked hpk (g := w.heap.size) (by omega)).trans hres
    refine ⟨⟨kind, 0, 0, by have := new_block w1 (.cells #[.int .i64 kind, .int .i64 0, .int .i64 0] 41); rwa [hsz1] at this⟩, (B.block _ (by omega)).trans hres1, ⟨p + 1, rd_below (rd_picked hr0 hpk) B, by omega⟩, (hK0.trans (KB.of_picked hpk)).trans (KB.of_below B (by omega)), by omega⟩
  clear hpk hkind hlit hr0 hK0 hres hk0 hk1 hr
  go_upto_region 2 with fail
  generalize w1.alloc (.cells #[.int .i64 kind, .int .i64 0, .int .i64 0] 41) = W1 at O1 ⊢
  clear hx1
  go_cut [19] (fun s19 wx => (∃ b, s19 = .bool b) ∧ wx = W1)
  case first =>
    obtain ⟨k, x, y, e⟩ := O1.out.op
    have c0 : W1.cell? ⟨w.heap.size + 2, 0, none⟩ = some (.int .i64 k) := cell_block0 e
    cases h5 : (k == 5)
    · cases h7 : (k == 7)
      · go_wp2_with fail
        go_meet
        exact ⟨⟨_, rfl⟩, rfl⟩
      · go_wp2_with fail
        go_meet
        exact ⟨⟨_, rfl⟩, rfl⟩
    · go_wp2_with fail
      go_meet
      exact ⟨⟨_, rfl⟩, rfl⟩
  case rest =>
  obtain ⟨⟨b1, rfl⟩, rfl⟩ := hcut
  go_upto_if 19 with fail
  go_cut [] (fun wx => Hid (OI R w.heap.size (w.heap.size + 2) p 2 w wx))
  case first =>
    cases b1
    · go_wp2_with fail
      go_meet
      exact O1.out.more (by omega)
    · obtain ⟨q, hrq, hq⟩ := O1.out.rd
      go_wp2_with fail
      refine (pick_any R q 20 _ hrq (by omega) (by omega) (by omega)).mono ?_
      rintro e w2 ⟨v, hv, rfl, hpk⟩
      have O2 := O1.out.pick hpk hrq hq
      obtain ⟨k, x, y, e⟩ := O2.op
      have c2 := cell_block2 e
      have f2 := frozen_block e 2
      go_wp2_with fail
      go_meet
      exact O2.store 2 v
  case rest =>
  go_upto_region 4 with fail
  go_cut [35] (fun s35 wx => (∃ b, s35 = .bool b) ∧ Hid (OI R w.heap.size (w.heap.size + 2) p 2 w wx))
  case first =>
    obtain ⟨k, x, y, e⟩ := hcut.out.op
    have c0 := cell_block0 e
    by_cases h4 : k < 4
    · go_wp2_with fail
      go_meet
      exact ⟨⟨_, rfl⟩, hcut⟩
    · cases h9 : (k == 9)
      · cases h10 : (k == 10)
        · go_wp2_with fail
          go_meet
          exact ⟨⟨_, rfl⟩, hcut⟩
        · go_wp2_with fail
          go_meet
          exact ⟨⟨_, rfl⟩, hcut⟩
      · go_wp2_with fail
        go_meet
        exact ⟨⟨_, rfl⟩, hcut⟩
  case rest =>
  obtain ⟨⟨b2, rfl⟩, O2⟩ := hcut
  go_upto_if 35 with fail
  go_cut [] (fun wx => Hid (OI R w.heap.size (w.heap.size + 2) p 7 w wx))
  case first =>
    cases b2
    · go_wp2_with fail
      go_meet
      exact O2.out.more (by omega)
    · skip
      obtain ⟨qw3, hrw3, hqw3⟩ := O2.out.rd
      go_wp2_with fail
      refine (pick_any R qw3 4 _ hrw3 (by omega) (by omega) (by omega)).mono ?_
      rintro e w3 ⟨v1, hv1, rfl, hpkw3⟩
      have O3 : Hid (OI R w.heap.size (w.heap.size + 2) p _ w w3) := O2.out.pick hpkw3 hrw3 hqw3
      obtain ⟨qw4, hrw4, hqw4⟩ := O3.out.rd
      go_wp2_with fail
      refine (pick_any R qw4 4 _ hrw4 (by omega) (by omega) (by omega)).mono ?_
      rintro e w4 ⟨v2, hv2, rfl, hpkw4⟩
      have O4 : Hid (OI R w.heap.size (w.heap.size + 2) p _ w w4) := O3.out.pick hpkw4 hrw4 hqw4
      obtain ⟨qw5, hrw5, hqw5⟩ := O4.out.rd
      go_wp2_with fail
      refine (pick_any R qw5 8 _ hrw5 (by omega) (by omega) (by omega)).mono ?_
      rintro e w5 ⟨v3, hv3, rfl, hpkw5⟩
      have O5 : Hid (OI R w.heap.size (w.heap.size + 2) p _ w w5) := O4.out.pick hpkw5 hrw5 hqw5
      obtain ⟨qw6, hrw6, hqw6⟩ := O5.out.rd
      go_wp2_with fail
      refine (pick_any R qw6 100 _ hrw6 (by omega) (by omega) (by omega)).mono ?_
      rintro e w6 ⟨v4, hv4, rfl, hpkw6⟩
      have O6 : Hid (OI R w.heap.size (w.heap.size + 2) p _ w w6) := O5.out.pick hpkw6 hrw6 hqw6
      have OL : Hid (OI R w.heap.size (w.heap.size + 2) p _ w (w6.alloc (.cells #[.int .i64 v1, .int .i64 v2, .int .i64 v3, .int .i64 v4] 3))) := O6.out.alloc _
      obtain ⟨ql, hrl, hql⟩ := OL.out.rd
      have hlt := block_lt O6.out.res
      have hlo := O6.out.lo
      go_wp2_with fail
      refine (pick_any R ql 4 _ hrl (by omega) (by omega) (by omega)).mono ?_
      rintro e wl ⟨j, ⟨hj0, hj1⟩, rfl, hpkl⟩
      obtain ⟨j, rfl⟩ := Int.eq_ofNat_of_zero_le hj0
      have hj : j < 4 := by omega
      obtain ⟨z, hz⟩ := lit_new w6 [v1, v2, v3, v4] (k := j) (by simp; omega)
      have hzl : wl.cell? ⟨w6.heap.size, j, none⟩ = some (.int .i64 z) := (KB.of_picked hpkl).cell hz (by omega)
      have OM := OL.out.pick hpkl hrl hql
      obtain ⟨kk, xx, yy, ee⟩ := OM.op
      have c := cell_block1 ee
      have f := frozen_block ee 1
      clear hz hpkl hrl hql OL
      go_wp2_with fail
      go_meet
      exact (OM.store 1 z).more (by omega)
  case rest =>
  have O7 := hcut
  clear hcut
  go_upto_region 6 with fail
  go_cut [52] (fun s52 wx => (∃ b, s52 = .bool b) ∧ Hid (OI R w.heap.size (w.heap.size + 2) p 7 w wx))
  case first =>
    obtain ⟨k, x, y, e⟩ := O7.out.op
    have c0 := cell_block0 e
    go_wp2_with fail
    go_meet
    exact ⟨⟨_, rfl⟩, O7⟩
  case rest =>
  obtain ⟨⟨b3, rfl⟩, O8⟩ := hcut
  go_upto_if 52 with fail
  go_cut [] (fun wx => Hid (OI R w.heap.size (w.heap.size + 2) p 8 w wx))
  case first =>
    cases b3
    · go_wp2_with fail
      go_meet
      exact O8.out.more (by omega)
    · skip
      obtain ⟨qw9, hrw9, hqw9⟩ := O8.out.rd
      go_wp2_with fail
      refine (pick_any R qw9 20 _ hrw9 (by omega) (by omega) (by omega)).mono ?_
      rintro e w9 ⟨v1, hv1, rfl, hpkw9⟩
      have O9 : Hid (OI R w.heap.size (w.heap.size + 2) p _ w w9) := O8.out.pick hpkw9 hrw9 hqw9
      obtain ⟨kk, xx, yy, ee⟩ := O9.out.op
      have c := cell_block2 ee
      have f := frozen_block ee 2
      go_wp2_with fail
      go_meet
      exact O9.out.store 2 v1
  case rest =>
  have O10 := hcut
  clear hcut
  obtain ⟨qo, hro, hqo⟩ := O10.out.rd
  go_wp2_with fail
  refine (odd_any R qo n _ hro (by omega) (by omega) (by omega)).mono ?_
  rintro e wo ⟨od, rfl, hpko⟩
  have O11 : Hid (OI R w.heap.size (w.heap.size + 2) p _ w wo) := O10.out.pick hpko hro hqo
  clear hpko hro hqo O10
  go_upto_if 58 with fail
  go_cut [] (fun wx => Hid (OI R w.heap.size (w.heap.size + 2) p 12 w wx))
  case first =>
    cases od
    · go_wp2_with fail
      go_meet
      exact O11.out.more (by omega)
    · skip
      obtain ⟨qw12, hrw12, hqw12⟩ := O11.out.rd
      go_wp2_with fail
      refine (pick_any R qw12 3 _ hrw12 (by omega) (by omega) (by omega)).mono ?_
      rintro e w12 ⟨v3, hv3, rfl, hpkw12⟩
      have O12 : Hid (OI R w.heap.size (w.heap.size + 2) p _ w w12) := O11.out.pick hpkw12 hrw12 hqw12
      have h3 : v3 = 0 ∨ v3 = 1 ∨ v3 = 2 := by omega
      rcases h3 with rfl | rfl | rfl
      · skip
        obtain ⟨qw13, hrw13, hqw13⟩ := O12.out.rd
        go_wp2_with fail
        refine (pick_any R qw13 12 _ hrw13 (by omega) (by omega) (by omega)).mono ?_
        rintro e w13 ⟨v4, hv4, rfl, hpkw13⟩
        have O13 : Hid (OI R w.heap.size (w.heap.size + 2) p _ w w13) := O12.out.pick hpkw13 hrw13 hqw13
        have h13 : IntKind.i64.wrap (1 + v4) = 1 + v4 := wrap_i64_small _ (by omega) (by omega)
        have OL : Hid (OI R w.heap.size (w.heap.size + 2) p _ w (w13.alloc (.cells #[.int .i64 0, .int .i64 13, .int .i64 (-1), .int .i64 (1 + v4)] 3))) := O13.out.alloc _
        obtain ⟨ql, hrl, hql⟩ := OL.out.rd
        have hlt := block_lt O13.out.res
        have hlo := O13.out.lo
        go_wp2_with fail
        refine (pick_any R ql 4 _ hrl (by omega) (by omega) (by omega)).mono ?_
        rintro e wl ⟨j, ⟨hj0, hj1⟩, rfl, hpkl⟩
        obtain ⟨j, rfl⟩ := Int.eq_ofNat_of_zero_le hj0
        have hj : j < 4 := by omega
        obtain ⟨z, hz⟩ := lit_new w13 [0, 13, -1, 1 + v4] (k := j) (by simp; omega)
        have hzl : wl.cell? ⟨w13.heap.size, j, none⟩ = some (.int .i64 z) := (KB.of_picked hpkl).cell hz (by omega)
        have OM := OL.out.pick hpkl hrl hql
        obtain ⟨kk, xx, yy, ee⟩ := OM.op
        have c := cell_block0 ee
        have f := frozen_block ee 0
        clear hz hpkl hrl hql OL
        go_wp2_with fail
        go_meet
        exact (OM.store 0 z).more (by omega)
      · skip
        have OL : Hid (OI R w.heap.size (w.heap.size + 2) p _ w (w12.alloc (.cells #[.int .i64 (-1), .int .i64 100, .int .i64 3] 3))) := O12.out.alloc _
        obtain ⟨ql, hrl, hql⟩ := OL.out.rd
        have hlt := block_lt O12.out.res
        have hlo := O12.out.lo
        go_wp2_with fail
        refine (pick_any R ql 3 _ hrl (by omega) (by omega) (by omega)).mono ?_
        rintro e wl ⟨j, ⟨hj0, hj1⟩, rfl, hpkl⟩
        obtain ⟨j, rfl⟩ := Int.eq_ofNat_of_zero_le hj0
        have hj : j < 3 := by omega
        obtain ⟨z, hz⟩ := lit_new w12 [-1, 100, 3] (k := j) (by simp; omega)
        have hzl : wl.cell? ⟨w12.heap.size, j, none⟩ = some (.int .i64 z) := (KB.of_picked hpkl).cell hz (by omega)
        have OM := OL.out.pick hpkl hrl hql
        obtain ⟨kk, xx, yy, ee⟩ := OM.op
        have c := cell_block1 ee
        have f := frozen_block ee 1
        clear hz hpkl hrl hql OL
        go_wp2_with fail
        go_meet
        exact (OM.store 1 z).more (by omega)
      · skip
        have OL : Hid (OI R w.heap.size (w.heap.size + 2) p _ w (w12.alloc (.cells #[.int .i64 (-1), .int .i64 1000, .int .i64 3] 3))) := O12.out.alloc _
        obtain ⟨ql, hrl, hql⟩ := OL.out.rd
        have hlt := block_lt O12.out.res
        have hlo := O12.out.lo
        go_wp2_with fail
        refine (pick_any R ql 3 _ hrl (by omega) (by omega) (by omega)).mono ?_
        rintro e wl ⟨j, ⟨hj0, hj1⟩, rfl, hpkl⟩
        obtain ⟨j, rfl⟩ := Int.eq_ofNat_of_zero_le hj0
        have hj : j < 3 := by omega
        obtain ⟨z, hz⟩ := lit_new w12 [-1, 1000, 3] (k := j) (by simp; omega)
        have hzl : wl.cell? ⟨w12.heap.size, j, none⟩ = some (.int .i64 z) := (KB.of_picked hpkl).cell hz (by omega)
        have OM := OL.out.pick hpkl hrl hql
        obtain ⟨kk, xx, yy, ee⟩ := OM.op
        have c := cell_block2 ee
        have f := frozen_block ee 2
        clear hz hpkl hrl hql OL
        go_wp2_with fail
        go_meet
        exact (OM.store 2 z).more (by omega)
  case rest =>
  have O14 := hcut
  obtain ⟨k, x, y, e⟩ := O14.out.op
  have c0 := cell_block0 e
  have c1 := cell_block1 e
  have c2 := cell_block2 e
  have d0 := cell_block0 O14.out.res
  have d1 := cell_block1 O14.out.res
  have d2 := cell_block2 O14.out.res
  have f0 := frozen_block O14.out.res 0
  have f1 := frozen_block O14.out.res 1
  have f2 := frozen_block O14.out.res 2
  clear hcut
  go_wp2_with fail
  have hlo := O14.out.lo
  obtain ⟨q, hrq, hqq⟩ := O14.out.rd
  have b1 := Joins.block_setCell (i := 0) O14.out.res (.int .i64 k)
  have b2 := Joins.block_setCell (i := 1) b1 (.int .i64 x)
  have b3 := Joins.block_setCell (i := 2) b2 (.int .i64 y)
  refine bodyPost_ret (results_cell_row Tryd.results60 _ _ _ _ _ _ _ rfl b3 Tryd.underlying41 rfl Tryd.info41) rfl ?_
  exact ⟨k, x, y, q, by simp, rd_setCell (rd_setCell (rd_setCell hrq (by omega) _) (by omega) _) (by omega) _, by omega,
    kb_setCell (kb_setCell (kb_setCell O14.out.kb (Nat.le_refl _) (by omega) (by omega) _) (Nat.le_refl _) (by omega) (by omega) _) (Nat.le_refl _) (by omega) (by omega) _⟩

end Go.Proofs.YtklpdpdjblakgaaDoor

/- LMap -/
namespace Go.Proofs.YtklpdpdjblakgaaDoor
open Go.RowKit
set_option linter.unusedVariables false
set_option linter.unusedSimpArgs false

/-- Entries in blocks from B on. -/
def OwnR (B N : Nat) (W : World) (a : Option Addr) (n c : Nat) (L : List Int) : Prop := W.ownsRow B 84 2 (.slice a n c) n (L.map (Value.int .i64)) ∧ n ≤ N + 1
def GoodM (B N : Nat) (W : World) (g : Nat) : Prop := ∃ a n c L, W.heap[g]? = some (.cells #[.slice a n c] 33) ∧ OwnR B N W a n c L
def ResB (W : World) (g : Nat) : Prop := ∃ C D : Int, W.heap[g]? = some (.cells #[.int .i64 C, .int .i64 D] 37)
/-- What one operation of the region may turn: the reader; what it has made itself, as it should be. -/
structure TT (R B N : Nat) (W W' : World) : Prop where
  size : W.heap.size ≤ W'.heap.size
  block : ∀ c, c < W.heap.size → c ≠ R → W'.heap[c]? = W.heap[c]? ∨ ((∃ x, W.heap[c]? = some (.cells #[x] 33)) ∧ GoodM B N W' c) ∨ (ResB W c ∧ ResB W' c)

theorem TT.of_kb {R B N : Nat} {W W' : World} (h : KB R W W') : TT R B N W W' := ⟨h.size, fun c hc hn => .inl (h.block c hc hn)⟩

theorem OwnR.keep {R B N : Nat} {W W' : World} {a : Option Addr} {n c : Nat} {L : List Int} (h : OwnR B N W a n c L) (hR : R < B) (t : TT R B N W W') : OwnR B N W' a n c L := by
  refine ⟨own_block h.1 (fun g hg => ?_), h.2⟩
  obtain ⟨hb, hl, cur, hh⟩ := own_typed h.1 hg
  rcases t.block g hl (by omega) with e | ⟨⟨x, e⟩, _⟩ | ⟨⟨C, D, e⟩, _⟩
  · exact e
  · exact absurd (cells_type hh e) (by decide)
  · exact absurd (cells_type hh e) (by decide)
theorem GoodM.keep {R B N : Nat} {W W' : World} {g : Nat} (h : GoodM B N W g) (hR : R < B) (hg : B ≤ g) (t : TT R B N W W') : GoodM B N W' g := by
  obtain ⟨a, n, c, L, hh, ho⟩ := h
  have hl : g < W.heap.size := (Array.getElem?_eq_some_iff.1 hh).1
  rcases t.block g hl (by omega) with e | ⟨_, e⟩ | ⟨⟨C, D, e⟩, _⟩
  · exact ⟨a, n, c, L, e.trans hh, ho.keep hR t⟩
  · exact e
  · exact absurd (cells_type hh e) (by decide)
theorem ResB.keep {R B N : Nat} {W W' : World} {g : Nat} (h : ResB W g) (hR : R < B) (hg : B ≤ g) (t : TT R B N W W') : ResB W' g := by
  obtain ⟨C, D, hh⟩ := h
  have hl : g < W.heap.size := (Array.getElem?_eq_some_iff.1 hh).1
  rcases t.block g hl (by omega) with e | ⟨⟨x, e⟩, _⟩ | ⟨_, e⟩
  · exact ⟨C, D, e.trans hh⟩
  · exact absurd (cells_type hh e) (by decide)
  · exact e
theorem Lit.keep {R B N : Nat} {W W' : World} {g n : Nat} (h : Lit B W g n) (hR : R < B) (t : TT R B N W W') : Lit B W' g n := by
  obtain ⟨hb, xs, hx, hh⟩ := h
  have hl : g < W.heap.size := (Array.getElem?_eq_some_iff.1 hh).1
  rcases t.block g hl (by omega) with e | ⟨⟨x, e⟩, _⟩ | ⟨⟨C, D, e⟩, _⟩
  · exact ⟨hb, xs, hx, e.trans hh⟩
  · exact absurd (cells_type hh e) (by decide)
  · exact absurd (cells_type hh e) (by decide)
/-- What each operation leaves. -/
def VM (R B N : Nat) (am : Option Addr) (cm : Nat) : Nat → Value → World → Prop
  | 0, v, _ => v = .agg #[.slice am N cm]
  | 1, v, _ => v = .pointer (some ⟨R, 0, none⟩)
  | 3, v, _ => v = .pointer (some ⟨R, 0, none⟩)
  | 6, v, _ => v = .pointer (some ⟨R, 0, none⟩)
  | 10, v, _ => v = .pointer (some ⟨R, 0, none⟩)
  | 13, v, _ => v = .pointer (some ⟨R, 0, none⟩)
  | 2, v, _ => ∃ k : Int, v = .int .i64 k ∧ 0 ≤ k ∧ k < 10
  | 4, v, _ => ∃ k : Int, v = .int .i64 k ∧ 0 ≤ k ∧ k < 100
  | 7, v, _ => ∃ k : Int, v = .int .i64 k ∧ 0 ≤ k ∧ k < 4
  | 11, v, _ => ∃ k : Int, v = .int .i64 k ∧ 0 ≤ k ∧ k < 10
  | 14, v, _ => ∃ k : Int, v = .int .i64 k ∧ 0 ≤ k ∧ k < 3
  | 5, v, W => ∃ g, v = .slice (some ⟨g, 0, none⟩) 4 4 ∧ Lit B W g 4
  | 12, v, W => ∃ g, v = .slice (some ⟨g, 0, none⟩) 3 3 ∧ Lit B W g 3
  | 8, v, W => ∃ g k n, v = .pointer (some ⟨g, k, none⟩) ∧ k < n ∧ Lit B W g n
  | 15, v, W => ∃ g k n, v = .pointer (some ⟨g, k, none⟩) ∧ k < n ∧ Lit B W g n
  | 9, v, _ => ∃ x : Int, v = .int .i64 x
  | 16, v, _ => ∃ x : Int, v = .int .i64 x
  | 17, v, W => ∃ a n c L, ∃ C D : Int, v = .tuple #[.agg #[.slice a n c], .agg #[.int .i64 C, .int .i64 D]] ∧ OwnR B N W a n c L
  | 18, v, W => ∃ a n c L, ∃ C D : Int, v = .tuple #[.agg #[.slice a n c], .agg #[.int .i64 C, .int .i64 D]] ∧ OwnR B N W a n c L
  | 19, v, W => ∃ a n c L, v = .agg #[.slice a n c] ∧ OwnR B N W a n c L
  | 20, v, _ => ∃ C D : Int, v = .agg #[.int .i64 C, .int .i64 D]
  | 21, v, W => ∃ g, v = .pointer (some ⟨g, 0, none⟩) ∧ B ≤ g ∧ GoodM B N W g
  | 22, v, W => ∃ g, v = .pointer (some ⟨g, 0, none⟩) ∧ B ≤ g ∧ ResB W g
  | _, _, _ => True

theorem vm_keep {R B N : Nat} {am : Option Addr} {cm : Nat} (hR : R < B) : ∀ i v W W', VM R B N am cm i v W → TT R B N W W' → VM R B N am cm i v W' := by
  intro i v W W' h t
  unfold VM at h ⊢
  split at h <;> first
    | exact h
    | exact (let ⟨g, e, l⟩ := h; ⟨g, e, l.keep hR t⟩)
    | exact (let ⟨g, k, n, e, hk, l⟩ := h; ⟨g, k, n, e, hk, l.keep hR t⟩)
    | exact (let ⟨a, n, c, L, C, D, e, o⟩ := h; ⟨a, n, c, L, C, D, e, o.keep hR t⟩)
    | exact (let ⟨a, n, c, L, e, o⟩ := h; ⟨a, n, c, L, e, o.keep hR t⟩)
    | exact (let ⟨g, e, hb, l⟩ := h; ⟨g, e, hb, l.keep hR hb t⟩)

theorem storeM_tt {R B N : Nat} {W : World} {g : Nat} {x : Value} (hh : W.heap[g]? = some (.cells #[x] 33)) {a : Option Addr} {n c : Nat} {L : List Int} (ho : OwnR B N W a n c L) : TT R B N W (W.setCell ⟨g, 0, none⟩ (.slice a n c)) := by
  refine ⟨by simp, fun b hb hn => ?_⟩
  by_cases e : b = g
  · subst e
    refine .inr (.inl ⟨⟨x, hh⟩, a, n, c, L, ?_, own_block ho.1 (fun k hk => ?_), ho.2⟩)
    · rw [Go.Joins.block_setCell hh]
      rfl
    · obtain ⟨_, _, cur, hc⟩ := own_typed ho.1 hk
      exact Below.heap_setCell W ⟨b, 0, none⟩ _ k (fun e2 => by
        have e3 : k = b := e2
        subst e3
        exact absurd (cells_type hc hh) (by decide))
  · exact .inl (Below.heap_setCell W ⟨g, 0, none⟩ _ b e)
theorem storeR_tt {R B N : Nat} {W : World} {g : Nat} {C D : Int} (hh : W.heap[g]? = some (.cells #[.int .i64 C, .int .i64 D] 37)) (C' D' : Int) : TT R B N W ((W.setCell ⟨g, 0, none⟩ (.int .i64 C')).setCell ⟨g, 1, none⟩ (.int .i64 D')) := by
  refine ⟨by simp, fun b hb hn => ?_⟩
  by_cases e : b = g
  · subst e
    refine .inr (.inr ⟨⟨C, D, hh⟩, C', D', ?_⟩)
    rw [Go.Joins.block_setCell (Go.Joins.block_setCell hh _)]
    rfl
  · exact .inl ((Below.heap_setCell _ ⟨g, 1, none⟩ _ b e).trans (Below.heap_setCell W ⟨g, 0, none⟩ _ b e))

end Go.Proofs.YtklpdpdjblakgaaDoor

/- LMap2 -/
namespace Go.Proofs.YtklpdpdjblakgaaDoor
open Go.RowKit
set_option linter.unusedVariables false
set_option linter.unusedSimpArgs false

/-- What a draw of entries answers. -/
def DrawnM (R p : Nat) (w : World) (e : Ending) (w' : World) : Prop :=
  ∃ (L : List Int) (N : Nat) (a : Option Addr) (c q : Nat), e = .returned (.agg #[.slice a N c]) ∧ w'.ownsRow w.heap.size 84 2 (.slice a N c) N (L.map (Value.int .i64)) ∧ N ≤ 9 ∧ Rd w' R q ∧ q ≤ p + 400 ∧ KB R w w'

/-- What stands in the loop. -/
structure LM (w : World) (R q : Nat) (L : List Int) (N : Nat) (a : Option Addr) (c : Nat) (W : World) : Prop where
  rd : Rd W R q
  kb : KB R w W
  z : W.cell? ⟨w.heap.size, 0, none⟩ = some (.slice none 0 0)
  zf : W.frozen? ⟨w.heap.size, 0, none⟩ = false
  m : W.cell? ⟨w.heap.size + 1, 0, none⟩ = some (.slice a N c)
  mf : W.frozen? ⟨w.heap.size + 1, 0, none⟩ = false
  own : W.ownsRow (w.heap.size + 2) 84 2 (.slice a N c) N (L.map (Value.int .i64))
  lt : R < w.heap.size

theorem LM.sz {w : World} {R q : Nat} {L : List Int} {N : Nat} {a : Option Addr} {c : Nat} {W : World} (h : LM w R q L N a c W) : w.heap.size + 1 < W.heap.size := World.block_lt_of_cell? W ⟨w.heap.size + 1, 0, none⟩ h.m

/-- Behind what turns the reader alone. -/
theorem LM.kept {w : World} {R q q' : Nat} {L : List Int} {N : Nat} {a : Option Addr} {c : Nat} {W W' : World} (h : LM w R q L N a c W) (k : KB R W W') (hr : Rd W' R q') : LM w R q' L N a c W' := by
  have hs := h.sz
  have hl := h.lt
  exact
  { rd := hr, kb := h.kb.trans k, z := k.cell h.z (by omega), zf := (k.frozen (by omega) (by omega)).trans h.zf, m := k.cell h.m (by omega), mf := (k.frozen (by omega) (by omega)).trans h.mf,
    own := own_block h.own (fun g hg => k.block g (own_typed h.own hg).2.1 (by have := (own_typed h.own hg).1; omega)), lt := h.lt }


/-- The operations of the round's one region. -/
def ops5 : Array Oper := #[{ dst := some 17, op := Op.load 33 (Operand.tmp 5), type := 33, pos := "l20_draw.go:42", after := #[], guard := none }, { dst := some 18, op := Op.move (Operand.tmp 0), type := 78, pos := "l20_draw.go:42", after := #[], guard := none }, { dst := some 19, op := Op.call { callee := Callee.value (Operand.func 82), args := #[Operand.tmp 18, Operand.const (Value.int IntKind.i64 10)], argTypes := #[78, 3] }, type := 3, pos := "l20_draw.go:42", after := #[{ on := 1, ground := Ground.data }], guard := none }, { dst := some 20, op := Op.move (Operand.tmp 0), type := 78, pos := "l20_draw.go:42", after := #[], guard := none }, { dst := some 21, op := Op.call { callee := Callee.value (Operand.func 82), args := #[Operand.tmp 20, Operand.const (Value.int IntKind.i64 100)], argTypes := #[78, 3] }, type := 3, pos := "l20_draw.go:42", after := #[{ on := 3, ground := Ground.data }, { on := 2, ground := Ground.chain }], guard := none }, { dst := some 22, op := Op.buildSlice 25 4 #[(0, Operand.tmp 19), (1, Operand.tmp 21), (2, Operand.const (Value.int IntKind.i64 0)), (3, Operand.const (Value.int IntKind.i64 99))], type := 25, pos := "l20_draw.go:42", after := #[{ on := 2, ground := Ground.data }, { on := 4, ground := Ground.data }], guard := none }, { dst := some 23, op := Op.move (Operand.tmp 0), type := 78, pos := "l20_draw.go:42", after := #[], guard := none }, { dst := some 24, op := Op.call { callee := Callee.value (Operand.func 82), args := #[Operand.tmp 23, Operand.const (Value.int IntKind.i64 4)], argTypes := #[78, 3] }, type := 3, pos := "l20_draw.go:42", after := #[{ on := 6, ground := Ground.data }, { on := 4, ground := Ground.chain }], guard := none }, { dst := some 25, op := Op.indexAddr 25 (Operand.tmp 22) (Operand.tmp 24), type := 0, pos := "l20_draw.go:42", after := #[{ on := 5, ground := Ground.data }, { on := 7, ground := Ground.data }], guard := none }, { dst := some 26, op := Op.load 3 (Operand.tmp 25), type := 3, pos := "l20_draw.go:42", after := #[{ on := 8, ground := Ground.data }], guard := none }, { dst := some 27, op := Op.move (Operand.tmp 0), type := 78, pos := "l20_draw.go:42", after := #[], guard := none }, { dst := some 28, op := Op.call { callee := Callee.value (Operand.func 82), args := #[Operand.tmp 27, Operand.const (Value.int IntKind.i64 10)], argTypes := #[78, 3] }, type := 3, pos := "l20_draw.go:42", after := #[{ on := 10, ground := Ground.data }, { on := 7, ground := Ground.chain }], guard := none }, { dst := some 29, op := Op.buildSlice 25 3 #[(0, Operand.tmp 28), (1, Operand.const (Value.int IntKind.i64 999)), (2, Operand.const (Value.int IntKind.i64 0))], type := 25, pos := "l20_draw.go:42", after := #[{ on := 11, ground := Ground.data }], guard := none }, { dst := some 30, op := Op.move (Operand.tmp 0), type := 78, pos := "l20_draw.go:42", after := #[], guard := none }, { dst := some 31, op := Op.call { callee := Callee.value (Operand.func 82), args := #[Operand.tmp 30, Operand.const (Value.int IntKind.i64 3)], argTypes := #[78, 3] }, type := 3, pos := "l20_draw.go:42", after := #[{ on := 13, ground := Ground.data }, { on := 11, ground := Ground.chain }], guard := none }, { dst := some 32, op := Op.indexAddr 25 (Operand.tmp 29) (Operand.tmp 31), type := 0, pos := "l20_draw.go:42", after := #[{ on := 12, ground := Ground.data }, { on := 14, ground := Ground.data }], guard := none }, { dst := some 33, op := Op.load 3 (Operand.tmp 32), type := 3, pos := "l20_draw.go:42", after := #[{ on := 15, ground := Ground.data }], guard := none }, { dst := some 34, op := Op.call { callee := Callee.value (Operand.func 37), args := #[Operand.tmp 17, Operand.tmp 26, Operand.tmp 33], argTypes := #[33, 3, 3] }, type := 55, pos := "l20_draw.go:42", after := #[{ on := 0, ground := Ground.data }, { on := 9, ground := Ground.data }, { on := 16, ground := Ground.data }, { on := 14, ground := Ground.chain }], guard := none }, { dst := some 16, op := Op.move (Operand.tmp 34), type := 55, pos := "l20_draw.go:42", after := #[{ on := 17, ground := Ground.data }], guard := none }, { dst := some 35, op := Op.extract (Operand.tmp 16) 0, type := 33, pos := "l20_draw.go:42", after := #[{ on := 18, ground := Ground.data }], guard := none }, { dst := some 36, op := Op.extract (Operand.tmp 16) 1, type := 37, pos := "l20_draw.go:42", after := #[{ on := 18, ground := Ground.data }, { on := 23, ground := Ground.gcOnly Departure.lateStores }], guard := none }, { dst := some 7, op := Op.alloc 33, type := 0, pos := "l20_draw.go:42", after := #[], guard := none }, { dst := some 8, op := Op.alloc 37, type := 0, pos := "l20_draw.go:42", after := #[], guard := none }, { dst := none, op := Op.store 33 (Operand.tmp 7) (Operand.tmp 35), type := 0, pos := "l20_draw.go:42", after := #[{ on := 21, ground := Ground.data }, { on := 19, ground := Ground.data }, { on := 17, ground := Ground.chain }, { on := 0, ground := Ground.phase }, { on := 1, ground := Ground.phase }, { on := 2, ground := Ground.phase }, { on := 3, ground := Ground.phase }, { on := 4, ground := Ground.phase }, { on := 5, ground := Ground.phase }, { on := 6, ground := Ground.phase }, { on := 7, ground := Ground.phase }, { on := 8, ground := Ground.phase }, { on := 9, ground := Ground.phase }, { on := 10, ground := Ground.phase }, { on := 11, ground := Ground.phase }, { on := 12, ground := Ground.phase }, { on := 13, ground := Ground.phase }, { on := 14, ground := Ground.phase }, { on := 15, ground := Ground.phase }, { on := 16, ground := Ground.phase }, { on := 17, ground := Ground.phase }, { on := 18, ground := Ground.phase }, { on := 19, ground := Ground.phase }, { on := 20, ground := Ground.textOnly Departure.lateStores }, { on := 21, ground := Ground.phase }, { on := 22, ground := Ground.phase }], guard := none }, { dst := none, op := Op.store 37 (Operand.tmp 8) (Operand.tmp 36), type := 0, pos := "l20_draw.go:42", after := #[{ on := 22, ground := Ground.data }, { on := 20, ground := Ground.data }, { on := 23, ground := Ground.chain }, { on := 0, ground := Ground.phase }, { on := 1, ground := Ground.phase }, { on := 2, ground := Ground.phase }, { on := 3, ground := Ground.phase }, { on := 4, ground := Ground.phase }, { on := 5, ground := Ground.phase }, { on := 6, ground := Ground.phase }, { on := 7, ground := Ground.phase }, { on := 8, ground := Ground.phase }, { on := 9, ground := Ground.phase }, { on := 10, ground := Ground.phase }, { on := 11, ground := Ground.phase }, { on := 12, ground := Ground.phase }, { on := 13, ground := Ground.phase }, { on := 14, ground := Ground.phase }, { on := 15, ground := Ground.phase }, { on := 16, ground := Ground.phase }, { on := 17, ground := Ground.phase }, { on := 18, ground := Ground.phase }, { on := 19, ground := Ground.phase }, { on := 20, ground := Ground.phase }, { on := 21, ground := Ground.phase }, { on := 22, ground := Ground.phase }, { on := 23, ground := Ground.phase }], guard := none }]

set_option maxRecDepth 20000 in
set_option maxHeartbeats 20000000 in
theorem hop5 {R N c q : Nat} {a : Option Addr} {L : List Int} {w wr : World} {a0 : Act} {Q : Exit → Act → World → Prop} (hRw : R < w.heap.size) (hsz : w.heap.size + 1 < wr.heap.size) (HI : LM w R q L N a c wr) (hN : N ≤ 8) (hqb : q ≤ 990000)
    (e0 : a0.eval (.tmp 0) = .pointer (some ⟨R, 0, none⟩)) (e5 : a0.eval (.tmp 5) = .pointer (some ⟨w.heap.size + 1, 0, none⟩)) :
    ∀ (i : Nat) (o : Oper) (f : Nat) (W1 : Act) (W : World), i < 25 → ops5[i]? = some o → (∃ q', Rd W R q' ∧ q' + (f + 1) ≤ q + 25 ∧ KB R wr W) →
      (∀ e ∈ o.after, Region.binds .any e = true → ∀ oj, ops5[e.on]? = some oj → ∃ v, VM R wr.heap.size N a c e.on v W ∧ ∀ d, oj.dst = some d → W1.eval (.tmp d) = v) →
      (∀ d, (∀ oj ∈ ops5.toList, oj.dst ≠ some d) → W1.eval (.tmp d) = a0.eval (.tmp d)) → Oper.wp Tryd.prog o W1 W (fun a' w' => ∃ v, a' = W1.put o.dst v ∧ VM R wr.heap.size N a c i v w' ∧ (∃ q', Rd w' R q' ∧ q' + f ≤ q + 25 ∧ KB R wr w') ∧ TT R wr.heap.size N W w') Q := by
  intro i o f W1 W hi ho hI hdep hfix
  obtain ⟨q', hr, hq', hkb⟩ := hI
  have h0 := eval_tmp ((hfix 0 (dst_none (by kernel_rfl))).trans e0)
  have h5 := eval_tmp ((hfix 5 (dst_none (by kernel_rfl))).trans e5)
  have hm : W.cell? ⟨w.heap.size + 1, 0, none⟩ = some (.slice a N c) := hkb.cell HI.m (by omega)
  have hown : W.ownsRow (w.heap.size + 2) 84 2 (.slice a N c) N (L.map (Value.int .i64)) := own_block HI.own (fun g hg => hkb.block g (own_typed HI.own hg).2.1 (by have := (own_typed HI.own hg).1; omega))
  clear hfix HI e0 e5
  generalize hKK : (fun (a' : Act) (w' : World) => ∃ v, a' = W1.put o.dst v ∧ VM R wr.heap.size N a c i v w' ∧ (∃ q', Rd w' R q' ∧ q' + f ≤ q + 25 ∧ KB R wr w') ∧ TT R wr.heap.size N W w') = KK
  have HK : Hid (∀ v w', VM R wr.heap.size N a c i v w' → (∃ q', Rd w' R q' ∧ q' + f ≤ q + 25 ∧ KB R wr w') → TT R wr.heap.size N W w' → KK (W1.put o.dst v) w') := by
    subst hKK
    exact fun v w' h1 h2 h3 => ⟨v, rfl, h1, h2, h3⟩
  clear hKK
  rcases lt25 hi with rfl | rfl | rfl | rfl | rfl | rfl | rfl | rfl | rfl | rfl | rfl | rfl | rfl | rfl | rfl | rfl | rfl | rfl | rfl | rfl | rfl | rfl | rfl | rfl | rfl
  · obtain rfl : ({ dst := some 17, op := Op.load 33 (Operand.tmp 5), type := 33, pos := "l20_draw.go:42", after := #[], guard := none } : Oper) = o := Option.some.inj ho
    clear ho hi
    clear hdep
    go_simp
    exact HK.out _ _ rfl ⟨q', hr, by omega, hkb⟩ (TT.of_kb (KB.refl R W))
  · obtain rfl : ({ dst := some 18, op := Op.move (Operand.tmp 0), type := 78, pos := "l20_draw.go:42", after := #[], guard := none } : Oper) = o := Option.some.inj ho
    clear ho hi
    clear hdep
    go_simp
    exact HK.out _ _ rfl ⟨q', hr, by omega, hkb⟩ (TT.of_kb (KB.refl R W))
  · obtain rfl : ({ dst := some 19, op := Op.call { callee := Callee.value (Operand.func 82), args := #[Operand.tmp 18, Operand.const (Value.int IntKind.i64 10)], argTypes := #[78, 3] }, type := 3, pos := "l20_draw.go:42", after := #[{ on := 1, ground := Ground.data }], guard := none } : Oper) = o := Option.some.inj ho
    clear ho hi
    obtain ⟨v1, hv1, he1'⟩ := hdep { on := 1, ground := .data } (by simp) rfl _ rfl
    have he1 := eval_tmp (he1' 18 rfl)
    clear he1'
    clear hdep
    obtain rfl : v1 = .pointer (some ⟨R, 0, none⟩) := hv1
    go_simp
    refine (pick_any R q' 10 W hr (by omega) (by omega) (by omega)).mono ?_
    rintro e W2 ⟨k, hk, rfl, hpk⟩
    exact HK.out _ _ ⟨k, rfl, hk.1, hk.2⟩ ⟨q' + 1, rd_picked hr hpk, by omega, hkb.trans (KB.of_picked hpk)⟩ (TT.of_kb (KB.of_picked hpk))
  · obtain rfl : ({ dst := some 20, op := Op.move (Operand.tmp 0), type := 78, pos := "l20_draw.go:42", after := #[], guard := none } : Oper) = o := Option.some.inj ho
    clear ho hi
    clear hdep
    go_simp
    exact HK.out _ _ rfl ⟨q', hr, by omega, hkb⟩ (TT.of_kb (KB.refl R W))
  · obtain rfl : ({ dst := some 21, op := Op.call { callee := Callee.value (Operand.func 82), args := #[Operand.tmp 20, Operand.const (Value.int IntKind.i64 100)], argTypes := #[78, 3] }, type := 3, pos := "l20_draw.go:42", after := #[{ on := 3, ground := Ground.data }, { on := 2, ground := Ground.chain }], guard := none } : Oper) = o := Option.some.inj ho
    clear ho hi
    obtain ⟨v3, hv3, he3'⟩ := hdep { on := 3, ground := .data } (by simp) rfl _ rfl
    have he3 := eval_tmp (he3' 20 rfl)
    clear he3'
    clear hdep
    obtain rfl : v3 = .pointer (some ⟨R, 0, none⟩) := hv3
    go_simp
    refine (pick_any R q' 100 W hr (by omega) (by omega) (by omega)).mono ?_
    rintro e W2 ⟨k, hk, rfl, hpk⟩
    exact HK.out _ _ ⟨k, rfl, hk.1, hk.2⟩ ⟨q' + 1, rd_picked hr hpk, by omega, hkb.trans (KB.of_picked hpk)⟩ (TT.of_kb (KB.of_picked hpk))
  · obtain rfl : ({ dst := some 22, op := Op.buildSlice 25 4 #[(0, Operand.tmp 19), (1, Operand.tmp 21), (2, Operand.const (Value.int IntKind.i64 0)), (3, Operand.const (Value.int IntKind.i64 99))], type := 25, pos := "l20_draw.go:42", after := #[{ on := 2, ground := Ground.data }, { on := 4, ground := Ground.data }], guard := none } : Oper) = o := Option.some.inj ho
    clear ho hi
    obtain ⟨v2, hv2, he2'⟩ := hdep { on := 2, ground := .data } (by simp) rfl _ rfl
    have he2 := eval_tmp (he2' 19 rfl)
    clear he2'
    obtain ⟨v4, hv4, he4'⟩ := hdep { on := 4, ground := .data } (by simp) rfl _ rfl
    have he4 := eval_tmp (he4' 21 rfl)
    clear he4'
    clear hdep
    obtain ⟨k2, rfl, _, _⟩ := hv2
    obtain ⟨k4, rfl, _, _⟩ := hv4
    go_simp
    exact HK.out _ _ ⟨W.heap.size, rfl, by have := hkb.size; omega, [k2, k4, 0, 99], rfl, new_block W _⟩ ⟨q', rd_below hr (al1 _ _), by omega, hkb.trans (KB.of_below (al1 _ _) (by have := hkb.size; omega))⟩ (TT.of_kb (KB.of_below (al1 _ _) (by have := hkb.size; omega)))
  · obtain rfl : ({ dst := some 23, op := Op.move (Operand.tmp 0), type := 78, pos := "l20_draw.go:42", after := #[], guard := none } : Oper) = o := Option.some.inj ho
    clear ho hi
    clear hdep
    go_simp
    exact HK.out _ _ rfl ⟨q', hr, by omega, hkb⟩ (TT.of_kb (KB.refl R W))
  · obtain rfl : ({ dst := some 24, op := Op.call { callee := Callee.value (Operand.func 82), args := #[Operand.tmp 23, Operand.const (Value.int IntKind.i64 4)], argTypes := #[78, 3] }, type := 3, pos := "l20_draw.go:42", after := #[{ on := 6, ground := Ground.data }, { on := 4, ground := Ground.chain }], guard := none } : Oper) = o := Option.some.inj ho
    clear ho hi
    obtain ⟨v6, hv6, he6'⟩ := hdep { on := 6, ground := .data } (by simp) rfl _ rfl
    have he6 := eval_tmp (he6' 23 rfl)
    clear he6'
    clear hdep
    obtain rfl : v6 = .pointer (some ⟨R, 0, none⟩) := hv6
    go_simp
    refine (pick_any R q' 4 W hr (by omega) (by omega) (by omega)).mono ?_
    rintro e W2 ⟨k, hk, rfl, hpk⟩
    exact HK.out _ _ ⟨k, rfl, hk.1, hk.2⟩ ⟨q' + 1, rd_picked hr hpk, by omega, hkb.trans (KB.of_picked hpk)⟩ (TT.of_kb (KB.of_picked hpk))
  · obtain rfl : ({ dst := some 25, op := Op.indexAddr 25 (Operand.tmp 22) (Operand.tmp 24), type := 0, pos := "l20_draw.go:42", after := #[{ on := 5, ground := Ground.data }, { on := 7, ground := Ground.data }], guard := none } : Oper) = o := Option.some.inj ho
    clear ho hi
    obtain ⟨v5, hv5, he5'⟩ := hdep { on := 5, ground := .data } (by simp) rfl _ rfl
    have he5 := eval_tmp (he5' 22 rfl)
    clear he5'
    obtain ⟨v7, hv7, he7'⟩ := hdep { on := 7, ground := .data } (by simp) rfl _ rfl
    have he7 := eval_tmp (he7' 24 rfl)
    clear he7'
    clear hdep
    obtain ⟨g, rfl, hl⟩ := hv5
    obtain ⟨k, rfl, hk0, hk1⟩ := hv7
    obtain ⟨k, rfl⟩ := Int.eq_ofNat_of_zero_le hk0
    have hk : k < 4 := by omega
    go_simp
    exact HK.out _ _ ⟨g, k, 4, rfl, hk, hl⟩ ⟨q', hr, by omega, hkb⟩ (TT.of_kb (KB.refl R W))
  · obtain rfl : ({ dst := some 26, op := Op.load 3 (Operand.tmp 25), type := 3, pos := "l20_draw.go:42", after := #[{ on := 8, ground := Ground.data }], guard := none } : Oper) = o := Option.some.inj ho
    clear ho hi
    obtain ⟨v8, hv8, he8'⟩ := hdep { on := 8, ground := .data } (by simp) rfl _ rfl
    have he8 := eval_tmp (he8' 25 rfl)
    clear he8'
    clear hdep
    obtain ⟨g, k, n', rfl, hk, hl⟩ := hv8
    obtain ⟨x, hx⟩ := hl.cell hk
    go_simp
    exact HK.out _ _ ⟨x, rfl⟩ ⟨q', hr, by omega, hkb⟩ (TT.of_kb (KB.refl R W))
  · obtain rfl : ({ dst := some 27, op := Op.move (Operand.tmp 0), type := 78, pos := "l20_draw.go:42", after := #[], guard := none } : Oper) = o := Option.some.inj ho
    clear ho hi
    clear hdep
    go_simp
    exact HK.out _ _ rfl ⟨q', hr, by omega, hkb⟩ (TT.of_kb (KB.refl R W))
  · obtain rfl : ({ dst := some 28, op := Op.call { callee := Callee.value (Operand.func 82), args := #[Operand.tmp 27, Operand.const (Value.int IntKind.i64 10)], argTypes := #[78, 3] }, type := 3, pos := "l20_draw.go:42", after := #[{ on := 10, ground := Ground.data }, { on := 7, ground := Ground.chain }], guard := none } : Oper) = o := Option.some.inj ho
    clear ho hi
    obtain ⟨v10, hv10, he10'⟩ := hdep { on := 10, ground := .data } (by simp) rfl _ rfl
    have he10 := eval_tmp (he10' 27 rfl)
    clear he10'
    clear hdep
    obtain rfl : v10 = .pointer (some ⟨R, 0, none⟩) := hv10
    go_simp
    refine (pick_any R q' 10 W hr (by omega) (by omega) (by omega)).mono ?_
    rintro e W2 ⟨k, hk, rfl, hpk⟩
    exact HK.out _ _ ⟨k, rfl, hk.1, hk.2⟩ ⟨q' + 1, rd_picked hr hpk, by omega, hkb.trans (KB.of_picked hpk)⟩ (TT.of_kb (KB.of_picked hpk))
  · obtain rfl : ({ dst := some 29, op := Op.buildSlice 25 3 #[(0, Operand.tmp 28), (1, Operand.const (Value.int IntKind.i64 999)), (2, Operand.const (Value.int IntKind.i64 0))], type := 25, pos := "l20_draw.go:42", after := #[{ on := 11, ground := Ground.data }], guard := none } : Oper) = o := Option.some.inj ho
    clear ho hi
    obtain ⟨v11, hv11, he11'⟩ := hdep { on := 11, ground := .data } (by simp) rfl _ rfl
    have he11 := eval_tmp (he11' 28 rfl)
    clear he11'
    clear hdep
    obtain ⟨k2, rfl, _, _⟩ := hv11
    go_simp
    exact HK.out _ _ ⟨W.heap.size, rfl, by have := hkb.size; omega, [k2, 999, 0], rfl, new_block W _⟩ ⟨q', rd_below hr (al1 _ _), by omega, hkb.trans (KB.of_below (al1 _ _) (by have := hkb.size; omega))⟩ (TT.of_kb (KB.of_below (al1 _ _) (by have := hkb.size; omega)))
  · obtain rfl : ({ dst := some 30, op := Op.move (Operand.tmp 0), type := 78, pos := "l20_draw.go:42", after := #[], guard := none } : Oper) = o := Option.some.inj ho
    clear ho hi
    clear hdep
    go_simp
    exact HK.out _ _ rfl ⟨q', hr, by omega, hkb⟩ (TT.of_kb (KB.refl R W))
  · obtain rfl : ({ dst := some 31, op := Op.call { callee := Callee.value (Operand.func 82), args := #[Operand.tmp 30, Operand.const (Value.int IntKind.i64 3)], argTypes := #[78, 3] }, type := 3, pos := "l20_draw.go:42", after := #[{ on := 13, ground := Ground.data }, { on := 11, ground := Ground.chain }], guard := none } : Oper) = o := Option.some.inj ho
    clear ho hi
    obtain ⟨v13, hv13, he13'⟩ := hdep { on := 13, ground := .data } (by simp) rfl _ rfl
    have he13 := eval_tmp (he13' 30 rfl)
    clear he13'
    clear hdep
    obtain rfl : v13 = .pointer (some ⟨R, 0, none⟩) := hv13
    go_simp
    refine (pick_any R q' 3 W hr (by omega) (by omega) (by omega)).mono ?_
    rintro e W2 ⟨k, hk, rfl, hpk⟩
    exact HK.out _ _ ⟨k, rfl, hk.1, hk.2⟩ ⟨q' + 1, rd_picked hr hpk, by omega, hkb.trans (KB.of_picked hpk)⟩ (TT.of_kb (KB.of_picked hpk))
  · obtain rfl : ({ dst := some 32, op := Op.indexAddr 25 (Operand.tmp 29) (Operand.tmp 31), type := 0, pos := "l20_draw.go:42", after := #[{ on := 12, ground := Ground.data }, { on := 14, ground := Ground.data }], guard := none } : Oper) = o := Option.some.inj ho
    clear ho hi
    obtain ⟨v12, hv12, he12'⟩ := hdep { on := 12, ground := .data } (by simp) rfl _ rfl
    have he12 := eval_tmp (he12' 29 rfl)
    clear he12'
    obtain ⟨v14, hv14, he14'⟩ := hdep { on := 14, ground := .data } (by simp) rfl _ rfl
    have he14 := eval_tmp (he14' 31 rfl)
    clear he14'
    clear hdep
    obtain ⟨g, rfl, hl⟩ := hv12
    obtain ⟨k, rfl, hk0, hk1⟩ := hv14
    obtain ⟨k, rfl⟩ := Int.eq_ofNat_of_zero_le hk0
    have hk : k < 3 := by omega
    go_simp
    exact HK.out _ _ ⟨g, k, 3, rfl, hk, hl⟩ ⟨q', hr, by omega, hkb⟩ (TT.of_kb (KB.refl R W))
  · obtain rfl : ({ dst := some 33, op := Op.load 3 (Operand.tmp 32), type := 3, pos := "l20_draw.go:42", after := #[{ on := 15, ground := Ground.data }], guard := none } : Oper) = o := Option.some.inj ho
    clear ho hi
    obtain ⟨v15, hv15, he15'⟩ := hdep { on := 15, ground := .data } (by simp) rfl _ rfl
    have he15 := eval_tmp (he15' 32 rfl)
    clear he15'
    clear hdep
    obtain ⟨g, k, n', rfl, hk, hl⟩ := hv15
    obtain ⟨x, hx⟩ := hl.cell hk
    go_simp
    exact HK.out _ _ ⟨x, rfl⟩ ⟨q', hr, by omega, hkb⟩ (TT.of_kb (KB.refl R W))
  · obtain rfl : ({ dst := some 34, op := Op.call { callee := Callee.value (Operand.func 37), args := #[Operand.tmp 17, Operand.tmp 26, Operand.tmp 33], argTypes := #[33, 3, 3] }, type := 55, pos := "l20_draw.go:42", after := #[{ on := 0, ground := Ground.data }, { on := 9, ground := Ground.data }, { on := 16, ground := Ground.data }, { on := 14, ground := Ground.chain }], guard := none } : Oper) = o := Option.some.inj ho
    clear ho hi
    obtain ⟨v0, hv0, he0'⟩ := hdep { on := 0, ground := .data } (by simp) rfl _ rfl
    have he0 := eval_tmp (he0' 17 rfl)
    clear he0'
    obtain ⟨v9, hv9, he9'⟩ := hdep { on := 9, ground := .data } (by simp) rfl _ rfl
    have he9 := eval_tmp (he9' 26 rfl)
    clear he9'
    obtain ⟨v16, hv16, he16'⟩ := hdep { on := 16, ground := .data } (by simp) rfl _ rfl
    have he16 := eval_tmp (he16' 33 rfl)
    clear he16'
    clear hdep
    obtain rfl : v0 = .agg #[.slice a N c] := hv0
    obtain ⟨x9, rfl⟩ := hv9
    obtain ⟨x16, rfl⟩ := hv16
    go_simp
    refine (specMapPut_cap a N c L x9 x16 W (own2_sints hown) (by omega)).mono ?_
    rintro e W2 ⟨a2, c2, rfl, ho2, hb2⟩
    exact HK.out _ _ ⟨a2, _, c2, _, _, _, rfl, own_mono ho2 hkb.size, ptN_le L N x9 x16⟩ ⟨q', rd_below hr hb2, by omega, hkb.trans (KB.of_below hb2 (by have := hkb.size; omega))⟩ (TT.of_kb (KB.of_below hb2 (by have := hkb.size; omega)))
  · obtain rfl : ({ dst := some 16, op := Op.move (Operand.tmp 34), type := 55, pos := "l20_draw.go:42", after := #[{ on := 17, ground := Ground.data }], guard := none } : Oper) = o := Option.some.inj ho
    clear ho hi
    obtain ⟨v17, hv17, he17'⟩ := hdep { on := 17, ground := .data } (by simp) rfl _ rfl
    have he17 := eval_tmp (he17' 34 rfl)
    clear he17'
    clear hdep
    obtain ⟨a2, n2, c2, L2, C, D, rfl, ho2⟩ := hv17
    go_simp
    exact HK.out _ _ ⟨a2, n2, c2, L2, C, D, rfl, ho2⟩ ⟨q', hr, by omega, hkb⟩ (TT.of_kb (KB.refl R W))
  · obtain rfl : ({ dst := some 35, op := Op.extract (Operand.tmp 16) 0, type := 33, pos := "l20_draw.go:42", after := #[{ on := 18, ground := Ground.data }], guard := none } : Oper) = o := Option.some.inj ho
    clear ho hi
    obtain ⟨v18, hv18, he18'⟩ := hdep { on := 18, ground := .data } (by simp) rfl _ rfl
    have he18 := eval_tmp (he18' 16 rfl)
    clear he18'
    clear hdep
    obtain ⟨a2, n2, c2, L2, C, D, rfl, ho2⟩ := hv18
    go_simp
    exact HK.out _ _ ⟨a2, n2, c2, L2, rfl, ho2⟩ ⟨q', hr, by omega, hkb⟩ (TT.of_kb (KB.refl R W))
  · obtain rfl : ({ dst := some 36, op := Op.extract (Operand.tmp 16) 1, type := 37, pos := "l20_draw.go:42", after := #[{ on := 18, ground := Ground.data }, { on := 23, ground := Ground.gcOnly Departure.lateStores }], guard := none } : Oper) = o := Option.some.inj ho
    clear ho hi
    obtain ⟨v18, hv18, he18'⟩ := hdep { on := 18, ground := .data } (by simp) rfl _ rfl
    have he18 := eval_tmp (he18' 16 rfl)
    clear he18'
    clear hdep
    obtain ⟨a2, n2, c2, L2, C, D, rfl, ho2⟩ := hv18
    go_simp
    exact HK.out _ _ ⟨C, D, rfl⟩ ⟨q', hr, by omega, hkb⟩ (TT.of_kb (KB.refl R W))
  · obtain rfl : ({ dst := some 7, op := Op.alloc 33, type := 0, pos := "l20_draw.go:42", after := #[], guard := none } : Oper) = o := Option.some.inj ho
    clear ho hi
    clear hdep
    go_simp
    exact HK.out _ _ ⟨W.heap.size, rfl, hkb.size, none, 0, 0, [], new_block W _, ⟨rfl, .inl ⟨rfl, rfl⟩⟩, by omega⟩ ⟨q', rd_below hr (al1 _ _), by omega, hkb.trans (KB.of_below (al1 _ _) (by have := hkb.size; omega))⟩ (TT.of_kb (KB.of_below (al1 _ _) (by have := hkb.size; omega)))
  · obtain rfl : ({ dst := some 8, op := Op.alloc 37, type := 0, pos := "l20_draw.go:42", after := #[], guard := none } : Oper) = o := Option.some.inj ho
    clear ho hi
    clear hdep
    go_simp
    exact HK.out _ _ ⟨W.heap.size, rfl, hkb.size, 0, 0, new_block W _⟩ ⟨q', rd_below hr (al1 _ _), by omega, hkb.trans (KB.of_below (al1 _ _) (by have := hkb.size; omega))⟩ (TT.of_kb (KB.of_below (al1 _ _) (by have := hkb.size; omega)))
  · obtain rfl : ({ dst := none, op := Op.store 33 (Operand.tmp 7) (Operand.tmp 35), type := 0, pos := "l20_draw.go:42", after := #[{ on := 21, ground := Ground.data }, { on := 19, ground := Ground.data }, { on := 17, ground := Ground.chain }, { on := 0, ground := Ground.phase }, { on := 1, ground := Ground.phase }, { on := 2, ground := Ground.phase }, { on := 3, ground := Ground.phase }, { on := 4, ground := Ground.phase }, { on := 5, ground := Ground.phase }, { on := 6, ground := Ground.phase }, { on := 7, ground := Ground.phase }, { on := 8, ground := Ground.phase }, { on := 9, ground := Ground.phase }, { on := 10, ground := Ground.phase }, { on := 11, ground := Ground.phase }, { on := 12, ground := Ground.phase }, { on := 13, ground := Ground.phase }, { on := 14, ground := Ground.phase }, { on := 15, ground := Ground.phase }, { on := 16, ground := Ground.phase }, { on := 17, ground := Ground.phase }, { on := 18, ground := Ground.phase }, { on := 19, ground := Ground.phase }, { on := 20, ground := Ground.textOnly Departure.lateStores }, { on := 21, ground := Ground.phase }, { on := 22, ground := Ground.phase }], guard := none } : Oper) = o := Option.some.inj ho
    clear ho hi
    obtain ⟨v21, hv21, he21'⟩ := hdep { on := 21, ground := .data } (by simp) rfl _ rfl
    have he21 := eval_tmp (he21' 7 rfl)
    clear he21'
    obtain ⟨v19, hv19, he19'⟩ := hdep { on := 19, ground := .data } (by simp) rfl _ rfl
    have he19 := eval_tmp (he19' 35 rfl)
    clear he19'
    clear hdep
    obtain ⟨g, rfl, hg, a3, n3, c3, L3, hh, ho3⟩ := hv21
    obtain ⟨a2, n2, c2, L2, rfl, ho2⟩ := hv19
    have hcell := cell_block0 hh
    have hfz := frozen_block hh 0
    go_simp
    exact HK.out undef _ trivial ⟨q', rd_setCell hr (by omega) _, by omega, kb_setCell hkb (Nat.le_refl _) hg (by omega) _⟩ (storeM_tt hh ho2)
  · obtain rfl : ({ dst := none, op := Op.store 37 (Operand.tmp 8) (Operand.tmp 36), type := 0, pos := "l20_draw.go:42", after := #[{ on := 22, ground := Ground.data }, { on := 20, ground := Ground.data }, { on := 23, ground := Ground.chain }, { on := 0, ground := Ground.phase }, { on := 1, ground := Ground.phase }, { on := 2, ground := Ground.phase }, { on := 3, ground := Ground.phase }, { on := 4, ground := Ground.phase }, { on := 5, ground := Ground.phase }, { on := 6, ground := Ground.phase }, { on := 7, ground := Ground.phase }, { on := 8, ground := Ground.phase }, { on := 9, ground := Ground.phase }, { on := 10, ground := Ground.phase }, { on := 11, ground := Ground.phase }, { on := 12, ground := Ground.phase }, { on := 13, ground := Ground.phase }, { on := 14, ground := Ground.phase }, { on := 15, ground := Ground.phase }, { on := 16, ground := Ground.phase }, { on := 17, ground := Ground.phase }, { on := 18, ground := Ground.phase }, { on := 19, ground := Ground.phase }, { on := 20, ground := Ground.phase }, { on := 21, ground := Ground.phase }, { on := 22, ground := Ground.phase }, { on := 23, ground := Ground.phase }], guard := none } : Oper) = o := Option.some.inj ho
    clear ho hi
    obtain ⟨v22, hv22, he22'⟩ := hdep { on := 22, ground := .data } (by simp) rfl _ rfl
    have he22 := eval_tmp (he22' 8 rfl)
    clear he22'
    obtain ⟨v20, hv20, he20'⟩ := hdep { on := 20, ground := .data } (by simp) rfl _ rfl
    have he20 := eval_tmp (he20' 36 rfl)
    clear he20'
    clear hdep
    obtain ⟨g, rfl, hg, C3, D3, hh⟩ := hv22
    obtain ⟨C, D, rfl⟩ := hv20
    have hcell := cell_block0 hh
    have hcell1 := cell_block1 hh
    have hfz := frozen_block hh 0
    have hfz1 := frozen_block hh 1
    go_simp
    exact HK.out undef _ trivial ⟨q', rd_setCell (rd_setCell hr (by omega) _) (by omega) _, by omega, kb_setCell (kb_setCell hkb (Nat.le_refl _) hg (by omega) _) (Nat.le_refl _) hg (by omega) _⟩ (storeR_tt hh _ _)

end Go.Proofs.YtklpdpdjblakgaaDoor

/- LMap3 -/
namespace Go.Proofs.YtklpdpdjblakgaaDoor
open Go.RowKit
set_option linter.unusedVariables false
set_option linter.unusedSimpArgs false

theorem LM.turn {w : World} {R q q' : Nat} {L L2 : List Int} {N : Nat} {a a2 : Option Addr} {c n2 c2 : Nat} {wr W : World} (h : LM w R q L N a c wr) (k : KB R wr W) (hr : Rd W R q') (ho : OwnR wr.heap.size N W a2 n2 c2 L2) :
    LM w R q' L2 n2 a2 c2 (W.setCell ⟨w.heap.size + 1, 0, none⟩ (.slice a2 n2 c2)) := by
  have hs := h.sz
  have hl := h.lt
  have h1 := h.kept k hr
  exact
  { rd := rd_setCell hr (by omega) _, kb := kb_setCell h1.kb (Nat.le_refl _) (by omega) (by omega) _, z := (World.cell?_setCell_other _ _ _ _ (by simp)).trans h1.z, zf := by rw [World.frozen?_setCell]; exact h1.zf,
    m := World.cell?_setCell_same _ _ _ h1.m, mf := by rw [World.frozen?_setCell]; exact h1.mf,
    own := own_mono (ownsRow_setCell_other ho.1 (fun e => by have := (own_typed ho.1 e).1; dsimp only at this; omega) _) (by omega), lt := h.lt }

theorem LM.below {w : World} {R q : Nat} {L : List Int} {N : Nat} {a : Option Addr} {c : Nat} {W W' : World} (h : LM w R q L N a c W) (hb : Below W.heap.size W W') : LM w R q L N a c W' :=
  h.kept (KB.of_below hb (by have := h.sz; have := h.lt; omega)) (rd_below h.rd hb)

/-- Behind an append onto the entries. -/
theorem LM.app {w : World} {R q : Nat} {L L2 : List Int} {N : Nat} {a a2 : Option Addr} {c c2 : Nat} {W W' : World} (h : LM w R q L N a c W) (hg : W.grownBy W' (Value.slice a N c).ownBlock) (ho : W'.ownsRow (w.heap.size + 2) 84 2 (.slice a2 (N + 1) c2) (N + 1) (L2.map (Value.int .i64))) :
    W'.cell? ⟨w.heap.size + 1, 0, none⟩ = some (.slice a N c) ∧ W'.frozen? ⟨w.heap.size + 1, 0, none⟩ = false ∧ LM w R q L2 (N + 1) a2 c2 (W'.setCell ⟨w.heap.size + 1, 0, none⟩ (.slice a2 (N + 1) c2)) := by
  have hs := h.sz
  have hl := h.lt
  have nb : ∀ b, b < w.heap.size + 2 → some b ≠ (Value.slice a N c).ownBlock := fun b hb e => by have := (own_typed h.own e.symm).1; omega
  have nb2 : ∀ b, b < w.heap.size + 2 → (Value.slice a2 (N + 1) c2).ownBlock ≠ some b := fun b hb e => by have := (own_typed ho e).1; omega
  have hm := hg.cell h.m (nb _ (by dsimp only; omega))
  have hz := hg.cell h.z (nb _ (by dsimp only; omega))
  have fm : W'.frozen? ⟨w.heap.size + 1, 0, none⟩ = false := (World.frozen?_of_block (w := W) (a := ⟨w.heap.size + 1, 0, none⟩) (hg.block (w.heap.size + 1) hs (nb (w.heap.size + 1) (by omega)))).trans h.mf
  have fz : W'.frozen? ⟨w.heap.size, 0, none⟩ = false := (World.frozen?_of_block (w := W) (a := ⟨w.heap.size, 0, none⟩) (hg.block w.heap.size (by omega) (nb _ (by omega)))).trans h.zf
  have k : KB R w W' := ⟨h.kb.bel.grown hg (by omega) (fun b e => by have := (own_typed h.own e).1; omega), Nat.le_trans h.kb.size hg.size, fun b hb hn => (hg.block b (by have := h.kb.size; omega) (nb b (by omega))).trans (h.kb.block b hb hn)⟩
  have kb2 : Below (w.heap.size) W W' := (Below.refl _ W).grown hg (by omega) (fun b e => by have := (own_typed h.own e).1; omega)
  have hr : Rd W' R q := by
    obtain ⟨x, y, z, hb, hy, hc⟩ := h.rd
    refine ⟨x, y, z, (hg.block R (by omega) (nb R (by omega))).trans hb, hy, ?_⟩
    rcases hc with h0 | ⟨b, off, ha, hbR, hc⟩
    · exact .inl h0
    · refine .inr ⟨b, off, ha, hbR, fun i hi => ?_⟩
      obtain ⟨v, v0, v1, hx⟩ := hc i hi
      exact ⟨v, v0, v1, hg.cell hx (nb _ (by dsimp only; omega))⟩
  refine ⟨hm, fm, ?_⟩
  exact
  { rd := rd_setCell hr (by omega) _, kb := kb_setCell k (Nat.le_refl _) (by omega) (by omega) _, z := (World.cell?_setCell_other _ _ _ _ (by simp)).trans hz, zf := by rw [World.frozen?_setCell]; exact fz,
    m := World.cell?_setCell_same _ _ _ hm, mf := by rw [World.frozen?_setCell]; exact fm, own := ownsRow_setCell_other ho (nb2 _ (by dsimp only; omega)) _, lt := h.lt }

/-- The entries are handed back. -/
theorem LM.drawn {w : World} {R q p : Nat} {L : List Int} {N : Nat} {a : Option Addr} {c : Nat} {W : World} (h : LM w R q L N a c W) (hN : N ≤ 9) (hq : q ≤ p + 400) : DrawnM R p w (.returned (.agg #[.slice a N c])) (W.setCell ⟨w.heap.size, 0, none⟩ (.slice a N c)) :=
  ⟨L, N, a, c, q, rfl, own_mono (ownsRow_setCell_other h.own (fun e => by have := (own_typed h.own e).1; dsimp only at this; omega) _) (by omega), hN, rd_setCell h.rd h.lt _, hq, kb_setCell h.kb (Nat.le_refl _) (Nat.le_refl _) h.lt _⟩

set_option maxRecDepth 20000 in
set_option maxHeartbeats 4000000 in
theorem map_any (R p : Nat) (n : Int) (w : World) (hr : Rd w R p) (hRw : R < w.heap.size) (hp : p ≤ 900000) (hn : 1 ≤ n) (hn2 : n ≤ 1000) :
    Calls Tryd.prog 58 #[.pointer (some ⟨R, 0, none⟩), .int .i64 n] w (DrawnM R p w) := by
  obtain ⟨i0, hi, hz0, hz1, hz2⟩ := info_parts Tryd.info84
  have A := below_trans' (al1 w (.cells #[.slice none 0 0] 33)) (al1 _ (.cells #[.slice none 0 0] 33))
  have I0 : LM w R p [] 0 none 0 ((w.alloc (.cells #[.slice none 0 0] 33)).alloc (.cells #[.slice none 0 0] 33)) :=
    { rd := rd_below hr A, kb := KB.of_below A (by omega), z := cell_kept (al1 _ _) (cell_at w _ _ 0 rfl rfl), zf := ((al1 (w.alloc (.cells #[.slice none 0 0] 33)) (.cells #[.slice none 0 0] 33)).frozen (p := ⟨w.heap.size, 0, none⟩) (by simp)).trans (frozen_at w _ _ 0 rfl),
      m := cell_at _ _ _ 0 (by simp) rfl, mf := frozen_at _ _ _ 0 (by simp), own := ⟨rfl, .inl ⟨rfl, rfl⟩⟩, lt := hRw }
  clear A hr
  go_enter Tryd.func58, Tryd.ntmps58
  go_wp2_with fail
  refine (pick_any R p 9 _ I0.rd (by omega) (by omega) (by omega)).mono ?_
  rintro e w1 ⟨y, ⟨hy0, hy1⟩, rfl, hpk⟩
  obtain ⟨y, rfl⟩ := Int.eq_ofNat_of_zero_le hy0
  have I1 : Hid (LM w R (p + 1) [] 0 none 0 w1) := I0.kept (KB.of_picked hpk) (rd_picked I0.rd hpk)
  clear I0 hpk
  go_wp2
  go_loopw [6, 7, 8] (fun i _ _ wr => ∃ (K : Nat) (L : List Int) (N : Nat) (a : Option Addr) (c q : Nat), i = .int .i64 K ∧ LM w R q L N a c wr ∧ N + K ≤ 8 ∧ q + 25 * K ≤ p + 1 + 25 * 8)
    (fun i _ _ _ => (intOf i).toNat)
  case atStart => exact ⟨y, [], 0, _, _, _, rfl, I1.out, by omega, by omega⟩
  case round =>
    clear I1
    obtain ⟨K, L, N, a, c, q, rfl, I, hNK, hq⟩ := hrel
    have HI : Hid (LM w R q L N a c wr) := I
    clear I
    by_cases hK : K = 0
    · subst hK
      go_wp2_with fail
      refine (odd_any R q n _ HI.out.rd (by omega) (by omega) (by omega)).mono ?_
      rintro e w2 ⟨od, rfl, hpk⟩
      have HI2 : Hid (LM w R (q + 1) L N a c w2) := HI.out.kept (KB.of_picked hpk) (rd_picked HI.out.rd hpk)
      clear HI hpk
      cases od
      · have hm := HI2.out.m
        have hz := HI2.out.z
        have hzf := HI2.out.zf
        go_wp2
        exact bodyPost_ret (v := .agg #[.slice a N c]) (by simp [results, Tryd.results58, go_sem, hz]) rfl (HI2.out.drawn (by omega) (by omega))
      · go_wp2_with fail
        refine (pick_any R (q + 1) 4 _ HI2.out.rd (by omega) (by omega) (by omega)).mono ?_
        rintro e w3 ⟨k, ⟨hk0, hk1⟩, rfl, hpk⟩
        have HI3 : Hid (LM w R (q + 2) L N a c w3) := HI2.out.kept (KB.of_picked hpk) (rd_picked HI2.out.rd hpk)
        clear HI2 hpk
        by_cases ek0 : k = 0
        · subst ek0
          have HI4 : Hid (LM w R (q + 2) L N a c (w3.alloc (.cells #[.int .i64 (0), .int .i64 (0)] 84))) := HI3.out.below (al1 _ _)
          have hm := HI3.out.m
          have HSZ : Hid (w.heap.size + 1 < w3.heap.size) := HI3.out.sz
          go_wp2_with (at_builtin; go_must (refine wpList_append_own _ rfl (.tmp 60) (.tmp 62) 31 rfl (w.heap.size + 2) 84 i0 (.agg #[.int .i64 0, .int .i64 0]) 2 16 Tryd.underlying31 hi hz0 hz1 hz2 rfl (by decide) (.slice a N c) N _ rfl HI4.out.own ⟨w3.heap.size, 0, none⟩ 1 1 [.int .i64 (0), .int .i64 (0)] rfl rfl (by intro jj u hjj; match jj, hjj with | 0, hjj => simp at hjj; subst hjj; exact cell_at _ _ _ 0 rfl rfl | 1, hjj => simp at hjj; subst hjj; exact cell_at _ _ _ 1 rfl rfl) (by intro u hu; simp at hu; rcases hu with rfl | rfl <;> rfl) (by unfold maxLen; omega) (by omega) (by have := HSZ.out; simp; omega) ?_))
          intro v' w5 hown hgrow _
          obtain ⟨a2, c2, hv, _⟩ := own2_shape (zs := L ++ [0, 0]) (by simpa using hown)
          subst hv
          obtain ⟨mc5, mf5, M5⟩ := HI4.out.app hgrow (L2 := L ++ [0, 0]) (by simpa using hown)
          have HI5 : Hid (LM w R (q + 2) (L ++ [0, 0]) (N + 1) a2 c2 (w5.setCell ⟨w.heap.size + 1, 0, none⟩ (.slice a2 (N + 1) c2))) := M5
          have z5 := HI5.out.z
          have zf5 := HI5.out.zf
          rw [World.frozen?_setCell] at zf5
          rw [World.cell?_setCell_other _ _ _ _ (by simp)] at z5
          clear hown hgrow HI3 HI4 M5 hm HSZ
          go_wp2
          exact bodyPost_ret (v := .agg #[.slice a2 (N + 1) c2]) (by simp [results, Tryd.results58, go_sem, z5]) rfl (HI5.out.drawn (by omega) (by omega))
        by_cases ek1 : k = 1
        · subst ek1
          have HI4 : Hid (LM w R (q + 2) L N a c (w3.alloc (.cells #[.int .i64 (100), .int .i64 (0)] 84))) := HI3.out.below (al1 _ _)
          have hm := HI3.out.m
          have HSZ : Hid (w.heap.size + 1 < w3.heap.size) := HI3.out.sz
          go_wp2_with (at_builtin; go_must (refine wpList_append_own _ rfl (.tmp 68) (.tmp 70) 31 rfl (w.heap.size + 2) 84 i0 (.agg #[.int .i64 0, .int .i64 0]) 2 16 Tryd.underlying31 hi hz0 hz1 hz2 rfl (by decide) (.slice a N c) N _ rfl HI4.out.own ⟨w3.heap.size, 0, none⟩ 1 1 [.int .i64 (100), .int .i64 (0)] rfl rfl (by intro jj u hjj; match jj, hjj with | 0, hjj => simp at hjj; subst hjj; exact cell_at _ _ _ 0 rfl rfl | 1, hjj => simp at hjj; subst hjj; exact cell_at _ _ _ 1 rfl rfl) (by intro u hu; simp at hu; rcases hu with rfl | rfl <;> rfl) (by unfold maxLen; omega) (by omega) (by have := HSZ.out; simp; omega) ?_))
          intro v' w5 hown hgrow _
          obtain ⟨a2, c2, hv, _⟩ := own2_shape (zs := L ++ [100, 0]) (by simpa using hown)
          subst hv
          obtain ⟨mc5, mf5, M5⟩ := HI4.out.app hgrow (L2 := L ++ [100, 0]) (by simpa using hown)
          have HI5 : Hid (LM w R (q + 2) (L ++ [100, 0]) (N + 1) a2 c2 (w5.setCell ⟨w.heap.size + 1, 0, none⟩ (.slice a2 (N + 1) c2))) := M5
          have z5 := HI5.out.z
          have zf5 := HI5.out.zf
          rw [World.frozen?_setCell] at zf5
          rw [World.cell?_setCell_other _ _ _ _ (by simp)] at z5
          clear hown hgrow HI3 HI4 M5 hm HSZ
          go_wp2
          exact bodyPost_ret (v := .agg #[.slice a2 (N + 1) c2]) (by simp [results, Tryd.results58, go_sem, z5]) rfl (HI5.out.drawn (by omega) (by omega))
        by_cases ek2 : k = 2
        · subst ek2
          have HI4 : Hid (LM w R (q + 2) L N a c (w3.alloc (.cells #[.int .i64 (99), .int .i64 (-1)] 84))) := HI3.out.below (al1 _ _)
          have hm := HI3.out.m
          have HSZ : Hid (w.heap.size + 1 < w3.heap.size) := HI3.out.sz
          go_wp2_with (at_builtin; go_must (refine wpList_append_own _ rfl (.tmp 76) (.tmp 78) 31 rfl (w.heap.size + 2) 84 i0 (.agg #[.int .i64 0, .int .i64 0]) 2 16 Tryd.underlying31 hi hz0 hz1 hz2 rfl (by decide) (.slice a N c) N _ rfl HI4.out.own ⟨w3.heap.size, 0, none⟩ 1 1 [.int .i64 (99), .int .i64 (-1)] rfl rfl (by intro jj u hjj; match jj, hjj with | 0, hjj => simp at hjj; subst hjj; exact cell_at _ _ _ 0 rfl rfl | 1, hjj => simp at hjj; subst hjj; exact cell_at _ _ _ 1 rfl rfl) (by intro u hu; simp at hu; rcases hu with rfl | rfl <;> rfl) (by unfold maxLen; omega) (by omega) (by have := HSZ.out; simp; omega) ?_))
          intro v' w5 hown hgrow _
          obtain ⟨a2, c2, hv, _⟩ := own2_shape (zs := L ++ [99, -1]) (by simpa using hown)
          subst hv
          obtain ⟨mc5, mf5, M5⟩ := HI4.out.app hgrow (L2 := L ++ [99, -1]) (by simpa using hown)
          have HI5 : Hid (LM w R (q + 2) (L ++ [99, -1]) (N + 1) a2 c2 (w5.setCell ⟨w.heap.size + 1, 0, none⟩ (.slice a2 (N + 1) c2))) := M5
          have z5 := HI5.out.z
          have zf5 := HI5.out.zf
          rw [World.frozen?_setCell] at zf5
          rw [World.cell?_setCell_other _ _ _ _ (by simp)] at z5
          clear hown hgrow HI3 HI4 M5 hm HSZ
          go_wp2
          exact bodyPost_ret (v := .agg #[.slice a2 (N + 1) c2]) (by simp [results, Tryd.results58, go_sem, z5]) rfl (HI5.out.drawn (by omega) (by omega))
        obtain rfl : k = 3 := by omega
        have hN8 : N ≤ 8 := by omega
        go_wp2
        clear hN8
        go_loopw [43] (fun _ wr => ∃ (L : List Int) (N : Nat) (a : Option Addr) (c : Nat), LM w R (q + 2) L N a c wr ∧ N ≤ 9) (fun _ wr => match wr.cell? ⟨w.heap.size + 1, 0, none⟩ with | some (.slice _ n _) => 9 - n | _ => 0)
        case atStart => exact ⟨L, N, a, c, HI3.out, by omega⟩
        case round =>
          obtain ⟨L, N, a, c, I, hN9⟩ := hrel
          clear HI3
          have hm := I.m
          by_cases h8 : N ≤ 8
          · have h8i : (N : Int) ≤ 8 := by omega
            obtain ⟨x, hx⟩ : ∃ x : Int, 90 + (N : Int) = x := ⟨_, rfl⟩
            have HI3 : Hid (LM w R (q + 2) L N a c wr) := I
            have HI4 : Hid (LM w R (q + 2) L N a c (wr.alloc (.cells #[.int .i64 x, .int .i64 0] 84))) := HI3.out.below (al1 _ _)
            have HSZ : Hid (w.heap.size + 1 < wr.heap.size) := HI3.out.sz
            clear I
            go_wp2_with (at_builtin; go_must (refine wpList_append_own _ rfl (.tmp 48) (.tmp 54) 31 rfl (w.heap.size + 2) 84 i0 (.agg #[.int .i64 0, .int .i64 0]) 2 16 Tryd.underlying31 hi hz0 hz1 hz2 rfl (by decide) (.slice a N c) N _ rfl HI4.out.own ⟨wr.heap.size, 0, none⟩ 1 1 [.int .i64 x, .int .i64 0] rfl rfl (by intro jj u hjj; match jj, hjj with | 0, hjj => simp at hjj; subst hjj; exact cell_at _ _ _ 0 rfl rfl | 1, hjj => simp at hjj; subst hjj; exact cell_at _ _ _ 1 rfl rfl) (by intro u hu; simp at hu; rcases hu with rfl | rfl <;> rfl) (by unfold maxLen; omega) (by omega) (by have := HSZ.out; simp; omega) ?_))
            intro v' w5 hown hgrow _
            obtain ⟨a2, c2, hv, _⟩ := own2_shape (zs := L ++ [x, 0]) (by simpa using hown)
            subst hv
            obtain ⟨mc5, mf5, M5⟩ := HI4.out.app hgrow (L2 := L ++ [x, 0]) (by simpa using hown)
            have HI5 : Hid (LM w R (q + 2) (L ++ [x, 0]) (N + 1) a2 c2 (w5.setCell ⟨w.heap.size + 1, 0, none⟩ (.slice a2 (N + 1) c2))) := M5
            have HME : Hid (wr.cell? ⟨w.heap.size + 1, 0, none⟩ = some (.slice a N c)) := hm
            clear hown hgrow HI3 HI4 M5 hm HSZ
            go_wp2
            go_roundw
            case rel => exact ⟨_, N + 1, a2, c2, HI5.out, by omega⟩
            case measure => rw [HI5.out.m, HME.out]; dsimp only; omega
          · have h8i : ¬ (N : Int) ≤ 8 := by omega
            have HI3 : Hid (LM w R (q + 2) L N a c wr) := I
            have hz := I.z
            have hzf := I.zf
            clear I
            go_wp2
            exact bodyPost_ret (v := .agg #[.slice a N c]) (by simp [results, Tryd.results58, go_sem, hz]) rfl (HI3.out.drawn (by omega) (by omega))
    · have hK0 : (0 : Int) < (K : Int) := by omega
      go_wp2
      have hsz := HI.out.sz
      refine region_inv (ops := ops5) (m := 25) (I := fun f W => ∃ q', Rd W R q' ∧ q' + f ≤ q + 25 ∧ KB R wr W) (V := VM R wr.heap.size N a c) (T := TT R wr.heap.size N) (by kernel_rfl) (by decide) (by kernel_rfl) (by kernel_rfl) (vm_keep (by omega)) ⟨q, rd_below HI.out.rd (Below.refl _ _).drew, by omega, (KB.refl R wr).drew⟩ (hop5 hRw hsz HI.out (by omega) (by omega) rfl rfl) ?hend
      case hend =>
        intro vs W hv _ hI
        obtain ⟨q', hr, hq', hkb⟩ := hI
        obtain ⟨v0, e0, h0⟩ := hv 0 (by omega)
        obtain ⟨v1, e1, h1⟩ := hv 1 (by omega)
        obtain ⟨v2, e2, h2⟩ := hv 2 (by omega)
        obtain ⟨v3, e3, h3⟩ := hv 3 (by omega)
        obtain ⟨v4, e4, h4⟩ := hv 4 (by omega)
        obtain ⟨v5, e5, h5⟩ := hv 5 (by omega)
        obtain ⟨v6, e6, h6⟩ := hv 6 (by omega)
        obtain ⟨v7, e7, h7⟩ := hv 7 (by omega)
        obtain ⟨v8, e8, h8⟩ := hv 8 (by omega)
        obtain ⟨v9, e9, h9⟩ := hv 9 (by omega)
        obtain ⟨v10, e10, h10⟩ := hv 10 (by omega)
        obtain ⟨v11, e11, h11⟩ := hv 11 (by omega)
        obtain ⟨v12, e12, h12⟩ := hv 12 (by omega)
        obtain ⟨v13, e13, h13⟩ := hv 13 (by omega)
        obtain ⟨v14, e14, h14⟩ := hv 14 (by omega)
        obtain ⟨v15, e15, h15⟩ := hv 15 (by omega)
        obtain ⟨v16, e16, h16⟩ := hv 16 (by omega)
        obtain ⟨v17, e17, h17⟩ := hv 17 (by omega)
        obtain ⟨v18, e18, h18⟩ := hv 18 (by omega)
        obtain ⟨v19, e19, h19⟩ := hv 19 (by omega)
        obtain ⟨v20, e20, h20⟩ := hv 20 (by omega)
        obtain ⟨v21, e21, h21⟩ := hv 21 (by omega)
        obtain ⟨v22, e22, h22⟩ := hv 22 (by omega)
        obtain ⟨v23, e23, h23⟩ := hv 23 (by omega)
        obtain ⟨v24, e24, h24⟩ := hv 24 (by omega)
        clear hv
        refine ⟨by kernel_rfl, ?_⟩
        unfold ops5
        simp only [putsF, e0, e1, e2, e3, e4, e5, e6, e7, e8, e9, e10, e11, e12, e13, e14, e15, e16, e17, e18, e19, e20, e21, e22, e23, e24, Nat.zero_add, Nat.reduceAdd, Act.put, List.setIfInBounds_toArray, List.set_cons_zero, List.set_cons_succ]
        obtain ⟨g, rfl, hg, a2, n2, c2, L2, hh, ho2⟩ := h21
        have hcell := cell_block0 hh
        have hne : ¬ g = w.heap.size + 1 := by omega
        have I2 := HI.out.kept hkb hr
        have hm := I2.m
        have hmf := I2.mf
        have HI3 : Hid (LM w R q' L2 n2 a2 c2 (W.setCell ⟨w.heap.size + 1, 0, none⟩ (.slice a2 n2 c2)) ∧ n2 ≤ N + 1 ∧ q' ≤ q + 25) := ⟨HI.out.turn hkb hr ho2, ho2.2, by omega⟩
        clear h0 e0 h1 e1 h2 e2 h3 e3 h4 e4 h5 e5 h6 e6 h7 e7 h8 e8 h9 e9 h10 e10 h11 e11 h12 e12 h13 e13 h14 e14 h15 e15 h16 e16 h17 e17 h18 e18 h19 e19 h20 e20 h22 e22 h23 e23 h24 e24 e21 hh ho2 I2 HI hkb hr
        go_wp2
        go_roundw
        case rel => exact ⟨K - 1, L2, n2, a2, c2, q', by go_num, HI3.out.1, by have := HI3.out.2.1; omega, by have := HI3.out.2.2; omega⟩
        case measure => simp [intOf]; omega

end Go.Proofs.YtklpdpdjblakgaaDoor
