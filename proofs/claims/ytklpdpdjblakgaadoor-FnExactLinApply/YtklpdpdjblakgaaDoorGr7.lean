/- Several texts in one: LinK2, LinN, LinTo, LOp, LinX, LinY. -/
import Derived.Test.YtklpdpdjblakgaaDoorGr5
import Derived.Test.YtklpdpdjblakgaaDoorGr6
import Derived.Test.YtklpdpdjblakgaaDoorGr3
import Derived.Deep.DeepCutAuto
import Derived.Laws.Rows
import Derived.RegionTactic
/- LinK2 -/
namespace Go.Proofs.YtklpdpdjblakgaaDoor
open Go.RowKit
set_option linter.unusedVariables false

set_option maxRecDepth 20000 in
set_option maxHeartbeats 1000000 in
theorem lin7 (v : SV) (d : LD) (x y : Int) (w : World) (h : SS w v d) (hr : Room v d) (hf : Few d) (ht : Tab w) (hs : stOk d.n d.zs d.s d.q = true) (ho : opB 7 x y = true) :
    Calls Tryd.prog 12 #[stV v d, .agg #[.int .i64 7, .int .i64 x, .int .i64 y]] w (OfRes w.heap.size ⟨d.n, d.zs, d.s, putL d.q d.q.length y⟩ (putC d.q y) (0) w) := by
  have B := linBoxes w v d 7 x y
  have HF : Hid (Few d ∧ Room v d ∧ SS w v d ∧ Tab w) := ⟨hf, hr, h, ht⟩
  clear h hr hf ht
  go_enter Tryd.func12, Tryd.ntmps12
  go_wp2_with fail
  generalize hw0 : ((((w.alloc (.cells #[v.m d, v.s d, v.q d] 35)).alloc (.cells #[.int .i64 7, .int .i64 x, .int .i64 y] 41)).alloc (.cells #[.slice none 0 0, .slice none 0 0, .slice none 0 0] 35)).alloc (.cells #[.int .i64 0, .int .i64 0] 37)) = w0 at B ⊢
  clear hw0
  refine (stateOk_any v d _ (HF.out.2.2.1.below B.bel) HF.out.1).mono ?_
  rintro e w1 ⟨rfl, hb1⟩
  rw [hs]
  have B1 := B.below hb1
  obtain ⟨p0, p1, p2⟩ := B1.o.cells
  have HB1 : Hid (LinB4 w w1 v d 7 x y) := B1
  clear B B1 hb1
  go_wp2_with fail
  refine (implOpOk_any 7 x y _ (HF.out.2.2.2.below HB1.out.bel)).mono ?_
  rintro e w2 ⟨rfl, hb2⟩
  rw [ho]
  have B2 := HB1.out.below hb2
  obtain ⟨o0, o1, o2⟩ := B2.o.cells
  obtain ⟨s0, s1, s2⟩ := B2.s.cells
  obtain ⟨m0, m1, m2⟩ := B2.r.cells
  obtain ⟨l0, l1, l2⟩ := B2.r.frees
  have i0 := B2.rr.c0
  have i1 := B2.rr.c1
  have j0 := B2.rr.f 0
  have j1 := B2.rr.f 1
  have HB2 : Hid (LinB4 w w2 v d 7 x y) := B2
  clear HB1 B2 hb2 p0 p1 p2 hs ho
  have hn : ∀ w : World, (nilAhead 250 111 (.agg #[.int .i64 y]) "loop.example/tuggers/impl.of").run Tryd.prog w = .ok (some false) w := fun _ => by kernel_rfl
  have hm : ∀ w : World, (method 250 111 (.agg #[.int .i64 y]) "loop.example/tuggers/impl.of").run Tryd.prog w = .ok (117, .agg #[.int .i64 y]) w := fun _ => by kernel_rfl
  go_wp2
  go_region_held (fun w' => w'.cell? ⟨w.heap.size, 0, none⟩ = some (v.m d) ∧ w'.cell? ⟨w.heap.size, 1, none⟩ = some (v.s d) ∧ w'.cell? ⟨w.heap.size, 2, none⟩ = some (v.q d) ∧ w'.cell? ⟨w.heap.size + 1, 0, none⟩ = some (.int .i64 7) ∧ w'.cell? ⟨w.heap.size + 1, 1, none⟩ = some (.int .i64 x) ∧ w'.cell? ⟨w.heap.size + 1, 2, none⟩ = some (.int .i64 y)) ((refine ⟨?_, ?_, ?_, ?_, ?_, ?_⟩ <;> (try (with_reducible (refine cell_drew ?_))) <;> (repeat (with_reducible (refine cell_far (by omega) ?_))) <;> (with_reducible assumption))) (first | (go_at_call 49; refine (thing7 x y _).mono ?_; rintro e w3 ⟨rfl, hb3⟩; have B3 := HB2.out.below (below_trans' (Below.refl w2.heap.size w2).drew hb3); obtain ⟨o03, o13, o23⟩ := B3.o.cells; obtain ⟨s03, s13, s23⟩ := B3.s.cells; obtain ⟨m03, m13, m23⟩ := B3.r.cells; obtain ⟨l03, l13, l23⟩ := B3.r.frees; have i03 := B3.rr.c0; have i13 := B3.rr.c1; have j03 := B3.rr.f 0; have j13 := B3.rr.f 1; have HB3 : Hid (LinB4 w w3 v d 7 x y) := B3; clear B3 hb3) | (go_at_call 50; refine (state_same v d _ (HF.out.2.2.1.below HB3.out.bel) HF.out.2.1 HF.out.1).mono ?_; rintro e w4 ⟨u, rfl, hst, hap, hb4⟩; have B4 := HB3.out.below hb4; obtain ⟨o04, o14, o24⟩ := B4.o.cells; obtain ⟨s04, s14, s24⟩ := B4.s.cells; obtain ⟨m04, m14, m24⟩ := B4.r.cells; obtain ⟨l04, l14, l24⟩ := B4.r.frees; have i04 := B4.rr.c0; have i14 := B4.rr.c1; have j04 := B4.rr.f 0; have j14 := B4.rr.f 1; have HB4 : Hid (LinB4 w w4 v d 7 x y) := B4; have HU : Hid (St w3.heap.size w4.heap.size u d w4 ∧ Apart u d ∧ Below w3.heap.size w3 w4) := ⟨hst, hap, hb4⟩; clear B4 hb4 hst hap) | (go_at_call 117; refine (of7 w3.heap.size w4.heap.size u d x y _ HU.out.1 HU.out.2.1 HF.out.1 HU.out.2.2.size (Nat.le_refl _)).mono ?_; rintro e w5 ⟨u5, rfl, hst, hap, hb5⟩; have B5 := HB4.out.below hb5; obtain ⟨o05, o15, o25⟩ := B5.o.cells; obtain ⟨s05, s15, s25⟩ := B5.s.cells; obtain ⟨m05, m15, m25⟩ := B5.r.cells; obtain ⟨l05, l15, l25⟩ := B5.r.frees; have i05 := B5.rr.c0; have i15 := B5.rr.c1; have j05 := B5.rr.f 0; have j15 := B5.rr.f 1; have HB5 : Hid (LinB4 w w5 v d 7 x y) := B5; have HV : Hid (St w3.heap.size w5.heap.size u5 ⟨d.n, d.zs, d.s, putL d.q d.q.length y⟩ w5 ∧ Apart u5 ⟨d.n, d.zs, d.s, putL d.q d.q.length y⟩ ∧ Below w4.heap.size w4 w5) := ⟨hst, hap, hb5⟩; clear B5 hb5 hst hap))
  all_goals
    have z3 : w.heap.size + 4 ≤ w3.heap.size := HB3.out.sz
    go_wp2
    refine bodyPost_ret (v := .tuple #[stV u5 ⟨d.n, d.zs, d.s, putL d.q d.q.length y⟩, .agg #[.int .i64 (putC d.q y), .int .i64 (0)]]) (by simp [results, Tryd.results12, go_sem, m05, m15, m25, i05, i15]) rfl ?_
    exact ⟨u5, rfl, st_put5 HV.out.1 z3 (Nat.le_refl _) _ _ _ _ _, HV.out.2.1, below_put5 HB5.out.bel _ _ _ _ _⟩

set_option maxRecDepth 20000 in
set_option maxHeartbeats 1000000 in
theorem lin8 (v : SV) (d : LD) (x y : Int) (w : World) (h : SS w v d) (hr : Room v d) (hf : Few d) (ht : Tab w) (hs : stOk d.n d.zs d.s d.q = true) (ho : opB 8 x y = true) :
    Calls Tryd.prog 12 #[stV v d, .agg #[.int .i64 8, .int .i64 x, .int .i64 y]] w (OfRes w.heap.size ⟨d.n, d.zs, d.s, takeL d.q⟩ (takeC d.q) (takeV d.q) w) := by
  have B := linBoxes w v d 8 x y
  have HF : Hid (Few d ∧ Room v d ∧ SS w v d ∧ Tab w) := ⟨hf, hr, h, ht⟩
  clear h hr hf ht
  go_enter Tryd.func12, Tryd.ntmps12
  go_wp2_with fail
  generalize hw0 : ((((w.alloc (.cells #[v.m d, v.s d, v.q d] 35)).alloc (.cells #[.int .i64 8, .int .i64 x, .int .i64 y] 41)).alloc (.cells #[.slice none 0 0, .slice none 0 0, .slice none 0 0] 35)).alloc (.cells #[.int .i64 0, .int .i64 0] 37)) = w0 at B ⊢
  clear hw0
  refine (stateOk_any v d _ (HF.out.2.2.1.below B.bel) HF.out.1).mono ?_
  rintro e w1 ⟨rfl, hb1⟩
  rw [hs]
  have B1 := B.below hb1
  obtain ⟨p0, p1, p2⟩ := B1.o.cells
  have HB1 : Hid (LinB4 w w1 v d 8 x y) := B1
  clear B B1 hb1
  go_wp2_with fail
  refine (implOpOk_any 8 x y _ (HF.out.2.2.2.below HB1.out.bel)).mono ?_
  rintro e w2 ⟨rfl, hb2⟩
  rw [ho]
  have B2 := HB1.out.below hb2
  obtain ⟨o0, o1, o2⟩ := B2.o.cells
  obtain ⟨s0, s1, s2⟩ := B2.s.cells
  obtain ⟨m0, m1, m2⟩ := B2.r.cells
  obtain ⟨l0, l1, l2⟩ := B2.r.frees
  have i0 := B2.rr.c0
  have i1 := B2.rr.c1
  have j0 := B2.rr.f 0
  have j1 := B2.rr.f 1
  have HB2 : Hid (LinB4 w w2 v d 8 x y) := B2
  clear HB1 B2 hb2 p0 p1 p2 hs ho
  have hn : ∀ w : World, (nilAhead 250 112 (.agg #[]) "loop.example/tuggers/impl.of").run Tryd.prog w = .ok (some false) w := fun _ => by kernel_rfl
  have hm : ∀ w : World, (method 250 112 (.agg #[]) "loop.example/tuggers/impl.of").run Tryd.prog w = .ok (118, .agg #[]) w := fun _ => by kernel_rfl
  go_wp2
  go_region_held (fun w' => w'.cell? ⟨w.heap.size, 0, none⟩ = some (v.m d) ∧ w'.cell? ⟨w.heap.size, 1, none⟩ = some (v.s d) ∧ w'.cell? ⟨w.heap.size, 2, none⟩ = some (v.q d) ∧ w'.cell? ⟨w.heap.size + 1, 0, none⟩ = some (.int .i64 8) ∧ w'.cell? ⟨w.heap.size + 1, 1, none⟩ = some (.int .i64 x) ∧ w'.cell? ⟨w.heap.size + 1, 2, none⟩ = some (.int .i64 y)) ((refine ⟨?_, ?_, ?_, ?_, ?_, ?_⟩ <;> (try (with_reducible (refine cell_drew ?_))) <;> (repeat (with_reducible (refine cell_far (by omega) ?_))) <;> (with_reducible assumption))) (first | (go_at_call 49; refine (thing8 x y _).mono ?_; rintro e w3 ⟨rfl, hb3⟩; have B3 := HB2.out.below (below_trans' (Below.refl w2.heap.size w2).drew hb3); obtain ⟨o03, o13, o23⟩ := B3.o.cells; obtain ⟨s03, s13, s23⟩ := B3.s.cells; obtain ⟨m03, m13, m23⟩ := B3.r.cells; obtain ⟨l03, l13, l23⟩ := B3.r.frees; have i03 := B3.rr.c0; have i13 := B3.rr.c1; have j03 := B3.rr.f 0; have j13 := B3.rr.f 1; have HB3 : Hid (LinB4 w w3 v d 8 x y) := B3; clear B3 hb3) | (go_at_call 50; refine (state_same v d _ (HF.out.2.2.1.below HB3.out.bel) HF.out.2.1 HF.out.1).mono ?_; rintro e w4 ⟨u, rfl, hst, hap, hb4⟩; have B4 := HB3.out.below hb4; obtain ⟨o04, o14, o24⟩ := B4.o.cells; obtain ⟨s04, s14, s24⟩ := B4.s.cells; obtain ⟨m04, m14, m24⟩ := B4.r.cells; obtain ⟨l04, l14, l24⟩ := B4.r.frees; have i04 := B4.rr.c0; have i14 := B4.rr.c1; have j04 := B4.rr.f 0; have j14 := B4.rr.f 1; have HB4 : Hid (LinB4 w w4 v d 8 x y) := B4; have HU : Hid (St w3.heap.size w4.heap.size u d w4 ∧ Apart u d ∧ Below w3.heap.size w3 w4) := ⟨hst, hap, hb4⟩; clear B4 hb4 hst hap) | (go_at_call 118; refine (of8 w3.heap.size w4.heap.size u d x y _ HU.out.1 HU.out.2.1 HF.out.1 HU.out.2.2.size (Nat.le_refl _)).mono ?_; rintro e w5 ⟨u5, rfl, hst, hap, hb5⟩; have B5 := HB4.out.below hb5; obtain ⟨o05, o15, o25⟩ := B5.o.cells; obtain ⟨s05, s15, s25⟩ := B5.s.cells; obtain ⟨m05, m15, m25⟩ := B5.r.cells; obtain ⟨l05, l15, l25⟩ := B5.r.frees; have i05 := B5.rr.c0; have i15 := B5.rr.c1; have j05 := B5.rr.f 0; have j15 := B5.rr.f 1; have HB5 : Hid (LinB4 w w5 v d 8 x y) := B5; have HV : Hid (St w3.heap.size w5.heap.size u5 ⟨d.n, d.zs, d.s, takeL d.q⟩ w5 ∧ Apart u5 ⟨d.n, d.zs, d.s, takeL d.q⟩ ∧ Below w4.heap.size w4 w5) := ⟨hst, hap, hb5⟩; clear B5 hb5 hst hap))
  all_goals
    have z3 : w.heap.size + 4 ≤ w3.heap.size := HB3.out.sz
    go_wp2
    refine bodyPost_ret (v := .tuple #[stV u5 ⟨d.n, d.zs, d.s, takeL d.q⟩, .agg #[.int .i64 (takeC d.q), .int .i64 (takeV d.q)]]) (by simp [results, Tryd.results12, go_sem, m05, m15, m25, i05, i15]) rfl ?_
    exact ⟨u5, rfl, st_put5 HV.out.1 z3 (Nat.le_refl _) _ _ _ _ _, HV.out.2.1, below_put5 HB5.out.bel _ _ _ _ _⟩

set_option maxRecDepth 20000 in
set_option maxHeartbeats 1000000 in
theorem lin9 (v : SV) (d : LD) (x y : Int) (w : World) (h : SS w v d) (hr : Room v d) (hf : Few d) (ht : Tab w) (hs : stOk d.n d.zs d.s d.q = true) (ho : opB 9 x y = true) :
    Calls Tryd.prog 12 #[stV v d, .agg #[.int .i64 9, .int .i64 x, .int .i64 y]] w (OfRes w.heap.size d (nextC d.zs d.n x) (nextV d.zs d.n x) w) := by
  have B := linBoxes w v d 9 x y
  have HF : Hid (Few d ∧ Room v d ∧ SS w v d ∧ Tab w) := ⟨hf, hr, h, ht⟩
  clear h hr hf ht
  go_enter Tryd.func12, Tryd.ntmps12
  go_wp2_with fail
  generalize hw0 : ((((w.alloc (.cells #[v.m d, v.s d, v.q d] 35)).alloc (.cells #[.int .i64 9, .int .i64 x, .int .i64 y] 41)).alloc (.cells #[.slice none 0 0, .slice none 0 0, .slice none 0 0] 35)).alloc (.cells #[.int .i64 0, .int .i64 0] 37)) = w0 at B ⊢
  clear hw0
  refine (stateOk_any v d _ (HF.out.2.2.1.below B.bel) HF.out.1).mono ?_
  rintro e w1 ⟨rfl, hb1⟩
  rw [hs]
  have B1 := B.below hb1
  obtain ⟨p0, p1, p2⟩ := B1.o.cells
  have HB1 : Hid (LinB4 w w1 v d 9 x y) := B1
  clear B B1 hb1
  go_wp2_with fail
  refine (implOpOk_any 9 x y _ (HF.out.2.2.2.below HB1.out.bel)).mono ?_
  rintro e w2 ⟨rfl, hb2⟩
  rw [ho]
  have B2 := HB1.out.below hb2
  obtain ⟨o0, o1, o2⟩ := B2.o.cells
  obtain ⟨s0, s1, s2⟩ := B2.s.cells
  obtain ⟨m0, m1, m2⟩ := B2.r.cells
  obtain ⟨l0, l1, l2⟩ := B2.r.frees
  have i0 := B2.rr.c0
  have i1 := B2.rr.c1
  have j0 := B2.rr.f 0
  have j1 := B2.rr.f 1
  have HB2 : Hid (LinB4 w w2 v d 9 x y) := B2
  clear HB1 B2 hb2 p0 p1 p2 hs ho
  have hn : ∀ w : World, (nilAhead 250 113 (.agg #[.int .i64 x]) "loop.example/tuggers/impl.of").run Tryd.prog w = .ok (some false) w := fun _ => by kernel_rfl
  have hm : ∀ w : World, (method 250 113 (.agg #[.int .i64 x]) "loop.example/tuggers/impl.of").run Tryd.prog w = .ok (119, .agg #[.int .i64 x]) w := fun _ => by kernel_rfl
  go_wp2
  go_region_held (fun w' => w'.cell? ⟨w.heap.size, 0, none⟩ = some (v.m d) ∧ w'.cell? ⟨w.heap.size, 1, none⟩ = some (v.s d) ∧ w'.cell? ⟨w.heap.size, 2, none⟩ = some (v.q d) ∧ w'.cell? ⟨w.heap.size + 1, 0, none⟩ = some (.int .i64 9) ∧ w'.cell? ⟨w.heap.size + 1, 1, none⟩ = some (.int .i64 x) ∧ w'.cell? ⟨w.heap.size + 1, 2, none⟩ = some (.int .i64 y)) ((refine ⟨?_, ?_, ?_, ?_, ?_, ?_⟩ <;> (try (with_reducible (refine cell_drew ?_))) <;> (repeat (with_reducible (refine cell_far (by omega) ?_))) <;> (with_reducible assumption))) (first | (go_at_call 49; refine (thing9 x y _).mono ?_; rintro e w3 ⟨rfl, hb3⟩; have B3 := HB2.out.below (below_trans' (Below.refl w2.heap.size w2).drew hb3); obtain ⟨o03, o13, o23⟩ := B3.o.cells; obtain ⟨s03, s13, s23⟩ := B3.s.cells; obtain ⟨m03, m13, m23⟩ := B3.r.cells; obtain ⟨l03, l13, l23⟩ := B3.r.frees; have i03 := B3.rr.c0; have i13 := B3.rr.c1; have j03 := B3.rr.f 0; have j13 := B3.rr.f 1; have HB3 : Hid (LinB4 w w3 v d 9 x y) := B3; clear B3 hb3) | (go_at_call 50; refine (state_same v d _ (HF.out.2.2.1.below HB3.out.bel) HF.out.2.1 HF.out.1).mono ?_; rintro e w4 ⟨u, rfl, hst, hap, hb4⟩; have B4 := HB3.out.below hb4; obtain ⟨o04, o14, o24⟩ := B4.o.cells; obtain ⟨s04, s14, s24⟩ := B4.s.cells; obtain ⟨m04, m14, m24⟩ := B4.r.cells; obtain ⟨l04, l14, l24⟩ := B4.r.frees; have i04 := B4.rr.c0; have i14 := B4.rr.c1; have j04 := B4.rr.f 0; have j14 := B4.rr.f 1; have HB4 : Hid (LinB4 w w4 v d 9 x y) := B4; have HU : Hid (St w3.heap.size w4.heap.size u d w4 ∧ Apart u d ∧ Below w3.heap.size w3 w4) := ⟨hst, hap, hb4⟩; clear B4 hb4 hst hap) | (go_at_call 119; refine (of9 w3.heap.size w4.heap.size u d x y _ HU.out.1 HU.out.2.1 HF.out.1 HU.out.2.2.size (Nat.le_refl _)).mono ?_; rintro e w5 ⟨u5, rfl, hst, hap, hb5⟩; have B5 := HB4.out.below hb5; obtain ⟨o05, o15, o25⟩ := B5.o.cells; obtain ⟨s05, s15, s25⟩ := B5.s.cells; obtain ⟨m05, m15, m25⟩ := B5.r.cells; obtain ⟨l05, l15, l25⟩ := B5.r.frees; have i05 := B5.rr.c0; have i15 := B5.rr.c1; have j05 := B5.rr.f 0; have j15 := B5.rr.f 1; have HB5 : Hid (LinB4 w w5 v d 9 x y) := B5; have HV : Hid (St w3.heap.size w5.heap.size u5 d w5 ∧ Apart u5 d ∧ Below w4.heap.size w4 w5) := ⟨hst, hap, hb5⟩; clear B5 hb5 hst hap))
  all_goals
    have z3 : w.heap.size + 4 ≤ w3.heap.size := HB3.out.sz
    go_wp2
    refine bodyPost_ret (v := .tuple #[stV u5 d, .agg #[.int .i64 (nextC d.zs d.n x), .int .i64 (nextV d.zs d.n x)]]) (by simp [results, Tryd.results12, go_sem, m05, m15, m25, i05, i15]) rfl ?_
    exact ⟨u5, rfl, st_put5 HV.out.1 z3 (Nat.le_refl _) _ _ _ _ _, HV.out.2.1, below_put5 HB5.out.bel _ _ _ _ _⟩

set_option maxRecDepth 20000 in
set_option maxHeartbeats 1000000 in
theorem lin10 (v : SV) (d : LD) (x y : Int) (w : World) (h : SS w v d) (hr : Room v d) (hf : Few d) (ht : Tab w) (hs : stOk d.n d.zs d.s d.q = true) (ho : opB 10 x y = true) :
    Calls Tryd.prog 12 #[stV v d, .agg #[.int .i64 10, .int .i64 x, .int .i64 y]] w (OfRes w.heap.size d (2) (cntV d.zs d.n x) w) := by
  have B := linBoxes w v d 10 x y
  have HF : Hid (Few d ∧ Room v d ∧ SS w v d ∧ Tab w) := ⟨hf, hr, h, ht⟩
  clear h hr hf ht
  go_enter Tryd.func12, Tryd.ntmps12
  go_wp2_with fail
  generalize hw0 : ((((w.alloc (.cells #[v.m d, v.s d, v.q d] 35)).alloc (.cells #[.int .i64 10, .int .i64 x, .int .i64 y] 41)).alloc (.cells #[.slice none 0 0, .slice none 0 0, .slice none 0 0] 35)).alloc (.cells #[.int .i64 0, .int .i64 0] 37)) = w0 at B ⊢
  clear hw0
  refine (stateOk_any v d _ (HF.out.2.2.1.below B.bel) HF.out.1).mono ?_
  rintro e w1 ⟨rfl, hb1⟩
  rw [hs]
  have B1 := B.below hb1
  obtain ⟨p0, p1, p2⟩ := B1.o.cells
  have HB1 : Hid (LinB4 w w1 v d 10 x y) := B1
  clear B B1 hb1
  go_wp2_with fail
  refine (implOpOk_any 10 x y _ (HF.out.2.2.2.below HB1.out.bel)).mono ?_
  rintro e w2 ⟨rfl, hb2⟩
  rw [ho]
  have B2 := HB1.out.below hb2
  obtain ⟨o0, o1, o2⟩ := B2.o.cells
  obtain ⟨s0, s1, s2⟩ := B2.s.cells
  obtain ⟨m0, m1, m2⟩ := B2.r.cells
  obtain ⟨l0, l1, l2⟩ := B2.r.frees
  have i0 := B2.rr.c0
  have i1 := B2.rr.c1
  have j0 := B2.rr.f 0
  have j1 := B2.rr.f 1
  have HB2 : Hid (LinB4 w w2 v d 10 x y) := B2
  clear HB1 B2 hb2 p0 p1 p2 hs ho
  have hn : ∀ w : World, (nilAhead 250 114 (.agg #[.int .i64 x]) "loop.example/tuggers/impl.of").run Tryd.prog w = .ok (some false) w := fun _ => by kernel_rfl
  have hm : ∀ w : World, (method 250 114 (.agg #[.int .i64 x]) "loop.example/tuggers/impl.of").run Tryd.prog w = .ok (120, .agg #[.int .i64 x]) w := fun _ => by kernel_rfl
  go_wp2
  go_region_held (fun w' => w'.cell? ⟨w.heap.size, 0, none⟩ = some (v.m d) ∧ w'.cell? ⟨w.heap.size, 1, none⟩ = some (v.s d) ∧ w'.cell? ⟨w.heap.size, 2, none⟩ = some (v.q d) ∧ w'.cell? ⟨w.heap.size + 1, 0, none⟩ = some (.int .i64 10) ∧ w'.cell? ⟨w.heap.size + 1, 1, none⟩ = some (.int .i64 x) ∧ w'.cell? ⟨w.heap.size + 1, 2, none⟩ = some (.int .i64 y)) ((refine ⟨?_, ?_, ?_, ?_, ?_, ?_⟩ <;> (try (with_reducible (refine cell_drew ?_))) <;> (repeat (with_reducible (refine cell_far (by omega) ?_))) <;> (with_reducible assumption))) (first | (go_at_call 49; refine (thing10 x y _).mono ?_; rintro e w3 ⟨rfl, hb3⟩; have B3 := HB2.out.below (below_trans' (Below.refl w2.heap.size w2).drew hb3); obtain ⟨o03, o13, o23⟩ := B3.o.cells; obtain ⟨s03, s13, s23⟩ := B3.s.cells; obtain ⟨m03, m13, m23⟩ := B3.r.cells; obtain ⟨l03, l13, l23⟩ := B3.r.frees; have i03 := B3.rr.c0; have i13 := B3.rr.c1; have j03 := B3.rr.f 0; have j13 := B3.rr.f 1; have HB3 : Hid (LinB4 w w3 v d 10 x y) := B3; clear B3 hb3) | (go_at_call 50; refine (state_same v d _ (HF.out.2.2.1.below HB3.out.bel) HF.out.2.1 HF.out.1).mono ?_; rintro e w4 ⟨u, rfl, hst, hap, hb4⟩; have B4 := HB3.out.below hb4; obtain ⟨o04, o14, o24⟩ := B4.o.cells; obtain ⟨s04, s14, s24⟩ := B4.s.cells; obtain ⟨m04, m14, m24⟩ := B4.r.cells; obtain ⟨l04, l14, l24⟩ := B4.r.frees; have i04 := B4.rr.c0; have i14 := B4.rr.c1; have j04 := B4.rr.f 0; have j14 := B4.rr.f 1; have HB4 : Hid (LinB4 w w4 v d 10 x y) := B4; have HU : Hid (St w3.heap.size w4.heap.size u d w4 ∧ Apart u d ∧ Below w3.heap.size w3 w4) := ⟨hst, hap, hb4⟩; clear B4 hb4 hst hap) | (go_at_call 120; refine (of10 w3.heap.size w4.heap.size u d x y _ HU.out.1 HU.out.2.1 HF.out.1 HU.out.2.2.size (Nat.le_refl _)).mono ?_; rintro e w5 ⟨u5, rfl, hst, hap, hb5⟩; have B5 := HB4.out.below hb5; obtain ⟨o05, o15, o25⟩ := B5.o.cells; obtain ⟨s05, s15, s25⟩ := B5.s.cells; obtain ⟨m05, m15, m25⟩ := B5.r.cells; obtain ⟨l05, l15, l25⟩ := B5.r.frees; have i05 := B5.rr.c0; have i15 := B5.rr.c1; have j05 := B5.rr.f 0; have j15 := B5.rr.f 1; have HB5 : Hid (LinB4 w w5 v d 10 x y) := B5; have HV : Hid (St w3.heap.size w5.heap.size u5 d w5 ∧ Apart u5 d ∧ Below w4.heap.size w4 w5) := ⟨hst, hap, hb5⟩; clear B5 hb5 hst hap))
  all_goals
    have z3 : w.heap.size + 4 ≤ w3.heap.size := HB3.out.sz
    go_wp2
    refine bodyPost_ret (v := .tuple #[stV u5 d, .agg #[.int .i64 (2), .int .i64 (cntV d.zs d.n x)]]) (by simp [results, Tryd.results12, go_sem, m05, m15, m25, i05, i15]) rfl ?_
    exact ⟨u5, rfl, st_put5 HV.out.1 z3 (Nat.le_refl _) _ _ _ _ _, HV.out.2.1, below_put5 HB5.out.bel _ _ _ _ _⟩

set_option maxRecDepth 20000 in
set_option maxHeartbeats 1000000 in
theorem lin11 (v : SV) (d : LD) (x y : Int) (w : World) (h : SS w v d) (hr : Room v d) (hf : Few d) (ht : Tab w) (hs : stOk d.n d.zs d.s d.q = true) (ho : opB 11 x y = true) :
    Calls Tryd.prog 12 #[stV v d, .agg #[.int .i64 11, .int .i64 x, .int .i64 y]] w (OfRes w.heap.size d (firstC d.s) (firstV d.s) w) := by
  have B := linBoxes w v d 11 x y
  have HF : Hid (Few d ∧ Room v d ∧ SS w v d ∧ Tab w) := ⟨hf, hr, h, ht⟩
  clear h hr hf ht
  go_enter Tryd.func12, Tryd.ntmps12
  go_wp2_with fail
  generalize hw0 : ((((w.alloc (.cells #[v.m d, v.s d, v.q d] 35)).alloc (.cells #[.int .i64 11, .int .i64 x, .int .i64 y] 41)).alloc (.cells #[.slice none 0 0, .slice none 0 0, .slice none 0 0] 35)).alloc (.cells #[.int .i64 0, .int .i64 0] 37)) = w0 at B ⊢
  clear hw0
  refine (stateOk_any v d _ (HF.out.2.2.1.below B.bel) HF.out.1).mono ?_
  rintro e w1 ⟨rfl, hb1⟩
  rw [hs]
  have B1 := B.below hb1
  obtain ⟨p0, p1, p2⟩ := B1.o.cells
  have HB1 : Hid (LinB4 w w1 v d 11 x y) := B1
  clear B B1 hb1
  go_wp2_with fail
  refine (implOpOk_any 11 x y _ (HF.out.2.2.2.below HB1.out.bel)).mono ?_
  rintro e w2 ⟨rfl, hb2⟩
  rw [ho]
  have B2 := HB1.out.below hb2
  obtain ⟨o0, o1, o2⟩ := B2.o.cells
  obtain ⟨s0, s1, s2⟩ := B2.s.cells
  obtain ⟨m0, m1, m2⟩ := B2.r.cells
  obtain ⟨l0, l1, l2⟩ := B2.r.frees
  have i0 := B2.rr.c0
  have i1 := B2.rr.c1
  have j0 := B2.rr.f 0
  have j1 := B2.rr.f 1
  have HB2 : Hid (LinB4 w w2 v d 11 x y) := B2
  clear HB1 B2 hb2 p0 p1 p2 hs ho
  have hn : ∀ w : World, (nilAhead 250 115 (.agg #[]) "loop.example/tuggers/impl.of").run Tryd.prog w = .ok (some false) w := fun _ => by kernel_rfl
  have hm : ∀ w : World, (method 250 115 (.agg #[]) "loop.example/tuggers/impl.of").run Tryd.prog w = .ok (121, .agg #[]) w := fun _ => by kernel_rfl
  go_wp2
  go_region_held (fun w' => w'.cell? ⟨w.heap.size, 0, none⟩ = some (v.m d) ∧ w'.cell? ⟨w.heap.size, 1, none⟩ = some (v.s d) ∧ w'.cell? ⟨w.heap.size, 2, none⟩ = some (v.q d) ∧ w'.cell? ⟨w.heap.size + 1, 0, none⟩ = some (.int .i64 11) ∧ w'.cell? ⟨w.heap.size + 1, 1, none⟩ = some (.int .i64 x) ∧ w'.cell? ⟨w.heap.size + 1, 2, none⟩ = some (.int .i64 y)) ((refine ⟨?_, ?_, ?_, ?_, ?_, ?_⟩ <;> (try (with_reducible (refine cell_drew ?_))) <;> (repeat (with_reducible (refine cell_far (by omega) ?_))) <;> (with_reducible assumption))) (first | (go_at_call 49; refine (thing11 x y _).mono ?_; rintro e w3 ⟨rfl, hb3⟩; have B3 := HB2.out.below (below_trans' (Below.refl w2.heap.size w2).drew hb3); obtain ⟨o03, o13, o23⟩ := B3.o.cells; obtain ⟨s03, s13, s23⟩ := B3.s.cells; obtain ⟨m03, m13, m23⟩ := B3.r.cells; obtain ⟨l03, l13, l23⟩ := B3.r.frees; have i03 := B3.rr.c0; have i13 := B3.rr.c1; have j03 := B3.rr.f 0; have j13 := B3.rr.f 1; have HB3 : Hid (LinB4 w w3 v d 11 x y) := B3; clear B3 hb3) | (go_at_call 50; refine (state_same v d _ (HF.out.2.2.1.below HB3.out.bel) HF.out.2.1 HF.out.1).mono ?_; rintro e w4 ⟨u, rfl, hst, hap, hb4⟩; have B4 := HB3.out.below hb4; obtain ⟨o04, o14, o24⟩ := B4.o.cells; obtain ⟨s04, s14, s24⟩ := B4.s.cells; obtain ⟨m04, m14, m24⟩ := B4.r.cells; obtain ⟨l04, l14, l24⟩ := B4.r.frees; have i04 := B4.rr.c0; have i14 := B4.rr.c1; have j04 := B4.rr.f 0; have j14 := B4.rr.f 1; have HB4 : Hid (LinB4 w w4 v d 11 x y) := B4; have HU : Hid (St w3.heap.size w4.heap.size u d w4 ∧ Apart u d ∧ Below w3.heap.size w3 w4) := ⟨hst, hap, hb4⟩; clear B4 hb4 hst hap) | (go_at_call 121; refine (of11 w3.heap.size w4.heap.size u d x y _ HU.out.1 HU.out.2.1 HF.out.1 HU.out.2.2.size (Nat.le_refl _)).mono ?_; rintro e w5 ⟨u5, rfl, hst, hap, hb5⟩; have B5 := HB4.out.below hb5; obtain ⟨o05, o15, o25⟩ := B5.o.cells; obtain ⟨s05, s15, s25⟩ := B5.s.cells; obtain ⟨m05, m15, m25⟩ := B5.r.cells; obtain ⟨l05, l15, l25⟩ := B5.r.frees; have i05 := B5.rr.c0; have i15 := B5.rr.c1; have j05 := B5.rr.f 0; have j15 := B5.rr.f 1; have HB5 : Hid (LinB4 w w5 v d 11 x y) := B5; have HV : Hid (St w3.heap.size w5.heap.size u5 d w5 ∧ Apart u5 d ∧ Below w4.heap.size w4 w5) := ⟨hst, hap, hb5⟩; clear B5 hb5 hst hap))
  all_goals
    have z3 : w.heap.size + 4 ≤ w3.heap.size := HB3.out.sz
    go_wp2
    refine bodyPost_ret (v := .tuple #[stV u5 d, .agg #[.int .i64 (firstC d.s), .int .i64 (firstV d.s)]]) (by simp [results, Tryd.results12, go_sem, m05, m15, m25, i05, i15]) rfl ?_
    exact ⟨u5, rfl, st_put5 HV.out.1 z3 (Nat.le_refl _) _ _ _ _ _, HV.out.2.1, below_put5 HB5.out.bel _ _ _ _ _⟩

set_option maxRecDepth 20000 in
set_option maxHeartbeats 1000000 in
theorem lin12 (v : SV) (d : LD) (x y : Int) (w : World) (h : SS w v d) (hr : Room v d) (hf : Few d) (ht : Tab w) (hs : stOk d.n d.zs d.s d.q = true) (ho : opB 12 x y = true) :
    Calls Tryd.prog 12 #[stV v d, .agg #[.int .i64 12, .int .i64 x, .int .i64 y]] w (OfRes w.heap.size d (firstC d.q) (firstV d.q) w) := by
  have B := linBoxes w v d 12 x y
  have HF : Hid (Few d ∧ Room v d ∧ SS w v d ∧ Tab w) := ⟨hf, hr, h, ht⟩
  clear h hr hf ht
  go_enter Tryd.func12, Tryd.ntmps12
  go_wp2_with fail
  generalize hw0 : ((((w.alloc (.cells #[v.m d, v.s d, v.q d] 35)).alloc (.cells #[.int .i64 12, .int .i64 x, .int .i64 y] 41)).alloc (.cells #[.slice none 0 0, .slice none 0 0, .slice none 0 0] 35)).alloc (.cells #[.int .i64 0, .int .i64 0] 37)) = w0 at B ⊢
  clear hw0
  refine (stateOk_any v d _ (HF.out.2.2.1.below B.bel) HF.out.1).mono ?_
  rintro e w1 ⟨rfl, hb1⟩
  rw [hs]
  have B1 := B.below hb1
  obtain ⟨p0, p1, p2⟩ := B1.o.cells
  have HB1 : Hid (LinB4 w w1 v d 12 x y) := B1
  clear B B1 hb1
  go_wp2_with fail
  refine (implOpOk_any 12 x y _ (HF.out.2.2.2.below HB1.out.bel)).mono ?_
  rintro e w2 ⟨rfl, hb2⟩
  rw [ho]
  have B2 := HB1.out.below hb2
  obtain ⟨o0, o1, o2⟩ := B2.o.cells
  obtain ⟨s0, s1, s2⟩ := B2.s.cells
  obtain ⟨m0, m1, m2⟩ := B2.r.cells
  obtain ⟨l0, l1, l2⟩ := B2.r.frees
  have i0 := B2.rr.c0
  have i1 := B2.rr.c1
  have j0 := B2.rr.f 0
  have j1 := B2.rr.f 1
  have HB2 : Hid (LinB4 w w2 v d 12 x y) := B2
  clear HB1 B2 hb2 p0 p1 p2 hs ho
  have hn : ∀ w : World, (nilAhead 250 116 (.agg #[]) "loop.example/tuggers/impl.of").run Tryd.prog w = .ok (some false) w := fun _ => by kernel_rfl
  have hm : ∀ w : World, (method 250 116 (.agg #[]) "loop.example/tuggers/impl.of").run Tryd.prog w = .ok (122, .agg #[]) w := fun _ => by kernel_rfl
  go_wp2
  go_region_held (fun w' => w'.cell? ⟨w.heap.size, 0, none⟩ = some (v.m d) ∧ w'.cell? ⟨w.heap.size, 1, none⟩ = some (v.s d) ∧ w'.cell? ⟨w.heap.size, 2, none⟩ = some (v.q d) ∧ w'.cell? ⟨w.heap.size + 1, 0, none⟩ = some (.int .i64 12) ∧ w'.cell? ⟨w.heap.size + 1, 1, none⟩ = some (.int .i64 x) ∧ w'.cell? ⟨w.heap.size + 1, 2, none⟩ = some (.int .i64 y)) ((refine ⟨?_, ?_, ?_, ?_, ?_, ?_⟩ <;> (try (with_reducible (refine cell_drew ?_))) <;> (repeat (with_reducible (refine cell_far (by omega) ?_))) <;> (with_reducible assumption))) (first | (go_at_call 49; refine (thing12 x y _).mono ?_; rintro e w3 ⟨rfl, hb3⟩; have B3 := HB2.out.below (below_trans' (Below.refl w2.heap.size w2).drew hb3); obtain ⟨o03, o13, o23⟩ := B3.o.cells; obtain ⟨s03, s13, s23⟩ := B3.s.cells; obtain ⟨m03, m13, m23⟩ := B3.r.cells; obtain ⟨l03, l13, l23⟩ := B3.r.frees; have i03 := B3.rr.c0; have i13 := B3.rr.c1; have j03 := B3.rr.f 0; have j13 := B3.rr.f 1; have HB3 : Hid (LinB4 w w3 v d 12 x y) := B3; clear B3 hb3) | (go_at_call 50; refine (state_same v d _ (HF.out.2.2.1.below HB3.out.bel) HF.out.2.1 HF.out.1).mono ?_; rintro e w4 ⟨u, rfl, hst, hap, hb4⟩; have B4 := HB3.out.below hb4; obtain ⟨o04, o14, o24⟩ := B4.o.cells; obtain ⟨s04, s14, s24⟩ := B4.s.cells; obtain ⟨m04, m14, m24⟩ := B4.r.cells; obtain ⟨l04, l14, l24⟩ := B4.r.frees; have i04 := B4.rr.c0; have i14 := B4.rr.c1; have j04 := B4.rr.f 0; have j14 := B4.rr.f 1; have HB4 : Hid (LinB4 w w4 v d 12 x y) := B4; have HU : Hid (St w3.heap.size w4.heap.size u d w4 ∧ Apart u d ∧ Below w3.heap.size w3 w4) := ⟨hst, hap, hb4⟩; clear B4 hb4 hst hap) | (go_at_call 122; refine (of12 w3.heap.size w4.heap.size u d x y _ HU.out.1 HU.out.2.1 HF.out.1 HU.out.2.2.size (Nat.le_refl _)).mono ?_; rintro e w5 ⟨u5, rfl, hst, hap, hb5⟩; have B5 := HB4.out.below hb5; obtain ⟨o05, o15, o25⟩ := B5.o.cells; obtain ⟨s05, s15, s25⟩ := B5.s.cells; obtain ⟨m05, m15, m25⟩ := B5.r.cells; obtain ⟨l05, l15, l25⟩ := B5.r.frees; have i05 := B5.rr.c0; have i15 := B5.rr.c1; have j05 := B5.rr.f 0; have j15 := B5.rr.f 1; have HB5 : Hid (LinB4 w w5 v d 12 x y) := B5; have HV : Hid (St w3.heap.size w5.heap.size u5 d w5 ∧ Apart u5 d ∧ Below w4.heap.size w4 w5) := ⟨hst, hap, hb5⟩; clear B5 hb5 hst hap))
  all_goals
    have z3 : w.heap.size + 4 ≤ w3.heap.size := HB3.out.sz
    go_wp2
    refine bodyPost_ret (v := .tuple #[stV u5 d, .agg #[.int .i64 (firstC d.q), .int .i64 (firstV d.q)]]) (by simp [results, Tryd.results12, go_sem, m05, m15, m25, i05, i15]) rfl ?_
    exact ⟨u5, rfl, st_put5 HV.out.1 z3 (Nat.le_refl _) _ _ _ _ _, HV.out.2.1, below_put5 HB5.out.bel _ _ _ _ _⟩

end Go.Proofs.YtklpdpdjblakgaaDoor

/- LinN -/
namespace Go.Proofs.YtklpdpdjblakgaaDoor
open Go.RowKit
set_option linter.unusedVariables false

set_option maxRecDepth 20000 in
set_option maxHeartbeats 1000000 in
theorem slinBad (v : SV) (d : LD) (k x y : Int) (w : World) (h : SS w v d) (hf : Few d) (hb : (okM d.zs d.n && (okL d.s && (okL d.q && opB k x y))) = false) :
    Calls Tryd.prog 9 #[stV v d, .agg #[.int .i64 k, .int .i64 x, .int .i64 y]] w (SpRes ⟨0, [], [], []⟩ 0 0 w) := by
  have B := linBoxes w v d k x y
  have HF : Hid (Few d ∧ SS w v d) := ⟨hf, h⟩
  have nil : ∀ (W : World) (e : TypeId) (sz lo hi : Nat), RowIn lo hi e sz (.slice none 0 0) 0 [] W := fun W e sz lo hi => ⟨⟨by simp, .inl ⟨rfl, rfl⟩⟩, fun k e => by cases e⟩
  have NIL : Hid (∀ (W : World) (lo hi : Nat), St lo hi ⟨none, 0, none, 0, none, 0⟩ ⟨0, [], [], []⟩ W) := fun W lo hi => ⟨nil _ _ _ _ _, nil _ _ _ _ _, nil _ _ _ _ _⟩
  clear h hf nil
  generalize hm : okM d.zs d.n = b1 at hb
  generalize hs : okL d.s = b2 at hb
  generalize hq : okL d.q = b3 at hb
  generalize ho : opB k x y = b4 at hb
  have HQ : Hid (okM d.zs d.n = b1 ∧ okL d.s = b2 ∧ okL d.q = b3 ∧ opB k x y = b4) := ⟨hm, hs, hq, ho⟩
  clear hm hs hq ho
  go_enter Tryd.func9, Tryd.ntmps9
  go_wp2_with fail
  generalize hw0 : ((((w.alloc (.cells #[v.m d, v.s d, v.q d] 35)).alloc (.cells #[.int .i64 k, .int .i64 x, .int .i64 y] 41)).alloc (.cells #[.slice none 0 0, .slice none 0 0, .slice none 0 0] 35)).alloc (.cells #[.int .i64 0, .int .i64 0] 37)) = w0 at B ⊢
  clear hw0
  refine (specMapOk_any _ _ _ d.zs _ (HF.out.2.below B.bel).m (by have := HF.out.1.m; omega)).mono ?_
  rintro e w1 ⟨rfl, hb1⟩
  rw [HQ.out.1]
  have B1 := B.below hb1
  obtain ⟨s0, s1, s2⟩ := B1.s.cells
  obtain ⟨p0, p1, p2⟩ := B1.o.cells
  obtain ⟨m0, m1, m2⟩ := B1.r.cells
  obtain ⟨l0, l1, l2⟩ := B1.r.frees
  have i0 := B1.rr.c0
  have i1 := B1.rr.c1
  have j0 := B1.rr.f 0
  have j1 := B1.rr.f 1
  have HB1 : Hid (LinB4 w w1 v d k x y) := B1
  clear B B1 hb1
  cases b1
  · clear hb
    go_wp2
    all_goals
      refine bodyPost_ret (v := .tuple #[stV ⟨none, 0, none, 0, none, 0⟩ ⟨0, [], [], []⟩, .agg #[.int .i64 0, .int .i64 0]]) (by simp [results, Tryd.results9, go_sem, m0, m1, m2, i0, i1]) rfl ?_
      exact ⟨_, rfl, NIL.out _ _ _, below_put5 HB1.out.bel _ _ _ _ _⟩
  go_wp2_with fail
  refine (specListOk_any _ _ _ d.s _ (HF.out.2.below HB1.out.bel).s (by have := HF.out.1.s; omega)).mono ?_
  rintro e w1' ⟨rfl, rfl⟩
  rw [HQ.out.2.1]
  cases b2
  · clear hb
    go_wp2
    all_goals
      refine bodyPost_ret (v := .tuple #[stV ⟨none, 0, none, 0, none, 0⟩ ⟨0, [], [], []⟩, .agg #[.int .i64 0, .int .i64 0]]) (by simp [results, Tryd.results9, go_sem, m0, m1, m2, i0, i1]) rfl ?_
      exact ⟨_, rfl, NIL.out _ _ _, below_put5 HB1.out.bel _ _ _ _ _⟩
  go_wp2_with fail
  refine (specListOk_any _ _ _ d.q _ (HF.out.2.below HB1.out.bel).q (by have := HF.out.1.q; omega)).mono ?_
  rintro e w1' ⟨rfl, rfl⟩
  rw [HQ.out.2.2.1]
  cases b3
  · clear hb
    go_wp2
    all_goals
      refine bodyPost_ret (v := .tuple #[stV ⟨none, 0, none, 0, none, 0⟩ ⟨0, [], [], []⟩, .agg #[.int .i64 0, .int .i64 0]]) (by simp [results, Tryd.results9, go_sem, m0, m1, m2, i0, i1]) rfl ?_
      exact ⟨_, rfl, NIL.out _ _ _, below_put5 HB1.out.bel _ _ _ _ _⟩
  obtain rfl : b4 = false := by simpa using hb
  clear m0 m1 m2 l0 l1 l2 i0 i1 j0 j1
  go_wp2_with fail
  refine (specOpOk_any k x y _).mono ?_
  rintro e w2 ⟨rfl, hb2⟩
  rw [HQ.out.2.2.2]
  have B2 := HB1.out.below hb2
  obtain ⟨m0, m1, m2⟩ := B2.r.cells
  obtain ⟨l0, l1, l2⟩ := B2.r.frees
  have i0 := B2.rr.c0
  have i1 := B2.rr.c1
  have j0 := B2.rr.f 0
  have j1 := B2.rr.f 1
  have HB2 : Hid (LinB4 w w2 v d k x y) := B2
  clear HB1 B2 hb2 p0 p1 p2 s0 s1 s2 hb
  go_wp2
  all_goals
    refine bodyPost_ret (v := .tuple #[stV ⟨none, 0, none, 0, none, 0⟩ ⟨0, [], [], []⟩, .agg #[.int .i64 0, .int .i64 0]]) (by simp [results, Tryd.results9, go_sem, m0, m1, m2, i0, i1]) rfl ?_
    exact ⟨_, rfl, NIL.out _ _ _, below_put5 HB2.out.bel _ _ _ _ _⟩

/-- What LinApply makes of a state. -/
def aD (k x y : Int) (d : LD) : LD := ⟨aN k x y d.n d.zs d.s d.q, aZ k x y d.n d.zs d.s d.q, aS k x y d.n d.zs d.s d.q, aQ k x y d.n d.zs d.s d.q⟩
def aCd (k x y : Int) (d : LD) : Int := aC k x y d.n d.zs d.s d.q
def aVd (k x y : Int) (d : LD) : Int := aV k x y d.n d.zs d.s d.q
def okD (k x y : Int) (d : LD) : Bool := apOk k x y d.n d.zs d.s d.q

theorem aD_bad {k x y : Int} {d : LD} (h : okD k x y d = false) : aD k x y d = ⟨0, [], [], []⟩ ∧ aCd k x y d = 0 ∧ aVd k x y d = 0 := by
  have h' : apOk k x y d.n d.zs d.s d.q = false := h
  refine ⟨?_, ?_, ?_⟩
  · simp only [aD, aN, aZ, aS, aQ, h']; rfl
  · simp only [aCd, aC, h']; rfl
  · simp only [aVd, aV, h']; rfl

theorem specLinApply_any (v : SV) (d : LD) (k x y : Int) (w : World) (h : SS w v d) (hr : Room v d) (hf : Few d) (hg : Somes v) :
    Calls Tryd.prog 9 #[stV v d, .agg #[.int .i64 k, .int .i64 x, .int .i64 y]] w (SpRes (aD k x y d) (aCd k x y d) (aVd k x y d) w) := by
  cases hb : okD k x y d
  · obtain ⟨e1, e2, e3⟩ := aD_bad hb
    rw [e1, e2, e3]
    refine slinBad v d k x y w h hf ?_
    simpa only [okD, apOk, stOk, Bool.and_assoc] using hb
  · have hb' : apOk k x y d.n d.zs d.s d.q = true := hb
    obtain ⟨h1, h2, h3, h4⟩ := apOk_parts hb'
    obtain ⟨ha, hc, _, _⟩ := opB_parts h4
    rcases (show k = 1 ∨ k = 2 ∨ k = 3 ∨ k = 4 ∨ k = 5 ∨ k = 6 ∨ k = 7 ∨ k = 8 ∨ k = 9 ∨ k = 10 ∨ k = 11 ∨ k = 12 by omega) with rfl | rfl | rfl | rfl | rfl | rfl | rfl | rfl | rfl | rfl | rfl | rfl
    · have e1 : aD 1 x y d = d := by simp only [aD, aN, aZ, aS, aQ, hb', if_true]; rfl
      have e2 : aCd 1 x y d = getC d.zs d.n x := by simp only [aCd, aC, hb', if_true]; rfl
      have e3 : aVd 1 x y d = getV d.zs d.n x := by simp only [aVd, aV, hb', if_true]; rfl
      rw [e1, e2, e3]
      exact slin1 v d x y w h hr hf hg h1 h2 h3 h4
    · have e1 : aD 2 x y d = ⟨ptN d.zs d.n x y, ptL d.zs d.n x y, d.s, d.q⟩ := by simp only [aD, aN, aZ, aS, aQ, hb', if_true]; rfl
      have e2 : aCd 2 x y d = ptC d.zs d.n x y := by simp only [aCd, aC, hb', if_true]; rfl
      have e3 : aVd 2 x y d = 0 := by simp only [aVd, aV, hb', if_true]; rfl
      rw [e1, e2, e3]
      exact slin2 v d x y w h hr hf hg h1 h2 h3 h4
    · have e1 : aD 3 x y d = ⟨delN d.zs d.n x, delL d.zs d.n x, d.s, d.q⟩ := by simp only [aD, aN, aZ, aS, aQ, hb', if_true]; rfl
      have e2 : aCd 3 x y d = delC d.zs d.n x := by simp only [aCd, aC, hb', if_true]; rfl
      have e3 : aVd 3 x y d = delV d.zs d.n x := by simp only [aVd, aV, hb', if_true]; rfl
      rw [e1, e2, e3]
      exact slin3 v d x y w h hr hf hg h1 h2 h3 h4
    · have e1 : aD 4 x y d = d := by simp only [aD, aN, aZ, aS, aQ, hb', if_true]; rfl
      have e2 : aCd 4 x y d = 2 := by simp only [aCd, aC, hb', if_true]; rfl
      have e3 : aVd 4 x y d = 0 := by simp only [aVd, aV, hb', if_true]; rfl
      rw [e1, e2, e3]
      exact slin4 v d x y w h hr hf hg h1 h2 h3 h4
    · have e1 : aD 5 x y d = ⟨d.n, d.zs, putL d.s 0 y, d.q⟩ := by simp only [aD, aN, aZ, aS, aQ, hb', if_true]; rfl
      have e2 : aCd 5 x y d = putC d.s y := by simp only [aCd, aC, hb', if_true]; rfl
      have e3 : aVd 5 x y d = 0 := by simp only [aVd, aV, hb', if_true]; rfl
      rw [e1, e2, e3]
      exact slin5 v d x y w h hr hf hg h1 h2 h3 h4
    · have e1 : aD 6 x y d = ⟨d.n, d.zs, takeL d.s, d.q⟩ := by simp only [aD, aN, aZ, aS, aQ, hb', if_true]; rfl
      have e2 : aCd 6 x y d = takeC d.s := by simp only [aCd, aC, hb', if_true]; rfl
      have e3 : aVd 6 x y d = takeV d.s := by simp only [aVd, aV, hb', if_true]; rfl
      rw [e1, e2, e3]
      exact slin6 v d x y w h hr hf hg h1 h2 h3 h4
    · have e1 : aD 7 x y d = ⟨d.n, d.zs, d.s, putL d.q d.q.length y⟩ := by simp only [aD, aN, aZ, aS, aQ, hb', if_true]; rfl
      have e2 : aCd 7 x y d = putC d.q y := by simp only [aCd, aC, hb', if_true]; rfl
      have e3 : aVd 7 x y d = 0 := by simp only [aVd, aV, hb', if_true]; rfl
      rw [e1, e2, e3]
      exact slin7 v d x y w h hr hf hg h1 h2 h3 h4
    · have e1 : aD 8 x y d = ⟨d.n, d.zs, d.s, takeL d.q⟩ := by simp only [aD, aN, aZ, aS, aQ, hb', if_true]; rfl
      have e2 : aCd 8 x y d = takeC d.q := by simp only [aCd, aC, hb', if_true]; rfl
      have e3 : aVd 8 x y d = takeV d.q := by simp only [aVd, aV, hb', if_true]; rfl
      rw [e1, e2, e3]
      exact slin8 v d x y w h hr hf hg h1 h2 h3 h4
    · have e1 : aD 9 x y d = d := by simp only [aD, aN, aZ, aS, aQ, hb', if_true]; rfl
      have e2 : aCd 9 x y d = nextC d.zs d.n x := by simp only [aCd, aC, hb', if_true]; rfl
      have e3 : aVd 9 x y d = nextV d.zs d.n x := by simp only [aVd, aV, hb', if_true]; rfl
      rw [e1, e2, e3]
      exact slin9 v d x y w h hr hf hg h1 h2 h3 h4
    · have e1 : aD 10 x y d = d := by simp only [aD, aN, aZ, aS, aQ, hb', if_true]; rfl
      have e2 : aCd 10 x y d = 2 := by simp only [aCd, aC, hb', if_true]; rfl
      have e3 : aVd 10 x y d = cntV d.zs d.n x := by simp only [aVd, aV, hb', if_true]; rfl
      rw [e1, e2, e3]
      exact slin10 v d x y w h hr hf hg h1 h2 h3 h4
    · have e1 : aD 11 x y d = d := by simp only [aD, aN, aZ, aS, aQ, hb', if_true]; rfl
      have e2 : aCd 11 x y d = firstC d.s := by simp only [aCd, aC, hb', if_true]; rfl
      have e3 : aVd 11 x y d = firstV d.s := by simp only [aVd, aV, hb', if_true]; rfl
      rw [e1, e2, e3]
      exact slin11 v d x y w h hr hf hg h1 h2 h3 h4
    · have e1 : aD 12 x y d = d := by simp only [aD, aN, aZ, aS, aQ, hb', if_true]; rfl
      have e2 : aCd 12 x y d = firstC d.q := by simp only [aCd, aC, hb', if_true]; rfl
      have e3 : aVd 12 x y d = firstV d.q := by simp only [aVd, aV, hb', if_true]; rfl
      rw [e1, e2, e3]
      exact slin12 v d x y w h hr hf hg h1 h2 h3 h4

theorem implLinApply_any (v : SV) (d : LD) (k x y : Int) (w : World) (h : SS w v d) (hr : Room v d) (hf : Few d) (ht : Tab w) :
    Calls Tryd.prog 12 #[stV v d, .agg #[.int .i64 k, .int .i64 x, .int .i64 y]] w (OfRes w.heap.size (aD k x y d) (aCd k x y d) (aVd k x y d) w) := by
  cases hb : okD k x y d
  · obtain ⟨e1, e2, e3⟩ := aD_bad hb
    rw [e1, e2, e3]
    exact linBad v d k x y w h hf ht hb
  · have hb' : apOk k x y d.n d.zs d.s d.q = true := hb
    obtain ⟨h1, h2, h3, h4⟩ := apOk_parts hb'
    have hst : stOk d.n d.zs d.s d.q = true := by simp [stOk, h1, h2, h3]
    obtain ⟨ha, hc, _, _⟩ := opB_parts h4
    rcases (show k = 1 ∨ k = 2 ∨ k = 3 ∨ k = 4 ∨ k = 5 ∨ k = 6 ∨ k = 7 ∨ k = 8 ∨ k = 9 ∨ k = 10 ∨ k = 11 ∨ k = 12 by omega) with rfl | rfl | rfl | rfl | rfl | rfl | rfl | rfl | rfl | rfl | rfl | rfl
    · have e1 : aD 1 x y d = d := by simp only [aD, aN, aZ, aS, aQ, hb', if_true]; rfl
      have e2 : aCd 1 x y d = getC d.zs d.n x := by simp only [aCd, aC, hb', if_true]; rfl
      have e3 : aVd 1 x y d = getV d.zs d.n x := by simp only [aVd, aV, hb', if_true]; rfl
      rw [e1, e2, e3]
      exact lin1 v d x y w h hr hf ht hst h4
    · have e1 : aD 2 x y d = ⟨ptN d.zs d.n x y, ptL d.zs d.n x y, d.s, d.q⟩ := by simp only [aD, aN, aZ, aS, aQ, hb', if_true]; rfl
      have e2 : aCd 2 x y d = ptC d.zs d.n x y := by simp only [aCd, aC, hb', if_true]; rfl
      have e3 : aVd 2 x y d = 0 := by simp only [aVd, aV, hb', if_true]; rfl
      rw [e1, e2, e3]
      exact lin2 v d x y w h hr hf ht hst h4
    · have e1 : aD 3 x y d = ⟨delN d.zs d.n x, delL d.zs d.n x, d.s, d.q⟩ := by simp only [aD, aN, aZ, aS, aQ, hb', if_true]; rfl
      have e2 : aCd 3 x y d = delC d.zs d.n x := by simp only [aCd, aC, hb', if_true]; rfl
      have e3 : aVd 3 x y d = delV d.zs d.n x := by simp only [aVd, aV, hb', if_true]; rfl
      rw [e1, e2, e3]
      exact lin3 v d x y w h hr hf ht hst h4
    · have e1 : aD 4 x y d = d := by simp only [aD, aN, aZ, aS, aQ, hb', if_true]; rfl
      have e2 : aCd 4 x y d = 2 := by simp only [aCd, aC, hb', if_true]; rfl
      have e3 : aVd 4 x y d = 0 := by simp only [aVd, aV, hb', if_true]; rfl
      rw [e1, e2, e3]
      exact lin4 v d x y w h hr hf ht hst h4
    · have e1 : aD 5 x y d = ⟨d.n, d.zs, putL d.s 0 y, d.q⟩ := by simp only [aD, aN, aZ, aS, aQ, hb', if_true]; rfl
      have e2 : aCd 5 x y d = putC d.s y := by simp only [aCd, aC, hb', if_true]; rfl
      have e3 : aVd 5 x y d = 0 := by simp only [aVd, aV, hb', if_true]; rfl
      rw [e1, e2, e3]
      exact lin5 v d x y w h hr hf ht hst h4
    · have e1 : aD 6 x y d = ⟨d.n, d.zs, takeL d.s, d.q⟩ := by simp only [aD, aN, aZ, aS, aQ, hb', if_true]; rfl
      have e2 : aCd 6 x y d = takeC d.s := by simp only [aCd, aC, hb', if_true]; rfl
      have e3 : aVd 6 x y d = takeV d.s := by simp only [aVd, aV, hb', if_true]; rfl
      rw [e1, e2, e3]
      exact lin6 v d x y w h hr hf ht hst h4
    · have e1 : aD 7 x y d = ⟨d.n, d.zs, d.s, putL d.q d.q.length y⟩ := by simp only [aD, aN, aZ, aS, aQ, hb', if_true]; rfl
      have e2 : aCd 7 x y d = putC d.q y := by simp only [aCd, aC, hb', if_true]; rfl
      have e3 : aVd 7 x y d = 0 := by simp only [aVd, aV, hb', if_true]; rfl
      rw [e1, e2, e3]
      exact lin7 v d x y w h hr hf ht hst h4
    · have e1 : aD 8 x y d = ⟨d.n, d.zs, d.s, takeL d.q⟩ := by simp only [aD, aN, aZ, aS, aQ, hb', if_true]; rfl
      have e2 : aCd 8 x y d = takeC d.q := by simp only [aCd, aC, hb', if_true]; rfl
      have e3 : aVd 8 x y d = takeV d.q := by simp only [aVd, aV, hb', if_true]; rfl
      rw [e1, e2, e3]
      exact lin8 v d x y w h hr hf ht hst h4
    · have e1 : aD 9 x y d = d := by simp only [aD, aN, aZ, aS, aQ, hb', if_true]; rfl
      have e2 : aCd 9 x y d = nextC d.zs d.n x := by simp only [aCd, aC, hb', if_true]; rfl
      have e3 : aVd 9 x y d = nextV d.zs d.n x := by simp only [aVd, aV, hb', if_true]; rfl
      rw [e1, e2, e3]
      exact lin9 v d x y w h hr hf ht hst h4
    · have e1 : aD 10 x y d = d := by simp only [aD, aN, aZ, aS, aQ, hb', if_true]; rfl
      have e2 : aCd 10 x y d = 2 := by simp only [aCd, aC, hb', if_true]; rfl
      have e3 : aVd 10 x y d = cntV d.zs d.n x := by simp only [aVd, aV, hb', if_true]; rfl
      rw [e1, e2, e3]
      exact lin10 v d x y w h hr hf ht hst h4
    · have e1 : aD 11 x y d = d := by simp only [aD, aN, aZ, aS, aQ, hb', if_true]; rfl
      have e2 : aCd 11 x y d = firstC d.s := by simp only [aCd, aC, hb', if_true]; rfl
      have e3 : aVd 11 x y d = firstV d.s := by simp only [aVd, aV, hb', if_true]; rfl
      rw [e1, e2, e3]
      exact lin11 v d x y w h hr hf ht hst h4
    · have e1 : aD 12 x y d = d := by simp only [aD, aN, aZ, aS, aQ, hb', if_true]; rfl
      have e2 : aCd 12 x y d = firstC d.q := by simp only [aCd, aC, hb', if_true]; rfl
      have e3 : aVd 12 x y d = firstV d.q := by simp only [aVd, aV, hb', if_true]; rfl
      rw [e1, e2, e3]
      exact lin12 v d x y w h hr hf ht hst h4

theorem ptN_le2 (zs : List Int) (n : Nat) (x y : Int) (h : n ≤ 1048576) : ptN zs n x y ≤ 1048576 := by
  unfold ptN
  split
  · rename_i hp
    have h8 := (okM_iff.1 (show okM zs n = true by unfold ptOk at hp; rw [Bool.and_eq_true] at hp; exact hp.1)).1
    split
    · exact h
    · split <;> omega
  · omega
theorem putL_le2 (zs : List Int) (i : Nat) (x : Int) (h : zs.length ≤ 1048576) : (putL zs i x).length ≤ 1048576 := by
  by_cases hk : okL zs = true
  · have := okL_len hk
    have := putL_len zs i x
    omega
  · have : putL zs i x = [] := by simp [putL, hk]
    rw [this]; simp
theorem aD_few {k x y : Int} {d : LD} (h : Few d) : Few (aD k x y d) := by
  have z : ∀ (b : Bool) (p q : Nat), p ≤ 1048576 → q ≤ 1048576 → (if b = true then p else q) ≤ 1048576 := fun b p q h1 h2 => by split <;> assumption
  refine ⟨?_, ?_, ?_⟩
  · show (if apOk k x y d.n d.zs d.s d.q = true then fN k x y d.n d.zs else 0) ≤ 1048576
    refine z _ _ _ ?_ (by omega)
    unfold fN
    split
    · exact ptN_le2 _ _ _ _ h.m
    · split
      · exact Nat.le_trans (delN_le _ _ _) h.m
      · exact h.m
  · show (if apOk k x y d.n d.zs d.s d.q = true then fS k y d.s else []).length ≤ 1048576
    split
    · unfold fS
      split
      · exact putL_le2 _ _ _ h.s
      · split
        · exact Nat.le_trans (takeL_len _) h.s
        · exact h.s
    · simp
  · show (if apOk k x y d.n d.zs d.s d.q = true then fQ k y d.q else []).length ≤ 1048576
    split
    · unfold fQ
      split
      · exact putL_le2 _ _ _ h.q
      · split
        · exact Nat.le_trans (takeL_len _) h.q
        · exact h.q
    · simp

end Go.Proofs.YtklpdpdjblakgaaDoor

/- LinTo -/
namespace Go.Proofs.YtklpdpdjblakgaaDoor
open Go.RowKit
set_option linter.unusedVariables false

/-- A copy in memory of its own, no more room than is wanted. -/
def ToRes (d : LD) (w : World) (e : Ending) (w' : World) : Prop := ∃ u : SV, e = .returned (stV u d) ∧ St w.heap.size w'.heap.size u d w' ∧ Apart u d ∧ Somes u ∧ Below w.heap.size w w'

set_option maxRecDepth 20000 in
set_option maxHeartbeats 1000000 in
theorem toLinState_any (v : SV) (d : LD) (w : World) (h : SS w v d) (hf : Few d) : Calls Tryd.prog 10 #[stV v d] w (ToRes d w) := by
  have A1 := al1 w (.cells #[v.m d, v.s d, v.q d] 27)
  have A2 := al1 (w.alloc (.cells #[v.m d, v.s d, v.q d] 27)) (.cells #[.slice none 0 0, .slice none 0 0, .slice none 0 0] 35)
  have A3 := al1 ((w.alloc (.cells #[v.m d, v.s d, v.q d] 27)).alloc (.cells #[.slice none 0 0, .slice none 0 0, .slice none 0 0] 35)) (.cells #[.slice none 0 0, .slice none 0 0, .slice none 0 0] 35)
  have bx := ((b3_new w (v.m d) (v.s d) (v.q d) 27 rfl).below A2).below A3
  have br := (b3_new (w.alloc (.cells #[v.m d, v.s d, v.q d] 27)) (.slice none 0 0) (.slice none 0 0) (.slice none 0 0) 35 (b := w.heap.size + 1) (by simp)).below A3
  have bo := b3_new ((w.alloc (.cells #[v.m d, v.s d, v.q d] 27)).alloc (.cells #[.slice none 0 0, .slice none 0 0, .slice none 0 0] 35)) (.slice none 0 0) (.slice none 0 0) (.slice none 0 0) 35 (b := w.heap.size + 1 + 1) (by simp)
  have hA := below_trans' (below_trans' A1 A2) A3
  have hz : (((w.alloc (.cells #[v.m d, v.s d, v.q d] 27)).alloc (.cells #[.slice none 0 0, .slice none 0 0, .slice none 0 0] 35)).alloc (.cells #[.slice none 0 0, .slice none 0 0, .slice none 0 0] 35)).heap.size = w.heap.size + 3 := by simp
  have HF : Hid (Few d ∧ SS w v d) := ⟨hf, h⟩
  clear A1 A2 A3 h hf
  go_enter Tryd.func10, Tryd.ntmps10
  go_wp2_with fail
  generalize hw0 : ((w.alloc (.cells #[v.m d, v.s d, v.q d] 27)).alloc (.cells #[.slice none 0 0, .slice none 0 0, .slice none 0 0] 35)).alloc (.cells #[.slice none 0 0, .slice none 0 0, .slice none 0 0] 35) = w0 at bx br bo hA hz ⊢
  clear hw0
  refine (toMapMap_any _ _ _ d.zs _ (HF.out.2.below hA).m (by have := HF.out.1.m; omega)).mono ?_
  rintro e w1 ⟨g1, hg1, rfl, o1, hb1⟩
  obtain ⟨a0, a1, a2⟩ := (bx.below hb1).cells
  obtain ⟨s0, s1, s2⟩ := (bo.below hb1).cells
  obtain ⟨f0, f1, f2⟩ := (bo.below hb1).frees
  have H1 : Hid (Below w.heap.size w (w1.setCell ⟨w.heap.size + 1 + 1, 0, none⟩ (.slice (some ⟨g1, 0, none⟩) d.n d.n)) ∧ w1.ownsRow (w.heap.size + 3) 84 2 (.slice (some ⟨g1, 0, none⟩) d.n d.n) d.n (d.zs.map (Value.int .i64)) ∧ B3 w1 w.heap.size (v.m d) (v.s d) (v.q d) ∧ B3 w1 (w.heap.size + 1) (.slice none 0 0) (.slice none 0 0) (.slice none 0 0) ∧ B3 w1 (w.heap.size + 1 + 1) (.slice none 0 0) (.slice none 0 0) (.slice none 0 0) ∧ w.heap.size + 3 ≤ w1.heap.size) :=
    ⟨(below_trans' hA hb1).setCell (p := ⟨w.heap.size + 1 + 1, 0, none⟩) (by show w.heap.size ≤ w.heap.size + 1 + 1; omega) _, own_mono o1 (by omega), bx.below hb1, br.below hb1, bo.below hb1, by have := hb1.size; omega⟩
  clear bx br bo hA hz o1 hb1
  go_wp2_with fail
  refine (toIntS_any _ _ _ d.s _ (HF.out.2.below H1.out.1).s (by have := HF.out.1.s; omega)).mono ?_
  rintro e w2 ⟨rfl, hr2, hb2⟩
  have o2 := own_of_rowIs hr2 rfl (by have := HF.out.1.s; unfold maxLen; omega) (Nat.le_refl _)
  have z2 : w1.heap.size ≤ w2.heap.size := by have := hb2.size; simpa using this
  have H2 : Hid (B3 w2 w.heap.size (v.m d) (v.s d) (v.q d) ∧ B3 w2 (w.heap.size + 1) (.slice none 0 0) (.slice none 0 0) (.slice none 0 0) ∧ B3 w2 (w.heap.size + 1 + 1) (.slice (some ⟨g1, 0, none⟩) d.n d.n) (.slice none 0 0) (.slice none 0 0) ∧ w2.ownsRow (w.heap.size + 3) 84 2 (.slice (some ⟨g1, 0, none⟩) d.n d.n) d.n (d.zs.map (Value.int .i64)) ∧ w2.ownsRow w1.heap.size 3 1 (.slice (some ⟨w1.heap.size, 0, none⟩) d.s.length d.s.length) d.s.length (d.s.map (Value.int .i64)) ∧ Below w.heap.size w (w2.setCell ⟨w.heap.size + 1 + 1, 1, none⟩ (.slice (some ⟨w1.heap.size, 0, none⟩) d.s.length d.s.length)) ∧ g1 < w1.heap.size) :=
    ⟨(H1.out.2.2.1.far (by omega)).below hb2, (H1.out.2.2.2.1.far (by omega)).below hb2, (H1.out.2.2.2.2.1.set0).below hb2, ownsRow_below (own_far H1.out.2.1 (by omega) _) hb2, by simpa using o2, (H1.out.1.trans (hb2.mono (by have := H1.out.1.size; omega))).setCell (p := ⟨w.heap.size + 1 + 1, 1, none⟩) (by show w.heap.size ≤ w.heap.size + 1 + 1; omega) _, (H1.out.2.1.lt g1 rfl).2⟩
  clear a0 a1 a2 s0 s1 s2 f0 f1 f2 o2 hr2 hb2 hg1
  simp only [World.size_setCell]
  obtain ⟨a0, a1, a2⟩ := H2.out.1.cells
  obtain ⟨s0, s1, s2⟩ := H2.out.2.2.1.cells
  obtain ⟨f0, f1, f2⟩ := H2.out.2.2.1.frees
  go_wp2_with fail
  refine (toIntS_any _ _ _ d.q _ (HF.out.2.below H2.out.2.2.2.2.2.1).q (by have := HF.out.1.q; omega)).mono ?_
  rintro e w3 ⟨rfl, hr3, hb3⟩
  have o3 := own_of_rowIs hr3 rfl (by have := HF.out.1.q; unfold maxLen; omega) (Nat.le_refl _)
  have o3' : w3.ownsRow w2.heap.size 3 1 (.slice (some ⟨w2.heap.size, 0, none⟩) d.q.length d.q.length) d.q.length (d.q.map (Value.int .i64)) := by simpa using o3
  have z1 : w.heap.size + 3 ≤ w1.heap.size := H1.out.2.2.2.2.2
  have l2 : w1.heap.size < w2.heap.size := (H2.out.2.2.2.2.1.lt _ rfl).2
  have b3 : B3 w3 (w.heap.size + 1 + 1) (.slice (some ⟨g1, 0, none⟩) d.n d.n) (.slice (some ⟨w1.heap.size, 0, none⟩) d.s.length d.s.length) (.slice none 0 0) := (H2.out.2.2.1.set1).below hb3
  have r3 : B3 w3 (w.heap.size + 1) (.slice none 0 0) (.slice none 0 0) (.slice none 0 0) := (H2.out.2.1.far (by omega)).below hb3
  have H3 : Hid (w3.ownsRow (w.heap.size + 3) 84 2 (.slice (some ⟨g1, 0, none⟩) d.n d.n) d.n (d.zs.map (Value.int .i64)) ∧ w3.ownsRow (w.heap.size + 3) 3 1 (.slice (some ⟨w1.heap.size, 0, none⟩) d.s.length d.s.length) d.s.length (d.s.map (Value.int .i64)) ∧ w3.ownsRow (w.heap.size + 3) 3 1 (.slice (some ⟨w2.heap.size, 0, none⟩) d.q.length d.q.length) d.q.length (d.q.map (Value.int .i64)) ∧ Below w.heap.size w w3 ∧ Apart ⟨some ⟨g1, 0, none⟩, d.n, some ⟨w1.heap.size, 0, none⟩, d.s.length, some ⟨w2.heap.size, 0, none⟩, d.q.length⟩ d) := by
    have g1' := H2.out.2.2.2.2.2.2
    refine ⟨ownsRow_below (own_far H2.out.2.2.2.1 (by omega) _) hb3, own_mono (ownsRow_below (own_far H2.out.2.2.2.2.1 (by omega) _) hb3) z1, own_mono o3' (by omega), H2.out.2.2.2.2.2.1.trans (hb3.mono (by have := H2.out.2.2.2.2.2.1.size; omega)), ?_⟩
    exact ⟨fun k e e' => by have := Option.some.inj (e.trans (e'.symm)); dsimp only at this; omega, fun k e e' => by have := Option.some.inj (e.trans (e'.symm)); dsimp only at this; omega, fun k e e' => by have := Option.some.inj (e.trans (e'.symm)); dsimp only at this; omega⟩
  clear a0 a1 a2 s0 s1 s2 f0 f1 f2
  simp only [World.size_setCell]
  obtain ⟨s0, s1, s2⟩ := b3.cells
  obtain ⟨f0, f1, f2⟩ := b3.frees
  obtain ⟨k0, k1, k2⟩ := r3.cells
  obtain ⟨p0, p1, p2⟩ := r3.frees
  clear b3 r3 z1 z2 l2 o3 o3' hr3 hb3 H1 H2
  generalize w1.heap.size = gs at H3 s0 s1 s2 ⊢
  generalize w2.heap.size = gq at H3 s0 s1 s2 ⊢
  go_wp2
  refine bodyPost_ret (v := .agg #[.slice (some ⟨g1, 0, none⟩) d.n d.n, .slice (some ⟨gs, 0, none⟩) d.s.length d.s.length, .slice (some ⟨gq, 0, none⟩) d.q.length d.q.length]) (by simp [results, Tryd.results10, go_sem, k0, k1, k2]) rfl ⟨⟨some ⟨g1, 0, none⟩, d.n, some ⟨gs, 0, none⟩, d.s.length, some ⟨gq, 0, none⟩, d.q.length⟩, rfl, ?_, H3.out.2.2.2.2, ⟨⟨gs, rfl⟩, ⟨gq, rfl⟩⟩, ?_⟩
  · have up : ∀ (e : TypeId) (sz : Nat) (x : Value) (n : Nat) (xs : List Value), w3.ownsRow (w.heap.size + 3) e sz x n xs → RowIn w.heap.size ((((w3.setCell ⟨w.heap.size + 1 + 1, 2, none⟩ (.slice (some ⟨gq, 0, none⟩) d.q.length d.q.length)).setCell ⟨w.heap.size + 1, 0, none⟩ (.slice (some ⟨g1, 0, none⟩) d.n d.n)).setCell ⟨w.heap.size + 1, 1, none⟩ (.slice (some ⟨gs, 0, none⟩) d.s.length d.s.length)).setCell ⟨w.heap.size + 1, 2, none⟩ (.slice (some ⟨gq, 0, none⟩) d.q.length d.q.length)).heap.size e sz x n xs ((((w3.setCell ⟨w.heap.size + 1 + 1, 2, none⟩ (.slice (some ⟨gq, 0, none⟩) d.q.length d.q.length)).setCell ⟨w.heap.size + 1, 0, none⟩ (.slice (some ⟨g1, 0, none⟩) d.n d.n)).setCell ⟨w.heap.size + 1, 1, none⟩ (.slice (some ⟨gs, 0, none⟩) d.s.length d.s.length)).setCell ⟨w.heap.size + 1, 2, none⟩ (.slice (some ⟨gq, 0, none⟩) d.q.length d.q.length)) := fun e sz x n xs ho =>
      rowIn_of (own_mono (own_far (own_far (own_far (own_far ho (by omega) _) (by omega) _) (by omega) _) (by omega) _) (by omega)) (Nat.le_refl _)
    exact ⟨up _ _ _ _ _ H3.out.1, up _ _ _ _ _ H3.out.2.1, up _ _ _ _ _ H3.out.2.2.1⟩
  · exact (((H3.out.2.2.2.1.setCell (p := ⟨w.heap.size + 1 + 1, 2, none⟩) (by show w.heap.size ≤ w.heap.size + 1 + 1; omega) _).setCell (p := ⟨w.heap.size + 1, 0, none⟩) (by show w.heap.size ≤ w.heap.size + 1; omega) _).setCell (p := ⟨w.heap.size + 1, 1, none⟩) (by show w.heap.size ≤ w.heap.size + 1; omega) _).setCell (p := ⟨w.heap.size + 1, 2, none⟩) (by show w.heap.size ≤ w.heap.size + 1; omega) _

end Go.Proofs.YtklpdpdjblakgaaDoor

/- LOp -/
namespace Go.Proofs.YtklpdpdjblakgaaDoor
open Go.RowKit
set_option linter.unusedVariables false

/-- What a draw of what is asked answers. -/
def DrawnO (R p : Nat) (w : World) (e : Ending) (w' : World) : Prop := ∃ (k x y : Int) (q : Nat), e = .returned (.agg #[.int .i64 k, .int .i64 x, .int .i64 y]) ∧ Rd w' R q ∧ q ≤ p + 20 ∧ KB R w w'

/-- What is asked, under way, in a block of its own, and the block of the answer. -/
structure OI (R b g p n : Nat) (w W : World) : Prop where
  op : ∃ k x y : Int, W.heap[g]? = some (.cells #[.int .i64 k, .int .i64 x, .int .i64 y] 41)
  res : W.heap[b]? = some (.cells #[.int .i64 0, .int .i64 0, .int .i64 0] 41)
  rd : ∃ q, Rd W R q ∧ q ≤ p + n
  kb : KB R w W
  lo : R < w.heap.size ∧ w.heap.size ≤ b ∧ b < g

theorem OI.more {R b g p n m : Nat} {w W : World} (h : OI R b g p n w W) (hm : n ≤ m) : OI R b g p m w W :=
  ⟨h.op, h.res, by obtain ⟨q, hr, hq⟩ := h.rd; exact ⟨q, hr, by omega⟩, h.kb, h.lo⟩

theorem OI.pick {R b g p n q : Nat} {w W W' : World} (h : OI R b g p n w W) (hp : Picked R (q + 1) W W') (hr : Rd W R q) (hq : q ≤ p + n) : OI R b g p (n + 1) w W' :=
  have hlo := h.lo
  ⟨by obtain ⟨k, x, y, e⟩ := h.op; exact ⟨k, x, y, (heap_picked hp (by omega)).trans e⟩, (heap_picked hp (by omega)).trans h.res, ⟨q + 1, rd_picked hr hp, by omega⟩, h.kb.trans (KB.of_picked hp), hlo⟩

theorem block_lt {W : World} {g : Nat} {o : Obj} (h : W.heap[g]? = some o) : g < W.heap.size := (Array.getElem?_eq_some_iff.1 h).1

theorem OI.alloc {R b g p n : Nat} {w W : World} (h : OI R b g p n w W) (o : Obj) : OI R b g p n w (W.alloc o) :=
  have hlo := h.lo
  have A := al1 W o
  ⟨by obtain ⟨k, x, y, e⟩ := h.op; exact ⟨k, x, y, (A.block g (block_lt e)).trans e⟩, (A.block b (block_lt h.res)).trans h.res, by obtain ⟨q, hr, hq⟩ := h.rd; exact ⟨q, rd_below hr A, hq⟩, h.kb.trans (KB.of_below A (by have := h.kb.size; omega)), hlo⟩

theorem OI.store {R b g p n : Nat} {w W : World} (h : OI R b g p n w W) (i : Nat) (v : Int) : OI R b g p n w (W.setCell ⟨g, i, none⟩ (.int .i64 v)) := by
  have hlo := h.lo
  refine ⟨?_, ?_, ?_, ?_, hlo⟩
  · obtain ⟨k, x, y, e⟩ := h.op
    have e2 := Joins.block_setCell (i := i) e (.int .i64 v)
    rcases i with _ | _ | _ | i
    · exact ⟨v, x, y, by simpa using e2⟩
    · exact ⟨k, v, y, by simpa using e2⟩
    · exact ⟨k, x, v, by simpa using e2⟩
    · exact ⟨k, x, y, by simpa using e2⟩
  · have : (W.setCell ⟨g, i, none⟩ (.int .i64 v)).heap[b]? = W.heap[b]? := ((Below.refl (b + 1) W).setCell (p := ⟨g, i, none⟩) (by show b + 1 ≤ g; omega) (.int .i64 v)).block b (by omega)
    exact this.trans h.res
  · obtain ⟨q, hr, hq⟩ := h.rd
    exact ⟨q, rd_setCell hr (by omega) _, hq⟩
  · exact kb_setCell h.kb (Nat.le_refl _) (by omega) (by omega) _

theorem cell_block2 {W : World} {g : Nat} {x y z : Value} {xs : List Value} {t : TypeId} (h : W.heap[g]? = some (.cells ⟨x :: y :: z :: xs⟩ t)) : W.cell? ⟨g, 2, none⟩ = some z := by simp [World.cell?, h]

theorem Tryd.info41 : (Tryd.prog.info? 41).map (·.size) = some 3 := by kernel_rfl

set_option maxRecDepth 20000 in
set_option maxHeartbeats 2000000 in
theorem op_any (R p : Nat) (n : Int) (w : World) (hr : Rd w R p) (hRw : R < w.heap.size) (hp : p ≤ 900000) (hn : 1 ≤ n) (hn2 : n ≤ 1000) :
    Calls Tryd.prog 60 #[.pointer (some ⟨R, 0, none⟩), .int .i64 n] w (DrawnO R p w) := by
  go_enter Tryd.func60, Tryd.ntmps60
  go_wp2_with fail
  obtain ⟨W0, hW0⟩ : ∃ W0, W0 = (w.alloc (.cells #[.int .i64 0, .int .i64 0, .int .i64 0] 41)).alloc (.cells #[.int .i64 1, .int .i64 2, .int .i64 2, .int .i64 2, .int .i64 3, .int .i64 3, .int .i64 4, .int .i64 5, .int .i64 5, .int .i64 6, .int .i64 7, .int .i64 7, .int .i64 8, .int .i64 9, .int .i64 10, .int .i64 10, .int .i64 11, .int .i64 12] 3) := ⟨_, rfl⟩
  rw [← hW0]
  have A1 := al1 w (.cells #[.int .i64 0, .int .i64 0, .int .i64 0] 41)
  have A2 := al1 (w.alloc (.cells #[.int .i64 0, .int .i64 0, .int .i64 0] 41)) (.cells #[.int .i64 1, .int .i64 2, .int .i64 2, .int .i64 2, .int .i64 3, .int .i64 3, .int .i64 4, .int .i64 5, .int .i64 5, .int .i64 6, .int .i64 7, .int .i64 7, .int .i64 8, .int .i64 9, .int .i64 10, .int .i64 10, .int .i64 11, .int .i64 12] 3)
  have hr0 : Rd W0 R p := by rw [hW0]; exact rd_below (rd_below hr A1) A2
  have hK0 : KB R w W0 := by rw [hW0]; exact (KB.of_below A1 (by omega)).trans (KB.of_below A2 (by simp; omega))
  have hz0 : W0.heap.size = w.heap.size + 2 := by rw [hW0]; simp
  have hres : W0.heap[w.heap.size]? = some (.cells #[.int .i64 0, .int .i64 0, .int .i64 0] 41) := by
    rw [hW0, A2.block _ (by simp)]; exact new_block w _
  have hlit : ∀ k, k < 18 → ∃ x : Int, W0.cell? ⟨w.heap.size + 1, k, none⟩ = some (.int .i64 x) := by
    intro k hk
    rw [hW0]
    have := lit_new (w.alloc (.cells #[.int .i64 0, .int .i64 0, .int .i64 0] 41)) [1, 2, 2, 2, 3, 3, 4, 5, 5, 6, 7, 7, 8, 9, 10, 10, 11, 12] (k := k) (by simpa using hk)
    simpa using this
  clear hW0 A1 A2
  refine (pick_any R p 18 _ hr0 (by omega) (by omega) (by omega)).mono ?_
  rintro e w1 ⟨k0, ⟨hk0, hk1⟩, rfl, hpk⟩
  obtain ⟨k0, rfl⟩ := Int.eq_ofNat_of_zero_le hk0
  obtain ⟨kind, hkind⟩ := hlit k0 (by omega)
  have hk18 : k0 < 18 := by omega
  have hx1 : w1.cell? ⟨w.heap.size + 1, k0, none⟩ = some (.int .i64 kind) := (KB.of_picked hpk).cell hkind (by omega)
  have hsz1 : w1.heap.size = w.heap.size + 2 := (picked_size' hpk).trans hz0
  have O1 : Hid (OI R w.heap.size (w.heap.size + 2) p 1 w (w1.alloc (.cells #[.int .i64 kind, .int .i64 0, .int .i64 0] 41))) := by
    have B := al1 w1 (.cells #[.int .i64 kind, .int .i64 0, .int .i64 0] 41)
    have hres1 := (heap_picked hpk (g := w.heap.size) (by omega)).trans hres
    refine ⟨⟨kind, 0, 0, by have := new_block w1 (.cells #[.int .i64 kind, .int .i64 0, .int .i64 0] 41); rwa [hsz1] at this⟩, (B.block _ (by omega)).trans hres1, ⟨p + 1, rd_below (rd_picked hr0 hpk) B, by omega⟩, (hK0.trans (KB.of_picked hpk)).trans (KB.of_below B (by omega)), by omega⟩
  clear hpk hkind hlit hr0 hK0 hres hk0 hk1 hr
  go_upto_region 2 with fail
  generalize w1.alloc (.cells #[.int .i64 kind, .int .i64 0, .int .i64 0] 41) = W1 at O1 ⊢
  clear hx1
  go_cut [19] (fun s19 wx => (∃ b, s19 = .bool b) ∧ wx = W1)
  case first =>
    obtain ⟨k, x, y, e⟩ := O1.out.op
    have c0 : W1.cell? ⟨w.heap.size + 2, 0, none⟩ = some (.int .i64 k) := cell_block0 e
    cases h5 : (k == 5)
    · cases h7 : (k == 7)
      · go_wp2_with fail
        go_meet
        exact ⟨⟨_, rfl⟩, rfl⟩
      · go_wp2_with fail
        go_meet
        exact ⟨⟨_, rfl⟩, rfl⟩
    · go_wp2_with fail
      go_meet
      exact ⟨⟨_, rfl⟩, rfl⟩
  case rest =>
  obtain ⟨⟨b1, rfl⟩, rfl⟩ := hcut
  go_upto_if 19 with fail
  go_cut [] (fun wx => Hid (OI R w.heap.size (w.heap.size + 2) p 2 w wx))
  case first =>
    cases b1
    · go_wp2_with fail
      go_meet
      exact O1.out.more (by omega)
    · obtain ⟨q, hrq, hq⟩ := O1.out.rd
      go_wp2_with fail
      refine (pick_any R q 20 _ hrq (by omega) (by omega) (by omega)).mono ?_
      rintro e w2 ⟨v, hv, rfl, hpk⟩
      have O2 := O1.out.pick hpk hrq hq
      obtain ⟨k, x, y, e⟩ := O2.op
      have c2 := cell_block2 e
      have f2 := frozen_block e 2
      go_wp2_with fail
      go_meet
      exact O2.store 2 v
  case rest =>
  go_upto_region 4 with fail
  go_cut [35] (fun s35 wx => (∃ b, s35 = .bool b) ∧ Hid (OI R w.heap.size (w.heap.size + 2) p 2 w wx))
  case first =>
    obtain ⟨k, x, y, e⟩ := hcut.out.op
    have c0 := cell_block0 e
    by_cases h4 : k < 4
    · go_wp2_with fail
      go_meet
      exact ⟨⟨_, rfl⟩, hcut⟩
    · cases h9 : (k == 9)
      · cases h10 : (k == 10)
        · go_wp2_with fail
          go_meet
          exact ⟨⟨_, rfl⟩, hcut⟩
        · go_wp2_with fail
          go_meet
          exact ⟨⟨_, rfl⟩, hcut⟩
      · go_wp2_with fail
        go_meet
        exact ⟨⟨_, rfl⟩, hcut⟩
  case rest =>
  obtain ⟨⟨b2, rfl⟩, O2⟩ := hcut
  go_upto_if 35 with fail
  go_cut [] (fun wx => Hid (OI R w.heap.size (w.heap.size + 2) p 7 w wx))
  case first =>
    cases b2
    · go_wp2_with fail
      go_meet
      exact O2.out.more (by omega)
    · skip
      obtain ⟨qw3, hrw3, hqw3⟩ := O2.out.rd
      go_wp2_with fail
      refine (pick_any R qw3 4 _ hrw3 (by omega) (by omega) (by omega)).mono ?_
      rintro e w3 ⟨v1, hv1, rfl, hpkw3⟩
      have O3 : Hid (OI R w.heap.size (w.heap.size + 2) p _ w w3) := O2.out.pick hpkw3 hrw3 hqw3
      obtain ⟨qw4, hrw4, hqw4⟩ := O3.out.rd
      go_wp2_with fail
      refine (pick_any R qw4 4 _ hrw4 (by omega) (by omega) (by omega)).mono ?_
      rintro e w4 ⟨v2, hv2, rfl, hpkw4⟩
      have O4 : Hid (OI R w.heap.size (w.heap.size + 2) p _ w w4) := O3.out.pick hpkw4 hrw4 hqw4
      obtain ⟨qw5, hrw5, hqw5⟩ := O4.out.rd
      go_wp2_with fail
      refine (pick_any R qw5 8 _ hrw5 (by omega) (by omega) (by omega)).mono ?_
      rintro e w5 ⟨v3, hv3, rfl, hpkw5⟩
      have O5 : Hid (OI R w.heap.size (w.heap.size + 2) p _ w w5) := O4.out.pick hpkw5 hrw5 hqw5
      obtain ⟨qw6, hrw6, hqw6⟩ := O5.out.rd
      go_wp2_with fail
      refine (pick_any R qw6 100 _ hrw6 (by omega) (by omega) (by omega)).mono ?_
      rintro e w6 ⟨v4, hv4, rfl, hpkw6⟩
      have O6 : Hid (OI R w.heap.size (w.heap.size + 2) p _ w w6) := O5.out.pick hpkw6 hrw6 hqw6
      have OL : Hid (OI R w.heap.size (w.heap.size + 2) p _ w (w6.alloc (.cells #[.int .i64 v1, .int .i64 v2, .int .i64 v3, .int .i64 v4] 3))) := O6.out.alloc _
      obtain ⟨ql, hrl, hql⟩ := OL.out.rd
      have hlt := block_lt O6.out.res
      have hlo := O6.out.lo
      go_wp2_with fail
      refine (pick_any R ql 4 _ hrl (by omega) (by omega) (by omega)).mono ?_
      rintro e wl ⟨j, ⟨hj0, hj1⟩, rfl, hpkl⟩
      obtain ⟨j, rfl⟩ := Int.eq_ofNat_of_zero_le hj0
      have hj : j < 4 := by omega
      obtain ⟨z, hz⟩ := lit_new w6 [v1, v2, v3, v4] (k := j) (by simp; omega)
      have hzl : wl.cell? ⟨w6.heap.size, j, none⟩ = some (.int .i64 z) := (KB.of_picked hpkl).cell hz (by omega)
      have OM := OL.out.pick hpkl hrl hql
      obtain ⟨kk, xx, yy, ee⟩ := OM.op
      have c := cell_block1 ee
      have f := frozen_block ee 1
      clear hz hpkl hrl hql OL
      go_wp2_with fail
      go_meet
      exact (OM.store 1 z).more (by omega)
  case rest =>
  have O7 := hcut
  clear hcut
  go_upto_region 6 with fail
  go_cut [52] (fun s52 wx => (∃ b, s52 = .bool b) ∧ Hid (OI R w.heap.size (w.heap.size + 2) p 7 w wx))
  case first =>
    obtain ⟨k, x, y, e⟩ := O7.out.op
    have c0 := cell_block0 e
    go_wp2_with fail
    go_meet
    exact ⟨⟨_, rfl⟩, O7⟩
  case rest =>
  obtain ⟨⟨b3, rfl⟩, O8⟩ := hcut
  go_upto_if 52 with fail
  go_cut [] (fun wx => Hid (OI R w.heap.size (w.heap.size + 2) p 8 w wx))
  case first =>
    cases b3
    · go_wp2_with fail
      go_meet
      exact O8.out.more (by omega)
    · skip
      obtain ⟨qw9, hrw9, hqw9⟩ := O8.out.rd
      go_wp2_with fail
      refine (pick_any R qw9 20 _ hrw9 (by omega) (by omega) (by omega)).mono ?_
      rintro e w9 ⟨v1, hv1, rfl, hpkw9⟩
      have O9 : Hid (OI R w.heap.size (w.heap.size + 2) p _ w w9) := O8.out.pick hpkw9 hrw9 hqw9
      obtain ⟨kk, xx, yy, ee⟩ := O9.out.op
      have c := cell_block2 ee
      have f := frozen_block ee 2
      go_wp2_with fail
      go_meet
      exact O9.out.store 2 v1
  case rest =>
  have O10 := hcut
  clear hcut
  obtain ⟨qo, hro, hqo⟩ := O10.out.rd
  go_wp2_with fail
  refine (odd_any R qo n _ hro (by omega) (by omega) (by omega)).mono ?_
  rintro e wo ⟨od, rfl, hpko⟩
  have O11 : Hid (OI R w.heap.size (w.heap.size + 2) p _ w wo) := O10.out.pick hpko hro hqo
  clear hpko hro hqo O10
  go_upto_if 58 with fail
  go_cut [] (fun wx => Hid (OI R w.heap.size (w.heap.size + 2) p 12 w wx))
  case first =>
    cases od
    · go_wp2_with fail
      go_meet
      exact O11.out.more (by omega)
    · skip
      obtain ⟨qw12, hrw12, hqw12⟩ := O11.out.rd
      go_wp2_with fail
      refine (pick_any R qw12 3 _ hrw12 (by omega) (by omega) (by omega)).mono ?_
      rintro e w12 ⟨v3, hv3, rfl, hpkw12⟩
      have O12 : Hid (OI R w.heap.size (w.heap.size + 2) p _ w w12) := O11.out.pick hpkw12 hrw12 hqw12
      have h3 : v3 = 0 ∨ v3 = 1 ∨ v3 = 2 := by omega
      rcases h3 with rfl | rfl | rfl
      · skip
        obtain ⟨qw13, hrw13, hqw13⟩ := O12.out.rd
        go_wp2_with fail
        refine (pick_any R qw13 12 _ hrw13 (by omega) (by omega) (by omega)).mono ?_
        rintro e w13 ⟨v4, hv4, rfl, hpkw13⟩
        have O13 : Hid (OI R w.heap.size (w.heap.size + 2) p _ w w13) := O12.out.pick hpkw13 hrw13 hqw13
        have h13 : IntKind.i64.wrap (1 + v4) = 1 + v4 := wrap_i64_small _ (by omega) (by omega)
        have OL : Hid (OI R w.heap.size (w.heap.size + 2) p _ w (w13.alloc (.cells #[.int .i64 0, .int .i64 13, .int .i64 (-1), .int .i64 (1 + v4)] 3))) := O13.out.alloc _
        obtain ⟨ql, hrl, hql⟩ := OL.out.rd
        have hlt := block_lt O13.out.res
        have hlo := O13.out.lo
        go_wp2_with fail
        refine (pick_any R ql 4 _ hrl (by omega) (by omega) (by omega)).mono ?_
        rintro e wl ⟨j, ⟨hj0, hj1⟩, rfl, hpkl⟩
        obtain ⟨j, rfl⟩ := Int.eq_ofNat_of_zero_le hj0
        have hj : j < 4 := by omega
        obtain ⟨z, hz⟩ := lit_new w13 [0, 13, -1, 1 + v4] (k := j) (by simp; omega)
        have hzl : wl.cell? ⟨w13.heap.size, j, none⟩ = some (.int .i64 z) := (KB.of_picked hpkl).cell hz (by omega)
        have OM := OL.out.pick hpkl hrl hql
        obtain ⟨kk, xx, yy, ee⟩ := OM.op
        have c := cell_block0 ee
        have f := frozen_block ee 0
        clear hz hpkl hrl hql OL
        go_wp2_with fail
        go_meet
        exact (OM.store 0 z).more (by omega)
      · skip
        have OL : Hid (OI R w.heap.size (w.heap.size + 2) p _ w (w12.alloc (.cells #[.int .i64 (-1), .int .i64 100, .int .i64 3] 3))) := O12.out.alloc _
        obtain ⟨ql, hrl, hql⟩ := OL.out.rd
        have hlt := block_lt O12.out.res
        have hlo := O12.out.lo
        go_wp2_with fail
        refine (pick_any R ql 3 _ hrl (by omega) (by omega) (by omega)).mono ?_
        rintro e wl ⟨j, ⟨hj0, hj1⟩, rfl, hpkl⟩
        obtain ⟨j, rfl⟩ := Int.eq_ofNat_of_zero_le hj0
        have hj : j < 3 := by omega
        obtain ⟨z, hz⟩ := lit_new w12 [-1, 100, 3] (k := j) (by simp; omega)
        have hzl : wl.cell? ⟨w12.heap.size, j, none⟩ = some (.int .i64 z) := (KB.of_picked hpkl).cell hz (by omega)
        have OM := OL.out.pick hpkl hrl hql
        obtain ⟨kk, xx, yy, ee⟩ := OM.op
        have c := cell_block1 ee
        have f := frozen_block ee 1
        clear hz hpkl hrl hql OL
        go_wp2_with fail
        go_meet
        exact (OM.store 1 z).more (by omega)
      · skip
        have OL : Hid (OI R w.heap.size (w.heap.size + 2) p _ w (w12.alloc (.cells #[.int .i64 (-1), .int .i64 1000, .int .i64 3] 3))) := O12.out.alloc _
        obtain ⟨ql, hrl, hql⟩ := OL.out.rd
        have hlt := block_lt O12.out.res
        have hlo := O12.out.lo
        go_wp2_with fail
        refine (pick_any R ql 3 _ hrl (by omega) (by omega) (by omega)).mono ?_
        rintro e wl ⟨j, ⟨hj0, hj1⟩, rfl, hpkl⟩
        obtain ⟨j, rfl⟩ := Int.eq_ofNat_of_zero_le hj0
        have hj : j < 3 := by omega
        obtain ⟨z, hz⟩ := lit_new w12 [-1, 1000, 3] (k := j) (by simp; omega)
        have hzl : wl.cell? ⟨w12.heap.size, j, none⟩ = some (.int .i64 z) := (KB.of_picked hpkl).cell hz (by omega)
        have OM := OL.out.pick hpkl hrl hql
        obtain ⟨kk, xx, yy, ee⟩ := OM.op
        have c := cell_block2 ee
        have f := frozen_block ee 2
        clear hz hpkl hrl hql OL
        go_wp2_with fail
        go_meet
        exact (OM.store 2 z).more (by omega)
  case rest =>
  have O14 := hcut
  obtain ⟨k, x, y, e⟩ := O14.out.op
  have c0 := cell_block0 e
  have c1 := cell_block1 e
  have c2 := cell_block2 e
  have d0 := cell_block0 O14.out.res
  have d1 := cell_block1 O14.out.res
  have d2 := cell_block2 O14.out.res
  have f0 := frozen_block O14.out.res 0
  have f1 := frozen_block O14.out.res 1
  have f2 := frozen_block O14.out.res 2
  clear hcut
  go_wp2_with fail
  have hlo := O14.out.lo
  obtain ⟨q, hrq, hqq⟩ := O14.out.rd
  have b1 := Joins.block_setCell (i := 0) O14.out.res (.int .i64 k)
  have b2 := Joins.block_setCell (i := 1) b1 (.int .i64 x)
  have b3 := Joins.block_setCell (i := 2) b2 (.int .i64 y)
  refine bodyPost_ret (results_cell_row Tryd.results60 _ _ _ _ _ _ _ rfl b3 Tryd.underlying41 rfl Tryd.info41) rfl ?_
  exact ⟨k, x, y, q, by simp, rd_setCell (rd_setCell (rd_setCell hrq (by omega) _) (by omega) _) (by omega) _, by omega,
    kb_setCell (kb_setCell (kb_setCell O14.out.kb (Nat.le_refl _) (by omega) (by omega) _) (Nat.le_refl _) (by omega) (by omega) _) (Nat.le_refl _) (by omega) (by omega) _⟩

end Go.Proofs.YtklpdpdjblakgaaDoor

/- LinX -/
namespace Go.Proofs.YtklpdpdjblakgaaDoor
open Go.RowKit
set_option linter.unusedVariables false

/-- Just some blocks have turned. -/
structure TurnP (P : Nat → Prop) (w w' : World) : Prop where
  os : w'.os = w.os
  tape : w'.tape = w.tape
  output : w'.output = w.output
  size : w.heap.size ≤ w'.heap.size
  block : ∀ k, k < w.heap.size → ¬ P k → w'.heap[k]? = w.heap[k]?
theorem TurnP.trans {P : Nat → Prop} {w w1 w2 : World} (h : TurnP P w w1) (k : TurnP P w1 w2) : TurnP P w w2 :=
  ⟨k.os.trans h.os, k.tape.trans h.tape, k.output.trans h.output, Nat.le_trans h.size k.size, fun i hi ho => (k.block i (Nat.lt_of_lt_of_le hi h.size) ho).trans (h.block i hi ho)⟩
theorem turnP_grown {P : Nat → Prop} {w w' : World} {row : Option Nat} (h : w.grownBy w' row) (hr : ∀ k, row = some k → P k) : TurnP P w w' :=
  ⟨h.os, h.tape, h.output, h.size, fun k hk ho => h.block k hk (fun e => ho (hr k e.symm))⟩
theorem turnP_below {P : Nat → Prop} {w w' : World} (h : Below w.heap.size w w') : TurnP P w w' :=
  ⟨h.os, h.tape, h.output, h.size, fun k hk _ => h.block k hk⟩
theorem TurnP.below {P : Nat → Prop} {B : Nat} {w w' : World} (h : TurnP P w w') (hB : ∀ k, P k → B ≤ k) (hw : B ≤ w.heap.size) : Below B w w' :=
  ⟨h.os, h.tape, h.output, h.size, fun k hk => h.block k (by omega) (fun hp => by have := hB k hp; omega)⟩
/-- The blocks of a state's lists. -/
def Own (v : SV) (d : LD) (k : Nat) : Prop := (v.m d).ownBlock = some k ∨ (v.s d).ownBlock = some k ∨ (v.q d).ownBlock = some k
theorem St.own {lo hi : Nat} {v : SV} {d : LD} {W : World} (h : St lo hi v d W) {k : Nat} (hk : Own v d k) : lo ≤ k ∧ k < hi := by
  rcases hk with e | e | e
  · exact ⟨(h.m.1.lt k e).1, h.m.2 k e⟩
  · exact ⟨(h.s.1.lt k e).1, h.s.2 k e⟩
  · exact ⟨(h.q.1.lt k e).1, h.q.2 k e⟩
/-- No list of a state lies in a block of boxes. -/
theorem St.typed {lo hi : Nat} {v : SV} {d : LD} {W : World} (h : St lo hi v d W) {k : Nat} (hk : Own v d k) {cs : Array Value} {t : TypeId} (hg : W.heap[k]? = some (.cells cs t)) : t = 84 ∨ t = 3 := by
  rcases hk with e | e | e
  · obtain ⟨_, _, cur, hc⟩ := own_typed h.m.1 e
    exact .inl (cells_type hg hc)
  · obtain ⟨_, _, cur, hc⟩ := own_typed h.s.1 e
    exact .inr (cells_type hg hc)
  · obtain ⟨_, _, cur, hc⟩ := own_typed h.q.1 e
    exact .inr (cells_type hg hc)
theorem St.turn {lo hi : Nat} {v : SV} {d : LD} {W W' : World} (h : St lo hi v d W) (hh : hi ≤ W.heap.size) {P : Nat → Prop} (ht : TurnP P W W') (hP : ∀ k, P k → k < lo ∨ hi ≤ k) : St lo hi v d W' :=
  St.only W W' h (fun k h1 h2 => ht.block k (by omega) (fun hp => by have := hP k hp; omega))

set_option maxHeartbeats 800000 in
theorem markLinState_own (lo hi : Nat) (v : SV) (d : LD) (w : World) (h : St lo hi v d w) (hp : Apart v d) (hf : Few d) (hlo : lo ≤ w.heap.size) (hh : hi ≤ w.heap.size) :
    Calls Tryd.prog 15 #[stV v d, .int .i64 1] w fun e w' => e = .returned (.int .i64 (1 + 2 * (d.n : Int) + d.s.length + d.q.length)) ∧ St lo hi v (markD d) w' ∧ TurnP (Own v d) w w' := by
  have A := al1 w (.cells #[v.m d, v.s d, v.q d] 35)
  have bx := b3_new w (v.m d) (v.s d) (v.q d) 35 rfl
  have H0 := h.below hh A
  obtain ⟨f1, f2, f3⟩ := hf
  go_enter Tryd.func15, Tryd.ntmps15
  go_wp2_with fail
  refine (markMapMap_any _ _ _ lo d.zs 1 _ H0.m.1 (by omega) (by omega) (by omega)).mono ?_
  rintro e w1 ⟨rfl, o1, g1⟩
  have s1 := own_grown g1 H0.s.1 (fun k j e e' hkj => by subst hkj; exact hp.ms _ e e')
  have q1 := own_grown g1 H0.q.1 (fun k j e e' hkj => by subst hkj; exact hp.mq _ e e')
  have T1 : TurnP (Own v d) w w1 := (turnP_below A).trans (turnP_grown g1 (fun k e => .inl e))
  have nb : ∀ k, (v.m d).ownBlock = some k → k ≠ w.heap.size := fun k e => by have := h.m.2 k e; omega
  have b1 := cell_grown g1 bx.c1 nb
  have b2 := cell_grown g1 bx.c2 nb
  have H1 : Hid (w1.ownsRow lo 3 1 (v.q d) d.q.length (d.q.map (Value.int .i64)) ∧ w1.ownsRow lo 84 2 (v.m d) d.n ((marks 1 (d.n * 2)).map (Value.int .i64)) ∧ TurnP (Own v d) w w1 ∧ w.heap.size < w1.heap.size) := ⟨q1, o1, T1, World.block_lt_of_cell? w1 ⟨w.heap.size, 1, none⟩ b1⟩
  clear g1 nb q1 o1 T1 A bx H0
  go_wp2_with fail
  refine (markIntS_any _ _ _ lo d.s _ _ s1 (by omega) (by omega)).mono ?_
  rintro e w2 ⟨rfl, o2, g2, z2⟩
  have q2 := own_grown g2 H1.out.1 (fun k j e e' hkj => by subst hkj; exact hp.sq _ e e')
  have m2 := own_grown g2 H1.out.2.1 (fun k j e e' hkj => by subst hkj; exact hp.ms _ e' e)
  have T2 : TurnP (Own v d) w w2 := H1.out.2.2.1.trans (turnP_grown g2 (fun k e => .inr (.inl e)))
  have nb : ∀ k, (v.s d).ownBlock = some k → k ≠ w.heap.size := fun k e => by have := h.s.2 k e; omega
  have e2 := cell_grown g2 b2 nb
  have H2 : Hid (w2.ownsRow lo 3 1 (v.s d) d.s.length ((marks (1 + 2 * (d.n : Int)) d.s.length).map (Value.int .i64)) ∧ w2.ownsRow lo 84 2 (v.m d) d.n ((marks 1 (d.n * 2)).map (Value.int .i64)) ∧ TurnP (Own v d) w w2) := ⟨o2, m2, T2⟩
  clear g2 nb o2 m2 T2 H1 s1 b1 b2 z2
  go_wp2_with fail
  refine (markIntS_any _ _ _ lo d.q _ _ q2 (by omega) (by omega)).mono ?_
  rintro e w3 ⟨rfl, o3, g3, z3⟩
  have m3 := own_grown g3 H2.out.2.1 (fun k j e e' hkj => by subst hkj; exact hp.mq _ e' e)
  have s3 := own_grown g3 H2.out.1 (fun k j e e' hkj => by subst hkj; exact hp.sq _ e' e)
  have T3 : TurnP (Own v d) w w3 := H2.out.2.2.trans (turnP_grown g3 (fun k e => .inr (.inr e)))
  have H3 : Hid (St lo hi v (markD d) w3 ∧ TurnP (Own v d) w w3) := by
    refine ⟨⟨⟨m3, h.m.2⟩, ⟨?_, fun k e => h.s.2 k ((own_len _ _ _ _).trans e)⟩, ⟨?_, fun k e => h.q.2 k ((own_len _ _ _ _).trans e)⟩⟩, T3⟩
    · show w3.ownsRow lo 3 1 (.slice v.sa (marks (1 + 2 * (d.n : Int)) d.s.length).length v.sc) (marks (1 + 2 * (d.n : Int)) d.s.length).length _
      rw [marks_len]
      exact s3
    · show w3.ownsRow lo 3 1 (.slice v.qa (marks (1 + 2 * (d.n : Int) + d.s.length) d.q.length).length v.qc) (marks (1 + 2 * (d.n : Int) + d.s.length) d.q.length).length _
      rw [marks_len]
      exact o3
  clear m3 s3 T3 o3 g3 z3 H2 q2 e2
  go_wp2
  go_ret
  exact ⟨rfl, H3.out.1, H3.out.2⟩

/-- A store into a box leaves lists as they are. -/
theorem own_box {W : World} {B : Nat} {e : TypeId} {sz : Nat} {v : Value} {n : Nat} {xs : List Value} (h : W.ownsRow B e sz v n xs) {g : Nat} {cs : Array Value} {t : TypeId} (hg : W.heap[g]? = some (.cells cs t)) (ht : t ≠ e) (i : Nat) (u : Value) : (W.setCell ⟨g, i, none⟩ u).ownsRow B e sz v n xs :=
  ownsRow_setCell_other h (fun k => by obtain ⟨_, _, cur, hc⟩ := own_typed h k; exact ht (cells_type hg hc)) u
theorem St.box {lo hi : Nat} {v : SV} {d : LD} {W : World} (h : St lo hi v d W) {g : Nat} {cs : Array Value} {t : TypeId} (hg : W.heap[g]? = some (.cells cs t)) (h1 : t ≠ 84) (h2 : t ≠ 3) (i : Nat) (u : Value) : St lo hi v d (W.setCell ⟨g, i, none⟩ u) :=
  ⟨⟨own_box h.m.1 hg h1 i u, h.m.2⟩, ⟨own_box h.s.1 hg h2 i u, h.s.2⟩, ⟨own_box h.q.1 hg h2 i u, h.q.2⟩⟩

/-- Both answers lie in boxes, the state's lists in memory of their own. -/
structure ResAt (B g g' lo hi : Nat) (u : SV) (D : LD) (C V : Int) (W : World) : Prop where
  st : St lo hi u D W
  il : B ≤ lo
  ih : hi ≤ W.heap.size
  ll : lo ≤ hi
  ig : W.heap[g]? = some (.cells #[u.m D, u.s D, u.q D] 35)
  ir : W.heap[g']? = some (.cells #[.int .i64 C, .int .i64 V] 37)
  bg : B ≤ g
  br : B ≤ g'

section
variable {W : World} {B lo hi : Nat} {u : SV} {D : LD} {C V : Int}
theorem lt_of_some {g : Nat} {o : Obj} (h : W.heap[g]? = some o) : g < W.heap.size := (Array.getElem?_eq_some_iff.1 h).1
theorem cell_of3 {g : Nat} {x y z : Value} {t : TypeId} (h : W.heap[g]? = some (.cells #[x, y, z] t)) : B3 W g x y z :=
  ⟨by simp [World.cell?, h], by simp [World.cell?, h], by simp [World.cell?, h], fun j => frozen_block h j⟩
theorem cell_of2 {g : Nat} {x y : Value} {t : TypeId} (h : W.heap[g]? = some (.cells #[x, y] t)) : B2 W g x y :=
  ⟨by simp [World.cell?, h], by simp [World.cell?, h], fun j => frozen_block h j⟩
/-- The two stores at the end of a region. -/
theorem res_store {g g' : Nat} {x y z p q : Value} (hs : St lo hi u D W) (hB : B ≤ lo) (hh : hi ≤ W.heap.size) (hl : lo ≤ hi) (hg : W.heap[g]? = some (.cells #[x, y, z] 35)) (hg' : W.heap[g']? = some (.cells #[p, q] 37)) (h1 : B ≤ g) (h2 : B ≤ g') :
    ResAt B g g' lo hi u D C V (((((W.setCell ⟨g, 0, none⟩ (u.m D)).setCell ⟨g, 1, none⟩ (u.s D)).setCell ⟨g, 2, none⟩ (u.q D)).setCell ⟨g', 0, none⟩ (.int .i64 C)).setCell ⟨g', 1, none⟩ (.int .i64 V)) ∧
    Below B W (((((W.setCell ⟨g, 0, none⟩ (u.m D)).setCell ⟨g, 1, none⟩ (u.s D)).setCell ⟨g, 2, none⟩ (u.q D)).setCell ⟨g', 0, none⟩ (.int .i64 C)).setCell ⟨g', 1, none⟩ (.int .i64 V)) := by
  have ne : g ≠ g' := fun e => by
    subst e
    have := cells_type hg hg'
    revert this
    decide
  have a1 : (W.setCell ⟨g, 0, none⟩ (u.m D)).heap[g]? = some (.cells #[u.m D, y, z] 35) := by rw [Joins.block_setCell hg]; rfl
  have a2 : ((W.setCell ⟨g, 0, none⟩ (u.m D)).setCell ⟨g, 1, none⟩ (u.s D)).heap[g]? = some (.cells #[u.m D, u.s D, z] 35) := by rw [Joins.block_setCell a1]; rfl
  have a3 : (((W.setCell ⟨g, 0, none⟩ (u.m D)).setCell ⟨g, 1, none⟩ (u.s D)).setCell ⟨g, 2, none⟩ (u.q D)).heap[g]? = some (.cells #[u.m D, u.s D, u.q D] 35) := by rw [Joins.block_setCell a2]; rfl
  have keep : ∀ (X : World) (b i : Nat) (v : Value) (k : Nat), k ≠ b → (X.setCell ⟨b, i, none⟩ v).heap[k]? = X.heap[k]? := fun X b i v k hk => Below.heap_setCell X ⟨b, i, none⟩ v k hk
  have b3 : (((W.setCell ⟨g, 0, none⟩ (u.m D)).setCell ⟨g, 1, none⟩ (u.s D)).setCell ⟨g, 2, none⟩ (u.q D)).heap[g']? = some (.cells #[p, q] 37) := by
    rw [keep _ _ _ _ _ ne.symm, keep _ _ _ _ _ ne.symm, keep _ _ _ _ _ ne.symm]; exact hg'
  have b4 : ((((W.setCell ⟨g, 0, none⟩ (u.m D)).setCell ⟨g, 1, none⟩ (u.s D)).setCell ⟨g, 2, none⟩ (u.q D)).setCell ⟨g', 0, none⟩ (.int .i64 C)).heap[g']? = some (.cells #[.int .i64 C, q] 37) := by rw [Joins.block_setCell b3]; rfl
  have b5 : (((((W.setCell ⟨g, 0, none⟩ (u.m D)).setCell ⟨g, 1, none⟩ (u.s D)).setCell ⟨g, 2, none⟩ (u.q D)).setCell ⟨g', 0, none⟩ (.int .i64 C)).setCell ⟨g', 1, none⟩ (.int .i64 V)).heap[g']? = some (.cells #[.int .i64 C, .int .i64 V] 37) := by rw [Joins.block_setCell b4]; rfl
  refine ⟨⟨((((hs.box hg (by decide) (by decide) 0 _).box a1 (by decide) (by decide) 1 _).box a2 (by decide) (by decide) 2 _).box b3 (by decide) (by decide) 0 _).box b4 (by decide) (by decide) 1 _, hB, by simpa using hh, hl, ?_, b5, h1, h2⟩, ?_⟩
  · rw [keep _ _ _ _ _ ne, keep _ _ _ _ _ ne]; exact a3
  · exact (((((Below.refl B W).setCell (p := ⟨g, 0, none⟩) h1 _).setCell (p := ⟨g, 1, none⟩) h1 _).setCell (p := ⟨g, 2, none⟩) h1 _).setCell (p := ⟨g', 0, none⟩) h2 _).setCell (p := ⟨g', 1, none⟩) h2 _
end

end Go.Proofs.YtklpdpdjblakgaaDoor

/- LinY -/
namespace Go.Proofs.YtklpdpdjblakgaaDoor
open Go.RowKit
set_option linter.unusedVariables false

/-- What each of a region's operations leaves: a copy of the state, what is asked, the answer, and boxes for it. -/
def VA (B : Nat) (v : SV) (d : LD) (k x y : Int) (D : LD) (C V : Int) (AP : SV → Prop) : Nat → Value → World → Prop
  | 0, z, _ => z = stV v d
  | 1, z, W => ∃ u, z = stV u d ∧ SS W u d ∧ Room u d ∧ Somes u
  | 2, z, _ => z = .agg #[.int .i64 k, .int .i64 x, .int .i64 y]
  | 3, z, _ => z = .agg #[.int .i64 k, .int .i64 x, .int .i64 y]
  | 4, z, W => ∃ u lo hi, z = .tuple #[stV u D, .agg #[.int .i64 C, .int .i64 V]] ∧ St lo hi u D W ∧ B ≤ lo ∧ lo ≤ hi ∧ hi ≤ W.heap.size ∧ AP u
  | 5, z, W => ∃ u lo hi, z = .tuple #[stV u D, .agg #[.int .i64 C, .int .i64 V]] ∧ St lo hi u D W ∧ B ≤ lo ∧ lo ≤ hi ∧ hi ≤ W.heap.size ∧ AP u
  | 6, z, W => ∃ u lo hi, z = stV u D ∧ St lo hi u D W ∧ B ≤ lo ∧ lo ≤ hi ∧ hi ≤ W.heap.size ∧ AP u
  | 7, z, _ => z = .agg #[.int .i64 C, .int .i64 V]
  | 8, z, W => ∃ g, z = .pointer (some ⟨g, 0, none⟩) ∧ B ≤ g ∧ W.heap[g]? = some (.cells #[.slice none 0 0, .slice none 0 0, .slice none 0 0] 35)
  | 9, z, W => ∃ g, z = .pointer (some ⟨g, 0, none⟩) ∧ B ≤ g ∧ W.heap[g]? = some (.cells #[.int .i64 0, .int .i64 0] 37)
  | _, _, _ => True
/-- The same without the copy. -/
def VB (B : Nat) (v : SV) (d : LD) (k x y : Int) (D : LD) (C V : Int) (AP : SV → Prop) : Nat → Value → World → Prop
  | 0 => VA B v d k x y D C V AP 0
  | i + 1 => VA B v d k x y D C V AP (i + 2)

theorem VA_keep {B : Nat} {v : SV} {d : LD} {k x y : Int} {D : LD} {C V : Int} {AP : SV → Prop} : ∀ i z W W', VA B v d k x y D C V AP i z W → Below W.heap.size W W' → VA B v d k x y D C V AP i z W' := by
  intro i z W W' h t
  unfold VA at h ⊢
  split at h <;> first
    | exact h
    | exact (let ⟨u, e, s, r⟩ := h; ⟨u, e, s.below t, r⟩)
    | exact (let ⟨u, lo, hi, e, s, b, l, hh, ap⟩ := h; ⟨u, lo, hi, e, s.below hh t, b, l, Nat.le_trans hh t.size, ap⟩)
    | exact (let ⟨g, e, b, hg⟩ := h; ⟨g, e, b, (t.block g (lt_of_some hg)).trans hg⟩)
theorem VB_keep {B : Nat} {v : SV} {d : LD} {k x y : Int} {D : LD} {C V : Int} {AP : SV → Prop} : ∀ i z W W', VB B v d k x y D C V AP i z W → Below W.heap.size W W' → VB B v d k x y D C V AP i z W' := by
  intro i z W W' h t
  cases i with
  | zero => exact VA_keep (B := B) (v := v) (d := d) (k := k) (x := x) (y := y) (D := D) (C := C) (V := V) (AP := AP) 0 z W W' h t
  | succ i => exact VA_keep (B := B) (v := v) (d := d) (k := k) (x := x) (y := y) (D := D) (C := C) (V := V) (AP := AP) (i + 2) z W W' h t

def opsL5 : Array Oper := #[{ dst := some 22, op := Op.load 27 (Operand.tmp 2), type := 27, pos := "exact.go:3047", after := #[], guard := none }, { dst := some 23, op := Op.call { callee := Callee.value (Operand.func 10), args := #[Operand.tmp 22], argTypes := #[27] }, type := 35, pos := "exact.go:3047", after := #[{ on := 0, ground := Ground.data }], guard := none }, { dst := some 24, op := Op.load 29 (Operand.tmp 3), type := 29, pos := "exact.go:3047", after := #[], guard := none }, { dst := some 25, op := Op.call { callee := Callee.value (Operand.func 11), args := #[Operand.tmp 24], argTypes := #[29] }, type := 41, pos := "exact.go:3047", after := #[{ on := 2, ground := Ground.data }, { on := 1, ground := Ground.chain }], guard := none }, { dst := some 26, op := Op.call { callee := Callee.value (Operand.func 9), args := #[Operand.tmp 23, Operand.tmp 25], argTypes := #[35, 41] }, type := 38, pos := "exact.go:3047", after := #[{ on := 1, ground := Ground.data }, { on := 3, ground := Ground.data }, { on := 3, ground := Ground.chain }], guard := none }, { dst := some 21, op := Op.move (Operand.tmp 26), type := 38, pos := "exact.go:3047", after := #[{ on := 4, ground := Ground.data }], guard := none }, { dst := some 27, op := Op.extract (Operand.tmp 21) 0, type := 35, pos := "exact.go:3047", after := #[{ on := 5, ground := Ground.data }], guard := none }, { dst := some 28, op := Op.extract (Operand.tmp 21) 1, type := 37, pos := "exact.go:3047", after := #[{ on := 5, ground := Ground.data }, { on := 10, ground := Ground.gcOnly Departure.lateStores }], guard := none }, { dst := some 6, op := Op.alloc 35, type := 0, pos := "exact.go:3047", after := #[], guard := none }, { dst := some 7, op := Op.alloc 37, type := 0, pos := "exact.go:3047", after := #[], guard := none }, { dst := none, op := Op.store 35 (Operand.tmp 6) (Operand.tmp 27), type := 0, pos := "exact.go:3047", after := #[{ on := 8, ground := Ground.data }, { on := 6, ground := Ground.data }, { on := 4, ground := Ground.chain }, { on := 0, ground := Ground.phase }, { on := 1, ground := Ground.phase }, { on := 2, ground := Ground.phase }, { on := 3, ground := Ground.phase }, { on := 4, ground := Ground.phase }, { on := 5, ground := Ground.phase }, { on := 6, ground := Ground.phase }, { on := 7, ground := Ground.textOnly Departure.lateStores }, { on := 8, ground := Ground.phase }, { on := 9, ground := Ground.phase }], guard := none }, { dst := none, op := Op.store 37 (Operand.tmp 7) (Operand.tmp 28), type := 0, pos := "exact.go:3047", after := #[{ on := 9, ground := Ground.data }, { on := 7, ground := Ground.data }, { on := 10, ground := Ground.chain }, { on := 0, ground := Ground.phase }, { on := 1, ground := Ground.phase }, { on := 2, ground := Ground.phase }, { on := 3, ground := Ground.phase }, { on := 4, ground := Ground.phase }, { on := 5, ground := Ground.phase }, { on := 6, ground := Ground.phase }, { on := 7, ground := Ground.phase }, { on := 8, ground := Ground.phase }, { on := 9, ground := Ground.phase }, { on := 10, ground := Ground.phase }], guard := none }]

set_option maxRecDepth 20000 in
set_option maxHeartbeats 4000000 in
theorem hopL5 {A G0 B : Nat} {v : SV} {d D : LD} {k x y C V : Int} {AP : SV → Prop} {wb : World} {a0 : Act} {Q : Exit → Act → World → Prop} (hbx : B3 wb G0 (v.m d) (v.s d) (v.q d)) (hbo : B3 wb A (.int .i64 k) (.int .i64 x) (.int .i64 y)) (hss : SS wb v d) (HX : Hid True) (hfe : Few d) (hB : B ≤ wb.heap.size)
    (HC : Hid (∀ W v', SS W v' d → Room v' d → Somes v' → Below wb.heap.size wb W → Calls Tryd.prog 9 #[stV v' d, .agg #[.int .i64 k, .int .i64 x, .int .i64 y]] W fun e w' => ∃ u, e = .returned (.tuple #[stV u D, .agg #[.int .i64 C, .int .i64 V]]) ∧ St W.heap.size w'.heap.size u D w' ∧ AP u ∧ Below W.heap.size W w'))
    (e1 : a0.eval (.tmp 2) = .pointer (some ⟨G0, 0, none⟩)) (e2 : a0.eval (.tmp 3) = .pointer (some ⟨A, 0, none⟩)) :
    ∀ (i : Nat) (o : Oper) (f : Nat) (W1 : Act) (W : World), i < 10 → opsL5[i]? = some o → Below wb.heap.size wb W →
      (∀ e ∈ o.after, Region.binds .any e = true → ∀ oj, opsL5[e.on]? = some oj → ∃ z, VA B v d k x y D C V AP e.on z W ∧ ∀ t, oj.dst = some t → W1.eval (.tmp t) = z) →
      (∀ t, (∀ oj ∈ opsL5.toList, oj.dst ≠ some t) → W1.eval (.tmp t) = a0.eval (.tmp t)) → Oper.wp Tryd.prog o W1 W (fun a' w' => ∃ z, a' = W1.put o.dst z ∧ VA B v d k x y D C V AP i z w' ∧ Below wb.heap.size wb w' ∧ Below W.heap.size W w') Q := by
  intro i o f W1 W hi ho hI hdep hfix
  have h1 := eval_tmp ((hfix 2 (dst_none (by kernel_rfl))).trans e1)
  have h2 := eval_tmp ((hfix 3 (dst_none (by kernel_rfl))).trans e2)
  obtain ⟨c0, c1, c2⟩ := (hbx.below hI).cells
  obtain ⟨p0, p1, p2⟩ := (hbo.below hI).cells
  have HS : Hid (SS W v d ∧ Few d ∧ Below wb.heap.size wb W) := ⟨hss.below hI, hfe, hI⟩
  have hBW : B ≤ W.heap.size := Nat.le_trans hB hI.size
  clear hfix e1 e2 hbx hbo hss hfe
  generalize hKK : (fun (a' : Act) (w' : World) => ∃ z, a' = W1.put o.dst z ∧ VA B v d k x y D C V AP i z w' ∧ Below wb.heap.size wb w' ∧ Below W.heap.size W w') = KK
  have HK : Hid (∀ z w', VA B v d k x y D C V AP i z w' → Below W.heap.size W w' → KK (W1.put o.dst z) w') := by
    subst hKK
    exact fun z w' h1 h2 => ⟨z, rfl, h1, below_trans' hI h2, h2⟩
  clear hKK hI
  rcases (show i = 0 ∨ i = 1 ∨ i = 2 ∨ i = 3 ∨ i = 4 ∨ i = 5 ∨ i = 6 ∨ i = 7 ∨ i = 8 ∨ i = 9 by omega) with rfl | rfl | rfl | rfl | rfl | rfl | rfl | rfl | rfl | rfl
  · obtain rfl : ({ dst := some 22, op := Op.load 27 (Operand.tmp 2), type := 27, pos := "exact.go:3047", after := #[], guard := none } : Oper) = o := Option.some.inj ho
    clear ho hi
    clear hdep
    clear p0 p1 p2 h2
    go_simp
    exact HK.out _ _ rfl (Below.refl _ _)
  · obtain rfl : ({ dst := some 23, op := Op.call { callee := Callee.value (Operand.func 10), args := #[Operand.tmp 22], argTypes := #[27] }, type := 35, pos := "exact.go:3047", after := #[{ on := 0, ground := Ground.data }], guard := none } : Oper) = o := Option.some.inj ho
    clear ho hi
    obtain ⟨v0, hv0, he0'⟩ := hdep { on := 0, ground := .data } (by simp) rfl _ rfl
    have he0 := eval_tmp (he0' 22 rfl)
    clear he0'
    clear hdep
    obtain rfl : v0 = stV v d := hv0
    clear c0 c1 c2 p0 p1 p2 h1 h2
    go_simp
    refine (toLinState_any v d W HS.out.1 HS.out.2.1).mono ?_
    rintro e W2 ⟨u, rfl, hst, _, hso, hb⟩
    exact HK.out _ _ ⟨u, rfl, hst.ss, hst.room, hso⟩ hb
  · obtain rfl : ({ dst := some 24, op := Op.load 29 (Operand.tmp 3), type := 29, pos := "exact.go:3047", after := #[], guard := none } : Oper) = o := Option.some.inj ho
    clear ho hi
    clear hdep
    clear c0 c1 c2 h1
    go_simp
    exact HK.out _ _ rfl (Below.refl _ _)
  · obtain rfl : ({ dst := some 25, op := Op.call { callee := Callee.value (Operand.func 11), args := #[Operand.tmp 24], argTypes := #[29] }, type := 41, pos := "exact.go:3047", after := #[{ on := 2, ground := Ground.data }, { on := 1, ground := Ground.chain }], guard := none } : Oper) = o := Option.some.inj ho
    clear ho hi
    obtain ⟨v2, hv2, he2'⟩ := hdep { on := 2, ground := .data } (by simp) rfl _ rfl
    have he2 := eval_tmp (he2' 24 rfl)
    clear he2'
    clear hdep
    obtain rfl : v2 = .agg #[.int .i64 k, .int .i64 x, .int .i64 y] := hv2
    clear c0 c1 c2 p0 p1 p2 h1 h2
    go_simp
    refine (toOpOp_any k x y W).mono ?_
    rintro e W2 ⟨rfl, hb⟩
    exact HK.out _ _ rfl hb
  · obtain rfl : ({ dst := some 26, op := Op.call { callee := Callee.value (Operand.func 9), args := #[Operand.tmp 23, Operand.tmp 25], argTypes := #[35, 41] }, type := 38, pos := "exact.go:3047", after := #[{ on := 1, ground := Ground.data }, { on := 3, ground := Ground.data }, { on := 3, ground := Ground.chain }], guard := none } : Oper) = o := Option.some.inj ho
    clear ho hi
    obtain ⟨v1, hv1, he1'⟩ := hdep { on := 1, ground := .data } (by simp) rfl _ rfl
    have he1 := eval_tmp (he1' 23 rfl)
    clear he1'
    obtain ⟨v3, hv3, he3'⟩ := hdep { on := 3, ground := .data } (by simp) rfl _ rfl
    have he3 := eval_tmp (he3' 25 rfl)
    clear he3'
    clear hdep
    obtain ⟨u0, rfl, hs0, hr0, hm0⟩ := hv1
    obtain rfl : v3 = .agg #[.int .i64 k, .int .i64 x, .int .i64 y] := hv3
    clear c0 c1 c2 p0 p1 p2 h1 h2
    go_simp
    refine (HC.out W u0 hs0 hr0 hm0 HS.out.2.2).mono ?_
    rintro e W2 ⟨u, rfl, hst, hap, hb⟩
    exact HK.out _ _ ⟨u, _, _, rfl, hst, hBW, hb.size, Nat.le_refl _, hap⟩ hb
  · obtain rfl : ({ dst := some 21, op := Op.move (Operand.tmp 26), type := 38, pos := "exact.go:3047", after := #[{ on := 4, ground := Ground.data }], guard := none } : Oper) = o := Option.some.inj ho
    clear ho hi
    obtain ⟨v4, hv4, he4'⟩ := hdep { on := 4, ground := .data } (by simp) rfl _ rfl
    have he4 := eval_tmp (he4' 26 rfl)
    clear he4'
    clear hdep
    obtain ⟨u, lo, hi', rfl, hst⟩ := hv4
    clear c0 c1 c2 p0 p1 p2 h1 h2
    go_simp
    exact HK.out _ _ ⟨u, lo, hi', rfl, hst⟩ (Below.refl _ _)
  · obtain rfl : ({ dst := some 27, op := Op.extract (Operand.tmp 21) 0, type := 35, pos := "exact.go:3047", after := #[{ on := 5, ground := Ground.data }], guard := none } : Oper) = o := Option.some.inj ho
    clear ho hi
    obtain ⟨v5, hv5, he5'⟩ := hdep { on := 5, ground := .data } (by simp) rfl _ rfl
    have he5 := eval_tmp (he5' 21 rfl)
    clear he5'
    clear hdep
    obtain ⟨u, lo, hi', rfl, hst⟩ := hv5
    clear c0 c1 c2 p0 p1 p2 h1 h2
    go_simp
    exact HK.out _ _ ⟨u, lo, hi', rfl, hst⟩ (Below.refl _ _)
  · obtain rfl : ({ dst := some 28, op := Op.extract (Operand.tmp 21) 1, type := 37, pos := "exact.go:3047", after := #[{ on := 5, ground := Ground.data }, { on := 10, ground := Ground.gcOnly Departure.lateStores }], guard := none } : Oper) = o := Option.some.inj ho
    clear ho hi
    obtain ⟨v5, hv5, he5'⟩ := hdep { on := 5, ground := .data } (by simp) rfl _ rfl
    have he5 := eval_tmp (he5' 21 rfl)
    clear he5'
    clear hdep
    obtain ⟨u, lo, hi', rfl, hst⟩ := hv5
    clear c0 c1 c2 p0 p1 p2 h1 h2
    go_simp
    exact HK.out _ _ rfl (Below.refl _ _)
  · obtain rfl : ({ dst := some 6, op := Op.alloc 35, type := 0, pos := "exact.go:3047", after := #[], guard := none } : Oper) = o := Option.some.inj ho
    clear ho hi
    clear hdep
    clear c0 c1 c2 p0 p1 p2 h1 h2
    have hal := al1 W (.cells #[.slice none 0 0, .slice none 0 0, .slice none 0 0] 35)
    have hnew := heap_alloc_new W (.cells #[.slice none 0 0, .slice none 0 0, .slice none 0 0] 35)
    go_simp
    exact HK.out _ _ ⟨W.heap.size, rfl, hBW, hnew⟩ hal
  · obtain rfl : ({ dst := some 7, op := Op.alloc 37, type := 0, pos := "exact.go:3047", after := #[], guard := none } : Oper) = o := Option.some.inj ho
    clear ho hi
    clear hdep
    clear c0 c1 c2 p0 p1 p2 h1 h2
    have hal := al1 W (.cells #[.int .i64 0, .int .i64 0] 37)
    have hnew := heap_alloc_new W (.cells #[.int .i64 0, .int .i64 0] 37)
    go_simp
    exact HK.out _ _ ⟨W.heap.size, rfl, hBW, hnew⟩ hal

def opsL7 : Array Oper := #[{ dst := some 32, op := Op.load 35 (Operand.tmp 8), type := 35, pos := "exact.go:3049", after := #[], guard := none }, { dst := some 33, op := Op.load 29 (Operand.tmp 3), type := 29, pos := "exact.go:3049", after := #[], guard := none }, { dst := some 34, op := Op.call { callee := Callee.value (Operand.func 11), args := #[Operand.tmp 33], argTypes := #[29] }, type := 41, pos := "exact.go:3049", after := #[{ on := 1, ground := Ground.data }], guard := none }, { dst := some 35, op := Op.call { callee := Callee.value (Operand.func 12), args := #[Operand.tmp 32, Operand.tmp 34], argTypes := #[35, 41] }, type := 38, pos := "exact.go:3049", after := #[{ on := 0, ground := Ground.data }, { on := 2, ground := Ground.data }, { on := 2, ground := Ground.chain }], guard := none }, { dst := some 31, op := Op.move (Operand.tmp 35), type := 38, pos := "exact.go:3049", after := #[{ on := 3, ground := Ground.data }], guard := none }, { dst := some 36, op := Op.extract (Operand.tmp 31) 0, type := 35, pos := "exact.go:3049", after := #[{ on := 4, ground := Ground.data }], guard := none }, { dst := some 37, op := Op.extract (Operand.tmp 31) 1, type := 37, pos := "exact.go:3049", after := #[{ on := 4, ground := Ground.data }, { on := 9, ground := Ground.gcOnly Departure.lateStores }], guard := none }, { dst := some 9, op := Op.alloc 35, type := 0, pos := "exact.go:3049", after := #[], guard := none }, { dst := some 10, op := Op.alloc 37, type := 0, pos := "exact.go:3049", after := #[], guard := none }, { dst := none, op := Op.store 35 (Operand.tmp 9) (Operand.tmp 36), type := 0, pos := "exact.go:3049", after := #[{ on := 7, ground := Ground.data }, { on := 5, ground := Ground.data }, { on := 3, ground := Ground.chain }, { on := 0, ground := Ground.phase }, { on := 1, ground := Ground.phase }, { on := 2, ground := Ground.phase }, { on := 3, ground := Ground.phase }, { on := 4, ground := Ground.phase }, { on := 5, ground := Ground.phase }, { on := 6, ground := Ground.textOnly Departure.lateStores }, { on := 7, ground := Ground.phase }, { on := 8, ground := Ground.phase }], guard := none }, { dst := none, op := Op.store 37 (Operand.tmp 10) (Operand.tmp 37), type := 0, pos := "exact.go:3049", after := #[{ on := 8, ground := Ground.data }, { on := 6, ground := Ground.data }, { on := 9, ground := Ground.chain }, { on := 0, ground := Ground.phase }, { on := 1, ground := Ground.phase }, { on := 2, ground := Ground.phase }, { on := 3, ground := Ground.phase }, { on := 4, ground := Ground.phase }, { on := 5, ground := Ground.phase }, { on := 6, ground := Ground.phase }, { on := 7, ground := Ground.phase }, { on := 8, ground := Ground.phase }, { on := 9, ground := Ground.phase }], guard := none }]

set_option maxRecDepth 20000 in
set_option maxHeartbeats 4000000 in
theorem hopL7 {A G0 B : Nat} {v : SV} {d D : LD} {k x y C V : Int} {AP : SV → Prop} {wb : World} {a0 : Act} {Q : Exit → Act → World → Prop} (hbx : B3 wb G0 (v.m d) (v.s d) (v.q d)) (hbo : B3 wb A (.int .i64 k) (.int .i64 x) (.int .i64 y)) (hss : SS wb v d) (HX : Hid (Room v d ∧ Somes v)) (hfe : Few d) (hB : B ≤ wb.heap.size)
    (HC : Hid (∀ W v', SS W v' d → Room v' d → Somes v' → Below wb.heap.size wb W → Calls Tryd.prog 12 #[stV v' d, .agg #[.int .i64 k, .int .i64 x, .int .i64 y]] W fun e w' => ∃ u, e = .returned (.tuple #[stV u D, .agg #[.int .i64 C, .int .i64 V]]) ∧ St W.heap.size w'.heap.size u D w' ∧ AP u ∧ Below W.heap.size W w'))
    (e1 : a0.eval (.tmp 8) = .pointer (some ⟨G0, 0, none⟩)) (e2 : a0.eval (.tmp 3) = .pointer (some ⟨A, 0, none⟩)) :
    ∀ (i : Nat) (o : Oper) (f : Nat) (W1 : Act) (W : World), i < 9 → opsL7[i]? = some o → Below wb.heap.size wb W →
      (∀ e ∈ o.after, Region.binds .any e = true → ∀ oj, opsL7[e.on]? = some oj → ∃ z, VB B v d k x y D C V AP e.on z W ∧ ∀ t, oj.dst = some t → W1.eval (.tmp t) = z) →
      (∀ t, (∀ oj ∈ opsL7.toList, oj.dst ≠ some t) → W1.eval (.tmp t) = a0.eval (.tmp t)) → Oper.wp Tryd.prog o W1 W (fun a' w' => ∃ z, a' = W1.put o.dst z ∧ VB B v d k x y D C V AP i z w' ∧ Below wb.heap.size wb w' ∧ Below W.heap.size W w') Q := by
  intro i o f W1 W hi ho hI hdep hfix
  have h1 := eval_tmp ((hfix 8 (dst_none (by kernel_rfl))).trans e1)
  have h2 := eval_tmp ((hfix 3 (dst_none (by kernel_rfl))).trans e2)
  obtain ⟨c0, c1, c2⟩ := (hbx.below hI).cells
  obtain ⟨p0, p1, p2⟩ := (hbo.below hI).cells
  have HS : Hid (SS W v d ∧ Few d ∧ Below wb.heap.size wb W) := ⟨hss.below hI, hfe, hI⟩
  have hBW : B ≤ W.heap.size := Nat.le_trans hB hI.size
  clear hfix e1 e2 hbx hbo hss hfe
  generalize hKK : (fun (a' : Act) (w' : World) => ∃ z, a' = W1.put o.dst z ∧ VB B v d k x y D C V AP i z w' ∧ Below wb.heap.size wb w' ∧ Below W.heap.size W w') = KK
  have HK : Hid (∀ z w', VB B v d k x y D C V AP i z w' → Below W.heap.size W w' → KK (W1.put o.dst z) w') := by
    subst hKK
    exact fun z w' h1 h2 => ⟨z, rfl, h1, below_trans' hI h2, h2⟩
  clear hKK hI
  rcases (show i = 0 ∨ i = 1 ∨ i = 2 ∨ i = 3 ∨ i = 4 ∨ i = 5 ∨ i = 6 ∨ i = 7 ∨ i = 8 by omega) with rfl | rfl | rfl | rfl | rfl | rfl | rfl | rfl | rfl
  · obtain rfl : ({ dst := some 32, op := Op.load 35 (Operand.tmp 8), type := 35, pos := "exact.go:3049", after := #[], guard := none } : Oper) = o := Option.some.inj ho
    clear ho hi
    clear hdep
    clear p0 p1 p2 h2
    go_simp
    exact HK.out _ _ rfl (Below.refl _ _)
  · obtain rfl : ({ dst := some 33, op := Op.load 29 (Operand.tmp 3), type := 29, pos := "exact.go:3049", after := #[], guard := none } : Oper) = o := Option.some.inj ho
    clear ho hi
    clear hdep
    clear c0 c1 c2 h1
    go_simp
    exact HK.out _ _ rfl (Below.refl _ _)
  · obtain rfl : ({ dst := some 34, op := Op.call { callee := Callee.value (Operand.func 11), args := #[Operand.tmp 33], argTypes := #[29] }, type := 41, pos := "exact.go:3049", after := #[{ on := 1, ground := Ground.data }], guard := none } : Oper) = o := Option.some.inj ho
    clear ho hi
    obtain ⟨v2, hv2, he2'⟩ := hdep { on := 1, ground := .data } (by simp) rfl _ rfl
    have he2 := eval_tmp (he2' 33 rfl)
    clear he2'
    clear hdep
    obtain rfl : v2 = .agg #[.int .i64 k, .int .i64 x, .int .i64 y] := hv2
    clear c0 c1 c2 p0 p1 p2 h1 h2
    go_simp
    refine (toOpOp_any k x y W).mono ?_
    rintro e W2 ⟨rfl, hb⟩
    exact HK.out _ _ rfl hb
  · obtain rfl : ({ dst := some 35, op := Op.call { callee := Callee.value (Operand.func 12), args := #[Operand.tmp 32, Operand.tmp 34], argTypes := #[35, 41] }, type := 38, pos := "exact.go:3049", after := #[{ on := 0, ground := Ground.data }, { on := 2, ground := Ground.data }, { on := 2, ground := Ground.chain }], guard := none } : Oper) = o := Option.some.inj ho
    clear ho hi
    obtain ⟨v1, hv1, he1'⟩ := hdep { on := 0, ground := .data } (by simp) rfl _ rfl
    have he1 := eval_tmp (he1' 32 rfl)
    clear he1'
    obtain ⟨v3, hv3, he3'⟩ := hdep { on := 2, ground := .data } (by simp) rfl _ rfl
    have he3 := eval_tmp (he3' 34 rfl)
    clear he3'
    clear hdep
    obtain rfl : v1 = stV v d := hv1
    obtain rfl : v3 = .agg #[.int .i64 k, .int .i64 x, .int .i64 y] := hv3
    clear c0 c1 c2 p0 p1 p2 h1 h2
    go_simp
    refine (HC.out W v HS.out.1 HX.out.1 HX.out.2 HS.out.2.2).mono ?_
    rintro e W2 ⟨u, rfl, hst, hap, hb⟩
    exact HK.out _ _ ⟨u, _, _, rfl, hst, hBW, hb.size, Nat.le_refl _, hap⟩ hb
  · obtain rfl : ({ dst := some 31, op := Op.move (Operand.tmp 35), type := 38, pos := "exact.go:3049", after := #[{ on := 3, ground := Ground.data }], guard := none } : Oper) = o := Option.some.inj ho
    clear ho hi
    obtain ⟨v4, hv4, he4'⟩ := hdep { on := 3, ground := .data } (by simp) rfl _ rfl
    have he4 := eval_tmp (he4' 35 rfl)
    clear he4'
    clear hdep
    obtain ⟨u, lo, hi', rfl, hst⟩ := hv4
    clear c0 c1 c2 p0 p1 p2 h1 h2
    go_simp
    exact HK.out _ _ ⟨u, lo, hi', rfl, hst⟩ (Below.refl _ _)
  · obtain rfl : ({ dst := some 36, op := Op.extract (Operand.tmp 31) 0, type := 35, pos := "exact.go:3049", after := #[{ on := 4, ground := Ground.data }], guard := none } : Oper) = o := Option.some.inj ho
    clear ho hi
    obtain ⟨v5, hv5, he5'⟩ := hdep { on := 4, ground := .data } (by simp) rfl _ rfl
    have he5 := eval_tmp (he5' 31 rfl)
    clear he5'
    clear hdep
    obtain ⟨u, lo, hi', rfl, hst⟩ := hv5
    clear c0 c1 c2 p0 p1 p2 h1 h2
    go_simp
    exact HK.out _ _ ⟨u, lo, hi', rfl, hst⟩ (Below.refl _ _)
  · obtain rfl : ({ dst := some 37, op := Op.extract (Operand.tmp 31) 1, type := 37, pos := "exact.go:3049", after := #[{ on := 4, ground := Ground.data }, { on := 9, ground := Ground.gcOnly Departure.lateStores }], guard := none } : Oper) = o := Option.some.inj ho
    clear ho hi
    obtain ⟨v5, hv5, he5'⟩ := hdep { on := 4, ground := .data } (by simp) rfl _ rfl
    have he5 := eval_tmp (he5' 31 rfl)
    clear he5'
    clear hdep
    obtain ⟨u, lo, hi', rfl, hst⟩ := hv5
    clear c0 c1 c2 p0 p1 p2 h1 h2
    go_simp
    exact HK.out _ _ rfl (Below.refl _ _)
  · obtain rfl : ({ dst := some 9, op := Op.alloc 35, type := 0, pos := "exact.go:3049", after := #[], guard := none } : Oper) = o := Option.some.inj ho
    clear ho hi
    clear hdep
    clear c0 c1 c2 p0 p1 p2 h1 h2
    have hal := al1 W (.cells #[.slice none 0 0, .slice none 0 0, .slice none 0 0] 35)
    have hnew := heap_alloc_new W (.cells #[.slice none 0 0, .slice none 0 0, .slice none 0 0] 35)
    go_simp
    exact HK.out _ _ ⟨W.heap.size, rfl, hBW, hnew⟩ hal
  · obtain rfl : ({ dst := some 10, op := Op.alloc 37, type := 0, pos := "exact.go:3049", after := #[], guard := none } : Oper) = o := Option.some.inj ho
    clear ho hi
    clear hdep
    clear c0 c1 c2 p0 p1 p2 h1 h2
    have hal := al1 W (.cells #[.int .i64 0, .int .i64 0] 37)
    have hnew := heap_alloc_new W (.cells #[.int .i64 0, .int .i64 0] 37)
    go_simp
    exact HK.out _ _ ⟨W.heap.size, rfl, hBW, hnew⟩ hal

def opsL24 : Array Oper := #[{ dst := some 82, op := Op.load 27 (Operand.tmp 2), type := 27, pos := "exact.go:3071", after := #[], guard := none }, { dst := some 83, op := Op.call { callee := Callee.value (Operand.func 10), args := #[Operand.tmp 82], argTypes := #[27] }, type := 35, pos := "exact.go:3071", after := #[{ on := 0, ground := Ground.data }], guard := none }, { dst := some 84, op := Op.load 29 (Operand.tmp 3), type := 29, pos := "exact.go:3071", after := #[], guard := none }, { dst := some 85, op := Op.call { callee := Callee.value (Operand.func 11), args := #[Operand.tmp 84], argTypes := #[29] }, type := 41, pos := "exact.go:3071", after := #[{ on := 2, ground := Ground.data }, { on := 1, ground := Ground.chain }], guard := none }, { dst := some 86, op := Op.call { callee := Callee.value (Operand.func 12), args := #[Operand.tmp 83, Operand.tmp 85], argTypes := #[35, 41] }, type := 38, pos := "exact.go:3071", after := #[{ on := 1, ground := Ground.data }, { on := 3, ground := Ground.data }, { on := 3, ground := Ground.chain }], guard := none }, { dst := some 81, op := Op.move (Operand.tmp 86), type := 38, pos := "exact.go:3071", after := #[{ on := 4, ground := Ground.data }], guard := none }, { dst := some 87, op := Op.extract (Operand.tmp 81) 0, type := 35, pos := "exact.go:3071", after := #[{ on := 5, ground := Ground.data }], guard := none }, { dst := some 88, op := Op.extract (Operand.tmp 81) 1, type := 37, pos := "exact.go:3071", after := #[{ on := 5, ground := Ground.data }, { on := 10, ground := Ground.gcOnly Departure.lateStores }], guard := none }, { dst := some 14, op := Op.alloc 35, type := 0, pos := "exact.go:3071", after := #[], guard := none }, { dst := some 15, op := Op.alloc 37, type := 0, pos := "exact.go:3071", after := #[], guard := none }, { dst := none, op := Op.store 35 (Operand.tmp 14) (Operand.tmp 87), type := 0, pos := "exact.go:3071", after := #[{ on := 8, ground := Ground.data }, { on := 6, ground := Ground.data }, { on := 4, ground := Ground.chain }, { on := 0, ground := Ground.phase }, { on := 1, ground := Ground.phase }, { on := 2, ground := Ground.phase }, { on := 3, ground := Ground.phase }, { on := 4, ground := Ground.phase }, { on := 5, ground := Ground.phase }, { on := 6, ground := Ground.phase }, { on := 7, ground := Ground.textOnly Departure.lateStores }, { on := 8, ground := Ground.phase }, { on := 9, ground := Ground.phase }], guard := none }, { dst := none, op := Op.store 37 (Operand.tmp 15) (Operand.tmp 88), type := 0, pos := "exact.go:3071", after := #[{ on := 9, ground := Ground.data }, { on := 7, ground := Ground.data }, { on := 10, ground := Ground.chain }, { on := 0, ground := Ground.phase }, { on := 1, ground := Ground.phase }, { on := 2, ground := Ground.phase }, { on := 3, ground := Ground.phase }, { on := 4, ground := Ground.phase }, { on := 5, ground := Ground.phase }, { on := 6, ground := Ground.phase }, { on := 7, ground := Ground.phase }, { on := 8, ground := Ground.phase }, { on := 9, ground := Ground.phase }, { on := 10, ground := Ground.phase }], guard := none }]

set_option maxRecDepth 20000 in
set_option maxHeartbeats 4000000 in
theorem hopL24 {A G0 B : Nat} {v : SV} {d D : LD} {k x y C V : Int} {AP : SV → Prop} {wb : World} {a0 : Act} {Q : Exit → Act → World → Prop} (hbx : B3 wb G0 (v.m d) (v.s d) (v.q d)) (hbo : B3 wb A (.int .i64 k) (.int .i64 x) (.int .i64 y)) (hss : SS wb v d) (HX : Hid True) (hfe : Few d) (hB : B ≤ wb.heap.size)
    (HC : Hid (∀ W v', SS W v' d → Room v' d → Somes v' → Below wb.heap.size wb W → Calls Tryd.prog 12 #[stV v' d, .agg #[.int .i64 k, .int .i64 x, .int .i64 y]] W fun e w' => ∃ u, e = .returned (.tuple #[stV u D, .agg #[.int .i64 C, .int .i64 V]]) ∧ St W.heap.size w'.heap.size u D w' ∧ AP u ∧ Below W.heap.size W w'))
    (e1 : a0.eval (.tmp 2) = .pointer (some ⟨G0, 0, none⟩)) (e2 : a0.eval (.tmp 3) = .pointer (some ⟨A, 0, none⟩)) :
    ∀ (i : Nat) (o : Oper) (f : Nat) (W1 : Act) (W : World), i < 10 → opsL24[i]? = some o → Below wb.heap.size wb W →
      (∀ e ∈ o.after, Region.binds .any e = true → ∀ oj, opsL24[e.on]? = some oj → ∃ z, VA B v d k x y D C V AP e.on z W ∧ ∀ t, oj.dst = some t → W1.eval (.tmp t) = z) →
      (∀ t, (∀ oj ∈ opsL24.toList, oj.dst ≠ some t) → W1.eval (.tmp t) = a0.eval (.tmp t)) → Oper.wp Tryd.prog o W1 W (fun a' w' => ∃ z, a' = W1.put o.dst z ∧ VA B v d k x y D C V AP i z w' ∧ Below wb.heap.size wb w' ∧ Below W.heap.size W w') Q := by
  intro i o f W1 W hi ho hI hdep hfix
  have h1 := eval_tmp ((hfix 2 (dst_none (by kernel_rfl))).trans e1)
  have h2 := eval_tmp ((hfix 3 (dst_none (by kernel_rfl))).trans e2)
  obtain ⟨c0, c1, c2⟩ := (hbx.below hI).cells
  obtain ⟨p0, p1, p2⟩ := (hbo.below hI).cells
  have HS : Hid (SS W v d ∧ Few d ∧ Below wb.heap.size wb W) := ⟨hss.below hI, hfe, hI⟩
  have hBW : B ≤ W.heap.size := Nat.le_trans hB hI.size
  clear hfix e1 e2 hbx hbo hss hfe
  generalize hKK : (fun (a' : Act) (w' : World) => ∃ z, a' = W1.put o.dst z ∧ VA B v d k x y D C V AP i z w' ∧ Below wb.heap.size wb w' ∧ Below W.heap.size W w') = KK
  have HK : Hid (∀ z w', VA B v d k x y D C V AP i z w' → Below W.heap.size W w' → KK (W1.put o.dst z) w') := by
    subst hKK
    exact fun z w' h1 h2 => ⟨z, rfl, h1, below_trans' hI h2, h2⟩
  clear hKK hI
  rcases (show i = 0 ∨ i = 1 ∨ i = 2 ∨ i = 3 ∨ i = 4 ∨ i = 5 ∨ i = 6 ∨ i = 7 ∨ i = 8 ∨ i = 9 by omega) with rfl | rfl | rfl | rfl | rfl | rfl | rfl | rfl | rfl | rfl
  · obtain rfl : ({ dst := some 82, op := Op.load 27 (Operand.tmp 2), type := 27, pos := "exact.go:3071", after := #[], guard := none } : Oper) = o := Option.some.inj ho
    clear ho hi
    clear hdep
    clear p0 p1 p2 h2
    go_simp
    exact HK.out _ _ rfl (Below.refl _ _)
  · obtain rfl : ({ dst := some 83, op := Op.call { callee := Callee.value (Operand.func 10), args := #[Operand.tmp 82], argTypes := #[27] }, type := 35, pos := "exact.go:3071", after := #[{ on := 0, ground := Ground.data }], guard := none } : Oper) = o := Option.some.inj ho
    clear ho hi
    obtain ⟨v0, hv0, he0'⟩ := hdep { on := 0, ground := .data } (by simp) rfl _ rfl
    have he0 := eval_tmp (he0' 82 rfl)
    clear he0'
    clear hdep
    obtain rfl : v0 = stV v d := hv0
    clear c0 c1 c2 p0 p1 p2 h1 h2
    go_simp
    refine (toLinState_any v d W HS.out.1 HS.out.2.1).mono ?_
    rintro e W2 ⟨u, rfl, hst, _, hso, hb⟩
    exact HK.out _ _ ⟨u, rfl, hst.ss, hst.room, hso⟩ hb
  · obtain rfl : ({ dst := some 84, op := Op.load 29 (Operand.tmp 3), type := 29, pos := "exact.go:3071", after := #[], guard := none } : Oper) = o := Option.some.inj ho
    clear ho hi
    clear hdep
    clear c0 c1 c2 h1
    go_simp
    exact HK.out _ _ rfl (Below.refl _ _)
  · obtain rfl : ({ dst := some 85, op := Op.call { callee := Callee.value (Operand.func 11), args := #[Operand.tmp 84], argTypes := #[29] }, type := 41, pos := "exact.go:3071", after := #[{ on := 2, ground := Ground.data }, { on := 1, ground := Ground.chain }], guard := none } : Oper) = o := Option.some.inj ho
    clear ho hi
    obtain ⟨v2, hv2, he2'⟩ := hdep { on := 2, ground := .data } (by simp) rfl _ rfl
    have he2 := eval_tmp (he2' 84 rfl)
    clear he2'
    clear hdep
    obtain rfl : v2 = .agg #[.int .i64 k, .int .i64 x, .int .i64 y] := hv2
    clear c0 c1 c2 p0 p1 p2 h1 h2
    go_simp
    refine (toOpOp_any k x y W).mono ?_
    rintro e W2 ⟨rfl, hb⟩
    exact HK.out _ _ rfl hb
  · obtain rfl : ({ dst := some 86, op := Op.call { callee := Callee.value (Operand.func 12), args := #[Operand.tmp 83, Operand.tmp 85], argTypes := #[35, 41] }, type := 38, pos := "exact.go:3071", after := #[{ on := 1, ground := Ground.data }, { on := 3, ground := Ground.data }, { on := 3, ground := Ground.chain }], guard := none } : Oper) = o := Option.some.inj ho
    clear ho hi
    obtain ⟨v1, hv1, he1'⟩ := hdep { on := 1, ground := .data } (by simp) rfl _ rfl
    have he1 := eval_tmp (he1' 83 rfl)
    clear he1'
    obtain ⟨v3, hv3, he3'⟩ := hdep { on := 3, ground := .data } (by simp) rfl _ rfl
    have he3 := eval_tmp (he3' 85 rfl)
    clear he3'
    clear hdep
    obtain ⟨u0, rfl, hs0, hr0, hm0⟩ := hv1
    obtain rfl : v3 = .agg #[.int .i64 k, .int .i64 x, .int .i64 y] := hv3
    clear c0 c1 c2 p0 p1 p2 h1 h2
    go_simp
    refine (HC.out W u0 hs0 hr0 hm0 HS.out.2.2).mono ?_
    rintro e W2 ⟨u, rfl, hst, hap, hb⟩
    exact HK.out _ _ ⟨u, _, _, rfl, hst, hBW, hb.size, Nat.le_refl _, hap⟩ hb
  · obtain rfl : ({ dst := some 81, op := Op.move (Operand.tmp 86), type := 38, pos := "exact.go:3071", after := #[{ on := 4, ground := Ground.data }], guard := none } : Oper) = o := Option.some.inj ho
    clear ho hi
    obtain ⟨v4, hv4, he4'⟩ := hdep { on := 4, ground := .data } (by simp) rfl _ rfl
    have he4 := eval_tmp (he4' 86 rfl)
    clear he4'
    clear hdep
    obtain ⟨u, lo, hi', rfl, hst⟩ := hv4
    clear c0 c1 c2 p0 p1 p2 h1 h2
    go_simp
    exact HK.out _ _ ⟨u, lo, hi', rfl, hst⟩ (Below.refl _ _)
  · obtain rfl : ({ dst := some 87, op := Op.extract (Operand.tmp 81) 0, type := 35, pos := "exact.go:3071", after := #[{ on := 5, ground := Ground.data }], guard := none } : Oper) = o := Option.some.inj ho
    clear ho hi
    obtain ⟨v5, hv5, he5'⟩ := hdep { on := 5, ground := .data } (by simp) rfl _ rfl
    have he5 := eval_tmp (he5' 81 rfl)
    clear he5'
    clear hdep
    obtain ⟨u, lo, hi', rfl, hst⟩ := hv5
    clear c0 c1 c2 p0 p1 p2 h1 h2
    go_simp
    exact HK.out _ _ ⟨u, lo, hi', rfl, hst⟩ (Below.refl _ _)
  · obtain rfl : ({ dst := some 88, op := Op.extract (Operand.tmp 81) 1, type := 37, pos := "exact.go:3071", after := #[{ on := 5, ground := Ground.data }, { on := 10, ground := Ground.gcOnly Departure.lateStores }], guard := none } : Oper) = o := Option.some.inj ho
    clear ho hi
    obtain ⟨v5, hv5, he5'⟩ := hdep { on := 5, ground := .data } (by simp) rfl _ rfl
    have he5 := eval_tmp (he5' 81 rfl)
    clear he5'
    clear hdep
    obtain ⟨u, lo, hi', rfl, hst⟩ := hv5
    clear c0 c1 c2 p0 p1 p2 h1 h2
    go_simp
    exact HK.out _ _ rfl (Below.refl _ _)
  · obtain rfl : ({ dst := some 14, op := Op.alloc 35, type := 0, pos := "exact.go:3071", after := #[], guard := none } : Oper) = o := Option.some.inj ho
    clear ho hi
    clear hdep
    clear c0 c1 c2 p0 p1 p2 h1 h2
    have hal := al1 W (.cells #[.slice none 0 0, .slice none 0 0, .slice none 0 0] 35)
    have hnew := heap_alloc_new W (.cells #[.slice none 0 0, .slice none 0 0, .slice none 0 0] 35)
    go_simp
    exact HK.out _ _ ⟨W.heap.size, rfl, hBW, hnew⟩ hal
  · obtain rfl : ({ dst := some 15, op := Op.alloc 37, type := 0, pos := "exact.go:3071", after := #[], guard := none } : Oper) = o := Option.some.inj ho
    clear ho hi
    clear hdep
    clear c0 c1 c2 p0 p1 p2 h1 h2
    have hal := al1 W (.cells #[.int .i64 0, .int .i64 0] 37)
    have hnew := heap_alloc_new W (.cells #[.int .i64 0, .int .i64 0] 37)
    go_simp
    exact HK.out _ _ ⟨W.heap.size, rfl, hBW, hnew⟩ hal

end Go.Proofs.YtklpdpdjblakgaaDoor
