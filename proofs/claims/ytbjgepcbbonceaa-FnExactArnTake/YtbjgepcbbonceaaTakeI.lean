/- ArnTake of the program, at all places. -/
import Derived.Test.YtbjgepcbbonceaaTakeS
import Derived.Test.YtbjgepcbbonceaaRoundH
namespace Go.Proofs.Ytbjgepcbbonceaa
open Go.RowKit Go.Shelf
set_option linter.unusedVariables false

attribute [local go_sem] Oper.semAt_some

/-- The three first blocks of ArnTake, and the copy. -/
structure TakeAt (w : World) (a0 : Option Addr) (cap0 : Nat) (t f l : Int) (X g c : Nat) (ns : List Nd) (W : World) : Prop where
  cp : CopyA w a0 10 cap0 t f l X g c ns W
  r : Boxed W (w.heap.size + 1 + 1) 3 (.int .i64 0)
  ltg : w.heap.size + 1 + 1 < g

theorem CopyA.grownB {w : World} {a0 : Option Addr} {n0 cap0 : Nat} {t f l : Int} {X g c : Nat} {ns : List Nd} {W W' : World} (h : CopyA w a0 n0 cap0 t f l X g c ns W) {row : Option Nat} (hg : W.grownBy W' row) {B : Nat} (hr : ∀ r, row = some r → B ≤ r) (hX : X < B) : CopyA w a0 n0 cap0 t f l X g c ns W' := by
  have l0 := h.lt0
  have l1 := h.lt1
  exact
  { loc := { bel := h.loc.bel.grown hg h.loc.bel.size (fun k e => by have := hr k e; omega), box := h.loc.box.grown hg (fun e => by have := hr _ e.symm; omega), res := h.loc.res.grown hg (fun e => by have := hr _ e.symm; omega),
             fz := fun j => frozen_grown hg h.loc.sz (fun e => by have := hr _ e.symm; omega) (h.loc.fz j) },
    x := h.x.grown hg (fun e => by have := hr _ e.symm; omega), own := h.own.kept hg (.inr (fun e => by have e1 : some g = row := e; have := hr _ e1.symm; omega)), lt0 := h.lt0, lt1 := h.lt1 }

theorem TakeAt.ownFrom {w : World} {a0 : Option Addr} {cap0 : Nat} {t f l : Int} {X g c : Nat} {ns : List Nd} {B : Nat} (hX : X < B) {β : Type} (p : β → Prop) : OwnFrom B (fun s W => p s ∧ TakeAt w a0 cap0 t f l X g c ns W) :=
  fun s W W' row h hg hr => ⟨h.1, { cp := h.2.cp.grownB hg (fun r e => (hr r e).1) hX, r := h.2.r.kept hg (fun e => by have := (hr _ e.symm).1; have := h.2.ltg; have := h.2.cp.lt1; omega), ltg := h.2.ltg }⟩

/-- What stands where ArnTake answers with a place. -/
structure TakenAt (w : World) (X g c : Nat) (t f l : Int) (L : List Nd) (k : Nat) (W : World) : Prop where
  bel : Below w.heap.size w W
  res : BoxA W (w.heap.size + 1) (some ⟨g, 0, none⟩) 10 c t f l
  r : Boxed W (w.heap.size + 1 + 1) 3 (.int .i64 k)
  own : W.ownsRow (w.heap.size + 1 + 1) 46 6 (.slice (some ⟨g, 0, none⟩) 10 c) 10 (flatN L)
  lt : w.heap.size + 1 + 1 < g
  lt1 : g < X

theorem TakenAt.ownFrom {w : World} {X g c : Nat} {t f l : Int} {L : List Nd} {k : Nat} {W W' : World} {B : Nat} (h : TakenAt w X g c t f l L k W) (hX : X < B) {row : Option Nat} (hg : W.grownBy W' row) (hr : ∀ r, row = some r → B ≤ r) : TakenAt w X g c t f l L k W' := by
  have l0 := h.lt
  have l1 := h.lt1
  exact
  { bel := h.bel.grown hg h.bel.size (fun k e => by have := hr k e; omega), res := h.res.grown hg (fun e => by have := hr _ e.symm; omega), r := h.r.kept hg (fun e => by have := hr _ e.symm; omega),
    own := h.own.kept hg (.inr (fun e => by have e1 : some g = row := e; have := hr _ e1.symm; omega)), lt := h.lt, lt1 := h.lt1 }

theorem TakeAt.below {w : World} {a0 : Option Addr} {cap0 : Nat} {t f l : Int} {X g c : Nat} {ns : List Nd} {W W' : World} (h : TakeAt w a0 cap0 t f l X g c ns W) (hb : Below W.heap.size W W') : TakeAt w a0 cap0 t f l X g c ns W' :=
  { cp := h.cp.below hb, r := (hb.block _ h.r.lt).trans h.r, ltg := h.ltg }

theorem BoxA.set {W : World} {b : Nat} {a : Option Addr} {n cap : Nat} {t f l : Int} (h : BoxA W b a n cap t f l) (a' : Option Addr) (n' cap' : Nat) (t' f' l' : Int) : BoxA (putA W b a' n' cap' t' f' l') b a' n' cap' t' f' l' := by
  refine ⟨?_, ?_, ?_, ?_⟩
  · exact (World.cell?_setCell_other _ _ _ _ (by simp)).trans ((World.cell?_setCell_other _ _ _ _ (by simp)).trans ((World.cell?_setCell_other _ _ _ _ (by simp)).trans (World.cell?_setCell_same _ _ _ h.c0)))
  · exact (World.cell?_setCell_other _ _ _ _ (by simp)).trans ((World.cell?_setCell_other _ _ _ _ (by simp)).trans (World.cell?_setCell_same _ _ _ ((World.cell?_setCell_other _ _ _ _ (by simp)).trans h.c1)))
  · exact (World.cell?_setCell_other _ _ _ _ (by simp)).trans (World.cell?_setCell_same _ _ _ ((World.cell?_setCell_other _ _ _ _ (by simp)).trans ((World.cell?_setCell_other _ _ _ _ (by simp)).trans h.c2)))
  · exact World.cell?_setCell_same _ _ _ ((World.cell?_setCell_other _ _ _ _ (by simp)).trans ((World.cell?_setCell_other _ _ _ _ (by simp)).trans ((World.cell?_setCell_other _ _ _ _ (by simp)).trans h.c3)))

theorem grown_putA_self (W : World) (b : Nat) (a : Option Addr) (n cap : Nat) (t f l : Int) : W.grownBy (putA W b a n cap t f l) (some b) := by
  have h : ∀ (V : World) (o : Nat) (u : Value), V.grownBy (V.setCell ⟨b, o, none⟩ u) (some b) := fun V o u => ⟨rfl, rfl, rfl, by simp, fun c hc hne => Below.heap_setCell V ⟨b, o, none⟩ u c (fun e => hne (by rw [e]))⟩
  exact grown_trans (h _ _ _) (grown_trans (h _ _ _) (grown_trans (h _ _ _) (h _ _ _)))

/-- The answer is written: what stands then. -/
theorem TakeAt.ret {w : World} {a0 : Option Addr} {cap0 : Nat} {t f l : Int} {X g c : Nat} {ns : List Nd} {W : World} (h : TakeAt w a0 cap0 t f l X g c ns W) (k : Nat) :
    TakenAt w X g c t f l ns k ((putA W (w.heap.size + 1) (some ⟨g, 0, none⟩) 10 c t f l).setCell ⟨w.heap.size + 1 + 1, 0, none⟩ (.int .i64 k)) := by
  have hg1 := grown_putA_self W (w.heap.size + 1) (some ⟨g, 0, none⟩) 10 c t f l
  have hg2 := grownBy_setCell' (putA W (w.heap.size + 1) (some ⟨g, 0, none⟩) 10 c t f l) (w.heap.size + 1 + 1) (.int .i64 k)
  have l0 := h.ltg
  exact
  { bel := (below_putA h.cp.loc.bel (by omega) _ _ _ _ _ _).setCell (p := ⟨w.heap.size + 1 + 1, 0, none⟩) (by show w.heap.size ≤ w.heap.size + 1 + 1; omega) _,
    res := (h.cp.loc.res.set _ _ _ _ _ _).grown hg2 (fun e => by have e1 : w.heap.size + 1 = w.heap.size + 1 + 1 := Option.some.inj e; omega),
    r := Boxed.set _ (h.r.kept hg1 (fun e => by have e1 : w.heap.size + 1 + 1 = w.heap.size + 1 := Option.some.inj e; omega)),
    own := ownsRow_setCell_other (own_putA h.cp.own (by omega) _ _ _ _ _ _) (fun e => by have e1 : g = w.heap.size + 1 + 1 := Option.some.inj e; omega) _, lt := h.ltg, lt1 := h.cp.lt1 }

theorem TakeAt.put {w : World} {a0 : Option Addr} {cap0 : Nat} {t f l : Int} {X g c : Nat} {ns : List Nd} {W : World} (h : TakeAt w a0 cap0 t f l X g c ns W) (k : Nat) (y : Nd) : TakeAt w a0 cap0 t f l X g c (ns.set k y) (put6 W g (k * 6) y) :=
  { cp := h.cp.put k y, r := h.r.kept (own6_put h.cp.own k y).2.1 (fun e => by have e1 : w.heap.size + 1 + 1 = g := Option.some.inj e; have := h.ltg; omega), ltg := h.ltg }

theorem keeps_put6 (W : World) (g o : Nat) (y : Nd) : KeepsOthers W (put6 W g o y) :=
  (((((KeepsOthers.setCell W _ _).trans (KeepsOthers.setCell _ _ _)).trans (KeepsOthers.setCell _ _ _)).trans (KeepsOthers.setCell _ _ _)).trans (KeepsOthers.setCell _ _ _)).trans (KeepsOthers.setCell _ _ _)
theorem keeps_putA (W : World) (b : Nat) (a : Option Addr) (n cap : Nat) (t f l : Int) : KeepsOthers W (putA W b a n cap t f l) :=
  (((KeepsOthers.setCell W _ _).trans (KeepsOthers.setCell _ _ _)).trans (KeepsOthers.setCell _ _ _)).trans (KeepsOthers.setCell _ _ _)

theorem TakenAt.drew {w : World} {X g c : Nat} {t f l : Int} {L : List Nd} {k : Nat} {W : World} (h : TakenAt w X g c t f l L k W) : TakenAt w X g c t f l L k W.drew :=
  { bel := h.bel.drew, res := h.res.drew, r := h.r, own := h.own.drew, lt := h.lt, lt1 := h.lt1 }

/-- What is answered where the answer is written. -/
theorem taken_ends {w : World} {X g c : Nat} {t f l : Int} {ns L : List Nd} {k : Nat} {W : World} {tmps : Array Value} (hk : takeK ns = k) (hL : L = takeL ns) (h : TakenAt w X g c t f l L k W)
    (h2 : tmps[2]? = some (.pointer (some ⟨w.heap.size + 1, 0, none⟩))) (h3 : tmps[3]? = some (.pointer (some ⟨w.heap.size + 1 + 1, 0, none⟩))) :
    ∃ v, (results Try.f32 tmps).run Try.prog W = .ok v W ∧ ArenaRes2 (.int .i64 (takeK ns : Nat)) (takeL ns) 10 t f l (.returned v) w W := by
  subst hk hL
  refine ⟨.tuple #[.agg #[.slice (some ⟨g, 0, none⟩) 10 c, .int .i64 t, .int .i64 f, .int .i64 l], .int .i64 (takeK ns : Nat)], ?_, some ⟨g, 0, none⟩, c, rfl, own_mono h.own (by omega), h.bel⟩

  simp [results, Try.results32, go_sem, h.res.c0, h.res.c1, h.res.c2, h.res.c3, h.r.cell, h2, h3]

set_option maxRecDepth 100000 in
set_option maxHeartbeats 4000000 in
theorem taken_ok (b off cap : Nat) (ns : List Nd) (t f l : Int) (w : World) (hs : SNodes w (some ⟨b, off, none⟩) 10 ns) (hnc : 10 ≤ cap) (hcap : cap ≤ 9223372036854775807) :
    CallsIn Fence.wide 3 Try.prog 32 #[.agg #[.slice (some ⟨b, off, none⟩) 10 cap, .int .i64 t, .int .i64 f, .int .i64 l]] w fun e w' => ArenaRes2 (.int .i64 (takeK ns : Nat)) (takeL ns) 10 t f l e w w' := by
  have h1 : (1 : Nat) ≤ 3 := by omega
  have wf1 : Fence.wide.fn 41 := trivial
  have wf2 : Fence.wide.fn 44 := trivial
  have wf4 : Fence.wide.fn 39 := trivial
  have hro : Fence.wide.round = none := rfl
  have hbw : Hid (b < w.heap.size) := by
    obtain ⟨b', off', x, e, _, hN⟩ := hs.at (k := 0) (by omega)
    cases e
    exact World.block_lt_of_cell? w ⟨b, off + 0 * 6, none⟩ hN.c0
  have I0 := locA_start w (some ⟨b, off, none⟩) 10 cap t f l
  have bR0 := Boxed.new ((w.alloc (.cells #[.slice (some ⟨b, off, none⟩) 10 cap, .int .i64 t, .int .i64 f, .int .i64 l] 28)).alloc (.cells #[.slice none 0 0, .int .i64 0, .int .i64 0, .int .i64 0] 28)) 3 (.int .i64 0)
  have I1 := I0.below (al1 _ (.cells #[.int .i64 0] 3))
  rw [World.size_alloc, World.size_alloc] at bR0
  clear I0
  refine callsIn_of_wp_marks Try.func32 rfl trivial ?_ rfl
  simp only [Try.ntmps32, List.size_toArray, List.length_cons, List.length_nil, Nat.reduceAdd, Nat.reduceSub, Array.replicate_succ, Array.replicate_zero, List.push_toArray, List.append_toArray, List.nil_append, List.cons_append]
  have I2 := I1
  have bR1 := bR0
  have p0 := I2.box.c0
  have p1 := I2.box.c1
  have p2 := I2.box.c2
  have p3 := I2.box.c3
  clear I1 bR0
  gi_wp2
  refine (callsIn_wide.2 (sameA_any b off cap ns t f l _ (hs.below I2.bel) hnc hcap)).mono ?_
  rintro e w2 ⟨a2, c2, rfl, ho2, hb2⟩
  obtain ⟨g, rfl, I⟩ := copyA_start I2 ho2 hb2
  have hgl := (ho2.lt g rfl).1
  have bR2 : Boxed (w2.alloc (.cells #[.slice (some ⟨g, 0, none⟩) 10 c2, .int .i64 t, .int .i64 f, .int .i64 l] 28)) (w.heap.size + 1 + 1) 3 (.int .i64 0) := Boxed.alloc ((hb2.block _ bR1.lt).trans bR1) _
  have T0 : Hid (TakeAt w (some ⟨b, off, none⟩) cap t f l w2.heap.size g c2 ns (w2.alloc (.cells #[.slice (some ⟨g, 0, none⟩) 10 c2, .int .i64 t, .int .i64 f, .int .i64 l] 28))) := ⟨I, bR2, by have := bR1.lt; omega⟩
  clear p0 p1 p2 p3 I2 ho2 hb2 bR1 bR2 hgl
  have p0 := I.loc.box.c0
  have p1 := I.loc.box.c1
  have p2 := I.loc.box.c2
  have p3 := I.loc.box.c3
  clear I
  gi_wp2
  refine (freePlaces_in Fence.wide 2 wf1 hro _ _ _ _ _ _ _).mono ?_
  rintro e w' ⟨rfl, rfl⟩
  clear p0 p1 p2 p3
  gi_wp2
  have bN := boxA_new (w2.alloc (.cells #[.slice (some ⟨g, 0, none⟩) 10 c2, .int .i64 t, .int .i64 f, .int .i64 l] 28)) (some ⟨b, off, none⟩) 10 cap t f l 28 (b := w2.heap.size + 1) (by simp)
  have T1 : TakeAt w (some ⟨b, off, none⟩) cap t f l w2.heap.size g c2 ns ((w2.alloc (.cells #[.slice (some ⟨g, 0, none⟩) 10 c2, .int .i64 t, .int .i64 f, .int .i64 l] 28)).alloc (.cells #[.slice (some ⟨b, off, none⟩) 10 cap, .int .i64 t, .int .i64 f, .int .i64 l] 28)) := T0.out.below (al1 _ _)
  have hnw : w.heap.size ≤ w2.heap.size := by have := T0.out.ltg; have := T0.out.cp.lt1; omega
  clear T0
  refine wpIn_rangeFunc_ownF hro h1 (gf := 44) (lb := #[.pointer (some ⟨w2.heap.size + 1, 0, none⟩)]) rfl wf2 (enters_of Try.func44 (by kernel_rfl) rfl)
    (free_stops Fence.wide (3 - 1) wf2 hro (by omega) (w2.heap.size + 1) w.heap.size b off 10 cap ns _ hbw.out (by omega) (by simp) (by simp; omega) bN.c0 (hs.below T1.cp.loc.bel)) belowK_t (belowK_b (by simp; omega)) (Below.refl _ _) (fun _ => rfl)
    (fun pre W => pre = [] ∧ TakeAt w (some ⟨b, off, none⟩) cap t f l w2.heap.size g c2 ns W)
    (fun cc pre W => ∃ x : Fin 10, cc = .ret ∧ pre = [x] ∧ TakenAt w w2.heap.size g c2 t f l (ns.set x.val (takenN (ns.getD x.val Nd.zero))) x.val W)
    (TakeAt.ownFrom (by simp; omega) (fun pre => pre = []))
    (fun cc s W W' row h hg hr => by
      obtain ⟨x, h1, h2, hT⟩ := h
      exact ⟨x, h1, h2, hT.ownFrom (B := w2.heap.size + 1 + 1) (by omega) hg (fun r e => by have := (hr r e).1; simp at this; omega)⟩)
    ⟨rfl, T1⟩
    (fun x => { tmps := #[.agg #[.slice (some ⟨b, off, none⟩) 10 cap, .int .i64 t, .int .i64 f, .int .i64 l], .pointer (some ⟨w.heap.size, 0, none⟩), .pointer (some ⟨w.heap.size + 1, 0, none⟩), .pointer (some ⟨w.heap.size + 1 + 1, 0, none⟩), .pointer (some ⟨w2.heap.size, 0, none⟩), .int .i64 (x.val : Nat), .agg #[.slice (some ⟨b, off, none⟩) 10 cap, .int .i64 t, .int .i64 f, .int .i64 l], .agg #[.slice (some ⟨g, 0, none⟩) 10 c2, .int .i64 t, .int .i64 f, .int .i64 l], .agg #[.slice (some ⟨b, off, none⟩) 10 cap, .int .i64 t, .int .i64 f, .int .i64 l], .func (.func 44) #[] #[.pointer (some ⟨w2.heap.size + 1, 0, none⟩)], .int .i64 (x.val : Nat), undef, undef, undef, undef, undef, undef, undef, undef, undef, undef, undef, undef, undef, undef, undef], defers := [] }) ?assign ?body ?done ?stop
  case assign =>
    intro l x W K hK
    gi_wp2
    exact hK
  case body =>
    rintro l' pre x W ⟨rfl, hT⟩ hpl
    obtain ⟨⟨y0, y1, y2, y3, u, y5⟩, hy⟩ : ∃ y, ns[x.val]? = some y := ⟨_, List.getElem?_eq_getElem (by have := hs.1; have := x.2; omega)⟩
    obtain ⟨k, hk⟩ := x
    dsimp only at hy
    have x0 := hT.cp.x.c0
    have x1 := hT.cp.x.c1
    have x2 := hT.cp.x.c2
    have x3 := hT.cp.x.c3
    have p0 := hT.cp.loc.box.c0
    have v0 := hT.cp.loc.res.c0
    have v1 := hT.cp.loc.res.c1
    have v2 := hT.cp.loc.res.c2
    have v3 := hT.cp.loc.res.c3
    have fv0 := hT.cp.loc.fz 0
    have fv1 := hT.cp.loc.fz 1
    have fv2 := hT.cp.loc.fz 2
    have fv3 := hT.cp.loc.fz 3
    have rc := hT.r.cell
    have rf := hT.r.frozen
    have hN := own6_cell hT.cp.own hy
    have n0 := hN.c0
    have n1 := hN.c1
    have n2 := hN.c2
    have n3 := hN.c3
    have n4 := hN.c4
    have n5 := hN.c5
    obtain ⟨b', off', y, eb, hy', hM⟩ := (hs.below hT.cp.loc.bel).at (k := k) hk
    cases eb
    obtain rfl : y = ⟨y0, y1, y2, y3, u, y5⟩ := by rw [hy] at hy'; cases hy'; rfl
    have m5 := hM.c5
    dsimp only at n0 n1 n2 n3 n4 n5 m5
    have fm0 := hT.cp.own.frozenAt (k * 6)
    have fm1 := hT.cp.own.frozenAt (k * 6 + 1)
    have fm2 := hT.cp.own.frozenAt (k * 6 + 2)
    have fm3 := hT.cp.own.frozenAt (k * 6 + 3)
    have fm4 := hT.cp.own.frozenAt (k * 6 + 4)
    have fm5 := hT.cp.own.frozenAt (k * 6 + 5)
    have g1 := hT.ltg
    have g2 := hT.cp.lt1
    have bw := hbw.out
    have d1 : ¬ g = w2.heap.size := by omega
    have d2 : ¬ w2.heap.size = g := by omega
    have d3 : ¬ g = w.heap.size + 1 := by omega
    have d4 : ¬ w.heap.size + 1 = g := by omega
    have d5 : ¬ g = w.heap.size + 1 + 1 := by omega
    have d6 : ¬ w.heap.size + 1 + 1 = g := by omega
    have d7 : ¬ g = w.heap.size := by omega
    have d8 : ¬ w.heap.size = g := by omega
    have d9 : ¬ g = b := by omega
    have d10 : ¬ b = g := by omega
    have hki : (k : Int) < 10 := by omega
    have R : Hid (TakenAt w w2.heap.size g c2 t f l (ns.set k (takenN (ns.getD k Nd.zero))) k ((putA (put6 W g (k * 6) ⟨0, 0, 0, 0, true, wrap64 (y5 + 1)⟩) (w.heap.size + 1) (some ⟨g, 0, none⟩) 10 c2 t f l).setCell ⟨w.heap.size + 1 + 1, 0, none⟩ (.int .i64 k)).drew) := by
      have e : takenN (ns.getD k Nd.zero) = ⟨0, 0, 0, 0, true, wrap64 (y5 + 1)⟩ := by simp [List.getD, hy, takenN]
      rw [e]
      exact ((hT.put k _).ret k).drew
    have RK : Hid (KeepsOthers W ((putA (put6 W g (k * 6) ⟨0, 0, 0, 0, true, wrap64 (y5 + 1)⟩) (w.heap.size + 1) (some ⟨g, 0, none⟩) 10 c2 t f l).setCell ⟨w.heap.size + 1 + 1, 0, none⟩ (.int .i64 k)).drew) :=
      (((keeps_put6 _ _ _ _).trans (keeps_putA _ _ _ _ _ _ _ _)).trans (KeepsOthers.setCell _ _ _)).trans (KeepsOthers.drew _)
    have hfol : Try.prog.follows .mixedOrders = true := by kernel_rfl
    clear hM hN hy' hy hT g1 g2 bw T1 bN
    gi_wp2
    refine region_round (S := (fun V => V.cell? ⟨w2.heap.size, 0, none⟩ = some (.slice (some ⟨g, 0, none⟩) 10 c2) ∧ V.cell? ⟨w.heap.size, 0, none⟩ = some (.slice (some ⟨b, off, none⟩) 10 cap) ∧ V.cell? ⟨b, off + k * 6 + 5, none⟩ = some (.int .i64 y5))) (by kernel_rfl) (noDefer_all (by kernel_rfl)) ⟨x0, p0, m5⟩ (fun hHeld => ?_)
    refine wpAnyH_take (i := 0) (oi := ({ dst := some 11, op := Op.fieldAddr 28 (Operand.tmp 4) 0, type := 0, pos := "l2_arena.go:298", after := #[], guard := none } : Oper)) (v := ?_) rfl (by kernel_rfl) (by kernel_rfl) (by kernel_rfl) (fun _ _ _ h => h) (Or.inl ⟨by rfl, ?_⟩) (by assumption) ?_
    rotate_left
    · (intro wz hSw; (try dsimp only at hSw); go_simp; first | done | with_reducible rfl)
    (try simp only [Act.put, List.setIfInBounds_toArray, List.set_cons_zero, List.set_cons_succ])
    refine wpAnyH_take (i := 1) (oi := ({ dst := some 12, op := Op.load 26 (Operand.tmp 11), type := 26, pos := "l2_arena.go:298", after := #[{ on := 0, ground := Ground.data }], guard := none } : Oper)) (v := ?_) rfl (by kernel_rfl) (by kernel_rfl) (by kernel_rfl) (fun _ _ _ h => h) (Or.inl ⟨by rfl, ?_⟩) (by assumption) ?_
    rotate_left
    · (intro wz hSw; (try dsimp only at hSw); go_simp; first | done | with_reducible rfl)
    (try simp only [Act.put, List.setIfInBounds_toArray, List.set_cons_zero, List.set_cons_succ])
    refine wpAnyH_take (i := 2) (oi := ({ dst := some 13, op := Op.move (Operand.tmp 5), type := 3, pos := "l2_arena.go:298", after := #[], guard := none } : Oper)) (v := ?_) rfl (by kernel_rfl) (by kernel_rfl) (by kernel_rfl) (fun _ _ _ h => h) (Or.inl ⟨by rfl, ?_⟩) (by assumption) ?_
    rotate_left
    · (intro wz hSw; (try dsimp only at hSw); go_simp; first | done | with_reducible rfl)
    (try simp only [Act.put, List.setIfInBounds_toArray, List.set_cons_zero, List.set_cons_succ])
    refine wpAnyH_take (i := 3) (oi := ({ dst := some 14, op := Op.fieldAddr 28 (Operand.tmp 1) 0, type := 0, pos := "l2_arena.go:298", after := #[], guard := none } : Oper)) (v := ?_) rfl (by kernel_rfl) (by kernel_rfl) (by kernel_rfl) (fun _ _ _ h => h) (Or.inl ⟨by rfl, ?_⟩) (by assumption) ?_
    rotate_left
    · (intro wz hSw; (try dsimp only at hSw); go_simp; first | done | with_reducible rfl)
    (try simp only [Act.put, List.setIfInBounds_toArray, List.set_cons_zero, List.set_cons_succ])
    refine wpAnyH_take (i := 4) (oi := ({ dst := some 15, op := Op.load 26 (Operand.tmp 14), type := 26, pos := "l2_arena.go:298", after := #[{ on := 3, ground := Ground.data }], guard := none } : Oper)) (v := ?_) rfl (by kernel_rfl) (by kernel_rfl) (by kernel_rfl) (fun _ _ _ h => h) (Or.inl ⟨by rfl, ?_⟩) (by assumption) ?_
    rotate_left
    · (intro wz hSw; (try dsimp only at hSw); go_simp; first | done | with_reducible rfl)
    (try simp only [Act.put, List.setIfInBounds_toArray, List.set_cons_zero, List.set_cons_succ])
    refine wpAnyH_take (i := 5) (oi := ({ dst := some 16, op := Op.move (Operand.tmp 5), type := 3, pos := "l2_arena.go:298", after := #[], guard := none } : Oper)) (v := ?_) rfl (by kernel_rfl) (by kernel_rfl) (by kernel_rfl) (fun _ _ _ h => h) (Or.inl ⟨by rfl, ?_⟩) (by assumption) ?_
    rotate_left
    · (intro wz hSw; (try dsimp only at hSw); go_simp; first | done | with_reducible rfl)
    (try simp only [Act.put, List.setIfInBounds_toArray, List.set_cons_zero, List.set_cons_succ])
    refine wpAnyH_take (i := 6) (oi := ({ dst := some 17, op := Op.indexAddr 26 (Operand.tmp 15) (Operand.tmp 16), type := 0, pos := "l2_arena.go:298", after := #[{ on := 4, ground := Ground.data }, { on := 5, ground := Ground.data }], guard := none } : Oper)) (v := ?_) rfl (by kernel_rfl) (by kernel_rfl) (by kernel_rfl) (fun _ _ _ h => h) (Or.inl ⟨by rfl, ?_⟩) (by assumption) ?_
    rotate_left
    · (intro wz hSw; (try dsimp only at hSw); go_simp; first | done | with_reducible rfl)
    (try simp only [Act.put, List.setIfInBounds_toArray, List.set_cons_zero, List.set_cons_succ])
    refine wpAnyH_take (i := 7) (oi := ({ dst := some 18, op := Op.fieldAddr 46 (Operand.tmp 17) 5, type := 0, pos := "l2_arena.go:298", after := #[{ on := 6, ground := Ground.data }], guard := none } : Oper)) (v := ?_) rfl (by kernel_rfl) (by kernel_rfl) (by kernel_rfl) (fun _ _ _ h => h) (Or.inl ⟨by rfl, ?_⟩) (by assumption) ?_
    rotate_left
    · (intro wz hSw; (try dsimp only at hSw); go_simp; first | done | with_reducible rfl)
    (try simp only [Act.put, List.setIfInBounds_toArray, List.set_cons_zero, List.set_cons_succ])
    refine wpAnyH_take (i := 8) (oi := ({ dst := some 19, op := Op.load 3 (Operand.tmp 18), type := 3, pos := "l2_arena.go:298", after := #[{ on := 7, ground := Ground.data }], guard := none } : Oper)) (v := ?_) rfl (by kernel_rfl) (by kernel_rfl) (by kernel_rfl) (fun _ _ _ h => h) (Or.inl ⟨by rfl, ?_⟩) (by assumption) ?_
    rotate_left
    · (intro wz hSw; (try dsimp only at hSw); go_simp; first | done | with_reducible rfl)
    (try simp only [Act.put, List.setIfInBounds_toArray, List.set_cons_zero, List.set_cons_succ])
    refine wpAnyH_take (i := 9) (oi := ({ dst := some 20, op := Op.binOp BinOp.add 3 (Operand.tmp 19) (Operand.const (Value.int IntKind.i64 1)) 3, type := 3, pos := "l2_arena.go:298", after := #[{ on := 8, ground := Ground.data }], guard := none } : Oper)) (v := ?_) rfl (by kernel_rfl) (by kernel_rfl) (by kernel_rfl) (fun _ _ _ h => h) (Or.inl ⟨by rfl, ?_⟩) (by assumption) ?_
    rotate_left
    · (intro wz hSw; (try dsimp only at hSw); go_simp; first | done | with_reducible rfl)
    (try simp only [Act.put, List.setIfInBounds_toArray, List.set_cons_zero, List.set_cons_succ])
    refine wpAnyH_take (i := 10) (oi := ({ dst := some 21, op := Op.build 46 #[(4, Operand.const (Value.bool true)), (5, Operand.tmp 20)], type := 46, pos := "l2_arena.go:298", after := #[{ on := 9, ground := Ground.data }], guard := none } : Oper)) (v := ?_) rfl (by kernel_rfl) (by kernel_rfl) (by kernel_rfl) (fun _ _ _ h => h) (Or.inl ⟨by rfl, ?_⟩) (by assumption) ?_
    rotate_left
    · (intro wz hSw; (try dsimp only at hSw); go_simp; first | done | with_reducible rfl)
    (try simp only [Act.put, List.setIfInBounds_toArray, List.set_cons_zero, List.set_cons_succ])
    refine wpAnyH_take (i := 11) (oi := ({ dst := some 22, op := Op.indexAddr 26 (Operand.tmp 12) (Operand.tmp 13), type := 0, pos := "l2_arena.go:298", after := #[{ on := 1, ground := Ground.data }, { on := 2, ground := Ground.data }, { on := 0, ground := Ground.phase }, { on := 1, ground := Ground.phase }, { on := 2, ground := Ground.phase }, { on := 3, ground := Ground.phase }, { on := 4, ground := Ground.phase }, { on := 5, ground := Ground.phase }, { on := 6, ground := Ground.phase }, { on := 7, ground := Ground.phase }, { on := 8, ground := Ground.phase }, { on := 9, ground := Ground.phase }, { on := 10, ground := Ground.phase }], guard := none } : Oper)) (v := ?_) rfl (by kernel_rfl) (by kernel_rfl) (by kernel_rfl) (fun _ _ _ h => h) (Or.inl ⟨by rfl, ?_⟩) (by assumption) ?_
    rotate_left
    · (intro wz hSw; (try dsimp only at hSw); go_simp; first | done | with_reducible rfl)
    (try simp only [Act.put, List.setIfInBounds_toArray, List.set_cons_zero, List.set_cons_succ])
    refine wpAnyH_ready (rs := [12]) (by kernel_rfl) (by simp) ?_
    refine AllReadyH.cons (o := ({ dst := none, op := Op.store 46 (Operand.tmp 22) (Operand.tmp 21), type := 0, pos := "l2_arena.go:298", after := #[{ on := 11, ground := Ground.data }, { on := 10, ground := Ground.data }, { on := 0, ground := Ground.phase }, { on := 1, ground := Ground.phase }, { on := 2, ground := Ground.phase }, { on := 3, ground := Ground.phase }, { on := 4, ground := Ground.phase }, { on := 5, ground := Ground.phase }, { on := 6, ground := Ground.phase }, { on := 7, ground := Ground.phase }, { on := 8, ground := Ground.phase }, { on := 9, ground := Ground.phase }, { on := 10, ground := Ground.phase }], guard := none } : Oper)) rfl (fun K hK => ?_) AllReadyH.nil
    clear hHeld
    go_simp
    refine hK.out _ _ ?_ (fun hHeld => ?_)
    · (try dsimp only); go_keep
    clear hK K
    (try simp only [Act.put, List.setIfInBounds_toArray, List.set_cons_zero, List.set_cons_succ])
    refine wpAnyH_done (by kernel_rfl) (noOut_normal ?_) _
    clear hHeld
    gi_wp2
    exact ⟨RK.out, ⟨k, hk⟩, rfl, rfl, R.out⟩
  case done =>
    rintro D ys W hD hys ⟨rfl, hT⟩ hK
    obtain ⟨e1, e2⟩ := take_none hys.symm
    have x0 := hT.cp.x.c0
    have x1 := hT.cp.x.c1
    have x2 := hT.cp.x.c2
    have x3 := hT.cp.x.c3
    have v0 := hT.cp.loc.res.c0
    have v1 := hT.cp.loc.res.c1
    have v2 := hT.cp.loc.res.c2
    have v3 := hT.cp.loc.res.c3
    have fv0 := hT.cp.loc.fz 0
    have fv1 := hT.cp.loc.fz 1
    have fv2 := hT.cp.loc.fz 2
    have fv3 := hT.cp.loc.fz 3
    have rc := hT.r.cell
    have rf := hT.r.frozen
    have HE : Hid (takeK ns = 0 ∧ takeL ns = ns) := ⟨e1, e2⟩
    have HT : Hid (TakeAt w (some ⟨b, off, none⟩) cap t f l w2.heap.size g c2 ns W) := hT
    have HK : Hid (W.heap[D]? = _) := hK
    clear e1 e2 hys hT T1 bN hK
    gi_wp2
    have T := HT.out.ret 0
    have hK' := ((keeps_putA W (w.heap.size + 1) (some ⟨g, 0, none⟩) 10 c2 t f l).trans (KeepsOthers.setCell _ ⟨w.heap.size + 1 + 1, 0, none⟩ (.int .i64 0))).same D _ HK.out rfl
    refine ⟨by simp, .inl ⟨_, _, rfl, run_takeDeferred hK', ?_⟩⟩
    exact taken_ends (by rw [HE.out.1]) HE.out.2.symm (T.ownFrom (B := w2.heap.size + 1 + 1) (by omega) (grownBy_putObj' _ D (.deferred none)) (fun r e => by cases e; simp at hD; omega)) rfl rfl
  case stop =>
    rintro D cc pre W hD hpre ⟨x, rfl, rfl, hT⟩ hK
    have hy : ns[x.val]? = some (ns.getD x.val Nd.zero) := by
      have hx : x.val < ns.length := by have := hs.1; have := x.2; omega
      simp [List.getD, List.getElem?_eq_getElem hx]
    obtain ⟨e1, e2⟩ := take_first (by simpa using hpre) hy
    have HE : Hid (takeK ns = x.val ∧ takeL ns = ns.set x.val (takenN (ns.getD x.val Nd.zero))) := ⟨e1, e2⟩
    have HK : Hid (W.heap[D]? = _) := hK
    have HT : Hid (TakenAt w w2.heap.size g c2 t f l (ns.set x.val (takenN (ns.getD x.val Nd.zero))) x.val W) := hT
    clear e1 e2 hy hpre hK hT
    gi_wp2
    refine ⟨by simp, .inl ⟨_, _, rfl, run_takeDeferred HK.out, ?_⟩⟩
    exact taken_ends (by rw [HE.out.1]) HE.out.2.symm (HT.out.ownFrom (B := w2.heap.size + 1 + 1) (by omega) (grownBy_putObj' _ D (.deferred none)) (fun r e => by cases e; simp at hD; omega)) rfl rfl

end Go.Proofs.Ytbjgepcbbonceaa
