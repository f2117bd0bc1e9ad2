/- Worlds in which just the reader turns; literals; what the walks of draws want. -/
import Derived.Test.YtafhlflddndgjaaDoorDraw
import Derived.Test.YtafhlflddndgjaaDoorRegInv
import Derived.Lib.SmallJoins
namespace Go.Proofs.YtafhlflddndgjaaDoor
open Go.RowKit
set_option linter.unusedVariables false
set_option linter.unusedSimpArgs false

theorem al1 (W : World) (o : Obj) : Below W.heap.size W (W.alloc o) := (Below.refl _ _).alloc (Nat.le_refl _) o

theorem picked_size' {R q : Nat} {w w' : World} (h : Picked R q w w') : w'.heap.size = w.heap.size := by
  rw [h.1]
  simp

/-- All as it was but for the reader. -/
structure KB (R : Nat) (w w' : World) : Prop where
  bel : Below R w w'
  size : w.heap.size ≤ w'.heap.size
  block : ∀ c, c < w.heap.size → c ≠ R → w'.heap[c]? = w.heap[c]?
theorem KB.refl (R : Nat) (w : World) : KB R w w := ⟨Below.refl _ _, Nat.le_refl _, fun _ _ _ => rfl⟩
theorem KB.trans {R : Nat} {w w1 w2 : World} (h : KB R w w1) (k : KB R w1 w2) : KB R w w2 :=
  ⟨h.bel.trans k.bel, Nat.le_trans h.size k.size, fun c hc hn => (k.block c (Nat.lt_of_lt_of_le hc h.size) hn).trans (h.block c hc hn)⟩
theorem KB.of_below {R : Nat} {w w' : World} (h : Below w.heap.size w w') (hR : R ≤ w.heap.size) : KB R w w' := ⟨h.mono hR, h.size, fun c hc _ => h.block c hc⟩
theorem KB.of_picked {R q : Nat} {w w' : World} (h : Picked R q w w') : KB R w w' := ⟨h.2, by rw [picked_size' h]; exact Nat.le_refl _, fun c _ hn => heap_picked h hn⟩
theorem KB.drew {R : Nat} {w w' : World} (h : KB R w w') : KB R w w'.drew := ⟨h.bel.drew, h.size, h.block⟩
theorem KB.cell {R : Nat} {w w' : World} (h : KB R w w') {b o : Nat} {v : Value} (hc : w.cell? ⟨b, o, none⟩ = some v) (hn : b ≠ R) : w'.cell? ⟨b, o, none⟩ = some v :=
  (World.cell?_of_block (w := w) (a := ⟨b, o, none⟩) (h.block b (World.block_lt_of_cell? w ⟨b, o, none⟩ hc) hn)).trans hc
theorem KB.frozen {R : Nat} {w w' : World} (h : KB R w w') {b o : Nat} (hb : b < w.heap.size) (hn : b ≠ R) : w'.frozen? ⟨b, o, none⟩ = w.frozen? ⟨b, o, none⟩ :=
  World.frozen?_of_block (w := w) (a := ⟨b, o, none⟩) (h.block b hb hn)
theorem KB.rd {R q : Nat} {w w' : World} (hr : Rd w R q) (h : KB R w w') (hR : w'.heap[R]? = w.heap[R]?) : Rd w' R q := by
  obtain ⟨a, m, c, hb, hm, hc⟩ := hr
  refine ⟨a, m, c, hR.trans hb, hm, ?_⟩
  rcases hc with h0 | ⟨b, off, ha, hbR, hc⟩
  · exact .inl h0
  · refine .inr ⟨b, off, ha, hbR, fun i hi => ?_⟩
    obtain ⟨x, x0, x1, hx⟩ := hc i hi
    exact ⟨x, x0, x1, h.cell hx (by omega)⟩
theorem rd_below {R q : Nat} {w w' : World} (hr : Rd w R q) (hb : Below w.heap.size w w') : Rd w' R q := by
  obtain ⟨a, m, c, h0, _⟩ := id hr
  have hR : R < w.heap.size := (Array.getElem?_eq_some_iff.1 h0).1
  exact KB.rd hr (KB.of_below hb (by omega)) (hb.block R hR)

/-- A row stays where its block does. -/
theorem own_block {W W' : World} {b n : Nat} {e : TypeId} {sz : Nat} {v : Value} {xs : List Value} (h : W.ownsRow b e sz v n xs) (hb : ∀ g, v.ownBlock = some g → W'.heap[g]? = W.heap[g]?) : W'.ownsRow b e sz v n xs := by
  refine ⟨h.1, ?_⟩
  rcases h.2 with h2 | ⟨g, cap, cur, hv, hg, hh, r⟩
  · exact .inl h2
  · exact .inr ⟨g, cap, cur, hv, hg, (hb g (by subst hv; rfl)).trans hh, r⟩

theorem own_typed {W : World} {b n : Nat} {e : TypeId} {sz : Nat} {v : Value} {xs : List Value} (h : W.ownsRow b e sz v n xs) {g : Nat} (hg : v.ownBlock = some g) : b ≤ g ∧ g < W.heap.size ∧ ∃ cur, W.heap[g]? = some (.cells cur e) := by
  have hl := h.lt g hg
  rcases h.2 with ⟨rfl, _⟩ | ⟨g', cap, cur, rfl, _, hh, _⟩
  · cases hg
  · obtain rfl : g' = g := Option.some.inj hg
    exact ⟨hl.1, hl.2, cur, hh⟩

theorem cells_type {a b : Array Value} {s t : TypeId} {o : Option Obj} (h1 : o = some (.cells a s)) (h2 : o = some (.cells b t)) : s = t := by
  rw [h1] at h2
  injection h2 with h
  injection h

def Lit (B : Nat) (W : World) (g n : Nat) : Prop := B ≤ g ∧ ∃ xs : List Int, xs.length = n ∧ W.heap[g]? = some (.cells (xs.map (Value.int .i64)).toArray 3)

theorem Lit.cell {B : Nat} {W : World} {g n : Nat} (h : Lit B W g n) {k : Nat} (hk : k < n) : ∃ x : Int, W.cell? ⟨g, k, none⟩ = some (.int .i64 x) := by
  obtain ⟨hb, xs, hx, hh⟩ := h
  refine ⟨xs.getD k 0, ?_⟩
  have : k < xs.length := by omega
  simp [World.cell?, hh, List.getD, this]

theorem Lit.kb {R B : Nat} {W W' : World} {g n : Nat} (h : Lit B W g n) (hR : R < B) (t : KB R W W') : Lit B W' g n := by
  obtain ⟨hb, xs, hx, hh⟩ := h
  exact ⟨hb, xs, hx, (t.block g (Array.getElem?_eq_some_iff.1 hh).1 (by omega)).trans hh⟩

theorem dst_none {ops : List Oper} {d : Tmp} (h : ops.all (fun o => o.dst != some d) = true) : ∀ o ∈ ops, o.dst ≠ some d := fun o ho e => by
  have := List.all_eq_true.1 h o ho
  simp [e] at this
theorem lt25 {i : Nat} (h : i < 25) : i = 0 ∨ i = 1 ∨ i = 2 ∨ i = 3 ∨ i = 4 ∨ i = 5 ∨ i = 6 ∨ i = 7 ∨ i = 8 ∨ i = 9 ∨ i = 10 ∨ i = 11 ∨ i = 12 ∨ i = 13 ∨ i = 14 ∨ i = 15 ∨ i = 16 ∨ i = 17 ∨ i = 18 ∨ i = 19 ∨ i = 20 ∨ i = 21 ∨ i = 22 ∨ i = 23 ∨ i = 24 := by omega
theorem cell_block0 {W : World} {g : Nat} {x : Value} {xs : List Value} {t : TypeId} (h : W.heap[g]? = some (.cells ⟨x :: xs⟩ t)) : W.cell? ⟨g, 0, none⟩ = some x := by simp [World.cell?, h]
theorem cell_block1 {W : World} {g : Nat} {x y : Value} {xs : List Value} {t : TypeId} (h : W.heap[g]? = some (.cells ⟨x :: y :: xs⟩ t)) : W.cell? ⟨g, 1, none⟩ = some y := by simp [World.cell?, h]
theorem frozen_block {W : World} {g : Nat} {xs : Array Value} {t : TypeId} (h : W.heap[g]? = some (.cells xs t)) (j : Nat) : W.frozen? ⟨g, j, none⟩ = false := by simp [World.frozen?, h]

/-- A store into what the region has made itself. -/
theorem kb_setCell {R B : Nat} {w W : World} (h : KB R w W) (hB : w.heap.size ≤ B) {g j : Nat} (hg : B ≤ g) (hR : R < B) (u : Value) : KB R w (W.setCell ⟨g, j, none⟩ u) :=
  ⟨h.bel.setCell (p := ⟨g, j, none⟩) (by show R ≤ g; omega) u, by simpa using h.size, fun c hc hn => (Below.heap_setCell W ⟨g, j, none⟩ u c (by show c ≠ g; omega)).trans (h.block c hc hn)⟩
theorem rd_setCell {R q : Nat} {W : World} (hr : Rd W R q) {g j : Nat} (hg : R < g) (u : Value) : Rd (W.setCell ⟨g, j, none⟩ u) R q := by
  obtain ⟨a, m, c, hb, hm, hc⟩ := hr
  refine ⟨a, m, c, (Below.heap_setCell W ⟨g, j, none⟩ u R (by show R ≠ g; omega)).trans hb, hm, ?_⟩
  rcases hc with h0 | ⟨b, off, ha, hbR, hc⟩
  · exact .inl h0
  · refine .inr ⟨b, off, ha, hbR, fun i hi => ?_⟩
    obtain ⟨x, x0, x1, hx⟩ := hc i hi
    exact ⟨x, x0, x1, (World.cell?_setCell_other _ _ _ _ (fun e => by cases e; omega)).trans hx⟩

theorem new_block (W : World) (o : Obj) : (W.alloc o).heap[W.heap.size]? = some o := by
  show (W.heap.push _)[W.heap.size]? = _
  simp

theorem eval_tmp {a : Act} {d : Tmp} {v : Value} (h : a.eval (.tmp d) = v) : a.tmps[d]?.getD undef = v := by
  rw [← h]
  simp [Act.eval]

theorem lit_new (W : World) (xs : List Int) {k : Nat} (hk : k < xs.length) : ∃ x : Int, (W.alloc (.cells (xs.map (Value.int .i64)).toArray 3)).cell? ⟨W.heap.size, k, none⟩ = some (.int .i64 x) :=
  ⟨xs.getD k 0, by rw [World.cell?_alloc_new]; simp [hk, List.getD]⟩

/-- The reader behind l20Open. -/
theorem rd_open (w : World) (a : Option Addr) (n m c : Nat) (hs : SBytes w a n) (hm : m ≤ n) (h3 : m ≤ 3000) : Rd (w.alloc (.cells #[.slice a m c, .int .i64 0] 62)) w.heap.size 0 := by
  refine ⟨a, m, c, by show (w.heap.push _)[w.heap.size]? = _; simp, h3, ?_⟩
  rcases hs with h0 | ⟨b, off, ha, hc⟩
  · exact .inl (by omega)
  · by_cases h0 : m = 0
    · exact .inl h0
    · obtain ⟨x, _, _, hx⟩ := hc 0 (by omega)
      have hl := World.block_lt_of_cell? w ⟨b, off + 0, none⟩ hx
      refine .inr ⟨b, off, ha, hl, fun i hi => ?_⟩
      obtain ⟨x, x0, x1, hx⟩ := hc i (by omega)
      exact ⟨x, x0, x1, (World.cell?_alloc_lt w _ ⟨b, off + i, none⟩ hl).trans hx⟩

theorem sbytes_below {w w' : World} {a : Option Addr} {n : Nat} (h : SBytes w a n) (hb : Below w.heap.size w w') : SBytes w' a n := by
  rcases h with h0 | ⟨b, off, ha, hc⟩
  · exact .inl h0
  · refine .inr ⟨b, off, ha, fun i hi => ?_⟩
    obtain ⟨x, x0, x1, hx⟩ := hc i hi
    exact ⟨x, x0, x1, cell_kept hb hx⟩


end Go.Proofs.YtafhlflddndgjaaDoor
