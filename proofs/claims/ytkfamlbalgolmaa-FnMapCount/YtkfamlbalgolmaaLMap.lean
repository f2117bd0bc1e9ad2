/- l20Map: the draw of entries. -/
import Derived.Test.YtkfamlbalgolmaaPutC
import Derived.Test.YtkfamlbalgolmaaDraw
import Derived.Test.YtkfamlbalgolmaaRegInv
import Derived.Lib.SmallJoins
namespace Go.Proofs.Ytkfamlbalgolmaa
open Go.RowKit
set_option linter.unusedVariables false
set_option linter.unusedSimpArgs false

theorem al1 (W : World) (o : Obj) : Below W.heap.size W (W.alloc o) := (Below.refl _ _).alloc (Nat.le_refl _) o

theorem picked_size' {R q : Nat} {w w' : World} (h : Picked R q w w') : w'.heap.size = w.heap.size := by
  rw [h.1]
  simp

/-- All as it was but for the reader. -/
structure KB (R : Nat) (w w' : World) : Prop where
  bel : Below R w w'
  size : w.heap.size ≤ w'.heap.size
  block : ∀ c, c < w.heap.size → c ≠ R → w'.heap[c]? = w.heap[c]?
theorem KB.refl (R : Nat) (w : World) : KB R w w := ⟨Below.refl _ _, Nat.le_refl _, fun _ _ _ => rfl⟩
theorem KB.trans {R : Nat} {w w1 w2 : World} (h : KB R w w1) (k : KB R w1 w2) : KB R w w2 :=
  ⟨h.bel.trans k.bel, Nat.le_trans h.size k.size, fun c hc hn => (k.block c (Nat.lt_of_lt_of_le hc h.size) hn).trans (h.block c hc hn)⟩
theorem KB.of_below {R : Nat} {w w' : World} (h : Below w.heap.size w w') (hR : R ≤ w.heap.size) : KB R w w' := ⟨h.mono hR, h.size, fun c hc _ => h.block c hc⟩
theorem KB.of_picked {R q : Nat} {w w' : World} (h : Picked R q w w') : KB R w w' := ⟨h.2, by rw [picked_size' h]; exact Nat.le_refl _, fun c _ hn => heap_picked h hn⟩
theorem KB.drew {R : Nat} {w w' : World} (h : KB R w w') : KB R w w'.drew := ⟨h.bel.drew, h.size, h.block⟩
theorem KB.cell {R : Nat} {w w' : World} (h : KB R w w') {b o : Nat} {v : Value} (hc : w.cell? ⟨b, o, none⟩ = some v) (hn : b ≠ R) : w'.cell? ⟨b, o, none⟩ = some v :=
  (World.cell?_of_block (w := w) (a := ⟨b, o, none⟩) (h.block b (World.block_lt_of_cell? w ⟨b, o, none⟩ hc) hn)).trans hc
theorem KB.frozen {R : Nat} {w w' : World} (h : KB R w w') {b o : Nat} (hb : b < w.heap.size) (hn : b ≠ R) : w'.frozen? ⟨b, o, none⟩ = w.frozen? ⟨b, o, none⟩ :=
  World.frozen?_of_block (w := w) (a := ⟨b, o, none⟩) (h.block b hb hn)
theorem KB.rd {R q : Nat} {w w' : World} (hr : Rd w R q) (h : KB R w w') (hR : w'.heap[R]? = w.heap[R]?) : Rd w' R q := by
  obtain ⟨a, m, c, hb, hm, hc⟩ := hr
  refine ⟨a, m, c, hR.trans hb, hm, ?_⟩
  rcases hc with h0 | ⟨b, off, ha, hbR, hc⟩
  · exact .inl h0
  · refine .inr ⟨b, off, ha, hbR, fun i hi => ?_⟩
    obtain ⟨x, x0, x1, hx⟩ := hc i hi
    exact ⟨x, x0, x1, h.cell hx (by omega)⟩
theorem rd_below {R q : Nat} {w w' : World} (hr : Rd w R q) (hb : Below w.heap.size w w') : Rd w' R q := by
  obtain ⟨a, m, c, h0, _⟩ := id hr
  have hR : R < w.heap.size := (Array.getElem?_eq_some_iff.1 h0).1
  exact KB.rd hr (KB.of_below hb (by omega)) (hb.block R hR)

/-- A row stays where its block does. -/
theorem own_block {W W' : World} {b n : Nat} {e : TypeId} {sz : Nat} {v : Value} {xs : List Value} (h : W.ownsRow b e sz v n xs) (hb : ∀ g, v.ownBlock = some g → W'.heap[g]? = W.heap[g]?) : W'.ownsRow b e sz v n xs := by
  refine ⟨h.1, ?_⟩
  rcases h.2 with h2 | ⟨g, cap, cur, hv, hg, hh, r⟩
  · exact .inl h2
  · exact .inr ⟨g, cap, cur, hv, hg, (hb g (by subst hv; rfl)).trans hh, r⟩

/-- Entries in blocks from B on. -/
def OwnR (B N : Nat) (W : World) (a : Option Addr) (n c : Nat) (L : List Int) : Prop := W.ownsRow B 41 2 (.slice a n c) n (L.map (Value.int .i64)) ∧ n ≤ N + 1
def GoodM (B N : Nat) (W : World) (g : Nat) : Prop := ∃ a n c L, W.heap[g]? = some (.cells #[.slice a n c] 25) ∧ OwnR B N W a n c L
def ResB (W : World) (g : Nat) : Prop := ∃ C D : Int, W.heap[g]? = some (.cells #[.int .i64 C, .int .i64 D] 29)
def Lit (B : Nat) (W : World) (g n : Nat) : Prop := B ≤ g ∧ ∃ xs : List Int, xs.length = n ∧ W.heap[g]? = some (.cells (xs.map (Value.int .i64)).toArray 3)

/-- What one operation of the region may turn: the reader; what it has made itself, as it should be. -/
structure TT (R B N : Nat) (W W' : World) : Prop where
  size : W.heap.size ≤ W'.heap.size
  block : ∀ c, c < W.heap.size → c ≠ R → W'.heap[c]? = W.heap[c]? ∨ ((∃ x, W.heap[c]? = some (.cells #[x] 25)) ∧ GoodM B N W' c) ∨ (ResB W c ∧ ResB W' c)

theorem TT.of_kb {R B N : Nat} {W W' : World} (h : KB R W W') : TT R B N W W' := ⟨h.size, fun c hc hn => .inl (h.block c hc hn)⟩

theorem own_typed {W : World} {b n : Nat} {e : TypeId} {sz : Nat} {v : Value} {xs : List Value} (h : W.ownsRow b e sz v n xs) {g : Nat} (hg : v.ownBlock = some g) : b ≤ g ∧ g < W.heap.size ∧ ∃ cur, W.heap[g]? = some (.cells cur e) := by
  have hl := h.lt g hg
  rcases h.2 with ⟨rfl, _⟩ | ⟨g', cap, cur, rfl, _, hh, _⟩
  · cases hg
  · obtain rfl : g' = g := Option.some.inj hg
    exact ⟨hl.1, hl.2, cur, hh⟩

theorem cells_type {a b : Array Value} {s t : TypeId} {o : Option Obj} (h1 : o = some (.cells a s)) (h2 : o = some (.cells b t)) : s = t := by
  rw [h1] at h2
  injection h2 with h
  injection h

theorem OwnR.keep {R B N : Nat} {W W' : World} {a : Option Addr} {n c : Nat} {L : List Int} (h : OwnR B N W a n c L) (hR : R < B) (t : TT R B N W W') : OwnR B N W' a n c L := by
  refine ⟨own_block h.1 (fun g hg => ?_), h.2⟩
  obtain ⟨hb, hl, cur, hh⟩ := own_typed h.1 hg
  rcases t.block g hl (by omega) with e | ⟨⟨x, e⟩, _⟩ | ⟨⟨C, D, e⟩, _⟩
  · exact e
  · exact absurd (cells_type hh e) (by decide)
  · exact absurd (cells_type hh e) (by decide)
theorem GoodM.keep {R B N : Nat} {W W' : World} {g : Nat} (h : GoodM B N W g) (hR : R < B) (hg : B ≤ g) (t : TT R B N W W') : GoodM B N W' g := by
  obtain ⟨a, n, c, L, hh, ho⟩ := h
  have hl : g < W.heap.size := (Array.getElem?_eq_some_iff.1 hh).1
  rcases t.block g hl (by omega) with e | ⟨_, e⟩ | ⟨⟨C, D, e⟩, _⟩
  · exact ⟨a, n, c, L, e.trans hh, ho.keep hR t⟩
  · exact e
  · exact absurd (cells_type hh e) (by decide)
theorem ResB.keep {R B N : Nat} {W W' : World} {g : Nat} (h : ResB W g) (hR : R < B) (hg : B ≤ g) (t : TT R B N W W') : ResB W' g := by
  obtain ⟨C, D, hh⟩ := h
  have hl : g < W.heap.size := (Array.getElem?_eq_some_iff.1 hh).1
  rcases t.block g hl (by omega) with e | ⟨⟨x, e⟩, _⟩ | ⟨_, e⟩
  · exact ⟨C, D, e.trans hh⟩
  · exact absurd (cells_type hh e) (by decide)
  · exact e
theorem Lit.keep {R B N : Nat} {W W' : World} {g n : Nat} (h : Lit B W g n) (hR : R < B) (t : TT R B N W W') : Lit B W' g n := by
  obtain ⟨hb, xs, hx, hh⟩ := h
  have hl : g < W.heap.size := (Array.getElem?_eq_some_iff.1 hh).1
  rcases t.block g hl (by omega) with e | ⟨⟨x, e⟩, _⟩ | ⟨⟨C, D, e⟩, _⟩
  · exact ⟨hb, xs, hx, e.trans hh⟩
  · exact absurd (cells_type hh e) (by decide)
  · exact absurd (cells_type hh e) (by decide)
theorem Lit.cell {B : Nat} {W : World} {g n : Nat} (h : Lit B W g n) {k : Nat} (hk : k < n) : ∃ x : Int, W.cell? ⟨g, k, none⟩ = some (.int .i64 x) := by
  obtain ⟨hb, xs, hx, hh⟩ := h
  refine ⟨xs.getD k 0, ?_⟩
  have : k < xs.length := by omega
  simp [World.cell?, hh, List.getD, this]

/-- What each operation leaves. -/
def VM (R B N : Nat) (am : Option Addr) (cm : Nat) : Nat → Value → World → Prop
  | 0, v, _ => v = .agg #[.slice am N cm]
  | 1, v, _ => v = .pointer (some ⟨R, 0, none⟩)
  | 3, v, _ => v = .pointer (some ⟨R, 0, none⟩)
  | 6, v, _ => v = .pointer (some ⟨R, 0, none⟩)
  | 10, v, _ => v = .pointer (some ⟨R, 0, none⟩)
  | 13, v, _ => v = .pointer (some ⟨R, 0, none⟩)
  | 2, v, _ => ∃ k : Int, v = .int .i64 k ∧ 0 ≤ k ∧ k < 10
  | 4, v, _ => ∃ k : Int, v = .int .i64 k ∧ 0 ≤ k ∧ k < 100
  | 7, v, _ => ∃ k : Int, v = .int .i64 k ∧ 0 ≤ k ∧ k < 4
  | 11, v, _ => ∃ k : Int, v = .int .i64 k ∧ 0 ≤ k ∧ k < 10
  | 14, v, _ => ∃ k : Int, v = .int .i64 k ∧ 0 ≤ k ∧ k < 3
  | 5, v, W => ∃ g, v = .slice (some ⟨g, 0, none⟩) 4 4 ∧ Lit B W g 4
  | 12, v, W => ∃ g, v = .slice (some ⟨g, 0, none⟩) 3 3 ∧ Lit B W g 3
  | 8, v, W => ∃ g k n, v = .pointer (some ⟨g, k, none⟩) ∧ k < n ∧ Lit B W g n
  | 15, v, W => ∃ g k n, v = .pointer (some ⟨g, k, none⟩) ∧ k < n ∧ Lit B W g n
  | 9, v, _ => ∃ x : Int, v = .int .i64 x
  | 16, v, _ => ∃ x : Int, v = .int .i64 x
  | 17, v, W => ∃ a n c L, ∃ C D : Int, v = .tuple #[.agg #[.slice a n c], .agg #[.int .i64 C, .int .i64 D]] ∧ OwnR B N W a n c L
  | 18, v, W => ∃ a n c L, ∃ C D : Int, v = .tuple #[.agg #[.slice a n c], .agg #[.int .i64 C, .int .i64 D]] ∧ OwnR B N W a n c L
  | 19, v, W => ∃ a n c L, v = .agg #[.slice a n c] ∧ OwnR B N W a n c L
  | 20, v, _ => ∃ C D : Int, v = .agg #[.int .i64 C, .int .i64 D]
  | 21, v, W => ∃ g, v = .pointer (some ⟨g, 0, none⟩) ∧ B ≤ g ∧ GoodM B N W g
  | 22, v, W => ∃ g, v = .pointer (some ⟨g, 0, none⟩) ∧ B ≤ g ∧ ResB W g
  | _, _, _ => True

theorem vm_keep {R B N : Nat} {am : Option Addr} {cm : Nat} (hR : R < B) : ∀ i v W W', VM R B N am cm i v W → TT R B N W W' → VM R B N am cm i v W' := by
  intro i v W W' h t
  unfold VM at h ⊢
  split at h <;> first
    | exact h
    | exact (let ⟨g, e, l⟩ := h; ⟨g, e, l.keep hR t⟩)
    | exact (let ⟨g, k, n, e, hk, l⟩ := h; ⟨g, k, n, e, hk, l.keep hR t⟩)
    | exact (let ⟨a, n, c, L, C, D, e, o⟩ := h; ⟨a, n, c, L, C, D, e, o.keep hR t⟩)
    | exact (let ⟨a, n, c, L, e, o⟩ := h; ⟨a, n, c, L, e, o.keep hR t⟩)
    | exact (let ⟨g, e, hb, l⟩ := h; ⟨g, e, hb, l.keep hR hb t⟩)

theorem dst_none {ops : List Oper} {d : Tmp} (h : ops.all (fun o => o.dst != some d) = true) : ∀ o ∈ ops, o.dst ≠ some d := fun o ho e => by
  have := List.all_eq_true.1 h o ho
  simp [e] at this
theorem lt25 {i : Nat} (h : i < 25) : i = 0 ∨ i = 1 ∨ i = 2 ∨ i = 3 ∨ i = 4 ∨ i = 5 ∨ i = 6 ∨ i = 7 ∨ i = 8 ∨ i = 9 ∨ i = 10 ∨ i = 11 ∨ i = 12 ∨ i = 13 ∨ i = 14 ∨ i = 15 ∨ i = 16 ∨ i = 17 ∨ i = 18 ∨ i = 19 ∨ i = 20 ∨ i = 21 ∨ i = 22 ∨ i = 23 ∨ i = 24 := by omega
theorem cell_block0 {W : World} {g : Nat} {x : Value} {xs : List Value} {t : TypeId} (h : W.heap[g]? = some (.cells ⟨x :: xs⟩ t)) : W.cell? ⟨g, 0, none⟩ = some x := by simp [World.cell?, h]
theorem cell_block1 {W : World} {g : Nat} {x y : Value} {xs : List Value} {t : TypeId} (h : W.heap[g]? = some (.cells ⟨x :: y :: xs⟩ t)) : W.cell? ⟨g, 1, none⟩ = some y := by simp [World.cell?, h]
theorem frozen_block {W : World} {g : Nat} {xs : Array Value} {t : TypeId} (h : W.heap[g]? = some (.cells xs t)) (j : Nat) : W.frozen? ⟨g, j, none⟩ = false := by simp [World.frozen?, h]

/-- A store into what the region has made itself. -/
theorem kb_setCell {R B : Nat} {w W : World} (h : KB R w W) (hB : w.heap.size ≤ B) {g j : Nat} (hg : B ≤ g) (hR : R < B) (u : Value) : KB R w (W.setCell ⟨g, j, none⟩ u) :=
  ⟨h.bel.setCell (p := ⟨g, j, none⟩) (by show R ≤ g; omega) u, by simpa using h.size, fun c hc hn => (Below.heap_setCell W ⟨g, j, none⟩ u c (by show c ≠ g; omega)).trans (h.block c hc hn)⟩
theorem rd_setCell {R q : Nat} {W : World} (hr : Rd W R q) {g j : Nat} (hg : R < g) (u : Value) : Rd (W.setCell ⟨g, j, none⟩ u) R q := by
  obtain ⟨a, m, c, hb, hm, hc⟩ := hr
  refine ⟨a, m, c, (Below.heap_setCell W ⟨g, j, none⟩ u R (by show R ≠ g; omega)).trans hb, hm, ?_⟩
  rcases hc with h0 | ⟨b, off, ha, hbR, hc⟩
  · exact .inl h0
  · refine .inr ⟨b, off, ha, hbR, fun i hi => ?_⟩
    obtain ⟨x, x0, x1, hx⟩ := hc i hi
    exact ⟨x, x0, x1, (World.cell?_setCell_other _ _ _ _ (fun e => by cases e; omega)).trans hx⟩

theorem storeM_tt {R B N : Nat} {W : World} {g : Nat} {x : Value} (hh : W.heap[g]? = some (.cells #[x] 25)) {a : Option Addr} {n c : Nat} {L : List Int} (ho : OwnR B N W a n c L) : TT R B N W (W.setCell ⟨g, 0, none⟩ (.slice a n c)) := by
  refine ⟨by simp, fun b hb hn => ?_⟩
  by_cases e : b = g
  · subst e
    refine .inr (.inl ⟨⟨x, hh⟩, a, n, c, L, ?_, own_block ho.1 (fun k hk => ?_), ho.2⟩)
    · rw [Go.Joins.block_setCell hh]
      rfl
    · obtain ⟨_, _, cur, hc⟩ := own_typed ho.1 hk
      exact Below.heap_setCell W ⟨b, 0, none⟩ _ k (fun e2 => by
        have e3 : k = b := e2
        subst e3
        exact absurd (cells_type hc hh) (by decide))
  · exact .inl (Below.heap_setCell W ⟨g, 0, none⟩ _ b e)
theorem storeR_tt {R B N : Nat} {W : World} {g : Nat} {C D : Int} (hh : W.heap[g]? = some (.cells #[.int .i64 C, .int .i64 D] 29)) (C' D' : Int) : TT R B N W ((W.setCell ⟨g, 0, none⟩ (.int .i64 C')).setCell ⟨g, 1, none⟩ (.int .i64 D')) := by
  refine ⟨by simp, fun b hb hn => ?_⟩
  by_cases e : b = g
  · subst e
    refine .inr (.inr ⟨⟨C, D, hh⟩, C', D', ?_⟩)
    rw [Go.Joins.block_setCell (Go.Joins.block_setCell hh _)]
    rfl
  · exact .inl ((Below.heap_setCell _ ⟨g, 1, none⟩ _ b e).trans (Below.heap_setCell W ⟨g, 0, none⟩ _ b e))

end Go.Proofs.Ytkfamlbalgolmaa
