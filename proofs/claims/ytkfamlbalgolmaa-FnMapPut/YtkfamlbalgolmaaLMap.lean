/- l20Map: the draw of entries. -/
import Derived.Test.YtkfamlbalgolmaaPutC
import Derived.Test.YtkfamlbalgolmaaKB
namespace Go.Proofs.Ytkfamlbalgolmaa
open Go.RowKit
set_option linter.unusedVariables false
set_option linter.unusedSimpArgs false

/-- Entries in blocks from B on. -/
def OwnR (B N : Nat) (W : World) (a : Option Addr) (n c : Nat) (L : List Int) : Prop := W.ownsRow B 41 2 (.slice a n c) n (L.map (Value.int .i64)) ∧ n ≤ N + 1
def GoodM (B N : Nat) (W : World) (g : Nat) : Prop := ∃ a n c L, W.heap[g]? = some (.cells #[.slice a n c] 25) ∧ OwnR B N W a n c L
def ResB (W : World) (g : Nat) : Prop := ∃ C D : Int, W.heap[g]? = some (.cells #[.int .i64 C, .int .i64 D] 29)
/-- What one operation of the region may turn: the reader; what it has made itself, as it should be. -/
structure TT (R B N : Nat) (W W' : World) : Prop where
  size : W.heap.size ≤ W'.heap.size
  block : ∀ c, c < W.heap.size → c ≠ R → W'.heap[c]? = W.heap[c]? ∨ ((∃ x, W.heap[c]? = some (.cells #[x] 25)) ∧ GoodM B N W' c) ∨ (ResB W c ∧ ResB W' c)

theorem TT.of_kb {R B N : Nat} {W W' : World} (h : KB R W W') : TT R B N W W' := ⟨h.size, fun c hc hn => .inl (h.block c hc hn)⟩

theorem OwnR.keep {R B N : Nat} {W W' : World} {a : Option Addr} {n c : Nat} {L : List Int} (h : OwnR B N W a n c L) (hR : R < B) (t : TT R B N W W') : OwnR B N W' a n c L := by
  refine ⟨own_block h.1 (fun g hg => ?_), h.2⟩
  obtain ⟨hb, hl, cur, hh⟩ := own_typed h.1 hg
  rcases t.block g hl (by omega) with e | ⟨⟨x, e⟩, _⟩ | ⟨⟨C, D, e⟩, _⟩
  · exact e
  · exact absurd (cells_type hh e) (by decide)
  · exact absurd (cells_type hh e) (by decide)
theorem GoodM.keep {R B N : Nat} {W W' : World} {g : Nat} (h : GoodM B N W g) (hR : R < B) (hg : B ≤ g) (t : TT R B N W W') : GoodM B N W' g := by
  obtain ⟨a, n, c, L, hh, ho⟩ := h
  have hl : g < W.heap.size := (Array.getElem?_eq_some_iff.1 hh).1
  rcases t.block g hl (by omega) with e | ⟨_, e⟩ | ⟨⟨C, D, e⟩, _⟩
  · exact ⟨a, n, c, L, e.trans hh, ho.keep hR t⟩
  · exact e
  · exact absurd (cells_type hh e) (by decide)
theorem ResB.keep {R B N : Nat} {W W' : World} {g : Nat} (h : ResB W g) (hR : R < B) (hg : B ≤ g) (t : TT R B N W W') : ResB W' g := by
  obtain ⟨C, D, hh⟩ := h
  have hl : g < W.heap.size := (Array.getElem?_eq_some_iff.1 hh).1
  rcases t.block g hl (by omega) with e | ⟨⟨x, e⟩, _⟩ | ⟨_, e⟩
  · exact ⟨C, D, e.trans hh⟩
  · exact absurd (cells_type hh e) (by decide)
  · exact e
theorem Lit.keep {R B N : Nat} {W W' : World} {g n : Nat} (h : Lit B W g n) (hR : R < B) (t : TT R B N W W') : Lit B W' g n := by
  obtain ⟨hb, xs, hx, hh⟩ := h
  have hl : g < W.heap.size := (Array.getElem?_eq_some_iff.1 hh).1
  rcases t.block g hl (by omega) with e | ⟨⟨x, e⟩, _⟩ | ⟨⟨C, D, e⟩, _⟩
  · exact ⟨hb, xs, hx, e.trans hh⟩
  · exact absurd (cells_type hh e) (by decide)
  · exact absurd (cells_type hh e) (by decide)
/-- What each operation leaves. -/
def VM (R B N : Nat) (am : Option Addr) (cm : Nat) : Nat → Value → World → Prop
  | 0, v, _ => v = .agg #[.slice am N cm]
  | 1, v, _ => v = .pointer (some ⟨R, 0, none⟩)
  | 3, v, _ => v = .pointer (some ⟨R, 0, none⟩)
  | 6, v, _ => v = .pointer (some ⟨R, 0, none⟩)
  | 10, v, _ => v = .pointer (some ⟨R, 0, none⟩)
  | 13, v, _ => v = .pointer (some ⟨R, 0, none⟩)
  | 2, v, _ => ∃ k : Int, v = .int .i64 k ∧ 0 ≤ k ∧ k < 10
  | 4, v, _ => ∃ k : Int, v = .int .i64 k ∧ 0 ≤ k ∧ k < 100
  | 7, v, _ => ∃ k : Int, v = .int .i64 k ∧ 0 ≤ k ∧ k < 4
  | 11, v, _ => ∃ k : Int, v = .int .i64 k ∧ 0 ≤ k ∧ k < 10
  | 14, v, _ => ∃ k : Int, v = .int .i64 k ∧ 0 ≤ k ∧ k < 3
  | 5, v, W => ∃ g, v = .slice (some ⟨g, 0, none⟩) 4 4 ∧ Lit B W g 4
  | 12, v, W => ∃ g, v = .slice (some ⟨g, 0, none⟩) 3 3 ∧ Lit B W g 3
  | 8, v, W => ∃ g k n, v = .pointer (some ⟨g, k, none⟩) ∧ k < n ∧ Lit B W g n
  | 15, v, W => ∃ g k n, v = .pointer (some ⟨g, k, none⟩) ∧ k < n ∧ Lit B W g n
  | 9, v, _ => ∃ x : Int, v = .int .i64 x
  | 16, v, _ => ∃ x : Int, v = .int .i64 x
  | 17, v, W => ∃ a n c L, ∃ C D : Int, v = .tuple #[.agg #[.slice a n c], .agg #[.int .i64 C, .int .i64 D]] ∧ OwnR B N W a n c L
  | 18, v, W => ∃ a n c L, ∃ C D : Int, v = .tuple #[.agg #[.slice a n c], .agg #[.int .i64 C, .int .i64 D]] ∧ OwnR B N W a n c L
  | 19, v, W => ∃ a n c L, v = .agg #[.slice a n c] ∧ OwnR B N W a n c L
  | 20, v, _ => ∃ C D : Int, v = .agg #[.int .i64 C, .int .i64 D]
  | 21, v, W => ∃ g, v = .pointer (some ⟨g, 0, none⟩) ∧ B ≤ g ∧ GoodM B N W g
  | 22, v, W => ∃ g, v = .pointer (some ⟨g, 0, none⟩) ∧ B ≤ g ∧ ResB W g
  | _, _, _ => True

theorem vm_keep {R B N : Nat} {am : Option Addr} {cm : Nat} (hR : R < B) : ∀ i v W W', VM R B N am cm i v W → TT R B N W W' → VM R B N am cm i v W' := by
  intro i v W W' h t
  unfold VM at h ⊢
  split at h <;> first
    | exact h
    | exact (let ⟨g, e, l⟩ := h; ⟨g, e, l.keep hR t⟩)
    | exact (let ⟨g, k, n, e, hk, l⟩ := h; ⟨g, k, n, e, hk, l.keep hR t⟩)
    | exact (let ⟨a, n, c, L, C, D, e, o⟩ := h; ⟨a, n, c, L, C, D, e, o.keep hR t⟩)
    | exact (let ⟨a, n, c, L, e, o⟩ := h; ⟨a, n, c, L, e, o.keep hR t⟩)
    | exact (let ⟨g, e, hb, l⟩ := h; ⟨g, e, hb, l.keep hR hb t⟩)

theorem storeM_tt {R B N : Nat} {W : World} {g : Nat} {x : Value} (hh : W.heap[g]? = some (.cells #[x] 25)) {a : Option Addr} {n c : Nat} {L : List Int} (ho : OwnR B N W a n c L) : TT R B N W (W.setCell ⟨g, 0, none⟩ (.slice a n c)) := by
  refine ⟨by simp, fun b hb hn => ?_⟩
  by_cases e : b = g
  · subst e
    refine .inr (.inl ⟨⟨x, hh⟩, a, n, c, L, ?_, own_block ho.1 (fun k hk => ?_), ho.2⟩)
    · rw [Go.Joins.block_setCell hh]
      rfl
    · obtain ⟨_, _, cur, hc⟩ := own_typed ho.1 hk
      exact Below.heap_setCell W ⟨b, 0, none⟩ _ k (fun e2 => by
        have e3 : k = b := e2
        subst e3
        exact absurd (cells_type hc hh) (by decide))
  · exact .inl (Below.heap_setCell W ⟨g, 0, none⟩ _ b e)
theorem storeR_tt {R B N : Nat} {W : World} {g : Nat} {C D : Int} (hh : W.heap[g]? = some (.cells #[.int .i64 C, .int .i64 D] 29)) (C' D' : Int) : TT R B N W ((W.setCell ⟨g, 0, none⟩ (.int .i64 C')).setCell ⟨g, 1, none⟩ (.int .i64 D')) := by
  refine ⟨by simp, fun b hb hn => ?_⟩
  by_cases e : b = g
  · subst e
    refine .inr (.inr ⟨⟨C, D, hh⟩, C', D', ?_⟩)
    rw [Go.Joins.block_setCell (Go.Joins.block_setCell hh _)]
    rfl
  · exact .inl ((Below.heap_setCell _ ⟨g, 1, none⟩ _ b e).trans (Below.heap_setCell W ⟨g, 0, none⟩ _ b e))

end Go.Proofs.Ytkfamlbalgolmaa
