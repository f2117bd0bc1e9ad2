/- What the law over MapOk of drawn entries wants. -/
import Derived.Test.YtkfamlbalgolmaaPDel
namespace Go.Proofs.Ytkfamlbalgolmaa
open Go.ChangeShapes Go.WideShapes Go.ChangeAt Go.RowKit
set_option linter.unusedVariables false

/-- What a draw of entries answers. -/
def DrawnE (w : World) (e : Ending) (w' : World) : Prop :=
  ∃ (L : List Int) (N : Nat) (a : Option Addr) (c : Nat), e = .returned (.agg #[.slice a N c]) ∧ w'.ownsRow w.heap.size 41 2 (.slice a N c) N (L.map (Value.int .i64)) ∧ N ≤ 9 ∧ Below w.heap.size w w'

set_option maxHeartbeats 1000000 in
theorem drawMapOk_any (a : Option Addr) (n cap : Nat) (w : World) (hs : SBytes w a n) (hc : n ≤ cap) (hn : n ≤ 1048576) :
    Calls Try.prog 22 #[.slice a n cap] w (DrawnE w) := by
  have A := al1 w (.cells #[.slice none 0 0] 25)
  have z0 := cell_at w #[.slice none 0 0] 25 0 rfl (v := .slice none 0 0) rfl
  have zf := frozen_at w #[.slice none 0 0] 25 0 rfl
  have hs1 := sbytes_below hs A
  have hwz : w.heap.size < (w.alloc (.cells #[.slice none 0 0] 25)).heap.size := by simp
  go_enter Try.func22, Try.ntmps22
  go_wp2_with fail
  refine (open_any a n cap _ hc hn).mono ?_
  generalize w.alloc (.cells #[.slice none 0 0] 25) = w0 at A z0 zf hs1 hwz ⊢
  rintro e w1 ⟨m, c, ⟨hm, h3⟩, rfl, hw1⟩
  have hrd : Rd w1 w0.heap.size 0 := by rw [hw1]; exact rd_open w0 a n m c hs1 hm h3
  have hb1 : Below w0.heap.size w0 w1 := by rw [hw1]; exact al1 _ _
  have hsz : w0.heap.size < w1.heap.size := by rw [hw1]; simp
  have z1 := cell_kept hb1 z0
  have f1 := (hb1.frozen (p := ⟨w.heap.size, 0, none⟩) hwz).trans zf
  have HB1 : Hid (Below w.heap.size w w1) := below_trans' A hb1
  clear hw1 hb1 A z0 zf hs hs1
  go_wp2_with fail
  refine (map_any w0.heap.size 0 2 w1 hrd hsz (by omega) (by omega) (by omega)).mono ?_
  rintro e w3 ⟨L, N, a2, c2, q2, rfl, ho2, hN, hr2, hq2, k13⟩
  have z3 := k13.cell z1 (by omega)
  have f3 := (k13.frozen (b := w.heap.size) (o := 0) (by omega) (by omega)).trans f1
  have H3 : Hid (w3.ownsRow w1.heap.size 41 2 (.slice a2 N c2) N (L.map (Value.int .i64)) ∧ Below w.heap.size w w3 ∧ w.heap.size < w1.heap.size) :=
    ⟨ho2, HB1.out.trans (k13.bel.mono (by omega)), by omega⟩
  clear k13 hr2 z1 f1 ho2 hrd
  go_wp2
  refine bodyPost_ret (v := .agg #[.slice a2 N c2]) (by simp [results, Try.results22, go_sem, z3]) rfl ⟨L, N, a2, c2, rfl, ?_, hN, H3.out.2.1.setCell (p := ⟨w.heap.size, 0, none⟩) (Nat.le_refl _) _⟩
  exact own_mono (ownsRow_setCell_other H3.out.1 (fun e => by have := (own_typed H3.out.1 e).1; have := H3.out.2.2; dsimp only at *; omega) _) (by have := H3.out.2.2; omega)

/-- Entries of one's own in a variable. -/
structure MX (w : World) (M : Nat) (a : Option Addr) (N c : Nat) (L : List Int) (W : World) : Prop where
  bel : Below w.heap.size w W
  le : w.heap.size ≤ M
  m : W.cell? ⟨M, 0, none⟩ = some (.slice a N c)
  own : W.ownsRow w.heap.size 41 2 (.slice a N c) N (L.map (Value.int .i64))
theorem MX.below {w : World} {M : Nat} {a : Option Addr} {N c : Nat} {L : List Int} {W W' : World} (h : MX w M a N c L W) (hb : Below W.heap.size W W') : MX w M a N c L W' :=
  ⟨below_trans' h.bel hb, h.le, cell_kept hb h.m, ownsRow_below h.own hb⟩
theorem MX.lt {w : World} {M : Nat} {a : Option Addr} {N c : Nat} {L : List Int} {W : World} (h : MX w M a N c L W) : M < W.heap.size := World.block_lt_of_cell? W ⟨M, 0, none⟩ h.m
/-- Behind a store into what is no row of entries. -/
theorem own_store {W : World} {b n : Nat} {v : Value} {xs : List Value} (h : W.ownsRow b 41 2 v n xs) {g : Nat} {ys : Array Value} {t : TypeId} (hh : W.heap[g]? = some (.cells ys t)) (ht : t ≠ 41) (j : Nat) (u : Value) : (W.setCell ⟨g, j, none⟩ u).ownsRow b 41 2 v n xs :=
  ownsRow_setCell_other h (fun e => by
    obtain ⟨_, _, cur, hc⟩ := own_typed h e
    exact ht (cells_type hh hc)) u
theorem cell_store {W : World} {g j b o : Nat} {u v : Value} (h : W.cell? ⟨b, o, none⟩ = some v) (hn : b ≠ g) : (W.setCell ⟨g, j, none⟩ u).cell? ⟨b, o, none⟩ = some v :=
  (World.cell?_of_block (w := W) (a := ⟨b, o, none⟩) (Below.heap_setCell W ⟨g, j, none⟩ u b hn)).trans h
theorem MX.store {w : World} {M : Nat} {a : Option Addr} {N c : Nat} {L : List Int} {W : World} (h : MX w M a N c L W) {g : Nat} {ys : Array Value} {t : TypeId} (hh : W.heap[g]? = some (.cells ys t)) (ht : t ≠ 41) (hg : M < g) (j : Nat) (u : Value) : MX w M a N c L (W.setCell ⟨g, j, none⟩ u) :=
  ⟨h.bel.setCell (p := ⟨g, j, none⟩) (by show w.heap.size ≤ g; have := h.le; omega) u, h.le, cell_store h.m (by omega), own_store h.own hh ht j u⟩
/-- What the reads of the round want. -/
theorem MX.held {w : World} {M b o : Nat} {N c : Nat} {L : List Int} {W : World} {k : Nat} {key : Int} (h : MX w M (some ⟨b, o, none⟩) N c L W) (hk : k < N) (hkey : keyAt L k = key) :
    W.cell? ⟨M, 0, none⟩ = some (.slice (some ⟨b, o, none⟩) N c) ∧ W.cell? ⟨b, o + k * 2, none⟩ = some (.int .i64 key) := by
  refine ⟨h.m, ?_⟩
  obtain ⟨_, h0 | ⟨b', o', e, hc⟩⟩ := own2_sints h.own
  · omega
  · cases e
    rw [← hkey]
    exact hc (k * 2) (by omega)
/-- A block that was there is there. -/
theorem block_kept {W W' : World} {g : Nat} {o : Obj} (hb : Below W.heap.size W W') (h : W.heap[g]? = some o) : W'.heap[g]? = some o :=
  (hb.block g (Array.getElem?_eq_some_iff.1 h).1).trans h
theorem block_store {W : World} {g g' j : Nat} {u : Value} {o : Obj} (h : W.heap[g]? = some o) (hn : g ≠ g') : (W.setCell ⟨g', j, none⟩ u).heap[g]? = some o :=
  (Below.heap_setCell W ⟨g', j, none⟩ u g hn).trans h
/-- The beginning of entries. -/
theorem sints_take {W : World} {a : Option Addr} {n k : Nat} {L : List Int} (h : SInts W a n L) (hk : k ≤ n) : SInts W a k (L.take k) := by
  obtain ⟨h1, h2⟩ := h
  refine ⟨by simp; omega, ?_⟩
  rcases h2 with h0 | ⟨b, o, e, hc⟩
  · exact .inl (by omega)
  · refine .inr ⟨b, o, e, fun i hi => ?_⟩
    rw [hc i (by omega)]
    simp only [List.getD_eq_getElem?_getD]
    rw [List.getElem?_take_of_lt hi]

end Go.Proofs.Ytkfamlbalgolmaa
