/- Several texts in one: Vals, LKey, PMap, LinP, LinQ, LinZ2. -/
import Derived.Test.YtklpdpdjblakgaaDoorGr3
import Derived.Test.YtklpdpdjblakgaaDoorGr8
import Derived.Test.YtklpdpdjblakgaaDoorGr1
import Derived.Test.YtklpdpdjblakgaaDoorGr2
import Derived.Deep.RegionHeldLaw
import Derived.Test.YtklpdpdjblakgaaDoorGr7
/- Vals -/
namespace Go.Proofs.YtklpdpdjblakgaaDoor
open Go.RowKit
set_option linter.unusedVariables false

/-- The reader, and the values that were drawn, in a world W. -/
structure VInv (w : World) (R B q : Nat) (L : List Int) (N : Nat) (a : Option Addr) (c : Nat) (W : World) : Prop where
  rd : Rd W R q
  len : L.length = N
  own : W.ownsRow B 3 1 (.slice a N c) N (L.map (Value.int .i64))
  bel : Below R w W
  lt : R < B
  sz : B ≤ W.heap.size
  rng : ∀ x ∈ L, -1 ≤ x ∧ x ≤ 1000
  shape : ∃ g, a = some ⟨g, 0, none⟩
  kb : ∀ k, k < B → k ≠ R → W.heap[k]? = w.heap[k]?

section
variable {w : World} {R B q : Nat} {L : List Int} {N : Nat} {a : Option Addr} {c : Nat} {W : World}

theorem rd_keep {W' : World} (hr : Rd W R q) (h : ∀ k, k ≤ R → W'.heap[k]? = W.heap[k]?) : Rd W' R q := by
  obtain ⟨a, m, c, hb, hm, hc⟩ := hr
  refine ⟨a, m, c, (h R (Nat.le_refl _)).trans hb, hm, ?_⟩
  rcases hc with h0 | ⟨b, off, ha, hbR, hc⟩
  · exact .inl h0
  · refine .inr ⟨b, off, ha, hbR, fun i hi => ?_⟩
    obtain ⟨x, x0, x1, hx⟩ := hc i hi
    exact ⟨x, x0, x1, (World.cell?_of_block (w := W) (a := ⟨b, off + i, none⟩) (h b (by omega))).trans hx⟩

theorem VInv.alloc (h : VInv w R B q L N a c W) (cs : Array Value) (t : TypeId) : VInv w R B q L N a c (W.alloc (.cells cs t)) := by
  have hs := h.sz
  have hl := h.lt
  exact { rd := rd_keep h.rd (fun k hk => Below.heap_alloc _ _ _ (by omega)), len := h.len, own := h.own.alloc _, bel := h.bel.alloc (by omega) _, lt := h.lt, sz := by simp; omega, rng := h.rng, shape := h.shape, kb := fun k hk hn => (Below.heap_alloc _ _ _ (by omega)).trans (h.kb k hk hn) }

theorem own_heap {w w' : World} {base n : Nat} {v : Value} {xs : List Value} (h : w.ownsRow base 3 1 v n xs) (hb : ∀ g, base ≤ g → w'.heap[g]? = w.heap[g]?) : w'.ownsRow base 3 1 v n xs := by
  obtain ⟨h1, h2⟩ := h
  refine ⟨h1, ?_⟩
  rcases h2 with h2 | ⟨g, cap, cur, hv, hg, hh, r⟩
  · exact .inl h2
  · exact .inr ⟨g, cap, cur, hv, hg, (hb g hg).trans hh, r⟩

theorem picked_size {w w' : World} (h : Picked R q w w') : w'.heap.size = w.heap.size := by
  rw [h.1]; simp [World.setCell]

theorem VInv.picked (h : VInv w R B q L N a c W) {W' : World} {q' : Nat} (hp : Picked R q' W W') : VInv w R B q' L N a c W' := by
  have hs := h.sz
  have hl := h.lt
  exact { rd := rd_picked h.rd hp, len := h.len, own := own_heap h.own (fun g hg => heap_picked hp (by omega)), bel := h.bel.trans hp.2, lt := h.lt, sz := by rw [picked_size hp]; exact hs, rng := h.rng, shape := h.shape, kb := fun k hk hn => (heap_picked hp hn).trans (h.kb k hk hn) }

theorem VInv.grow (h : VInv w R B q L N a c W) {W' : World} {x : Int} {a' : Option Addr} {c' : Nat} (hg : W.grownBy W' (Value.ownBlock (.slice a N c))) (hx : -1 ≤ x ∧ x ≤ 1000) (ho : W'.ownsRow B 3 1 (.slice a' (N + 1) c') (N + 1) ((L ++ [x]).map (Value.int .i64))) :
    VInv w R B q (L ++ [x]) (N + 1) a' c' W' := by
  have hs := h.sz
  have hl := h.lt
  have hgs := hg.size
  exact { rd := rd_keep h.rd (fun k hk => hg.block k (by omega) (fun e => by have := (h.own.lt _ e.symm).1; omega)), len := by simp [h.len], own := ho,
          bel := h.bel.grown hg (by omega) (fun k e => by have := (h.own.lt _ e).1; omega), lt := hl, sz := by omega,
          rng := by
            intro y hy
            rcases List.mem_append.1 hy with h1 | h1
            · exact h.rng y h1
            · simp at h1; subst h1; exact hx
          shape := by
            rcases ho.2 with ⟨_, h0⟩ | ⟨g, cap, cur, e, _⟩
            · omega
            · cases e; exact ⟨g, rfl⟩
          kb := fun k hk hn => (hg.block k (by omega) (fun e => by have := (h.own.lt _ e.symm).1; omega)).trans (h.kb k hk hn) }

/-- A cell of a literal behind a pick. -/
theorem cell_lit_picked {W' : World} {cs : List Int} (hp : Picked R q (W.alloc (.cells (cs.map (Value.int .i64)).toArray 3)) W') (hR : R < W.heap.size) (k : Nat) (hk : k < cs.length) :
    W'.cell? ⟨W.heap.size, k, none⟩ = some (.int .i64 (cs.getD k 0)) := by
  have h := heap_picked hp (g := W.heap.size) (by omega)
  rw [World.cell?_of_block (a := ⟨W.heap.size, k, none⟩) h]
  rw [World.cell?_alloc_new]
  simp [hk, List.getD]
end

/-- What l20Vals answers. -/
def Drawn (R p : Nat) (w : World) (e : Ending) (w' : World) : Prop :=
  ∃ L N a c q, e = .returned (.slice a N c) ∧ VInv w R w.heap.size q L N a c w' ∧ N ≤ 9 ∧ q ≤ p + 20

theorem lit5 (k : Nat) (hk : k < 5) : 0 ≤ [(0 : Int), 1, 3, 8, 2].getD k 0 ∧ [(0 : Int), 1, 3, 8, 2].getD k 0 ≤ 8 := by
  match k, hk with
  | 0, _ => decide
  | 1, _ => decide
  | 2, _ => decide
  | 3, _ => decide
  | 4, _ => decide

theorem lit3 (k : Nat) (hk : k < 3) (x : Int) (h0 : 0 ≤ x) (h1 : x < 100) : -1 ≤ [(0 : Int), 999, x].getD k 0 ∧ [(0 : Int), 999, x].getD k 0 ≤ 1000 := by
  match k, hk with
  | 0, _ => exact ⟨by show (-1 : Int) ≤ 0; omega, by show (0 : Int) ≤ 1000; omega⟩
  | 1, _ => exact ⟨by show (-1 : Int) ≤ 999; omega, by show (999 : Int) ≤ 1000; omega⟩
  | 2, _ => exact ⟨by show -1 ≤ x; omega, by show x ≤ 1000; omega⟩

theorem lit6 (k : Nat) (hk : k < 6) : -1 ≤ [(-1 : Int), 1000, 0, 0, 0, 0].getD k 0 ∧ [(-1 : Int), 1000, 0, 0, 0, 0].getD k 0 ≤ 1000 := by
  match k, hk with
  | 0, _ => decide
  | 1, _ => decide
  | 2, _ => decide
  | 3, _ => decide
  | 4, _ => decide
  | 5, _ => decide

theorem cell_one_new' (w : World) (x : Int) : ∀ j u, [Value.int .i64 x][j]? = some u → (w.alloc (.cells #[.int .i64 x] 3)).cell? ((⟨w.heap.size, 0, none⟩ : Addr).add j) = some u := by
  intro j u hj
  cases j with
  | zero => simp at hj; subst hj; simp [Addr.add]
  | succ j => simp at hj

set_option maxRecDepth 20000 in
set_option maxHeartbeats 1000000 in
theorem vals_any (R p : Nat) (n : Int) (w : World) (hr : Rd w R p) (hRw : R < w.heap.size) (hp : p ≤ 900000) (hn : 1 ≤ n) (hn2 : n ≤ 1000) :
    Calls Tryd.prog 59 #[.pointer (some ⟨R, 0, none⟩), .int .i64 n] w (Drawn R p w) := by
  obtain ⟨i0, hi, hz0, hz1, hz2⟩ := info_parts Tryd.info3
  have I0 : VInv w R w.heap.size p [] 0 (some ⟨w.heap.size, 0, none⟩) 0 (w.alloc (.cells #[] 3)) :=
    { rd := rd_keep hr (fun k hk => Below.heap_alloc _ _ _ (by omega)), len := rfl, own := World.ownsRow_lit (base := w.heap.size) (e := 3) (size := 1) w #[] 0 (Nat.le_refl _) (by decide) (by simp), bel := (Below.refl _ _).alloc (by omega) _, lt := hRw, sz := by simp, rng := by simp, shape := ⟨_, rfl⟩, kb := fun k hk _ => Below.heap_alloc _ _ _ (by omega) }
  have I0' := I0.alloc #[.int .i64 0, .int .i64 1, .int .i64 3, .int .i64 8, .int .i64 2] 3
  have hR1 : R < w.heap.size + 1 := by omega
  clear I0 hr
  go_enter Tryd.func59, Tryd.ntmps59
  go_wp2_with fail
  refine (pick_any R p 5 _ I0'.rd (by omega) (by omega) (by omega)).mono ?_
  rintro e w1 ⟨k, ⟨hk0, hk1⟩, rfl, hpk⟩
  obtain ⟨k, rfl⟩ := Int.eq_ofNat_of_zero_le hk0
  have I1 := I0'.picked hpk
  have hc := cell_lit_picked (cs := [0, 1, 3, 8, 2]) hpk (by simp; omega) k (by simp; omega)
  have hy := lit5 k (by omega)
  generalize [(0 : Int), 1, 3, 8, 2].getD k 0 = y at hc hy
  simp only [World.size_alloc] at hc
  clear I0' hpk
  have HI1 : Hid (VInv w R w.heap.size (p + 1) [] 0 (some ⟨w.heap.size, 0, none⟩) 0 w1) := I1
  clear I1
  have hk5 : k < 5 := by omega
  obtain ⟨hy0, hy8⟩ := hy
  obtain ⟨y, rfl⟩ := Int.eq_ofNat_of_zero_le hy0
  go_wp2
  clear hc hk0 hk1 hk5
  go_loopw [5, 6] (fun o i wr => ∃ (K : Nat) (L : List Int) (N : Nat) (a : Option Addr) (c q : Nat), i = .int .i64 K ∧ o = .slice a N c ∧ VInv w R w.heap.size q L N a c wr ∧ N + K ≤ 8 ∧ q + 2 * K ≤ p + 17)
    (fun _ i _ => (intOf i).toNat)
  case atStart => exact ⟨y, [], 0, _, _, _, rfl, rfl, HI1.out, by omega, by omega⟩
  case round =>
    clear HI1
    obtain ⟨K, L, N, a, c, q, rfl, rfl, I, hNK, hq⟩ := hrel
    have HI : Hid (VInv w R w.heap.size q L N a c wr) := I
    clear I
    by_cases hK : K = 0
    · subst hK
      go_wp2_with fail
      refine (odd_any R q n _ HI.out.rd (by omega) (by omega) (by omega)).mono ?_
      rintro e w2 ⟨od, rfl, hpk⟩
      have HI2 : Hid (VInv w R w.heap.size (q + 1) L N a c w2) := HI.out.picked hpk
      clear HI hpk
      cases od
      · go_wp2
        go_ret
        exact ⟨L, N, a, c, q + 1, rfl, HI2.out, by omega, by omega⟩
      · go_wp2_with fail
        refine (pick_any R (q + 1) 6 _ (HI2.out.alloc _ _).rd (by omega) (by omega) (by omega)).mono ?_
        rintro e w3 ⟨k, ⟨hk0, hk1⟩, rfl, hpk⟩
        obtain ⟨k, rfl⟩ := Int.eq_ofNat_of_zero_le hk0
        have hsz := HI2.out.sz
        have hc := cell_lit_picked (cs := [-1, 1000, 0, 0, 0, 0]) hpk (by omega) k (by simp; omega)
        have hy := lit6 k (by omega)
        generalize [(-1 : Int), 1000, 0, 0, 0, 0].getD k 0 = x at hc hy
        have HI3 : Hid (VInv w R w.heap.size (q + 1 + 1) L N a c w3) := (HI2.out.alloc _ _).picked hpk
        have hk6 : k < 6 := by omega
        have ownA := (HI3.out.alloc #[.int .i64 x] 3).own
        have hlen := HI3.out.len
        clear hpk HI2
        go_wp2_with (at_builtin; go_must (refine wpList_append_own _ rfl (.tmp 30) (.tmp 36) 25 rfl w.heap.size 3 i0 (.int .i64 0) 1 8 Tryd.underlying25 hi hz0 hz1 hz2 rfl (by decide) _ _ _ rfl ownA ⟨w3.heap.size, 0, none⟩ 1 _ [.int .i64 x] rfl rfl (cell_one_new' _ _) (by intro u hu; simp at hu; subst hu; rfl) (by unfold maxLen; omega) (by omega) (by have := (HI3.out.alloc #[.int .i64 x] 3).sz; exact this) ?_))
        intro v4 w4 hown hgrow _
        have hown' : w4.ownsRow w.heap.size 3 1 v4 (N + 1) ((L ++ [x]).map (Value.int .i64)) := by simpa using hown
        obtain ⟨a4, c4, hv, _⟩ := own_shape hown'
        rw [hv] at hown' ⊢
        have HI4 : Hid (VInv w R w.heap.size (q + 1 + 1) (L ++ [x]) (N + 1) a4 c4 w4) := (HI3.out.alloc _ _).grow hgrow hy hown'
        clear hown hgrow hown' hv HI3 ownA hc
        go_wp2
        go_ret
        exact ⟨L ++ [x], N + 1, a4, c4, q + 1 + 1, rfl, HI4.out, by omega, by omega⟩
    · have hK0 : (0 : Int) < (K : Int) := by omega
      go_wp2_with fail
      refine (pick_any R q 100 _ HI.out.rd (by omega) (by omega) (by omega)).mono ?_
      rintro e w2 ⟨k1, ⟨hk0, hk1⟩, rfl, hpk⟩
      have HI2 : Hid (VInv w R w.heap.size (q + 1) L N a c w2) := HI.out.picked hpk
      clear HI hpk
      go_wp2_with fail
      refine (pick_any R (q + 1) 3 _ (HI2.out.alloc _ _).rd (by omega) (by omega) (by omega)).mono ?_
      rintro e w3 ⟨k, ⟨hj0, hj1⟩, rfl, hpk⟩
      obtain ⟨k, rfl⟩ := Int.eq_ofNat_of_zero_le hj0
      have hsz := HI2.out.sz
      have hc := cell_lit_picked (cs := [0, 999, k1]) hpk (by omega) k (by simp; omega)
      have hy := lit3 k (by omega) k1 hk0 hk1
      generalize [(0 : Int), 999, k1].getD k 0 = x at hc hy
      have HI3 : Hid (VInv w R w.heap.size (q + 1 + 1) L N a c w3) := (HI2.out.alloc _ _).picked hpk
      have hk3 : k < 3 := by omega
      have ownA := (HI3.out.alloc #[.int .i64 x] 3).own
      clear hpk HI2
      go_wp2_with (at_builtin; go_must (refine wpList_append_own _ rfl (.tmp 17) (.tmp 25) 25 rfl w.heap.size 3 i0 (.int .i64 0) 1 8 Tryd.underlying25 hi hz0 hz1 hz2 rfl (by decide) _ _ _ rfl ownA ⟨w3.heap.size, 0, none⟩ 1 _ [.int .i64 x] rfl rfl (cell_one_new' _ _) (by intro u hu; simp at hu; subst hu; rfl) (by unfold maxLen; omega) (by omega) (by have := (HI3.out.alloc #[.int .i64 x] 3).sz; exact this) ?_))
      intro v4 w4 hown hgrow _
      have hown' : w4.ownsRow w.heap.size 3 1 v4 (N + 1) ((L ++ [x]).map (Value.int .i64)) := by simpa using hown
      obtain ⟨a4, c4, hv, _⟩ := own_shape hown'
      rw [hv] at hown' ⊢
      have HI4 : Hid (VInv w R w.heap.size (q + 1 + 1) (L ++ [x]) (N + 1) a4 c4 w4) := (HI3.out.alloc _ _).grow hgrow hy hown'
      clear hown hgrow hown' hv HI3 ownA hc
      go_wp2
      go_roundw
      case rel => exact ⟨K - 1, L ++ [x], N + 1, a4, c4, q + 1 + 1, by rw [show ((K - 1 : Nat) : Int) = (K : Int) - 1 by omega], rfl, HI4.out, by omega, by omega⟩
      case measure => simp [intOf]; omega

end Go.Proofs.YtklpdpdjblakgaaDoor

/- LKey -/
namespace Go.Proofs.YtklpdpdjblakgaaDoor
open Go.RowKit
set_option linter.unusedVariables false

/-- What a draw of a number answers. -/
def DrawnK (R p : Nat) (w : World) (e : Ending) (w' : World) : Prop := ∃ (x : Int) (q : Nat), e = .returned (.int .i64 x) ∧ Rd w' R q ∧ q ≤ p + 10 ∧ KB R w w'

/-- What a draw of entries and a key answers. -/
def DrawnMK (w : World) (e : Ending) (w' : World) : Prop :=
  ∃ (L : List Int) (N : Nat) (a : Option Addr) (c : Nat) (x : Int), e = .returned (.tuple #[.agg #[.slice a N c], .int .i64 x]) ∧ w'.ownsRow w.heap.size 84 2 (.slice a N c) N (L.map (Value.int .i64)) ∧ N ≤ 9 ∧ Below w.heap.size w w'

end Go.Proofs.YtklpdpdjblakgaaDoor

/- PMap -/
namespace Go.Proofs.YtklpdpdjblakgaaDoor
open Go.ChangeShapes Go.WideShapes Go.ChangeAt Go.RowKit
set_option linter.unusedVariables false

theorem Tryd.cells5 : Tryd.prog.cellsOf 5 = 1 := by kernel_rfl

/-- What the reading of an argument tells of a slice of bytes. -/
theorem sbytes_of_open {H : Type} {enc : TypeId × Value → H} {W : World} {a0 : Option Addr} {len0 cap0 : Nat} {d0 : DataW H} {p0 : List MemPlace}
    (h0 : DataW.Trod enc Tryd.prog W 0 (fun _ => true) true 47 (.slice a0 len0 cap0) d0 p0) : SBytes W a0 len0 ∧ len0 ≤ cap0 ∧ len0 ≤ 9223372036854775807 := by
  obtain ⟨fuel, hf⟩ := h0
  rcases open_ints Tryd.underlying47 Tryd.underlying5 Tryd.cells5 hf with ⟨hcs, _⟩ | ⟨x, l, c, zs, hcs, _, hl, hm, hz, _, hcell, hwz⟩
  · simp [Value.cells] at hcs
    obtain ⟨rfl, rfl, rfl⟩ := hcs
    exact ⟨.inl rfl, Nat.le_refl _, by omega⟩
  · simp [Value.cells] at hcs
    obtain ⟨rfl, rfl, rfl⟩ := hcs
    unfold maxLen at hm
    refine ⟨?_, hl, by omega⟩
    by_cases h0 : len0 = 0
    · exact .inl h0
    · obtain ⟨b, off, spot⟩ := x
      have hc := hcell 0 (by simp at hz; omega)
      have hspot : spot = none := by simpa [Addr.add] using World.cell?_spot hc
      subst hspot
      refine .inr ⟨b, off, rfl, fun i hi => ?_⟩
      have := hcell i (by simp at hz; omega)
      rw [Addr.add_lit] at this
      have hb := range_u8 hwz i
      rw [List.getD_eq_getElem?_getD] at this
      exact ⟨_, by omega, by omega, this⟩

set_option maxRecDepth 20000 in
set_option maxHeartbeats 400000 in
theorem tgOk_any (w : World) : Calls Tryd.prog 22 #[] w fun e w' => e = .returned (.bool true) ∧ Below w.heap.size w w' := by
  have e0 : okM [] 0 = true := by decide
  go_enter Tryd.func22, Tryd.ntmps22
  go_wp2_with fail
  refine (implMapOk_any none 0 0 [] w ⟨rfl, .inl rfl⟩ (by omega)).mono ?_
  rintro e w1 ⟨rfl, hb⟩
  rw [e0]
  go_wp2
  go_ret
  exact ⟨rfl, hb⟩

/-- Entries in a variable, and an answer in another. -/
structure GS (w : World) (M : Nat) (a : Option Addr) (N c : Nat) (L : List Int) (X : Nat) (C V : Int) (W : World) : Prop where
  bel : Below w.heap.size w W
  m : W.cell? ⟨M, 0, none⟩ = some (.slice a N c)
  s : SInts W a (N * 2) L
  x0 : W.cell? ⟨X, 0, none⟩ = some (.int .i64 C)
  x1 : W.cell? ⟨X, 1, none⟩ = some (.int .i64 V)
theorem GS.below {w : World} {M : Nat} {a : Option Addr} {N c : Nat} {L : List Int} {X : Nat} {C V : Int} {W W' : World} (h : GS w M a N c L X C V W) (hb : Below W.heap.size W W') : GS w M a N c L X C V W' :=
  ⟨below_trans' h.bel hb, cell_kept hb h.m, h.s.below hb, cell_kept hb h.x0, cell_kept hb h.x1⟩
theorem GS.cells {w : World} {M : Nat} {a : Option Addr} {N c : Nat} {L : List Int} {X : Nat} {C V : Int} {W : World} (h : GS w M a N c L X C V W) : W.cell? ⟨M, 0, none⟩ = some (.slice a N c) ∧ W.cell? ⟨X, 0, none⟩ = some (.int .i64 C) ∧ W.cell? ⟨X, 1, none⟩ = some (.int .i64 V) := ⟨h.m, h.x0, h.x1⟩

end Go.Proofs.YtklpdpdjblakgaaDoor

/- LinP -/
namespace Go.Proofs.YtklpdpdjblakgaaDoor
open Go.RowKit
set_option linter.unusedVariables false

set_option maxHeartbeats 400000 in
theorem tgInts_yes (a a' : Option Addr) (n cap cap' : Nat) (zs : List Int) (w : World) (hs : SInts w a n zs) (hs' : SInts w a' n zs) (hn : n ≤ 9223372036854775807) :
    Calls Tryd.prog 62 #[.slice a n cap, .slice a' n cap'] w fun e w' => e = .returned (.bool true) ∧ Below w.heap.size w w' := by
  go_enter Tryd.func62, Tryd.ntmps62
  go_wp2
  go_loopw [5] (fun i wr => ∃ k : Nat, k ≤ n ∧ i = .int .i64 k ∧ Below w.heap.size w wr) (fun i _ => n - (intOf i).toNat)
  case atStart => exact ⟨0, Nat.zero_le _, rfl, Below.refl _ _⟩
  case round =>
    obtain ⟨k, hk, rfl, hbel⟩ := hrel
    by_cases hlt : k < n
    · obtain ⟨hz, h0 | ⟨b, off, rfl, hc⟩⟩ := hs
      · omega
      · obtain ⟨_, h0 | ⟨b', off', rfl, hc'⟩⟩ := hs'
        · omega
        · obtain ⟨x, hx⟩ : ∃ x, zs.getD k 0 = x := ⟨_, rfl⟩
          have h1 : wr.cell? ⟨b, off + k, none⟩ = some (.int .i64 x) := by rw [← hx]; exact (hbel.cell (World.block_lt_of_cell? w ⟨b, off + k, none⟩ (hc k hlt))).trans (hc k hlt)
          have h2 : wr.cell? ⟨b', off' + k, none⟩ = some (.int .i64 x) := by rw [← hx]; exact (hbel.cell (World.block_lt_of_cell? w ⟨b', off' + k, none⟩ (hc' k hlt))).trans (hc' k hlt)
          clear hc hc' hx
          go_wp2
          go_region
          all_goals go_wp2
          all_goals
            go_roundw
            case rel => exact ⟨k + 1, by omega, by go_num, hbel.drew⟩
            case measure => simp [intOf]; omega
    · have : k = n := by omega
      subst this
      go_wp2
      go_ret
      exact ⟨rfl, hbel⟩

set_option maxHeartbeats 1000000 in
/-- tgMap of two with the same entries says yes. -/
theorem tgMap_yes (a a' : Option Addr) (n cap cap' : Nat) (zs : List Int) (w : World) (hs : SInts w a (n * 2) zs) (hs' : SInts w a' (n * 2) zs) (hn : n ≤ 1048576) :
    Calls Tryd.prog 61 #[.agg #[.slice a n cap], .agg #[.slice a' n cap']] w fun e w' => e = .returned (.bool true) ∧ Below w.heap.size w w' := by
  have B2 := below_trans' (al1 w (.cells #[.slice a n cap] 33)) (al1 _ (.cells #[.slice a' n cap'] 33))
  have c0 := cell_kept (al1 _ (.cells #[.slice a' n cap'] 33)) (cell_at w #[.slice a n cap] 33 0 rfl (v := .slice a n cap) rfl)
  have c1 := cell_at (w.alloc (.cells #[.slice a n cap] 33)) #[.slice a' n cap'] 33 0 (b := w.heap.size + 1) (by simp) (v := .slice a' n cap') rfl
  go_enter Tryd.func61, Tryd.ntmps61
  go_wp2
  have H0 : Hid (((w.alloc (.cells #[.slice a n cap] 33)).alloc (.cells #[.slice a' n cap'] 33)).cell? ⟨w.heap.size, 0, none⟩ = some (.slice a n cap) ∧ ((w.alloc (.cells #[.slice a n cap] 33)).alloc (.cells #[.slice a' n cap'] 33)).cell? ⟨w.heap.size + 1, 0, none⟩ = some (.slice a' n cap') ∧ Below w.heap.size w ((w.alloc (.cells #[.slice a n cap] 33)).alloc (.cells #[.slice a' n cap'] 33))) := ⟨c0, c1, B2⟩
  clear c0 c1 B2
  go_loopw [5] (fun i wr => ∃ k : Nat, k ≤ n ∧ i = .int .i64 k ∧ wr.cell? ⟨w.heap.size, 0, none⟩ = some (.slice a n cap) ∧ wr.cell? ⟨w.heap.size + 1, 0, none⟩ = some (.slice a' n cap') ∧ Below w.heap.size w wr) (fun i _ => n - (intOf i).toNat)
  case atStart => exact ⟨0, Nat.zero_le _, rfl, H0.out⟩
  case round =>
    obtain ⟨k, hk, rfl, p0, q0, hB⟩ := hrel
    clear H0
    have HB : Hid (wr.cell? ⟨w.heap.size, 0, none⟩ = some (.slice a n cap) ∧ wr.cell? ⟨w.heap.size + 1, 0, none⟩ = some (.slice a' n cap') ∧ Below w.heap.size w wr) := ⟨p0, q0, hB⟩
    by_cases hlt : k < n
    · obtain ⟨_, h0 | ⟨b, o, rfl, hc⟩⟩ := hs.below hB
      · omega
      obtain ⟨_, h0 | ⟨b', o', rfl, hc'⟩⟩ := hs'.below hB
      · omega
      obtain ⟨x, hx⟩ : ∃ x, zs.getD (k * 2) 0 = x := ⟨_, rfl⟩
      obtain ⟨y, hy⟩ : ∃ y, zs.getD (k * 2 + 1) 0 = y := ⟨_, rfl⟩
      have n0 : wr.cell? ⟨b, o + k * 2, none⟩ = some (.int .i64 x) := by rw [← hx]; exact hc (k * 2) (by omega)
      have n1 : wr.cell? ⟨b, o + k * 2 + 1, none⟩ = some (.int .i64 y) := by rw [← hy]; exact hc (k * 2 + 1) (by omega)
      have m0 : wr.cell? ⟨b', o' + k * 2, none⟩ = some (.int .i64 x) := by rw [← hx]; exact hc' (k * 2) (by omega)
      have m1 : wr.cell? ⟨b', o' + k * 2 + 1, none⟩ = some (.int .i64 y) := by rw [← hy]; exact hc' (k * 2 + 1) (by omega)
      clear hc hc' hx hy hB
      go_wp2
      go_region_held_law (fun V => V.cell? ⟨w.heap.size, 0, none⟩ = some (.slice (some ⟨b, o, none⟩) n cap) ∧ V.cell? ⟨w.heap.size + 1, 0, none⟩ = some (.slice (some ⟨b', o', none⟩) n cap') ∧ V.cell? ⟨b, o + k * 2, none⟩ = some (.int .i64 x) ∧ V.cell? ⟨b, o + k * 2 + 1, none⟩ = some (.int .i64 y) ∧ V.cell? ⟨b', o' + k * 2, none⟩ = some (.int .i64 x) ∧ V.cell? ⟨b', o' + k * 2 + 1, none⟩ = some (.int .i64 y)) (first | (go_keep; done)) (fail)
      go_wp2
      go_roundw
      case rel => exact ⟨k + 1, by omega, by go_num, HB.out.1, HB.out.2.1, HB.out.2.2.drew⟩
      case measure => simp [intOf]; omega
    · obtain rfl : k = n := by omega
      go_wp2
      go_ret
      exact ⟨rfl, hB⟩

set_option maxHeartbeats 1000000 in
theorem tgState_yes (v v' : SV) (d : LD) (w : World) (h : SS w v d) (h' : SS w v' d) (hf : Few d) :
    Calls Tryd.prog 18 #[stV v d, stV v' d] w fun e w' => e = .returned (.bool true) ∧ Below w.heap.size w w' := by
  have A := below_trans' (al1 w (.cells #[v.m d, v.s d, v.q d] 35)) (al1 _ (.cells #[v'.m d, v'.s d, v'.q d] 35))
  have bx := (b3_new w (v.m d) (v.s d) (v.q d) 35 rfl).below (al1 _ (.cells #[v'.m d, v'.s d, v'.q d] 35))
  have by' := b3_new (w.alloc (.cells #[v.m d, v.s d, v.q d] 35)) (v'.m d) (v'.s d) (v'.q d) 35 (b := w.heap.size + 1) (by simp)
  have H0 := h.below A
  have H0' := h'.below A
  obtain ⟨f1, f2, f3⟩ := hf
  clear h h'
  go_enter Tryd.func18, Tryd.ntmps18
  go_wp2_with fail
  refine (tgMap_yes _ _ _ _ _ d.zs _ H0.m H0'.m (by omega)).mono ?_
  rintro e w1 ⟨rfl, hb1⟩
  have hA := below_trans' A hb1
  obtain ⟨c0, c1, c2⟩ := (bx.below hb1).cells
  obtain ⟨d0, d1, d2⟩ := (by'.below hb1).cells
  have H1 : Hid (SS w1 v d ∧ SS w1 v' d) := ⟨H0.below hb1, H0'.below hb1⟩
  clear A bx by' hb1 H0 H0'
  go_wp2_with fail
  refine (tgInts_yes _ _ _ _ _ d.s _ H1.out.1.s H1.out.2.s (by omega)).mono ?_
  rintro e w2 ⟨rfl, hb2⟩
  have hB := below_trans' hA hb2
  have e0 := cell_kept hb2 c0
  have e2 := cell_kept hb2 c2
  have g2 := cell_kept hb2 d2
  have H2 : Hid (SS w2 v d ∧ SS w2 v' d) := ⟨H1.out.1.below hb2, H1.out.2.below hb2⟩
  clear hA c0 c1 c2 d0 d1 d2 H1 hb2
  go_wp2_with fail
  refine (tgInts_yes _ _ _ _ _ d.q _ H2.out.1.q H2.out.2.q (by omega)).mono ?_
  rintro e w3 ⟨rfl, hb3⟩
  have hC := below_trans' hB hb3
  clear hB e0 e2 g2 H2 hb3
  go_wp2
  go_ret
  exact ⟨rfl, hC⟩

theorem KB.of_vinv {w W : World} {R q N c : Nat} {L : List Int} {a : Option Addr} (h : VInv w R w.heap.size q L N a c W) : KB R w W := ⟨h.bel, h.sz, h.kb⟩
theorem own_kb {R B : Nat} {W W' : World} {e : TypeId} {sz : Nat} {v : Value} {n : Nat} {xs : List Value} (h : W.ownsRow B e sz v n xs) (hB : R < B) (k : KB R W W') : W'.ownsRow B e sz v n xs :=
  own_block h (fun g hg => k.block g (own_typed h hg).2.1 (by have := (own_typed h hg).1; omega))
theorem B3.kb {R b : Nat} {x y z : Value} {W W' : World} (h : B3 W b x y z) (k : KB R W W') (hn : b ≠ R) : B3 W' b x y z :=
  ⟨k.cell h.c0 hn, k.cell h.c1 hn, k.cell h.c2 hn, fun j => (k.frozen h.lt hn).trans (h.f j)⟩

/-- What is drawn: a state, and what is asked. -/
def DrawnL (w : World) (e : Ending) (w' : World) : Prop :=
  ∃ (v : SV) (d : LD) (k x y : Int), e = .returned (.tuple #[stV v d, .agg #[.int .i64 k, .int .i64 x, .int .i64 y]]) ∧ St w.heap.size w'.heap.size v d w' ∧ Somes v ∧ (d.n ≤ 9 ∧ d.s.length ≤ 9 ∧ d.q.length ≤ 9) ∧ Below w.heap.size w w'

set_option maxRecDepth 20000 in
set_option maxHeartbeats 1000000 in
theorem drawLinApply_any (a : Option Addr) (n cap : Nat) (w : World) (hs : SBytes w a n) (hc : n ≤ cap) (hn : n ≤ 1048576) :
    Calls Tryd.prog 17 #[.slice a n cap] w (DrawnL w) := by
  have A := below_trans' (al1 w (.cells #[.slice none 0 0, .slice none 0 0, .slice none 0 0] 35)) (al1 _ (.cells #[.int .i64 0, .int .i64 0, .int .i64 0] 41))
  have br := (b3_new w (.slice none 0 0) (.slice none 0 0) (.slice none 0 0) 35 rfl).below (al1 _ (.cells #[.int .i64 0, .int .i64 0, .int .i64 0] 41))
  have bo := b3_new (w.alloc (.cells #[.slice none 0 0, .slice none 0 0, .slice none 0 0] 35)) (.int .i64 0) (.int .i64 0) (.int .i64 0) 41 (b := w.heap.size + 1) (by simp)
  have hz : ((w.alloc (.cells #[.slice none 0 0, .slice none 0 0, .slice none 0 0] 35)).alloc (.cells #[.int .i64 0, .int .i64 0, .int .i64 0] 41)).heap.size = w.heap.size + 2 := by simp
  have hs1 := sbytes_below hs A
  clear hs
  go_enter Tryd.func17, Tryd.ntmps17
  go_wp2_with fail
  generalize (w.alloc (.cells #[.slice none 0 0, .slice none 0 0, .slice none 0 0] 35)).alloc (.cells #[.int .i64 0, .int .i64 0, .int .i64 0] 41) = w0 at A br bo hz hs1 ⊢
  refine (open_any a n cap _ hc hn).mono ?_
  rintro e w1 ⟨m, c, ⟨hm, h3⟩, rfl, hw1⟩
  have hrd : Rd w1 w0.heap.size 0 := by rw [hw1]; exact rd_open w0 a n m c hs1 hm h3
  have hb1 : Below w0.heap.size w0 w1 := by rw [hw1]; exact al1 _ _
  have hsz : w0.heap.size < w1.heap.size := by rw [hw1]; simp
  have H1 : Hid (Below w.heap.size w w1 ∧ B3 w1 w.heap.size (.slice none 0 0) (.slice none 0 0) (.slice none 0 0) ∧ B3 w1 (w.heap.size + 1) (.int .i64 0) (.int .i64 0) (.int .i64 0) ∧ w0.heap.size = w.heap.size + 2 ∧ w0.heap.size < w1.heap.size) := ⟨below_trans' A hb1, br.below hb1, bo.below hb1, hz, hsz⟩
  clear hw1 hb1 A br bo hs1 hz
  go_wp2_with fail
  refine (map_any w0.heap.size 0 12 w1 hrd hsz (by omega) (by omega) (by omega)).mono ?_
  rintro e w2 ⟨L, N, a2, c2, q2, rfl, ho2, hN, hr2, hq2, k2⟩
  have hsz2 : w0.heap.size < w2.heap.size := Nat.lt_of_lt_of_le hsz k2.size
  have H2 : Hid (w2.ownsRow w1.heap.size 84 2 (.slice a2 N c2) N (L.map (Value.int .i64)) ∧ KB w0.heap.size w1 w2) := ⟨ho2, k2⟩
  clear ho2 k2 hrd hsz
  go_wp2_with fail
  refine (vals_any w0.heap.size q2 20 w2 hr2 hsz2 (by omega) (by omega) (by omega)).mono ?_
  rintro e w3 ⟨L3, N3, a3, c3, q3, rfl, I3, hN3, hq3⟩
  have hsz3 : w0.heap.size < w3.heap.size := Nat.lt_of_lt_of_le hsz2 I3.sz
  have hr3 := I3.rd
  have H3 : Hid (VInv w2 w0.heap.size w2.heap.size q3 L3 N3 a3 c3 w3) := I3
  clear I3 hr2 hsz2
  go_wp2_with fail
  refine (vals_any w0.heap.size q3 20 w3 hr3 hsz3 (by omega) (by omega) (by omega)).mono ?_
  rintro e w4 ⟨L4, N4, a4, c4, q4, rfl, I4, hN4, hq4⟩
  have hsz4 : w0.heap.size < w4.heap.size := Nat.lt_of_lt_of_le hsz3 I4.sz
  have hr4 := I4.rd
  have H4 : Hid (VInv w3 w0.heap.size w3.heap.size q4 L4 N4 a4 c4 w4) := I4
  clear I4 hr3 hsz3
  go_wp2_with fail
  refine (op_any w0.heap.size q4 9 w4 hr4 hsz4 (by omega) (by omega) (by omega)).mono ?_
  rintro e w5 ⟨k, x, y, q5, rfl, hr5, hq5, k5⟩
  have K45 := k5
  have K35 := (KB.of_vinv H4.out).trans K45
  have K25 := (KB.of_vinv H3.out).trans K35
  have K15 := H2.out.2.trans K25
  have b5 := H1.out.2.1.kb K15 (by have := H1.out.2.2.2.1; omega)
  have o5 := H1.out.2.2.1.kb K15 (by have := H1.out.2.2.2.1; omega)
  obtain ⟨s0, s1, s2⟩ := b5.cells
  obtain ⟨f0, f1, f2⟩ := b5.frees
  obtain ⟨p0, p1, p2⟩ := o5.cells
  obtain ⟨g0, g1, g2⟩ := o5.frees
  have hz1 : w0.heap.size < w1.heap.size := H1.out.2.2.2.2
  have hz0 : w0.heap.size = w.heap.size + 2 := H1.out.2.2.2.1
  have hz2 : w1.heap.size ≤ w2.heap.size := H2.out.2.size
  have hz3 : w2.heap.size ≤ w3.heap.size := H3.out.sz
  have r1 := own_kb H2.out.1 hz1 K25
  have r2 := own_kb H3.out.own (by omega) K35
  have r3 := own_kb H4.out.own (by omega) K45
  have HR : Hid (w5.ownsRow (w.heap.size + 2) 84 2 (.slice a2 N c2) N (L.map (Value.int .i64)) ∧ w5.ownsRow (w.heap.size + 2) 3 1 (.slice a3 N3 c3) N3 (L3.map (Value.int .i64)) ∧ w5.ownsRow (w.heap.size + 2) 3 1 (.slice a4 N4 c4) N4 (L4.map (Value.int .i64)) ∧ Below w.heap.size w w5 ∧ (∃ g, a3 = some ⟨g, 0, none⟩) ∧ (∃ g, a4 = some ⟨g, 0, none⟩) ∧ L3.length = N3 ∧ L4.length = N4) :=
    ⟨own_mono r1 (by omega), own_mono r2 (by omega), own_mono r3 (by omega), H1.out.1.trans (K15.bel.mono (by omega)), H3.out.shape, H4.out.shape, H3.out.len, H4.out.len⟩
  clear k5 K45 K35 K25 K15 b5 o5 r1 r2 r3 hz1 hz0 hz2 hz3 H1 H2 H3 H4 hr4 hr5 hsz4 hq2 hq3 hq4 hq5
  go_wp2
  refine bodyPost_ret (v := .tuple #[.agg #[.slice a2 N c2, .slice a3 N3 c3, .slice a4 N4 c4], .agg #[.int .i64 k, .int .i64 x, .int .i64 y]]) (by simp [results, Tryd.results17, go_sem, s0, s1, s2, p0, p1, p2]) rfl ?_
  obtain ⟨r1, r2, r3, hb, h3, h4, rfl, rfl⟩ := HR.out
  refine ⟨⟨a2, c2, a3, c3, a4, c4⟩, ⟨N, L, L3, L4⟩, k, x, y, rfl, ?_, ⟨h3, h4⟩, ⟨hN, hN3, hN4⟩, ?_⟩
  · have up : ∀ (e : TypeId) (sz : Nat) (u : Value) (m : Nat) (xs : List Value), w5.ownsRow (w.heap.size + 2) e sz u m xs → RowIn w.heap.size ((((((w5.setCell ⟨w.heap.size, 0, none⟩ (.slice a2 N c2)).setCell ⟨w.heap.size, 1, none⟩ (.slice a3 L3.length c3)).setCell ⟨w.heap.size, 2, none⟩ (.slice a4 L4.length c4)).setCell ⟨w.heap.size + 1, 0, none⟩ (.int .i64 k)).setCell ⟨w.heap.size + 1, 1, none⟩ (.int .i64 x)).setCell ⟨w.heap.size + 1, 2, none⟩ (.int .i64 y)).heap.size e sz u m xs ((((((w5.setCell ⟨w.heap.size, 0, none⟩ (.slice a2 N c2)).setCell ⟨w.heap.size, 1, none⟩ (.slice a3 L3.length c3)).setCell ⟨w.heap.size, 2, none⟩ (.slice a4 L4.length c4)).setCell ⟨w.heap.size + 1, 0, none⟩ (.int .i64 k)).setCell ⟨w.heap.size + 1, 1, none⟩ (.int .i64 x)).setCell ⟨w.heap.size + 1, 2, none⟩ (.int .i64 y)) := fun e sz u m xs ho =>
      rowIn_of (own_mono (own_far (own_far (own_far (own_far (own_far (own_far ho (by omega) _) (by omega) _) (by omega) _) (by omega) _) (by omega) _) (by omega) _) (by omega)) (Nat.le_refl _)
    exact ⟨up _ _ _ _ _ r1, up _ _ _ _ _ r2, up _ _ _ _ _ r3⟩
  · exact (((((hb.setCell (p := ⟨w.heap.size, 0, none⟩) (Nat.le_refl _) _).setCell (p := ⟨w.heap.size, 1, none⟩) (Nat.le_refl _) _).setCell (p := ⟨w.heap.size, 2, none⟩) (Nat.le_refl _) _).setCell (p := ⟨w.heap.size + 1, 0, none⟩) (by show w.heap.size ≤ w.heap.size + 1; omega) _).setCell (p := ⟨w.heap.size + 1, 1, none⟩) (by show w.heap.size ≤ w.heap.size + 1; omega) _).setCell (p := ⟨w.heap.size + 1, 2, none⟩) (by show w.heap.size ≤ w.heap.size + 1; omega) _

end Go.Proofs.YtklpdpdjblakgaaDoor

/- LinQ -/
namespace Go.Proofs.YtklpdpdjblakgaaDoor
open Go.RowKit
set_option linter.unusedVariables false

/-- Boxes that stay as they are. -/
def Bxs (W : World) (l : List (Nat × List Value)) : Prop := ∀ p ∈ l, ∀ (i : Nat) (u : Value), p.2[i]? = some u → W.cell? ⟨p.1, i, none⟩ = some u
/-- What stands in a world: boxes, and states that can be read. -/
structure G (w W : World) (l : List (Nat × List Value)) (sts : List (SV × LD)) : Prop where
  bel : Below w.heap.size w W
  bx : Bxs W l
  ss : ∀ p ∈ sts, SS W p.1 p.2
theorem G.below {w W W' : World} {l : List (Nat × List Value)} {sts : List (SV × LD)} (h : G w W l sts) (hb : Below W.heap.size W W') : G w W' l sts :=
  ⟨below_trans' h.bel hb, fun p hp i u hu => cell_kept hb (h.bx p hp i u hu), fun p hp => (h.ss p hp).below hb⟩
theorem G.start {w W : World} (hb : Below w.heap.size w W) : G w W [] [] := ⟨hb, fun p hp => (by cases hp), fun p hp => (by cases hp)⟩
theorem G.st {w W : World} {l : List (Nat × List Value)} {sts : List (SV × LD)} (h : G w W l sts) {v : SV} {d : LD} (hs : SS W v d) : G w W l ((v, d) :: sts) :=
  ⟨h.bel, h.bx, fun p hp => (by rcases List.mem_cons.1 hp with rfl | hp; exact hs; exact h.ss p hp)⟩
theorem G.add {w W : World} {l : List (Nat × List Value)} {sts : List (SV × LD)} (h : G w W l sts) (cs : Array Value) (t : TypeId) {b : Nat} (hb : b = W.heap.size) : G w (W.alloc (.cells cs t)) ((b, cs.toList) :: l) sts := by
  have A := al1 W (.cells cs t)
  refine ⟨below_trans' h.bel A, fun p hp i u hu => ?_, fun p hp => (h.ss p hp).below A⟩
  rcases List.mem_cons.1 hp with rfl | hp
  · exact cell_at W cs t i hb (by simpa using hu)
  · exact cell_kept A (h.bx p hp i u hu)
theorem few9 {d : LD} (h : d.n ≤ 9 ∧ d.s.length ≤ 9 ∧ d.q.length ≤ 9) : Few d := ⟨by omega, by omega, by omega⟩
theorem tab_onto {w W : World} (h : Tab w) (hb : Below w.heap.size w W) : Tab W := h.below hb

end Go.Proofs.YtklpdpdjblakgaaDoor

/- LinZ2 -/
namespace Go.Proofs.YtklpdpdjblakgaaDoor
open Go.RowKit
set_option linter.unusedVariables false

set_option maxRecDepth 20000 in
set_option maxHeartbeats 8000000 in
theorem linExact_walk (v : SV) (d : LD) (k x y : Int) (w : World) (h : SS w v d) (l1 : d.n ≤ 9223372036854775807) (l2 : d.s.length ≤ 9223372036854775807) (l3 : d.q.length ≤ 9223372036854775807) (ht : Tab w) :
    Calls Tryd.prog 3 #[stV v d, .agg #[.int .i64 k, .int .i64 x, .int .i64 y]] w fun e w' => e = .returned (.bool true) ∧ Below w.heap.size w w' := by
  have G0 : GX w ((w.alloc (.cells #[v.m d, v.s d, v.q d] 27)).alloc (.cells #[.int .i64 k, .int .i64 x, .int .i64 y] 29)) _ := ((GX.start w).add #[v.m d, v.s d, v.q d] 27 rfl).add #[.int .i64 k, .int .i64 x, .int .i64 y] 29 (b := w.heap.size + 1) (by simp)
  have HW : Hid (SS w v d ∧ Tab w) := ⟨h, ht⟩
  clear h ht
  go_enter Tryd.func3, Tryd.ntmps3
  go_wp2_with fail
  refine (szLinState_any v d _ l1 l2 l3).mono ?_
  rintro e w0 ⟨⟨l, hl⟩, hb0⟩
  have G1 := G0.below hb0
  clear G0 hb0
  rcases hl with ⟨hl0, rfl, b1, b2, b3⟩ | rfl
  rotate_left
  · have HB : Hid (Below w.heap.size w w0) := G1.bel
    clear G1
    go_wp2
    go_ret
    exact ⟨rfl, HB.out⟩
  have hl1 : ¬ l < 0 := by omega
  have HFD : Hid (Few d ∧ Few (aD k x y d)) := ⟨⟨b1, b2, b3⟩, aD_few ⟨b1, b2, b3⟩⟩
  clear l1 l2 l3 b1 b2 b3
  have hspec : Hid (∀ W v', SS W v' d → Room v' d → Somes v' → Below w0.heap.size w0 W → Calls Tryd.prog 9 #[stV v' d, .agg #[.int .i64 k, .int .i64 x, .int .i64 y]] W fun e w' => ∃ u, e = .returned (.tuple #[stV u (aD k x y d), .agg #[.int .i64 (aCd k x y d), .int .i64 (aVd k x y d)]]) ∧ St W.heap.size w'.heap.size u (aD k x y d) w' ∧ (fun _ => True) u ∧ Below W.heap.size W w') := fun W v' h1 h2 h3 _ => by
    refine (specLinApply_any v' d k x y W h1 h2 HFD.out.1 h3).mono ?_
    rintro e w' ⟨u, he, hs, hb⟩
    exact ⟨u, he, hs, trivial, hb⟩
  have himpl : Hid (∀ W v', SS W v' d → Room v' d → Somes v' → Tab W → Calls Tryd.prog 12 #[stV v' d, .agg #[.int .i64 k, .int .i64 x, .int .i64 y]] W fun e w' => ∃ u, e = .returned (.tuple #[stV u (aD k x y d), .agg #[.int .i64 (aCd k x y d), .int .i64 (aVd k x y d)]]) ∧ St W.heap.size w'.heap.size u (aD k x y d) w' ∧ (fun u => Apart u (aD k x y d)) u ∧ Below W.heap.size W w') := fun W v' h1 h2 h3 h4 => implLinApply_any v' d k x y W h1 h2 HFD.out.1 h4
  generalize aD k x y d = D at hspec himpl HFD
  generalize aCd k x y d = C at hspec himpl
  generalize aVd k x y d = V at hspec himpl
  have bx := cell_of3 (G1.bx (w.heap.size, #[v.m d, v.s d, v.q d], 27) (by simp))
  have bo := cell_of3 (G1.bx (w.heap.size + 1, #[.int .i64 k, .int .i64 x, .int .i64 y], 29) (by simp))
  have hg1 := HW.out.1.below G1.bel
  clear hl0
  go_wp2
  refine regL5 bx bo hg1 (show Hid True from trivial) HFD.out.1 hspec rfl rfl (by kernel_rfl) ?_
  rintro vs w1 ⟨hv, hn, u1, lo1, hi1, g1, g1', e8, e9, A2, hB1, hap⟩
  obtain ⟨z0, e0⟩ := hv 0 (by omega)
  obtain ⟨z1, e1⟩ := hv 1 (by omega)
  obtain ⟨z2, e2⟩ := hv 2 (by omega)
  obtain ⟨z3, e3⟩ := hv 3 (by omega)
  obtain ⟨z4, e4⟩ := hv 4 (by omega)
  obtain ⟨z5, e5⟩ := hv 5 (by omega)
  obtain ⟨z6, e6⟩ := hv 6 (by omega)
  obtain ⟨z7, e7⟩ := hv 7 (by omega)
  have e10 := hn 10 (by omega)
  have e11 := hn 11 (by omega)
  unfold opsL5
  simp only [putsF, e0, e1, e2, e3, e4, e5, e6, e7, e8, e9, e10, e11, Nat.zero_add, Nat.reduceAdd, Act.put, List.setIfInBounds_toArray, List.set_cons_zero, List.set_cons_succ]
  clear hv hn e0 e1 e2 e3 e4 e5 e6 e7 e8 e9 e10 e11
  have G2 := G1.below hB1
  clear G1 hB1 bx bo hg1 hap hspec
  have HN1 : Hid (w.heap.size + 1 < w1.heap.size ∧ hi1 ≤ w1.heap.size ∧ g1 < w1.heap.size ∧ g1' < w1.heap.size) := ⟨lt_of_some (G2.bx (w.heap.size + 1, #[.int .i64 k, .int .i64 x, .int .i64 y], 29) (by simp)), A2.ih, lt_of_some A2.ig, lt_of_some A2.ir⟩
  obtain ⟨s0, s1, s2⟩ := (cell_of3 (G2.bx (w.heap.size, #[v.m d, v.s d, v.q d], 27) (by simp))).cells
  go_wp2_with fail
  refine (toLinState_any v d _ (HW.out.1.below G2.bel) HFD.out.1).mono ?_
  rintro e w2 ⟨ux, rfl, hst, hax, hso, hb2⟩
  clear s0 s1 s2
  have G3 := (G2.below hb2).add #[ux.m d, ux.s d, ux.q d] 35 (b := w2.heap.size) rfl
  have AL := al1 w2 (.cells #[ux.m d, ux.s d, ux.q d] 35)
  have A3 := (A2.below hb2).below AL
  have X3 := hst.below (Nat.le_refl _) AL
  have HX7 : Hid (Room ux d ∧ Somes ux) := ⟨hst.room, hso⟩
  have HAX : Hid (Apart ux d) := hax
  have hs12 := hb2.size
  have hs23 : w2.heap.size < (w2.alloc (.cells #[ux.m d, ux.s d, ux.q d] 35)).heap.size := by simp
  clear G2 A2 hb2 hst AL hax hso
  go_wp2
  generalize w2.alloc (.cells #[ux.m d, ux.s d, ux.q d] 35) = W2 at G3 A3 X3 hs23 ⊢
  have HN2 : Hid (w1.heap.size ≤ w2.heap.size ∧ w2.heap.size < W2.heap.size) := ⟨hs12, hs23⟩
  clear hs12 hs23
  have HC7 : Hid (∀ W v', SS W v' d → Room v' d → Somes v' → Below W2.heap.size W2 W → Calls Tryd.prog 12 #[stV v' d, .agg #[.int .i64 k, .int .i64 x, .int .i64 y]] W fun e w' => ∃ u, e = .returned (.tuple #[stV u D, .agg #[.int .i64 C, .int .i64 V]]) ∧ St W.heap.size w'.heap.size u D w' ∧ (fun u => Apart u D) u ∧ Below W.heap.size W w') := fun W v' h1 h2 h3 hb => himpl.out W v' h1 h2 h3 (tab_onto HW.out.2 (below_trans' G3.bel hb))
  have bx := cell_of3 (G3.bx (w2.heap.size, #[ux.m d, ux.s d, ux.q d], 35) (by simp))
  have bo := cell_of3 (G3.bx (w.heap.size + 1, #[.int .i64 k, .int .i64 x, .int .i64 y], 29) (by simp))
  have hg1 := X3.ss
  refine regL7 bx bo hg1 HX7 HFD.out.1 HC7 rfl rfl (by kernel_rfl) ?_
  rintro vs w3 ⟨hv, hn, u2, lo2, hi2, g2, g2', e7, e8, B4, hB1, hap⟩
  obtain ⟨z0, e0⟩ := hv 0 (by omega)
  obtain ⟨z1, e1⟩ := hv 1 (by omega)
  obtain ⟨z2, e2⟩ := hv 2 (by omega)
  obtain ⟨z3, e3⟩ := hv 3 (by omega)
  obtain ⟨z4, e4⟩ := hv 4 (by omega)
  obtain ⟨z5, e5⟩ := hv 5 (by omega)
  obtain ⟨z6, e6⟩ := hv 6 (by omega)
  have e9 := hn 9 (by omega)
  have e10 := hn 10 (by omega)
  unfold opsL7
  simp only [putsF, e0, e1, e2, e3, e4, e5, e6, e7, e8, e9, e10, Nat.zero_add, Nat.reduceAdd, Act.put, List.setIfInBounds_toArray, List.set_cons_zero, List.set_cons_succ]
  clear hv hn e0 e1 e2 e3 e4 e5 e6 e7 e8 e9 e10
  have HAG : Hid (Apart u2 D) := hap
  have HN3 : Hid (W2.heap.size ≤ lo2 ∧ W2.heap.size ≤ g2 ∧ W2.heap.size ≤ g2' ∧ lo2 ≤ hi2) := ⟨B4.il, B4.bg, B4.br, B4.ll⟩
  have G4 := G3.below hB1
  have A4 := A3.below hB1
  have X4 := X3.below (Nat.le_of_lt HN2.out.2) hB1
  have hw3 : w2.heap.size ≤ w3.heap.size := Nat.le_trans (Nat.le_of_lt HN2.out.2) hB1.size
  clear G3 A3 X3 hB1 bx bo hg1 hap HC7 HX7
  obtain ⟨b0, b1, b2⟩ := (cell_of3 (B4.ig)).cells
  obtain ⟨a0, a1, a2⟩ := (cell_of3 (A4.ig)).cells
  go_wp2_with fail
  refine (eqLinState_yes u2 u1 D _ B4.st.ss A4.st.ss HFD.out.2).mono ?_
  rintro e w4 ⟨rfl, hb⟩
  clear b0 b1 b2 a0 a1 a2
  have hw4 : w2.heap.size ≤ w4.heap.size := Nat.le_trans hw3 hb.size
  have G5 := G4.below hb
  have A5 := A4.below hb
  have B5 := B4.below hb
  have X5 := X4.below (hw3) hb
  clear G4 A4 B4 X4 hb
  have b0 := (cell_of2 (B5.ir)).c0
  have b1 := (cell_of2 (B5.ir)).c1
  have a0 := (cell_of2 (A5.ir)).c0
  have a1 := (cell_of2 (A5.ir)).c1
  go_wp2_with fail
  refine (eqResRes_yes C V _).mono ?_
  rintro e w5 ⟨rfl, hb⟩
  clear b0 b1 a0 a1
  have hw5 : w2.heap.size ≤ w5.heap.size := Nat.le_trans hw4 hb.size
  have G6 := G5.below hb
  have A6 := A5.below hb
  have B6 := B5.below hb
  have X6 := X5.below (hw4) hb
  clear G5 A5 B5 X5 hb
  obtain ⟨x0, x1, x2⟩ := (cell_of3 (G6.bx (w2.heap.size, #[ux.m d, ux.s d, ux.q d], 35) (by simp))).cells
  obtain ⟨s0, s1, s2⟩ := (cell_of3 (G6.bx (w.heap.size, #[v.m d, v.s d, v.q d], 27) (by simp))).cells
  have I5 : Hid (GX w w5 [(w2.heap.size, #[ux.m d, ux.s d, ux.q d], 35), (w.heap.size + 1, #[.int .i64 k, .int .i64 x, .int .i64 y], 29), (w.heap.size, #[v.m d, v.s d, v.q d], 27)] ∧ ResAt w0.heap.size g1 g1' lo1 hi1 u1 D C V w5 ∧ ResAt W2.heap.size g2 g2' lo2 hi2 u2 D C V w5 ∧ St w1.heap.size w2.heap.size ux d w5 ∧ w2.heap.size ≤ w5.heap.size) := ⟨G6, A6, B6, X6, hw5⟩
  clear G6 A6 B6 X6 hw5 hw4 hw3
  go_wp2
  go_region_held (fun w' => w'.cell? ⟨w2.heap.size, 0, none⟩ = some (ux.m d) ∧ w'.cell? ⟨w2.heap.size, 1, none⟩ = some (ux.s d) ∧ w'.cell? ⟨w2.heap.size, 2, none⟩ = some (ux.q d) ∧ w'.cell? ⟨w.heap.size, 0, none⟩ = some (v.m d) ∧ w'.cell? ⟨w.heap.size, 1, none⟩ = some (v.s d) ∧ w'.cell? ⟨w.heap.size, 2, none⟩ = some (v.q d)) ((refine ⟨?_, ?_, ?_, ?_, ?_, ?_⟩ <;> (try (with_reducible (refine cell_drew ?_))) <;> (repeat (with_reducible (refine cell_far (by omega) ?_))) <;> (with_reducible assumption))) (first | (go_at_call 10; refine (toLinState_any v d _ (HW.out.1.below (below_trans' I5.out.1.bel (Below.refl w5.heap.size w5).drew)) HFD.out.1).mono ?_; rintro e w6 ⟨uy, rfl, hst, _, _, hb⟩; have hd := below_trans' (Below.refl w5.heap.size w5).drew hb; have I6 : Hid (GX w w6 [(w2.heap.size, #[ux.m d, ux.s d, ux.q d], 35), (w.heap.size + 1, #[.int .i64 k, .int .i64 x, .int .i64 y], 29), (w.heap.size, #[v.m d, v.s d, v.q d], 27)] ∧ ResAt w0.heap.size g1 g1' lo1 hi1 u1 D C V w6 ∧ ResAt W2.heap.size g2 g2' lo2 hi2 u2 D C V w6 ∧ St w1.heap.size w2.heap.size ux d w6 ∧ w2.heap.size ≤ w6.heap.size) := ⟨I5.out.1.below hd, I5.out.2.1.below hd, I5.out.2.2.1.below hd, I5.out.2.2.2.1.below I5.out.2.2.2.2 hd, Nat.le_trans I5.out.2.2.2.2 (Below.size hd)⟩; have HY : Hid (SS w6 uy d) := hst.ss; obtain ⟨p60, p61, p62⟩ := (cell_of3 (I6.out.1.bx (w2.heap.size, #[ux.m d, ux.s d, ux.q d], 35) (by simp))).cells; obtain ⟨q60, q61, q62⟩ := (cell_of3 (I6.out.1.bx (w.heap.size, #[v.m d, v.s d, v.q d], 27) (by simp))).cells; clear hb hd hst) | (go_at_call 13; refine (eqLinState_yes ux uy d _ I6.out.2.2.2.1.ss HY.out HFD.out.1).mono ?_; rintro e w7 ⟨rfl, hb⟩; have I7 : Hid (GX w w7 [(w2.heap.size, #[ux.m d, ux.s d, ux.q d], 35), (w.heap.size + 1, #[.int .i64 k, .int .i64 x, .int .i64 y], 29), (w.heap.size, #[v.m d, v.s d, v.q d], 27)] ∧ ResAt w0.heap.size g1 g1' lo1 hi1 u1 D C V w7 ∧ ResAt W2.heap.size g2 g2' lo2 hi2 u2 D C V w7 ∧ St w1.heap.size w2.heap.size ux d w7 ∧ w2.heap.size ≤ w7.heap.size) := ⟨I6.out.1.below hb, I6.out.2.1.below hb, I6.out.2.2.1.below hb, I6.out.2.2.2.1.below I6.out.2.2.2.2 hb, Nat.le_trans I6.out.2.2.2.2 (Below.size hb)⟩; obtain ⟨p70, p71, p72⟩ := (cell_of3 (I7.out.1.bx (w2.heap.size, #[ux.m d, ux.s d, ux.q d], 35) (by simp))).cells; obtain ⟨q70, q71, q72⟩ := (cell_of3 (I7.out.1.bx (w.heap.size, #[v.m d, v.s d, v.q d], 27) (by simp))).cells; clear hb))
  clear x0 x1 x2 s0 s1 s2 p60 p61 p62 q60 q61 q62 I5 I6 HY q70 q71 q72
  have hk0 : ¬ (1 + 2 * (d.n : Int) + d.s.length + d.q.length < 0) := by omega
  go_wp2_with fail
  refine (markLinState_own _ _ ux d _ I7.out.2.2.2.1 HAX.out HFD.out.1 (Nat.le_trans HN2.out.1 I7.out.2.2.2.2) I7.out.2.2.2.2).mono ?_
  rintro e w8 ⟨rfl, _, ht8⟩
  have ho : ∀ k, Own ux d k → w1.heap.size ≤ k ∧ k < w2.heap.size := fun k hk => I7.out.2.2.2.1.own hk
  have hn1 := HN1.out
  have hn2 := HN2.out
  have hn3 := HN3.out
  have G8 := I7.out.1.markX I7.out.2.2.2.1 ht8 ho hn1.1 (Or.inl (Nat.le_refl _))
  have A8 := I7.out.2.1.turn ht8 (fun k hk => by have := ho k hk; omega)
  have B8 := I7.out.2.2.1.turn ht8 (fun k hk => by have := ho k hk; omega)
  clear I7 ht8 ho hn1 hn2 hn3 p70 p71 p72
  obtain ⟨b0, b1, b2⟩ := (cell_of3 (B8.ig)).cells
  obtain ⟨a0, a1, a2⟩ := (cell_of3 (A8.ig)).cells
  go_wp2_with fail
  refine (eqLinState_yes u2 u1 D _ B8.st.ss A8.st.ss HFD.out.2).mono ?_
  rintro e w9 ⟨rfl, hb⟩
  clear b0 b1 b2 a0 a1 a2
  have G9 := G8.below hb
  have A9 := A8.below hb
  have B9 := B8.below hb
  clear G8 A8 B8 hb
  have b0 := (cell_of2 (B9.ir)).c0
  have b1 := (cell_of2 (B9.ir)).c1
  have a0 := (cell_of2 (A9.ir)).c0
  have a1 := (cell_of2 (A9.ir)).c1
  go_wp2_with fail
  refine (eqResRes_yes C V _).mono ?_
  rintro e w10 ⟨rfl, hb⟩
  clear b0 b1 a0 a1
  have G10 := G9.below hb
  have A10 := A9.below hb
  have B10 := B9.below hb
  clear G9 A9 B9 hb
  obtain ⟨b0, b1, b2⟩ := (cell_of3 (B10.ig)).cells
  have hq0 : ¬ (1 + 2 * (D.n : Int) + D.s.length + D.q.length < 0) := by omega
  go_wp2_with fail
  refine (markLinState_own _ _ u2 D _ B10.st HAG.out HFD.out.2 (Nat.le_trans B10.ll B10.ih) B10.ih).mono ?_
  rintro e w11 ⟨rfl, hmk, ht11⟩
  clear b0 b1 b2
  have ho : ∀ k, Own u2 D k → lo2 ≤ k ∧ k < hi2 := fun k hk => B10.st.own hk
  have hn1 := HN1.out
  have hn2 := HN2.out
  have hn3 := HN3.out
  have G11 := G10.markX B10.st ht11 ho (by omega) (Or.inr (by omega))
  have A11 := A10.turn ht11 (fun k hk => by have := ho k hk; omega)
  have B11 := B10.mark hmk ht11
  clear G10 A10 B10 ht11 hmk ho hn1 hn2 hn3
  obtain ⟨b0, b1, b2⟩ := (cell_of3 (B11.ig)).cells
  go_wp2_with fail
  refine (heldLinState_any u2 D _ B11.st.ss HFD.out.2).mono ?_
  rintro e w12 ⟨rfl, hb⟩
  clear b0 b1 b2
  have G12 := G11.below hb
  have A12 := A11.below hb
  have B12 := B11.below hb
  clear G11 A11 B11 hb
  have HC7 : Hid (∀ W v', SS W v' d → Room v' d → Somes v' → Below w12.heap.size w12 W → Calls Tryd.prog 12 #[stV v' d, .agg #[.int .i64 k, .int .i64 x, .int .i64 y]] W fun e w' => ∃ u, e = .returned (.tuple #[stV u D, .agg #[.int .i64 C, .int .i64 V]]) ∧ St W.heap.size w'.heap.size u D w' ∧ (fun u => Apart u D) u ∧ Below W.heap.size W w') := fun W v' h1 h2 h3 hb => himpl.out W v' h1 h2 h3 (tab_onto HW.out.2 (below_trans' G12.bel hb))
  have bx := cell_of3 (G12.bx (w.heap.size, #[v.m d, v.s d, v.q d], 27) (by simp))
  have bo := cell_of3 (G12.bx (w.heap.size + 1, #[.int .i64 k, .int .i64 x, .int .i64 y], 29) (by simp))
  have hg1 := HW.out.1.below G12.bel
  go_wp2
  refine regL24 bx bo hg1 (show Hid True from trivial) HFD.out.1 HC7 rfl rfl (by kernel_rfl) ?_
  rintro vs w13 ⟨hv, hn, u3, lo3, hi3, g3, g3', e8, e9, E13, hB1, hap⟩
  obtain ⟨z0, e0⟩ := hv 0 (by omega)
  obtain ⟨z1, e1⟩ := hv 1 (by omega)
  obtain ⟨z2, e2⟩ := hv 2 (by omega)
  obtain ⟨z3, e3⟩ := hv 3 (by omega)
  obtain ⟨z4, e4⟩ := hv 4 (by omega)
  obtain ⟨z5, e5⟩ := hv 5 (by omega)
  obtain ⟨z6, e6⟩ := hv 6 (by omega)
  obtain ⟨z7, e7⟩ := hv 7 (by omega)
  have e10 := hn 10 (by omega)
  have e11 := hn 11 (by omega)
  unfold opsL24
  simp only [putsF, e0, e1, e2, e3, e4, e5, e6, e7, e8, e9, e10, e11, Nat.zero_add, Nat.reduceAdd, Act.put, List.setIfInBounds_toArray, List.set_cons_zero, List.set_cons_succ]
  clear hv hn e0 e1 e2 e3 e4 e5 e6 e7 e8 e9 e10 e11
  have G13 := G12.below hB1
  have A13 := A12.below hB1
  have B13 := B12.below hB1
  clear G12 A12 B12 hB1 bx bo hg1 hap HC7
  obtain ⟨b0, b1, b2⟩ := (cell_of3 (E13.ig)).cells
  obtain ⟨a0, a1, a2⟩ := (cell_of3 (A13.ig)).cells
  go_wp2_with fail
  refine (eqLinState_yes u3 u1 D _ E13.st.ss A13.st.ss HFD.out.2).mono ?_
  rintro e w14 ⟨rfl, hb⟩
  clear b0 b1 b2 a0 a1 a2
  have G14 := G13.below hb
  have A14 := A13.below hb
  have B14 := B13.below hb
  have E14 := E13.below hb
  clear G13 A13 B13 E13 hb
  have b0 := (cell_of2 (E14.ir)).c0
  have b1 := (cell_of2 (E14.ir)).c1
  have a0 := (cell_of2 (A14.ir)).c0
  have a1 := (cell_of2 (A14.ir)).c1
  go_wp2_with fail
  refine (eqResRes_yes C V _).mono ?_
  rintro e w15 ⟨rfl, hb⟩
  clear b0 b1 a0 a1
  have G15 := G14.below hb
  have A15 := A14.below hb
  have B15 := B14.below hb
  have E15 := E14.below hb
  clear G14 A14 B14 E14 hb
  clear A15 E15
  obtain ⟨b0, b1, b2⟩ := (cell_of3 (B15.ig)).cells
  go_wp2_with fail
  refine (heldLinState_any u2 D _ B15.st.ss HFD.out.2).mono ?_
  rintro e w16 ⟨rfl, hb⟩
  have HB : Hid (Below w.heap.size w w16) := below_trans' G15.bel hb
  clear b0 b1 b2 G15 B15 hb
  go_wp2
  go_ret
  exact ⟨rfl, HB.out⟩

end Go.Proofs.YtklpdpdjblakgaaDoor
