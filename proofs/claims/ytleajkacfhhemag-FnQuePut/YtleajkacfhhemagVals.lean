/- The draw of values: l20Vals. -/
import Derived.Test.YtleajkacfhhemagDraw
namespace Go.Proofs.Ytleajkacfhhemag
open Go.RowKit
set_option linter.unusedVariables false

/-- The reader, and the values that were drawn, in a world W. -/
structure VInv (w : World) (R B q : Nat) (L : List Int) (N : Nat) (a : Option Addr) (c : Nat) (W : World) : Prop where
  rd : Rd W R q
  len : L.length = N
  own : W.ownsRow B 3 1 (.slice a N c) N (L.map (Value.int .i64))
  bel : Below R w W
  lt : R < B
  sz : B ≤ W.heap.size
  rng : ∀ x ∈ L, -1 ≤ x ∧ x ≤ 1000
  shape : ∃ g, a = some ⟨g, 0, none⟩

section
variable {w : World} {R B q : Nat} {L : List Int} {N : Nat} {a : Option Addr} {c : Nat} {W : World}

theorem rd_keep {W' : World} (hr : Rd W R q) (h : ∀ k, k ≤ R → W'.heap[k]? = W.heap[k]?) : Rd W' R q := by
  obtain ⟨a, m, c, hb, hm, hc⟩ := hr
  refine ⟨a, m, c, (h R (Nat.le_refl _)).trans hb, hm, ?_⟩
  rcases hc with h0 | ⟨b, off, ha, hbR, hc⟩
  · exact .inl h0
  · refine .inr ⟨b, off, ha, hbR, fun i hi => ?_⟩
    obtain ⟨x, x0, x1, hx⟩ := hc i hi
    exact ⟨x, x0, x1, (World.cell?_of_block (w := W) (a := ⟨b, off + i, none⟩) (h b (by omega))).trans hx⟩

theorem VInv.alloc (h : VInv w R B q L N a c W) (cs : Array Value) (t : TypeId) : VInv w R B q L N a c (W.alloc (.cells cs t)) := by
  have hs := h.sz
  have hl := h.lt
  exact { rd := rd_keep h.rd (fun k hk => Below.heap_alloc _ _ _ (by omega)), len := h.len, own := h.own.alloc _, bel := h.bel.alloc (by omega) _, lt := h.lt, sz := by simp; omega, rng := h.rng, shape := h.shape }

theorem own_heap {w w' : World} {base n : Nat} {v : Value} {xs : List Value} (h : w.ownsRow base 3 1 v n xs) (hb : ∀ g, base ≤ g → w'.heap[g]? = w.heap[g]?) : w'.ownsRow base 3 1 v n xs := by
  obtain ⟨h1, h2⟩ := h
  refine ⟨h1, ?_⟩
  rcases h2 with h2 | ⟨g, cap, cur, hv, hg, hh, r⟩
  · exact .inl h2
  · exact .inr ⟨g, cap, cur, hv, hg, (hb g hg).trans hh, r⟩

theorem picked_size {w w' : World} (h : Picked R q w w') : w'.heap.size = w.heap.size := by
  rw [h.1]; simp [World.setCell]

theorem VInv.picked (h : VInv w R B q L N a c W) {W' : World} {q' : Nat} (hp : Picked R q' W W') : VInv w R B q' L N a c W' := by
  have hs := h.sz
  have hl := h.lt
  exact { rd := rd_picked h.rd hp, len := h.len, own := own_heap h.own (fun g hg => heap_picked hp (by omega)), bel := h.bel.trans hp.2, lt := h.lt, sz := by rw [picked_size hp]; exact hs, rng := h.rng, shape := h.shape }

theorem VInv.grow (h : VInv w R B q L N a c W) {W' : World} {x : Int} {a' : Option Addr} {c' : Nat} (hg : W.grownBy W' (Value.ownBlock (.slice a N c))) (hx : -1 ≤ x ∧ x ≤ 1000) (ho : W'.ownsRow B 3 1 (.slice a' (N + 1) c') (N + 1) ((L ++ [x]).map (Value.int .i64))) :
    VInv w R B q (L ++ [x]) (N + 1) a' c' W' := by
  have hs := h.sz
  have hl := h.lt
  have hgs := hg.size
  exact { rd := rd_keep h.rd (fun k hk => hg.block k (by omega) (fun e => by have := (h.own.lt _ e.symm).1; omega)), len := by simp [h.len], own := ho,
          bel := h.bel.grown hg (by omega) (fun k e => by have := (h.own.lt _ e).1; omega), lt := hl, sz := by omega,
          rng := by
            intro y hy
            rcases List.mem_append.1 hy with h1 | h1
            · exact h.rng y h1
            · simp at h1; subst h1; exact hx
          shape := by
            rcases ho.2 with ⟨_, h0⟩ | ⟨g, cap, cur, e, _⟩
            · omega
            · cases e; exact ⟨g, rfl⟩ }

/-- A cell of a literal behind a pick. -/
theorem cell_lit_picked {W' : World} {cs : List Int} (hp : Picked R q (W.alloc (.cells (cs.map (Value.int .i64)).toArray 3)) W') (hR : R < W.heap.size) (k : Nat) (hk : k < cs.length) :
    W'.cell? ⟨W.heap.size, k, none⟩ = some (.int .i64 (cs.getD k 0)) := by
  have h := heap_picked hp (g := W.heap.size) (by omega)
  rw [World.cell?_of_block (a := ⟨W.heap.size, k, none⟩) h]
  rw [World.cell?_alloc_new]
  simp [hk, List.getD]
end

/-- What l20Vals answers. -/
def Drawn (R p : Nat) (w : World) (e : Ending) (w' : World) : Prop :=
  ∃ L N a c q, e = .returned (.slice a N c) ∧ VInv w R w.heap.size q L N a c w' ∧ N ≤ 9 ∧ q ≤ p + 20

theorem lit5 (k : Nat) (hk : k < 5) : 0 ≤ [(0 : Int), 1, 3, 8, 2].getD k 0 ∧ [(0 : Int), 1, 3, 8, 2].getD k 0 ≤ 8 := by
  match k, hk with
  | 0, _ => decide
  | 1, _ => decide
  | 2, _ => decide
  | 3, _ => decide
  | 4, _ => decide

theorem lit3 (k : Nat) (hk : k < 3) (x : Int) (h0 : 0 ≤ x) (h1 : x < 100) : -1 ≤ [(0 : Int), 999, x].getD k 0 ∧ [(0 : Int), 999, x].getD k 0 ≤ 1000 := by
  match k, hk with
  | 0, _ => exact ⟨by show (-1 : Int) ≤ 0; omega, by show (0 : Int) ≤ 1000; omega⟩
  | 1, _ => exact ⟨by show (-1 : Int) ≤ 999; omega, by show (999 : Int) ≤ 1000; omega⟩
  | 2, _ => exact ⟨by show -1 ≤ x; omega, by show x ≤ 1000; omega⟩

theorem lit6 (k : Nat) (hk : k < 6) : -1 ≤ [(-1 : Int), 1000, 0, 0, 0, 0].getD k 0 ∧ [(-1 : Int), 1000, 0, 0, 0, 0].getD k 0 ≤ 1000 := by
  match k, hk with
  | 0, _ => decide
  | 1, _ => decide
  | 2, _ => decide
  | 3, _ => decide
  | 4, _ => decide
  | 5, _ => decide

theorem cell_one_new' (w : World) (x : Int) : ∀ j u, [Value.int .i64 x][j]? = some u → (w.alloc (.cells #[.int .i64 x] 3)).cell? ((⟨w.heap.size, 0, none⟩ : Addr).add j) = some u := by
  intro j u hj
  cases j with
  | zero => simp at hj; subst hj; simp [Addr.add]
  | succ j => simp at hj

set_option maxHeartbeats 1000000 in
theorem vals_any (R p : Nat) (n : Int) (w : World) (hr : Rd w R p) (hRw : R < w.heap.size) (hp : p ≤ 900000) (hn : 1 ≤ n) (hn2 : n ≤ 1000) :
    Calls Try.prog 20 #[.pointer (some ⟨R, 0, none⟩), .int .i64 n] w (Drawn R p w) := by
  obtain ⟨i0, hi, hz0, hz1, hz2⟩ := info_parts Try.info3
  have I0 : VInv w R w.heap.size p [] 0 (some ⟨w.heap.size, 0, none⟩) 0 (w.alloc (.cells #[] 3)) :=
    { rd := rd_keep hr (fun k hk => Below.heap_alloc _ _ _ (by omega)), len := rfl, own := World.ownsRow_lit (base := w.heap.size) (e := 3) (size := 1) w #[] 0 (Nat.le_refl _) (by decide) (by simp), bel := (Below.refl _ _).alloc (by omega) _, lt := hRw, sz := by simp, rng := by simp, shape := ⟨_, rfl⟩ }
  have I0' := I0.alloc #[.int .i64 0, .int .i64 1, .int .i64 3, .int .i64 8, .int .i64 2] 3
  have hR1 : R < w.heap.size + 1 := by omega
  clear I0 hr
  go_enter Try.func20, Try.ntmps20
  go_wp2_with fail
  refine (pick_any R p 5 _ I0'.rd (by omega) (by omega) (by omega)).mono ?_
  rintro e w1 ⟨k, ⟨hk0, hk1⟩, rfl, hpk⟩
  obtain ⟨k, rfl⟩ := Int.eq_ofNat_of_zero_le hk0
  have I1 := I0'.picked hpk
  have hc := cell_lit_picked (cs := [0, 1, 3, 8, 2]) hpk (by simp; omega) k (by simp; omega)
  have hy := lit5 k (by omega)
  generalize [(0 : Int), 1, 3, 8, 2].getD k 0 = y at hc hy
  simp only [World.size_alloc] at hc
  clear I0' hpk
  have HI1 : Hid (VInv w R w.heap.size (p + 1) [] 0 (some ⟨w.heap.size, 0, none⟩) 0 w1) := I1
  clear I1
  have hk5 : k < 5 := by omega
  obtain ⟨hy0, hy8⟩ := hy
  obtain ⟨y, rfl⟩ := Int.eq_ofNat_of_zero_le hy0
  go_wp2
  clear hc hk0 hk1 hk5
  go_loopw [5, 6] (fun o i wr => ∃ (K : Nat) (L : List Int) (N : Nat) (a : Option Addr) (c q : Nat), i = .int .i64 K ∧ o = .slice a N c ∧ VInv w R w.heap.size q L N a c wr ∧ N + K ≤ 8 ∧ q + 2 * K ≤ p + 17)
    (fun _ i _ => (intOf i).toNat)
  case atStart => exact ⟨y, [], 0, _, _, _, rfl, rfl, HI1.out, by omega, by omega⟩
  case round =>
    clear HI1
    obtain ⟨K, L, N, a, c, q, rfl, rfl, I, hNK, hq⟩ := hrel
    have HI : Hid (VInv w R w.heap.size q L N a c wr) := I
    clear I
    by_cases hK : K = 0
    · subst hK
      go_wp2_with fail
      refine (odd_any R q n _ HI.out.rd (by omega) (by omega) (by omega)).mono ?_
      rintro e w2 ⟨od, rfl, hpk⟩
      have HI2 : Hid (VInv w R w.heap.size (q + 1) L N a c w2) := HI.out.picked hpk
      clear HI hpk
      cases od
      · go_wp2
        go_ret
        exact ⟨L, N, a, c, q + 1, rfl, HI2.out, by omega, by omega⟩
      · go_wp2_with fail
        refine (pick_any R (q + 1) 6 _ (HI2.out.alloc _ _).rd (by omega) (by omega) (by omega)).mono ?_
        rintro e w3 ⟨k, ⟨hk0, hk1⟩, rfl, hpk⟩
        obtain ⟨k, rfl⟩ := Int.eq_ofNat_of_zero_le hk0
        have hsz := HI2.out.sz
        have hc := cell_lit_picked (cs := [-1, 1000, 0, 0, 0, 0]) hpk (by omega) k (by simp; omega)
        have hy := lit6 k (by omega)
        generalize [(-1 : Int), 1000, 0, 0, 0, 0].getD k 0 = x at hc hy
        have HI3 : Hid (VInv w R w.heap.size (q + 1 + 1) L N a c w3) := (HI2.out.alloc _ _).picked hpk
        have hk6 : k < 6 := by omega
        have ownA := (HI3.out.alloc #[.int .i64 x] 3).own
        have hlen := HI3.out.len
        clear hpk HI2
        go_wp2_with (at_builtin; go_must (refine wpList_append_own _ rfl (.tmp 30) (.tmp 36) 23 rfl w.heap.size 3 i0 (.int .i64 0) 1 8 Try.underlying23 hi hz0 hz1 hz2 rfl (by decide) _ _ _ rfl ownA ⟨w3.heap.size, 0, none⟩ 1 _ [.int .i64 x] rfl rfl (cell_one_new' _ _) (by intro u hu; simp at hu; subst hu; rfl) (by unfold maxLen; omega) (by omega) (by have := (HI3.out.alloc #[.int .i64 x] 3).sz; exact this) ?_))
        intro v4 w4 hown hgrow _
        have hown' : w4.ownsRow w.heap.size 3 1 v4 (N + 1) ((L ++ [x]).map (Value.int .i64)) := by simpa using hown
        obtain ⟨a4, c4, hv, _⟩ := own_shape hown'
        rw [hv] at hown' ⊢
        have HI4 : Hid (VInv w R w.heap.size (q + 1 + 1) (L ++ [x]) (N + 1) a4 c4 w4) := (HI3.out.alloc _ _).grow hgrow hy hown'
        clear hown hgrow hown' hv HI3 ownA hc
        go_wp2
        go_ret
        exact ⟨L ++ [x], N + 1, a4, c4, q + 1 + 1, rfl, HI4.out, by omega, by omega⟩
    · have hK0 : (0 : Int) < (K : Int) := by omega
      go_wp2_with fail
      refine (pick_any R q 100 _ HI.out.rd (by omega) (by omega) (by omega)).mono ?_
      rintro e w2 ⟨k1, ⟨hk0, hk1⟩, rfl, hpk⟩
      have HI2 : Hid (VInv w R w.heap.size (q + 1) L N a c w2) := HI.out.picked hpk
      clear HI hpk
      go_wp2_with fail
      refine (pick_any R (q + 1) 3 _ (HI2.out.alloc _ _).rd (by omega) (by omega) (by omega)).mono ?_
      rintro e w3 ⟨k, ⟨hj0, hj1⟩, rfl, hpk⟩
      obtain ⟨k, rfl⟩ := Int.eq_ofNat_of_zero_le hj0
      have hsz := HI2.out.sz
      have hc := cell_lit_picked (cs := [0, 999, k1]) hpk (by omega) k (by simp; omega)
      have hy := lit3 k (by omega) k1 hk0 hk1
      generalize [(0 : Int), 999, k1].getD k 0 = x at hc hy
      have HI3 : Hid (VInv w R w.heap.size (q + 1 + 1) L N a c w3) := (HI2.out.alloc _ _).picked hpk
      have hk3 : k < 3 := by omega
      have ownA := (HI3.out.alloc #[.int .i64 x] 3).own
      clear hpk HI2
      go_wp2_with (at_builtin; go_must (refine wpList_append_own _ rfl (.tmp 17) (.tmp 25) 23 rfl w.heap.size 3 i0 (.int .i64 0) 1 8 Try.underlying23 hi hz0 hz1 hz2 rfl (by decide) _ _ _ rfl ownA ⟨w3.heap.size, 0, none⟩ 1 _ [.int .i64 x] rfl rfl (cell_one_new' _ _) (by intro u hu; simp at hu; subst hu; rfl) (by unfold maxLen; omega) (by omega) (by have := (HI3.out.alloc #[.int .i64 x] 3).sz; exact this) ?_))
      intro v4 w4 hown hgrow _
      have hown' : w4.ownsRow w.heap.size 3 1 v4 (N + 1) ((L ++ [x]).map (Value.int .i64)) := by simpa using hown
      obtain ⟨a4, c4, hv, _⟩ := own_shape hown'
      rw [hv] at hown' ⊢
      have HI4 : Hid (VInv w R w.heap.size (q + 1 + 1) (L ++ [x]) (N + 1) a4 c4 w4) := (HI3.out.alloc _ _).grow hgrow hy hown'
      clear hown hgrow hown' hv HI3 ownA hc
      go_wp2
      go_roundw
      case rel => exact ⟨K - 1, L ++ [x], N + 1, a4, c4, q + 1 + 1, by rw [show ((K - 1 : Nat) : Int) = (K : Int) - 1 by omega], rfl, HI4.out, by omega, by omega⟩
      case measure => simp [intOf]; omega

end Go.Proofs.Ytleajkacfhhemag
