/- The draws: the reader, pick, odd. -/
import Derived.Test.YtafhlflddndgjaaDoorInv
namespace Go.Proofs.YtafhlflddndgjaaDoor
open Go.RowKit
set_option linter.unusedVariables false

/-- The slice of length n at a reads as some bytes. -/
def SBytes (w : World) (a : Option Addr) (n : Nat) : Prop :=
  n = 0 ∨ ∃ b off, a = some ⟨b, off, none⟩ ∧ ∀ i, i < n → ∃ x : Int, 0 ≤ x ∧ x ≤ 255 ∧ w.cell? ⟨b, off + i, none⟩ = some (.int .u8 x)

/-- What l20Open does. -/
def Opened (a : Option Addr) (n : Nat) (w : World) (e : Ending) (w' : World) : Prop :=
  ∃ m c, (m ≤ n ∧ m ≤ 3000) ∧ e = .returned (.pointer (some ⟨w.heap.size, 0, none⟩)) ∧ w' = w.alloc (.cells #[.slice a m c, .int .i64 0] 62)

set_option maxHeartbeats 400000 in
theorem open_any (a : Option Addr) (n cap : Nat) (w : World) (hc : n ≤ cap) (hn : n ≤ 1048576) :
    Calls Tryd.prog 18 #[.slice a n cap] w (Opened a n w) := by
  by_cases h : 3000 < n
  · have hi : (3000 : Int) < (n : Int) := by omega
    have hc' : 3000 ≤ cap := by omega
    clear hc
    go_enter Tryd.func18, Tryd.ntmps18
    go_wp2
    go_ret
    exact ⟨3000, cap, ⟨by omega, by omega⟩, rfl, rfl⟩
  · have hi : ¬ (3000 : Int) < (n : Int) := by omega
    go_enter Tryd.func18, Tryd.ntmps18
    go_wp2
    go_ret
    exact ⟨n, cap, ⟨Nat.le_refl _, by omega⟩, rfl, rfl⟩

/-- What pick does to the world. -/
def Picked (R : Nat) (q : Nat) (w w' : World) : Prop := w'.heap = (w.setCell ⟨R, 1, none⟩ (.int .i64 q)).heap ∧ Below R w w'

theorem picked_mk (R q : Nat) (w : World) : Picked R q w (w.setCell ⟨R, 1, none⟩ (.int .i64 q)) := ⟨rfl, (Below.refl R w).setCell (p := ⟨R, 1, none⟩) (Nat.le_refl _) _⟩

theorem Picked.drewN {R q : Nat} {w w' : World} (h : Picked R q w w') (n : Nat) : Picked R q w (w'.drewN n) := by
  obtain ⟨h1, h2⟩ := h
  exact ⟨h1, ⟨h2.os, h2.tape, h2.output, h2.size, h2.block⟩⟩

set_option maxHeartbeats 400000 in
theorem pick_none (R : Nat) (a : Option Addr) (c : Nat) (p : Nat) (n : Int) (w : World) (hr : w.heap[R]? = some (.cells #[.slice a 0 c, .int .i64 p] 62)) (hp : p ≤ 1000000) (hn : ¬ n < 1) :
    Calls Tryd.prog 20 #[.pointer (some ⟨R, 0, none⟩), .int .i64 n] w fun e w' => e = .returned (.int .i64 0) ∧ Picked R (p + 1) w w' := by
  have hfz := frozen_of_row w R 1 _ _ hr
  have hc1 : w.cell? ⟨R, 1, none⟩ = some (.int .i64 p) := by simp [World.cell?, hr]
  have hc0 : (w.setCell ⟨R, 1, none⟩ (.int .i64 (↑p + 1))).cell? ⟨R, 0, none⟩ = some (.slice a 0 c) := by
    exact (World.cell?_setCell_other w _ _ _ (by simp)).trans (by simp [World.cell?, hr])
  go_enter Tryd.func20, Tryd.ntmps20
  go_wp2
  exact bodyPost_ret (v := .int .i64 0) (by simp [results, Tryd.results20, go_sem]) rfl ⟨rfl, picked_mk _ _ _⟩

set_option maxHeartbeats 400000 in
theorem pick_near (R : Nat) (b off m c : Nat) (p : Nat) (n x : Int) (w : World) (hr : w.heap[R]? = some (.cells #[.slice (some ⟨b, off, none⟩) m c, .int .i64 p] 62)) (hp : p ≤ 1000000) (hn : ¬ n < 1)
    (hm : p < m) (hm2 : m ≤ 3000) (hbR : b ≠ R) (hx0 : 0 ≤ x) (hx1 : x ≤ 255) (hx : w.cell? ⟨b, off + p, none⟩ = some (.int .u8 x)) :
    Calls Tryd.prog 20 #[.pointer (some ⟨R, 0, none⟩), .int .i64 n] w fun e w' => e = .returned (.int .i64 (x % n)) ∧ Picked R (p + 1) w w' := by
  have hfz := frozen_of_row w R 1 _ _ hr
  have hc1 : w.cell? ⟨R, 1, none⟩ = some (.int .i64 p) := by simp [World.cell?, hr]
  have hc0 : (w.setCell ⟨R, 1, none⟩ (.int .i64 (↑p + 1))).cell? ⟨R, 0, none⟩ = some (.slice (some ⟨b, off, none⟩) m c) := by
    exact (World.cell?_setCell_other w _ _ _ (by simp)).trans (by simp [World.cell?, hr])
  have hcx : (w.setCell ⟨R, 1, none⟩ (.int .i64 (↑p + 1))).cell? ⟨b, off + p, none⟩ = some (.int .u8 x) := by
    exact (World.cell?_setCell_other w _ _ _ (by simp)).trans hx
  have hm0 : ((m : Int) == 0) = false := by simp; omega
  have hmi : (p : Int) < (m : Int) := by omega
  clear hx hr
  go_enter Tryd.func20, Tryd.ntmps20
  go_wp2
  exact bodyPost_ret (v := .int .i64 (x % n)) (by simp [results, Tryd.results20, go_sem]) rfl ⟨rfl, picked_mk _ _ _⟩

theorem wrap_i64_small (n : Int) (h0 : 0 ≤ n) (h1 : n < 9223372036854775808) : IntKind.i64.wrap n = n := by
  simp [IntKind.wrap, IntKind.bits, IntKind.signed]
  omega

theorem xor_i64_pos (X Y : Int) (h0 : 0 ≤ X) (h1 : X < 9223372036854775808) (h2 : 0 ≤ Y) (h3 : Y < 9223372036854775808) : 0 ≤ bits .xor .i64 X Y := by
  obtain ⟨a, rfl⟩ := Int.eq_ofNat_of_zero_le h0
  obtain ⟨b, rfl⟩ := Int.eq_ofNat_of_zero_le h2
  have hx : a ^^^ b < 2 ^ 63 := Nat.xor_lt_two_pow (by omega) (by omega)
  have e1 : (BitVec.ofInt 64 (a : Int)).toNat = a := by
    rw [BitVec.ofInt_natCast, BitVec.toNat_ofNat]; exact Nat.mod_eq_of_lt (by omega)
  have e2 : (BitVec.ofInt 64 (b : Int)).toNat = b := by
    rw [BitVec.ofInt_natCast, BitVec.toNat_ofNat]; exact Nat.mod_eq_of_lt (by omega)
  show 0 ≤ IntKind.i64.wrap ((BitVec.ofInt 64 (a : Int) ^^^ BitVec.ofInt 64 (b : Int)).toNat : Int)
  rw [BitVec.toNat_xor, e1, e2, wrap_i64_small _ (by omega) (by omega)]
  omega

theorem tmod_in {x n : Int} (h0 : 0 ≤ x) (hn : 1 ≤ n) : 0 ≤ x.tmod n ∧ x.tmod n < n :=
  ⟨Int.tmod_nonneg _ h0, Int.tmod_lt_of_pos _ (by omega)⟩

set_option maxHeartbeats 1000000 in
theorem pick_far (R : Nat) (b off m c : Nat) (p : Nat) (n x y : Int) (w : World) (hr : w.heap[R]? = some (.cells #[.slice (some ⟨b, off, none⟩) m c, .int .i64 p] 62)) (hp : p ≤ 1000000) (hn : ¬ n < 1) (hn2 : n ≤ 1000)
    (hm : ¬ p < m) (hm2 : m ≤ 3000) (hm3 : 0 < m) (hbR : b ≠ R) (hx0 : 0 ≤ x) (hx1 : x ≤ 255) (hx : w.cell? ⟨b, off + p % m, none⟩ = some (.int .u8 x)) (hy0 : 0 ≤ y) (hy1 : y ≤ 255) (hy : w.cell? ⟨b, off + (p * 7 + 3) % m, none⟩ = some (.int .u8 y)) :
    Calls Tryd.prog 20 #[.pointer (some ⟨R, 0, none⟩), .int .i64 n] w fun e w' => ∃ k : Int, 0 ≤ k ∧ k < n ∧ e = .returned (.int .i64 k) ∧ Picked R (p + 1) w w' := by
  have hfz := frozen_of_row w R 1 _ _ hr
  have hc1 : w.cell? ⟨R, 1, none⟩ = some (.int .i64 p) := by simp [World.cell?, hr]
  have hc0 : (w.setCell ⟨R, 1, none⟩ (.int .i64 (↑p + 1))).cell? ⟨R, 0, none⟩ = some (.slice (some ⟨b, off, none⟩) m c) := by
    exact (World.cell?_setCell_other w _ _ _ (by simp)).trans (by simp [World.cell?, hr])
  have hcx : (w.setCell ⟨R, 1, none⟩ (.int .i64 (↑p + 1))).cell? ⟨b, off + p % m, none⟩ = some (.int .u8 x) := by
    exact (World.cell?_setCell_other w _ _ _ (by simp)).trans hx
  have hcy : (w.setCell ⟨R, 1, none⟩ (.int .i64 (↑p + 1))).cell? ⟨b, off + (p * 7 + 3) % m, none⟩ = some (.int .u8 y) := by
    exact (World.cell?_setCell_other w _ _ _ (by simp)).trans hy
  have hm0 : ((m : Int) == 0) = false := by simp; omega
  have hmi : ¬ (p : Int) < (m : Int) := by omega
  have l1 : p % m < m := Nat.mod_lt _ hm3
  have l2 : (p * 7 + 3) % m < m := Nat.mod_lt _ hm3
  have e2 : ((p : Int) * 7 + 3) % (m : Int) = ((((p * 7 + 3) % m : Nat)) : Int) := by simp
  generalize (p * 7 + 3) % m = j at hcy l2 e2 hy
  have e3 : (p : Int) / (m : Int) = ((p / m : Nat) : Int) := by simp
  have l3 : p / m ≤ p := Nat.div_le_self _ _
  generalize p / m = q at e3 l3
  clear hx hy hr
  go_enter Tryd.func20, Tryd.ntmps20
  go_wp2
  go_quiet (fail)
  go_wp2
  have hX0 : 0 ≤ x * 131 + y * 1117 + (p : Int) * 29 + (q : Int) * 53 := by omega
  have hX1 : x * 131 + y * 1117 + (p : Int) * 29 + (q : Int) * 53 < 9223372036854775808 := by omega
  have ht := tmod_in (n := n) (xor_i64_pos _ ((x * 131 + y * 1117 + (p : Int) * 29 + (q : Int) * 53) / 64) hX0 hX1 (by omega) (by omega)) (by omega)
  exact bodyPost_ret (by simp [results, Tryd.results20, go_sem]) rfl ⟨_, ht.1, ht.2, rfl, (picked_mk R (p + 1) w).drewN nq⟩

/-- The reader at R, that has read p times. -/
def Rd (w : World) (R p : Nat) : Prop := ∃ a m c, w.heap[R]? = some (.cells #[.slice a m c, .int .i64 p] 62) ∧ m ≤ 3000 ∧
  (m = 0 ∨ ∃ b off, a = some ⟨b, off, none⟩ ∧ b < R ∧ ∀ i, i < m → ∃ x : Int, 0 ≤ x ∧ x ≤ 255 ∧ w.cell? ⟨b, off + i, none⟩ = some (.int .u8 x))

/-- What pick answers. -/
def Picks (R p : Nat) (n : Int) (w : World) (e : Ending) (w' : World) : Prop := ∃ k : Int, (0 ≤ k ∧ k < n) ∧ e = .returned (.int .i64 k) ∧ Picked R (p + 1) w w'

theorem pick_any (R p : Nat) (n : Int) (w : World) (hr : Rd w R p) (hp : p ≤ 1000000) (hn : 1 ≤ n) (hn2 : n ≤ 1000) :
    Calls Tryd.prog 20 #[.pointer (some ⟨R, 0, none⟩), .int .i64 n] w (Picks R p n w) := by
  obtain ⟨a, m, c, hb, hm, h0 | ⟨b, off, rfl, hbR, hc⟩⟩ := hr
  · subst h0
    exact (pick_none R a c p n w hb hp (by omega)).mono fun e w' ⟨he, hw⟩ => ⟨0, ⟨by omega, by omega⟩, he, hw⟩
  · by_cases h0 : m = 0
    · subst h0
      exact (pick_none R _ c p n w hb hp (by omega)).mono fun e w' ⟨he, hw⟩ => ⟨0, ⟨by omega, by omega⟩, he, hw⟩
    · by_cases h : p < m
      · obtain ⟨x, x0, x1, hx⟩ := hc p h
        exact (pick_near R b off m c p n x w hb hp (by omega) h hm (by omega) x0 x1 hx).mono fun e w' ⟨he, hw⟩ => ⟨_, ⟨Int.emod_nonneg _ (by omega), Int.emod_lt_of_pos _ (by omega)⟩, he, hw⟩
      · obtain ⟨x, x0, x1, hx⟩ := hc (p % m) (Nat.mod_lt _ (by omega))
        obtain ⟨y, y0, y1, hy⟩ := hc ((p * 7 + 3) % m) (Nat.mod_lt _ (by omega))
        exact (pick_far R b off m c p n x y w hb hp (by omega) hn2 h hm (by omega) (by omega) x0 x1 hx y0 y1 hy).mono fun e w' ⟨k, k0, k1, he, hw⟩ => ⟨k, ⟨k0, k1⟩, he, hw⟩

theorem rd_picked {w w' : World} {R p q : Nat} (hr : Rd w R p) (h : Picked R q w w') : Rd w' R q := by
  obtain ⟨a, m, c, hb, hm, hc⟩ := hr
  obtain ⟨he, hbl⟩ := h
  refine ⟨a, m, c, ?_, hm, ?_⟩
  · rw [he]
    simp [World.setCell, Array.getElem?_modify, hb]
  · rcases hc with h0 | ⟨b, off, ha, hbR, hc⟩
    · exact .inl h0
    · refine .inr ⟨b, off, ha, hbR, fun i hi => ?_⟩
      obtain ⟨x, x0, x1, hx⟩ := hc i hi
      exact ⟨x, x0, x1, (hbl.cell hbR).trans hx⟩

theorem heap_picked {w w' : World} {R q g : Nat} (h : Picked R q w w') (hg : g ≠ R) : w'.heap[g]? = w.heap[g]? := by
  rw [h.1]
  simp [World.setCell, Array.getElem?_modify, Ne.symm hg]

/-- What odd answers. -/
def Odds (R p : Nat) (w : World) (e : Ending) (w' : World) : Prop := ∃ k : Bool, e = .returned (.bool k) ∧ Picked R (p + 1) w w'

set_option maxHeartbeats 400000 in
theorem odd_any (R p : Nat) (n : Int) (w : World) (hr : Rd w R p) (hp : p ≤ 1000000) (hn : 1 ≤ n) (hn2 : n ≤ 1000) :
    Calls Tryd.prog 26 #[.pointer (some ⟨R, 0, none⟩), .int .i64 n] w (Odds R p w) := by
  go_enter Tryd.func26, Tryd.ntmps26
  go_wp2_with (go_at_call 20; refine (pick_any R p n _ hr hp hn hn2).mono ?_; rintro e w' ⟨k, ⟨hk0, hk1⟩, rfl, hpk⟩)
  go_ret
  exact ⟨_, rfl, hpk⟩

end Go.Proofs.YtafhlflddndgjaaDoor
