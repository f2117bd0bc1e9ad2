/- The draw of a list and a number. -/
import Derived.Test.YtleajkacfhhemagPList
namespace Go.Proofs.Ytleajkacfhhemag
open Go.RowKit
set_option linter.unusedVariables false

/-- What a draw of a list and a number answers. -/
def DrawnV (w : World) (e : Ending) (w' : World) : Prop :=
  ∃ (L : List Int) (N g c : Nat) (x : Int), e = .returned (.tuple #[.slice (some ⟨g, 0, none⟩) N c, .int .i64 x]) ∧ w'.ownsRow w.heap.size 3 1 (.slice (some ⟨g, 0, none⟩) N c) N (L.map (Value.int .i64)) ∧ N ≤ 9 ∧ Below w.heap.size w w'

theorem cell_lit_new {cs : List Int} (W : World) (k : Nat) (hk : k < cs.length) : (W.alloc (.cells (cs.map (Value.int .i64)).toArray 3)).cell? ⟨W.heap.size, k, none⟩ = some (.int .i64 (cs.getD k 0)) := by
  rw [World.cell?_alloc_new]
  simp [hk, List.getD]

set_option maxHeartbeats 1600000 in
theorem drawStkPush_any (a : Option Addr) (n cap : Nat) (w : World) (hs : SBytes w a n) (hc : n ≤ cap) (hn : n ≤ 1048576) :
    Calls Try.prog 6 #[.slice a n cap] w (DrawnV w) := by
  go_enter Try.func6, Try.ntmps6
  go_wp2_with fail
  refine (open_any a n cap w hc hn).mono ?_
  rintro e w1 ⟨m, c, ⟨hm, h3⟩, rfl, hw1⟩
  have hrd : Rd w1 w.heap.size 0 := by rw [hw1]; exact rd_open w a n m c hs hm h3
  have hsz : w.heap.size < w1.heap.size := by rw [hw1]; simp
  have HB : Hid (Below w.heap.size w w1) := by rw [hw1]; exact (Below.refl w.heap.size w).alloc (Nat.le_refl _) _
  have HR : Hid (Rd w1.drew w.heap.size 0) := hrd
  clear hw1 hrd
  go_wp2
  go_region_with (first
    | (go_at_call 20; go_must (refine (vals_any w.heap.size 0 9 w1.drew HR.out hsz (by omega) (by omega) (by omega)).mono ?_; rintro e w2 ⟨L, N, a2, c2, q2, rfl, I2, hN, hq2⟩; obtain ⟨g, rfl⟩ := I2.shape; have HI2 : Hid (VInv w1.drew w.heap.size w1.drew.heap.size q2 L N (some ⟨g, 0, none⟩) c2 w2) := I2; clear I2))
    | (go_at_call_of 21 (Value.int IntKind.i64 100); go_must (refine (pick_any w.heap.size q2 100 _ HI2.out.rd (by omega) (by omega) (by omega)).mono ?_; rintro e w3 ⟨k1, ⟨hk0, hk1⟩, rfl, hpk⟩; have HI3 : Hid (VInv w1.drew w.heap.size w1.drew.heap.size (q2 + 1) L N (some ⟨g, 0, none⟩) c2 w3) := HI2.out.picked hpk; clear hpk))
    | (go_at_call_of 21 (Value.int IntKind.i64 5); first
        | (refine (pick_any w.heap.size (q2 + 1) 5 w3 HI3.out.rd (by omega) (by omega) (by omega)).mono ?_; rintro e w4 ⟨k, ⟨hj0, hj1⟩, rfl, hpk⟩; obtain ⟨k, rfl⟩ := Int.eq_ofNat_of_zero_le hj0; have HI4 : Hid (VInv w1.drew w.heap.size w1.drew.heap.size (q2 + 1 + 1) L N (some ⟨g, 0, none⟩) c2 (w4.alloc (.cells #[.int .i64 k1, .int .i64 999, .int .i64 1000, .int .i64 (-1), .int .i64 0] 3))) := (HI3.out.picked hpk).alloc _ _; have hcell := cell_lit_new (cs := [k1, 999, 1000, -1, 0]) w4 k (by simp; omega); generalize [k1, 999, 1000, -1, (0 : Int)].getD k 0 = x at hcell; have hk5 : k < 5 := by omega)
        | (refine (pick_any w.heap.size (q2 + 1) 5 _ (HI3.out.alloc _ _).rd (by omega) (by omega) (by omega)).mono ?_; rintro e w4 ⟨k, ⟨hj0, hj1⟩, rfl, hpk⟩; obtain ⟨k, rfl⟩ := Int.eq_ofNat_of_zero_le hj0; have HI4 : Hid (VInv w1.drew w.heap.size w1.drew.heap.size (q2 + 1 + 1) L N (some ⟨g, 0, none⟩) c2 w4) := (HI3.out.alloc _ _).picked hpk; have hcell := cell_lit_picked (cs := [k1, 999, 1000, -1, 0]) hpk (by have := HI3.out.sz; have h2 : w1.drew.heap.size = w1.heap.size := rfl; omega) k (by simp; omega); generalize [k1, 999, 1000, -1, (0 : Int)].getD k 0 = x at hcell; have hk5 : k < 5 := by omega)))
  all_goals
    go_wp2
    refine bodyPost_ret (v := .tuple #[.slice (some ⟨g, 0, none⟩) N c2, .int .i64 x]) (by simp [results, Try.results6, go_sem] <;> (have h := hcell; simp [hk5] at h; exact h)) rfl ⟨L, N, g, c2, x, rfl, own_mono HI4.out.own (by show w.heap.size ≤ w1.heap.size; omega), hN, HB.out.drew.trans HI4.out.bel⟩

end Go.Proofs.Ytleajkacfhhemag
