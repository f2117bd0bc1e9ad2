/- l20Key, and the draws of entries and a key. -/
import Derived.Test.YtkfamlbalgolmaaLMap3
namespace Go.Proofs.Ytkfamlbalgolmaa
open Go.RowKit
set_option linter.unusedVariables false

/-- What a draw of a number answers. -/
def DrawnK (R p : Nat) (w : World) (e : Ending) (w' : World) : Prop := ∃ (x : Int) (q : Nat), e = .returned (.int .i64 x) ∧ Rd w' R q ∧ q ≤ p + 10 ∧ KB R w w'

set_option maxHeartbeats 1000000 in
theorem key_any (R p : Nat) (n : Int) (w : World) (hr : Rd w R p) (hRw : R < w.heap.size) (hp : p ≤ 900000) (hn : 1 ≤ n) (hn2 : n ≤ 1000) :
    Calls Try.prog 31 #[.pointer (some ⟨R, 0, none⟩), .int .i64 n] w (DrawnK R p w) := by
  go_enter Try.func31, Try.ntmps31
  go_wp2_with fail
  refine (odd_any R p n _ hr (by omega) (by omega) (by omega)).mono ?_
  rintro e w1 ⟨od, rfl, hpk⟩
  have HR1 : Hid (Rd w1 R (p + 1) ∧ KB R w w1) := ⟨rd_picked hr hpk, KB.of_picked hpk⟩
  clear hr hpk
  cases od
  · go_wp2_with fail
    refine (pick_any R (p + 1) 10 _ HR1.out.1 (by omega) (by omega) (by omega)).mono ?_
    rintro e w2 ⟨k1, hk1, rfl, hpk⟩
    have HR2 : Hid (Rd w2 R (p + 2) ∧ KB R w w2) := ⟨rd_picked HR1.out.1 hpk, HR1.out.2.trans (KB.of_picked hpk)⟩
    clear HR1 hpk hk1
    go_wp2_with fail
    refine (pick_any R (p + 2) 10 _ HR2.out.1 (by omega) (by omega) (by omega)).mono ?_
    rintro e w3 ⟨k2, hk2, rfl, hpk⟩
    have HR3 : Hid (Rd w3 R (p + 3) ∧ KB R w w3) := ⟨rd_picked HR2.out.1 hpk, HR2.out.2.trans (KB.of_picked hpk)⟩
    clear HR2 hpk hk2
    go_wp2_with fail
    refine (pick_any R (p + 3) 100 _ HR3.out.1 (by omega) (by omega) (by omega)).mono ?_
    rintro e w4 ⟨k3, hk3, rfl, hpk⟩
    have HR4 : Hid (Rd (w4.alloc (.cells #[.int .i64 k1, .int .i64 k2, .int .i64 k3, .int .i64 99] 3)) R (p + 4) ∧ KB R w (w4.alloc (.cells #[.int .i64 k1, .int .i64 k2, .int .i64 k3, .int .i64 99] 3)) ∧ w.heap.size ≤ w4.heap.size) := by
      have r := rd_picked HR3.out.1 hpk
      have k := HR3.out.2.trans (KB.of_picked hpk)
      exact ⟨rd_below r (al1 _ _), k.trans (KB.of_below (al1 _ _) (by have := k.size; omega)), k.size⟩
    clear HR3 hpk hk3
    go_wp2_with fail
    refine (pick_any R (p + 4) 4 _ HR4.out.1 (by omega) (by omega) (by omega)).mono ?_
    rintro e w5 ⟨k, ⟨hk0, hk1⟩, rfl, hpk⟩
    obtain ⟨k, rfl⟩ := Int.eq_ofNat_of_zero_le hk0
    have hk : k < 4 := by omega
    obtain ⟨x, hx⟩ := lit_new w4 [k1, k2, k3, 99] (k := k) (by simp; omega)
    have hx5 : w5.cell? ⟨w4.heap.size, k, none⟩ = some (.int .i64 x) := (KB.of_picked hpk).cell hx (by have := HR4.out.2.2; omega)
    have HR5 : Hid (Rd w5 R (p + 5) ∧ KB R w w5) := ⟨rd_picked HR4.out.1 hpk, HR4.out.2.1.trans (KB.of_picked hpk)⟩
    clear HR4 hpk hx
    go_wp2
    go_ret
    exact ⟨x, p + 5, rfl, HR5.out.1, by omega, HR5.out.2⟩
  · have HR2 : Hid (Rd (w1.alloc (.cells #[.int .i64 (-1), .int .i64 100, .int .i64 9223372036854775807] 3)) R (p + 1) ∧ KB R w (w1.alloc (.cells #[.int .i64 (-1), .int .i64 100, .int .i64 9223372036854775807] 3)) ∧ w.heap.size ≤ w1.heap.size) :=
      ⟨rd_below HR1.out.1 (al1 _ _), HR1.out.2.trans (KB.of_below (al1 _ _) (by have := HR1.out.2.size; omega)), HR1.out.2.size⟩
    clear HR1
    go_wp2_with fail
    refine (pick_any R (p + 1) 3 _ HR2.out.1 (by omega) (by omega) (by omega)).mono ?_
    rintro e w5 ⟨k, ⟨hk0, hk1⟩, rfl, hpk⟩
    obtain ⟨k, rfl⟩ := Int.eq_ofNat_of_zero_le hk0
    have hk : k < 3 := by omega
    obtain ⟨x, hx⟩ := lit_new w1 [-1, 100, 9223372036854775807] (k := k) (by simp; omega)
    have hx5 : w5.cell? ⟨w1.heap.size, k, none⟩ = some (.int .i64 x) := (KB.of_picked hpk).cell hx (by have := HR2.out.2.2; omega)
    have HR5 : Hid (Rd w5 R (p + 2) ∧ KB R w w5) := ⟨rd_picked HR2.out.1 hpk, HR2.out.2.1.trans (KB.of_picked hpk)⟩
    clear HR2 hpk hx
    go_wp2
    go_ret
    exact ⟨x, p + 2, rfl, HR5.out.1, by omega, HR5.out.2⟩

/-- What a draw of entries and a key answers. -/
def DrawnMK (w : World) (e : Ending) (w' : World) : Prop :=
  ∃ (L : List Int) (N : Nat) (a : Option Addr) (c : Nat) (x : Int), e = .returned (.tuple #[.agg #[.slice a N c], .int .i64 x]) ∧ w'.ownsRow w.heap.size 41 2 (.slice a N c) N (L.map (Value.int .i64)) ∧ N ≤ 9 ∧ Below w.heap.size w w'

set_option maxHeartbeats 1000000 in
theorem drawMapGet_any (a : Option Addr) (n cap : Nat) (w : World) (hs : SBytes w a n) (hc : n ≤ cap) (hn : n ≤ 1048576) :
    Calls Try.prog 20 #[.slice a n cap] w (DrawnMK w) := by
  have A := al1 w (.cells #[.slice none 0 0] 25)
  have z0 := cell_at w #[.slice none 0 0] 25 0 rfl (v := .slice none 0 0) rfl
  have zf := frozen_at w #[.slice none 0 0] 25 0 rfl
  have hs1 := sbytes_below hs A
  have hwz : w.heap.size < (w.alloc (.cells #[.slice none 0 0] 25)).heap.size := by simp
  go_enter Try.func20, Try.ntmps20
  go_wp2_with fail
  refine (open_any a n cap _ hc hn).mono ?_
  generalize w.alloc (.cells #[.slice none 0 0] 25) = w0 at A z0 zf hs1 hwz ⊢
  rintro e w1 ⟨m, c, ⟨hm, h3⟩, rfl, hw1⟩
  have hrd : Rd w1 w0.heap.size 0 := by rw [hw1]; exact rd_open w0 a n m c hs1 hm h3
  have hb1 : Below w0.heap.size w0 w1 := by rw [hw1]; exact al1 _ _
  have hsz : w0.heap.size < w1.heap.size := by rw [hw1]; simp
  have z1 := cell_kept hb1 z0
  have f1 := (hb1.frozen (p := ⟨w.heap.size, 0, none⟩) hwz).trans zf
  have HB1 : Hid (Below w.heap.size w w1) := below_trans' A hb1
  clear hw1 hb1 A z0 zf hs hs1
  go_wp2_with fail
  refine (map_any w0.heap.size 0 9 w1 hrd hsz (by omega) (by omega) (by omega)).mono ?_
  rintro e w2 ⟨L, N, a2, c2, q2, rfl, ho2, hN, hr2, hq2, k2⟩
  have hsz2 : w0.heap.size < w2.heap.size := Nat.lt_of_lt_of_le hsz k2.size
  have H2 : Hid (w2.ownsRow w1.heap.size 41 2 (.slice a2 N c2) N (L.map (Value.int .i64)) ∧ KB w0.heap.size w1 w2 ∧ w0.heap.size < w1.heap.size) := ⟨ho2, k2, hsz⟩
  clear ho2 k2 hrd
  go_wp2_with fail
  refine (key_any w0.heap.size q2 9 w2 hr2 hsz2 (by omega) (by omega) (by omega)).mono ?_
  rintro e w3 ⟨x, q3, rfl, hr3, hq3, k3⟩
  have k13 := H2.out.2.1.trans k3
  have z3 := k13.cell z1 (by omega)
  have f3 := (k13.frozen (b := w.heap.size) (o := 0) (by omega) (by omega)).trans f1
  have H3 : Hid (w3.ownsRow w1.heap.size 41 2 (.slice a2 N c2) N (L.map (Value.int .i64)) ∧ Below w.heap.size w w3 ∧ w.heap.size < w1.heap.size) :=
    ⟨own_block H2.out.1 (fun g hg => k3.block g (own_typed H2.out.1 hg).2.1 (by have := (own_typed H2.out.1 hg).1; have := H2.out.2.2; omega)), HB1.out.trans (k13.bel.mono (by omega)), by have := H2.out.2.2; omega⟩
  clear H2 k13 hr2 hr3 z1 f1 k3
  go_wp2
  refine bodyPost_ret (v := .tuple #[.agg #[.slice a2 N c2], .int .i64 x]) (by simp [results, Try.results20, go_sem, z3]) rfl ⟨L, N, a2, c2, x, rfl, ?_, hN, H3.out.2.1.setCell (p := ⟨w.heap.size, 0, none⟩) (Nat.le_refl _) _⟩
  exact own_mono (ownsRow_setCell_other H3.out.1 (fun e => by have := (own_typed H3.out.1 e).1; have := H3.out.2.2; dsimp only at *; omega) _) (by have := H3.out.2.2; omega)

end Go.Proofs.Ytkfamlbalgolmaa
