/- Contracts of MapCount, of the specification's and of the program's. -/
import Derived.Test.YtkfamlbalgolmaaNext
namespace Go.Proofs.Ytkfamlbalgolmaa
open Go.RowKit
set_option linter.unusedVariables false

/-- How many of the first k keys are from a key on. -/
def cntN (zs : List Int) (key : Int) : Nat → Nat
  | 0 => 0
  | k + 1 => if geK key (keyAt zs k) then cntN zs key k + 1 else cntN zs key k
def cntV (zs : List Int) (n : Nat) (key : Int) : Int := cntN zs key n
theorem cntN_le (zs : List Int) (key : Int) (k : Nat) : cntN zs key k ≤ k := by
  induction k with
  | zero => simp [cntN]
  | succ k ih => unfold cntN; split <;> omega
theorem cntN_yes {zs : List Int} {key x : Int} {k : Nat} (hx : keyAt zs k = x) (h : key ≤ x) : cntN zs key (k + 1) = cntN zs key k + 1 := by
  simp [cntN, hx, geK_yes h]
theorem cntN_no {zs : List Int} {key x : Int} {k : Nat} (hx : keyAt zs k = x) (h : x < key) : cntN zs key (k + 1) = cntN zs key k := by
  simp [cntN, hx, geK_no h]

set_option maxHeartbeats 400000 in
theorem specMapCount_any (a : Option Addr) (n cap : Nat) (zs : List Int) (key : Int) (w : World) (hs : SInts w a (n * 2) zs) (hn : n ≤ 1048576) :
    Calls Try.prog 28 #[.agg #[.slice a n cap], .int .i64 key] w fun e w' => e = .returned (.agg #[.int .i64 2, .int .i64 (cntV zs n key)]) ∧ Below w.heap.size w w' := by
  have hb0 : ∀ o o1, Below w.heap.size w ((w.alloc o).alloc o1) := fun o o1 => ((Below.refl _ _).alloc (Nat.le_refl _) o).alloc (by simp) o1
  go_enter Try.func28, Try.ntmps28
  go_wp2
  go_loop [5, 6] (fun c i => ∃ k m : Nat, k ≤ n ∧ m ≤ k ∧ i = .int .i64 k ∧ c = .int .i64 m ∧ m = cntN zs key k) (fun _ i => n - (intOf i).toNat)
  case atStart => exact ⟨0, 0, Nat.zero_le _, Nat.le_refl _, rfl, rfl, rfl⟩
  case round =>
    obtain ⟨k, m, hk, hmk, rfl, rfl, hm0⟩ := hrel
    have HM : Hid (m = cntN zs key k) := hm0
    clear hm0
    by_cases hlt : k < n
    · obtain ⟨b, off, rfl⟩ := hs.addr (by omega)
      obtain ⟨x, hx⟩ : ∃ x, keyAt zs k = x := ⟨_, rfl⟩
      have h1 := (hs.below (hb0 (.cells #[.slice (some ⟨b, off, none⟩) n cap] 25) (.cells #[.int .i64 0, .int .i64 0] 29))).keyCell hlt
      rw [hx] at h1
      have HX : Hid (keyAt zs k = x) := hx
      clear hx hs
      by_cases hp : key ≤ x
      · go_wp2
        go_round
        case rel => exact ⟨k + 1, m + 1, by omega, by omega, by go_num, by go_num, by rw [cntN_yes HX.out hp, HM.out]⟩
        case measure => simp [intOf]; omega
      · go_wp2
        go_round
        case rel => exact ⟨k + 1, m, by omega, by omega, by go_num, rfl, by rw [cntN_no HX.out (by omega), HM.out]⟩
        case measure => simp [intOf]; omega
    · obtain rfl : k = n := by omega
      clear hs
      go_wp2
      exact bodyPost_ret (v := .agg #[.int .i64 2, .int .i64 m]) (by simp [results, Try.results28, go_sem]) rfl ⟨by rw [HM.out]; rfl, hb0 _ _⟩

set_option maxHeartbeats 400000 in
theorem implMapCount_any (a : Option Addr) (n cap : Nat) (zs : List Int) (key : Int) (w : World) (hs : SInts w a (n * 2) zs) (hn : n ≤ 1048576) :
    Calls Try.prog 27 #[.agg #[.slice a n cap], .int .i64 key] w fun e w' => e = .returned (.agg #[.int .i64 2, .int .i64 (cntV zs n key)]) ∧ Below w.heap.size w w' := by
  have al : ∀ (W : World) (o : Obj), Below W.heap.size W (W.alloc o) := fun W o => (Below.refl _ _).alloc (Nat.le_refl _) o
  have hb0 : ∀ o o1, Below w.heap.size w ((w.alloc o).alloc o1) := fun o o1 => ((Below.refl _ _).alloc (Nat.le_refl _) o).alloc (by simp) o1
  go_enter Try.func27, Try.ntmps27
  go_wp2
  go_loopw [5, 11] (fun c i wr => ∃ k m : Nat, k ≤ n ∧ m ≤ k ∧ i = .int .i64 k ∧ c = .int .i64 m ∧ m = cntN zs key k ∧ Below w.heap.size w wr ∧ wr.cell? ⟨w.heap.size + 1, 0, none⟩ = some (.int .i64 0) ∧ wr.cell? ⟨w.heap.size + 1, 1, none⟩ = some (.int .i64 0) ∧ wr.frozen? ⟨w.heap.size + 1, 0, none⟩ = false ∧ wr.frozen? ⟨w.heap.size + 1, 1, none⟩ = false) (fun _ i _ => n - (intOf i).toNat)
  case atStart => exact ⟨0, 0, Nat.zero_le _, Nat.le_refl _, rfl, rfl, rfl, hb0 _ _, cell_at (w.alloc _) _ _ 0 (by simp) rfl, cell_at (w.alloc _) _ _ 1 (by simp) rfl, frozen_at (w.alloc _) _ _ 0 (by simp), frozen_at (w.alloc _) _ _ 1 (by simp)⟩
  case round =>
    obtain ⟨k, m, hk, hmk, rfl, rfl, hm0, hbel, r0, r1, f0, f1⟩ := hrel
    have HM : Hid (m = cntN zs key k) := hm0
    clear hm0
    by_cases hlt : k < n
    · obtain ⟨b, off, rfl⟩ := hs.addr (by omega)
      obtain ⟨x, hx⟩ : ∃ x, keyAt zs k = x := ⟨_, rfl⟩
      obtain ⟨y, hy⟩ : ∃ y, valAt zs k = y := ⟨_, rfl⟩
      have h1 := (hs.below hbel).keyCell hlt
      rw [hx] at h1
      have h2 := (hs.below hbel).valCell hlt
      rw [hy] at h2
      have HX : Hid (keyAt zs k = x) := hx
      have A := al wr (.cells #[.int .i64 x, .int .i64 y] 41)
      have hlt1 := World.block_lt_of_cell? wr ⟨w.heap.size + 1, 0, none⟩ r0
      have R : Hid (Below w.heap.size w (wr.alloc (.cells #[.int .i64 x, .int .i64 y] 41)) ∧ (wr.alloc (.cells #[.int .i64 x, .int .i64 y] 41)).cell? ⟨w.heap.size + 1, 0, none⟩ = some (.int .i64 0) ∧ (wr.alloc (.cells #[.int .i64 x, .int .i64 y] 41)).cell? ⟨w.heap.size + 1, 1, none⟩ = some (.int .i64 0) ∧ (wr.alloc (.cells #[.int .i64 x, .int .i64 y] 41)).frozen? ⟨w.heap.size + 1, 0, none⟩ = false ∧ (wr.alloc (.cells #[.int .i64 x, .int .i64 y] 41)).frozen? ⟨w.heap.size + 1, 1, none⟩ = false) :=
        ⟨below_trans' hbel A, cell_kept A r0, cell_kept A r1, (A.frozen (p := ⟨w.heap.size + 1, 0, none⟩) hlt1).trans f0, (A.frozen (p := ⟨w.heap.size + 1, 1, none⟩) hlt1).trans f1⟩
      clear hx hy hs A al r0 r1 f0 f1 hbel hlt1
      by_cases hp : key ≤ x
      · go_wp2
        go_roundw
        case rel => exact ⟨k + 1, m + 1, by omega, by omega, by go_num, by go_num, by rw [cntN_yes HX.out hp, HM.out], R.out⟩
        case measure => simp [intOf]; omega
      · go_wp2
        go_roundw
        case rel => exact ⟨k + 1, m, by omega, by omega, by go_num, rfl, by rw [cntN_no HX.out (by omega), HM.out], R.out⟩
        case measure => simp [intOf]; omega
    · obtain rfl : k = n := by omega
      clear hs
      go_wp2
      exact bodyPost_ret (v := .agg #[.int .i64 2, .int .i64 m]) (by simp [results, Try.results27, go_sem, r0, r1]) rfl ⟨by rw [HM.out]; rfl, (hbel.setCell (by show w.heap.size ≤ w.heap.size + 1; omega) _).setCell (by show w.heap.size ≤ w.heap.size + 1; omega) _⟩

end Go.Proofs.Ytkfamlbalgolmaa
