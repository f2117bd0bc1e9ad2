/- Contracts of OpOk, of the specification's and of the program's (by its table), and of the copy of what is asked. -/
import Derived.Test.YtafhlflddndgjaaDoorOk
import Derived.Test.YtafhlflddndgjaaDoorFrame
namespace Go.Proofs.YtafhlflddndgjaaDoor
open Go.RowKit
set_option linter.unusedVariables false

/-- The greatest key that a kind has. -/
def kMost (k : Int) : Int := if k = 1 ∨ k = 2 ∨ k = 3 ∨ k = 9 ∨ k = 10 then 99 else 0
/-- The greatest value that a kind has. -/
def vMost (k : Int) : Int := if k = 2 ∨ k = 5 ∨ k = 7 then 999 else 0
/-- What may be asked. -/
def opB (k key val : Int) : Bool := decide (1 ≤ k) && decide (k ≤ 12) && inB key (kMost k) && inB val (vMost k)
/-- The program's table lies in its variable. -/
def Tab (w : World) : Prop := ∀ k : Nat, k ≤ 12 → w.cell? ⟨0, 3 * k, none⟩ = some (.int .i64 0) ∧ w.cell? ⟨0, 3 * k + 1, none⟩ = some (.int .i64 (kMost k)) ∧ w.cell? ⟨0, 3 * k + 2, none⟩ = some (.int .i64 (vMost k))

theorem kept_cell {W W' : World} {b o : Nat} {v : Value} (hb : Below W.heap.size W W') (h : W.cell? ⟨b, o, none⟩ = some v) : W'.cell? ⟨b, o, none⟩ = some v :=
  (hb.cell (World.block_lt_of_cell? W ⟨b, o, none⟩ h)).trans h
theorem Tab.below {W W' : World} (h : Tab W) (hb : Below W.heap.size W W') : Tab W' := fun k hk =>
  let ⟨h0, h1, h2⟩ := h k hk
  ⟨kept_cell hb h0, kept_cell hb h1, kept_cell hb h2⟩
theorem inB_zero {x : Int} : inB x 0 = decide (x = 0) := by
  unfold inB
  rw [← Bool.decide_and]
  exact decide_eq_decide.2 (by omega)
theorem opB_low {k key val : Int} (h : k < 1) : opB k key val = false := by
  have : ¬ 1 ≤ k := by omega
  simp [opB, this]
theorem opB_high {k key val : Int} (h : 12 < k) : opB k key val = false := by
  have : ¬ k ≤ 12 := by omega
  simp [opB, this]

theorem opB_1 (key val : Int) : opB 1 key val = (inB key 99 && inB val 0) := by simp [opB, kMost, vMost]
theorem opB_2 (key val : Int) : opB 2 key val = (inB key 99 && inB val 999) := by simp [opB, kMost, vMost]
theorem opB_3 (key val : Int) : opB 3 key val = (inB key 99 && inB val 0) := by simp [opB, kMost, vMost]
theorem opB_4 (key val : Int) : opB 4 key val = (inB key 0 && inB val 0) := by simp [opB, kMost, vMost]
theorem opB_5 (key val : Int) : opB 5 key val = (inB key 0 && inB val 999) := by simp [opB, kMost, vMost]
theorem opB_6 (key val : Int) : opB 6 key val = (inB key 0 && inB val 0) := by simp [opB, kMost, vMost]
theorem opB_7 (key val : Int) : opB 7 key val = (inB key 0 && inB val 999) := by simp [opB, kMost, vMost]
theorem opB_8 (key val : Int) : opB 8 key val = (inB key 0 && inB val 0) := by simp [opB, kMost, vMost]
theorem opB_9 (key val : Int) : opB 9 key val = (inB key 99 && inB val 0) := by simp [opB, kMost, vMost]
theorem opB_10 (key val : Int) : opB 10 key val = (inB key 99 && inB val 0) := by simp [opB, kMost, vMost]
theorem opB_11 (key val : Int) : opB 11 key val = (inB key 0 && inB val 0) := by simp [opB, kMost, vMost]
theorem opB_12 (key val : Int) : opB 12 key val = (inB key 0 && inB val 0) := by simp [opB, kMost, vMost]

set_option maxHeartbeats 400000 in
theorem implOpOk_1 (key val : Int) (w : World) (ht : Tab w) :
    Calls Tryd.prog 10 #[.agg #[.int .i64 1, .int .i64 key, .int .i64 val]] w fun e w' => e = .returned (.bool (opB 1 key val)) ∧ Below w.heap.size w w' := by
  obtain ⟨h0, h1, h2⟩ := ht 1 (by omega)
  have e1 : kMost ((1 : Nat) : Int) = 99 := by simp [kMost]
  have e2 : vMost ((1 : Nat) : Int) = 0 := by simp [vMost]
  rw [e1] at h1
  rw [e2] at h2
  clear ht e1 e2
  have al : Below w.heap.size w (w.alloc (.cells #[.int .i64 1, .int .i64 key, .int .i64 val] 24)) := (Below.refl _ _).alloc (Nat.le_refl _) _
  replace h0 : (w.alloc _).cell? ⟨0, 3, none⟩ = _ := kept_cell al h0
  replace h1 : (w.alloc _).cell? ⟨0, 4, none⟩ = _ := kept_cell al h1
  replace h2 : (w.alloc _).cell? ⟨0, 5, none⟩ = _ := kept_cell al h2
  rw [opB_1]
  cases hk : inB key 99 <;> cases hv : inB val 0 <;>
  · go_enter Tryd.func10, Tryd.ntmps10
    go_wp2_with (go_at_call 23; refine (within_any _ _ _).mono ?_; rintro e w' ⟨rfl, rfl⟩)
    go_ret
    exact ⟨rfl, al.alloc (by simp) _⟩

set_option maxHeartbeats 400000 in
theorem implOpOk_2 (key val : Int) (w : World) (ht : Tab w) :
    Calls Tryd.prog 10 #[.agg #[.int .i64 2, .int .i64 key, .int .i64 val]] w fun e w' => e = .returned (.bool (opB 2 key val)) ∧ Below w.heap.size w w' := by
  obtain ⟨h0, h1, h2⟩ := ht 2 (by omega)
  have e1 : kMost ((2 : Nat) : Int) = 99 := by simp [kMost]
  have e2 : vMost ((2 : Nat) : Int) = 999 := by simp [vMost]
  rw [e1] at h1
  rw [e2] at h2
  clear ht e1 e2
  have al : Below w.heap.size w (w.alloc (.cells #[.int .i64 2, .int .i64 key, .int .i64 val] 24)) := (Below.refl _ _).alloc (Nat.le_refl _) _
  replace h0 : (w.alloc _).cell? ⟨0, 6, none⟩ = _ := kept_cell al h0
  replace h1 : (w.alloc _).cell? ⟨0, 7, none⟩ = _ := kept_cell al h1
  replace h2 : (w.alloc _).cell? ⟨0, 8, none⟩ = _ := kept_cell al h2
  rw [opB_2]
  cases hk : inB key 99 <;> cases hv : inB val 999 <;>
  · go_enter Tryd.func10, Tryd.ntmps10
    go_wp2_with (go_at_call 23; refine (within_any _ _ _).mono ?_; rintro e w' ⟨rfl, rfl⟩)
    go_ret
    exact ⟨rfl, al.alloc (by simp) _⟩

set_option maxHeartbeats 400000 in
theorem implOpOk_3 (key val : Int) (w : World) (ht : Tab w) :
    Calls Tryd.prog 10 #[.agg #[.int .i64 3, .int .i64 key, .int .i64 val]] w fun e w' => e = .returned (.bool (opB 3 key val)) ∧ Below w.heap.size w w' := by
  obtain ⟨h0, h1, h2⟩ := ht 3 (by omega)
  have e1 : kMost ((3 : Nat) : Int) = 99 := by simp [kMost]
  have e2 : vMost ((3 : Nat) : Int) = 0 := by simp [vMost]
  rw [e1] at h1
  rw [e2] at h2
  clear ht e1 e2
  have al : Below w.heap.size w (w.alloc (.cells #[.int .i64 3, .int .i64 key, .int .i64 val] 24)) := (Below.refl _ _).alloc (Nat.le_refl _) _
  replace h0 : (w.alloc _).cell? ⟨0, 9, none⟩ = _ := kept_cell al h0
  replace h1 : (w.alloc _).cell? ⟨0, 10, none⟩ = _ := kept_cell al h1
  replace h2 : (w.alloc _).cell? ⟨0, 11, none⟩ = _ := kept_cell al h2
  rw [opB_3]
  cases hk : inB key 99 <;> cases hv : inB val 0 <;>
  · go_enter Tryd.func10, Tryd.ntmps10
    go_wp2_with (go_at_call 23; refine (within_any _ _ _).mono ?_; rintro e w' ⟨rfl, rfl⟩)
    go_ret
    exact ⟨rfl, al.alloc (by simp) _⟩

set_option maxHeartbeats 400000 in
theorem implOpOk_4 (key val : Int) (w : World) (ht : Tab w) :
    Calls Tryd.prog 10 #[.agg #[.int .i64 4, .int .i64 key, .int .i64 val]] w fun e w' => e = .returned (.bool (opB 4 key val)) ∧ Below w.heap.size w w' := by
  obtain ⟨h0, h1, h2⟩ := ht 4 (by omega)
  have e1 : kMost ((4 : Nat) : Int) = 0 := by simp [kMost]
  have e2 : vMost ((4 : Nat) : Int) = 0 := by simp [vMost]
  rw [e1] at h1
  rw [e2] at h2
  clear ht e1 e2
  have al : Below w.heap.size w (w.alloc (.cells #[.int .i64 4, .int .i64 key, .int .i64 val] 24)) := (Below.refl _ _).alloc (Nat.le_refl _) _
  replace h0 : (w.alloc _).cell? ⟨0, 12, none⟩ = _ := kept_cell al h0
  replace h1 : (w.alloc _).cell? ⟨0, 13, none⟩ = _ := kept_cell al h1
  replace h2 : (w.alloc _).cell? ⟨0, 14, none⟩ = _ := kept_cell al h2
  rw [opB_4]
  cases hk : inB key 0 <;> cases hv : inB val 0 <;>
  · go_enter Tryd.func10, Tryd.ntmps10
    go_wp2_with (go_at_call 23; refine (within_any _ _ _).mono ?_; rintro e w' ⟨rfl, rfl⟩)
    go_ret
    exact ⟨rfl, al.alloc (by simp) _⟩

set_option maxHeartbeats 400000 in
theorem implOpOk_5 (key val : Int) (w : World) (ht : Tab w) :
    Calls Tryd.prog 10 #[.agg #[.int .i64 5, .int .i64 key, .int .i64 val]] w fun e w' => e = .returned (.bool (opB 5 key val)) ∧ Below w.heap.size w w' := by
  obtain ⟨h0, h1, h2⟩ := ht 5 (by omega)
  have e1 : kMost ((5 : Nat) : Int) = 0 := by simp [kMost]
  have e2 : vMost ((5 : Nat) : Int) = 999 := by simp [vMost]
  rw [e1] at h1
  rw [e2] at h2
  clear ht e1 e2
  have al : Below w.heap.size w (w.alloc (.cells #[.int .i64 5, .int .i64 key, .int .i64 val] 24)) := (Below.refl _ _).alloc (Nat.le_refl _) _
  replace h0 : (w.alloc _).cell? ⟨0, 15, none⟩ = _ := kept_cell al h0
  replace h1 : (w.alloc _).cell? ⟨0, 16, none⟩ = _ := kept_cell al h1
  replace h2 : (w.alloc _).cell? ⟨0, 17, none⟩ = _ := kept_cell al h2
  rw [opB_5]
  cases hk : inB key 0 <;> cases hv : inB val 999 <;>
  · go_enter Tryd.func10, Tryd.ntmps10
    go_wp2_with (go_at_call 23; refine (within_any _ _ _).mono ?_; rintro e w' ⟨rfl, rfl⟩)
    go_ret
    exact ⟨rfl, al.alloc (by simp) _⟩

set_option maxHeartbeats 400000 in
theorem implOpOk_6 (key val : Int) (w : World) (ht : Tab w) :
    Calls Tryd.prog 10 #[.agg #[.int .i64 6, .int .i64 key, .int .i64 val]] w fun e w' => e = .returned (.bool (opB 6 key val)) ∧ Below w.heap.size w w' := by
  obtain ⟨h0, h1, h2⟩ := ht 6 (by omega)
  have e1 : kMost ((6 : Nat) : Int) = 0 := by simp [kMost]
  have e2 : vMost ((6 : Nat) : Int) = 0 := by simp [vMost]
  rw [e1] at h1
  rw [e2] at h2
  clear ht e1 e2
  have al : Below w.heap.size w (w.alloc (.cells #[.int .i64 6, .int .i64 key, .int .i64 val] 24)) := (Below.refl _ _).alloc (Nat.le_refl _) _
  replace h0 : (w.alloc _).cell? ⟨0, 18, none⟩ = _ := kept_cell al h0
  replace h1 : (w.alloc _).cell? ⟨0, 19, none⟩ = _ := kept_cell al h1
  replace h2 : (w.alloc _).cell? ⟨0, 20, none⟩ = _ := kept_cell al h2
  rw [opB_6]
  cases hk : inB key 0 <;> cases hv : inB val 0 <;>
  · go_enter Tryd.func10, Tryd.ntmps10
    go_wp2_with (go_at_call 23; refine (within_any _ _ _).mono ?_; rintro e w' ⟨rfl, rfl⟩)
    go_ret
    exact ⟨rfl, al.alloc (by simp) _⟩

set_option maxHeartbeats 400000 in
theorem implOpOk_7 (key val : Int) (w : World) (ht : Tab w) :
    Calls Tryd.prog 10 #[.agg #[.int .i64 7, .int .i64 key, .int .i64 val]] w fun e w' => e = .returned (.bool (opB 7 key val)) ∧ Below w.heap.size w w' := by
  obtain ⟨h0, h1, h2⟩ := ht 7 (by omega)
  have e1 : kMost ((7 : Nat) : Int) = 0 := by simp [kMost]
  have e2 : vMost ((7 : Nat) : Int) = 999 := by simp [vMost]
  rw [e1] at h1
  rw [e2] at h2
  clear ht e1 e2
  have al : Below w.heap.size w (w.alloc (.cells #[.int .i64 7, .int .i64 key, .int .i64 val] 24)) := (Below.refl _ _).alloc (Nat.le_refl _) _
  replace h0 : (w.alloc _).cell? ⟨0, 21, none⟩ = _ := kept_cell al h0
  replace h1 : (w.alloc _).cell? ⟨0, 22, none⟩ = _ := kept_cell al h1
  replace h2 : (w.alloc _).cell? ⟨0, 23, none⟩ = _ := kept_cell al h2
  rw [opB_7]
  cases hk : inB key 0 <;> cases hv : inB val 999 <;>
  · go_enter Tryd.func10, Tryd.ntmps10
    go_wp2_with (go_at_call 23; refine (within_any _ _ _).mono ?_; rintro e w' ⟨rfl, rfl⟩)
    go_ret
    exact ⟨rfl, al.alloc (by simp) _⟩

set_option maxHeartbeats 400000 in
theorem implOpOk_8 (key val : Int) (w : World) (ht : Tab w) :
    Calls Tryd.prog 10 #[.agg #[.int .i64 8, .int .i64 key, .int .i64 val]] w fun e w' => e = .returned (.bool (opB 8 key val)) ∧ Below w.heap.size w w' := by
  obtain ⟨h0, h1, h2⟩ := ht 8 (by omega)
  have e1 : kMost ((8 : Nat) : Int) = 0 := by simp [kMost]
  have e2 : vMost ((8 : Nat) : Int) = 0 := by simp [vMost]
  rw [e1] at h1
  rw [e2] at h2
  clear ht e1 e2
  have al : Below w.heap.size w (w.alloc (.cells #[.int .i64 8, .int .i64 key, .int .i64 val] 24)) := (Below.refl _ _).alloc (Nat.le_refl _) _
  replace h0 : (w.alloc _).cell? ⟨0, 24, none⟩ = _ := kept_cell al h0
  replace h1 : (w.alloc _).cell? ⟨0, 25, none⟩ = _ := kept_cell al h1
  replace h2 : (w.alloc _).cell? ⟨0, 26, none⟩ = _ := kept_cell al h2
  rw [opB_8]
  cases hk : inB key 0 <;> cases hv : inB val 0 <;>
  · go_enter Tryd.func10, Tryd.ntmps10
    go_wp2_with (go_at_call 23; refine (within_any _ _ _).mono ?_; rintro e w' ⟨rfl, rfl⟩)
    go_ret
    exact ⟨rfl, al.alloc (by simp) _⟩

set_option maxHeartbeats 400000 in
theorem implOpOk_9 (key val : Int) (w : World) (ht : Tab w) :
    Calls Tryd.prog 10 #[.agg #[.int .i64 9, .int .i64 key, .int .i64 val]] w fun e w' => e = .returned (.bool (opB 9 key val)) ∧ Below w.heap.size w w' := by
  obtain ⟨h0, h1, h2⟩ := ht 9 (by omega)
  have e1 : kMost ((9 : Nat) : Int) = 99 := by simp [kMost]
  have e2 : vMost ((9 : Nat) : Int) = 0 := by simp [vMost]
  rw [e1] at h1
  rw [e2] at h2
  clear ht e1 e2
  have al : Below w.heap.size w (w.alloc (.cells #[.int .i64 9, .int .i64 key, .int .i64 val] 24)) := (Below.refl _ _).alloc (Nat.le_refl _) _
  replace h0 : (w.alloc _).cell? ⟨0, 27, none⟩ = _ := kept_cell al h0
  replace h1 : (w.alloc _).cell? ⟨0, 28, none⟩ = _ := kept_cell al h1
  replace h2 : (w.alloc _).cell? ⟨0, 29, none⟩ = _ := kept_cell al h2
  rw [opB_9]
  cases hk : inB key 99 <;> cases hv : inB val 0 <;>
  · go_enter Tryd.func10, Tryd.ntmps10
    go_wp2_with (go_at_call 23; refine (within_any _ _ _).mono ?_; rintro e w' ⟨rfl, rfl⟩)
    go_ret
    exact ⟨rfl, al.alloc (by simp) _⟩

set_option maxHeartbeats 400000 in
theorem implOpOk_10 (key val : Int) (w : World) (ht : Tab w) :
    Calls Tryd.prog 10 #[.agg #[.int .i64 10, .int .i64 key, .int .i64 val]] w fun e w' => e = .returned (.bool (opB 10 key val)) ∧ Below w.heap.size w w' := by
  obtain ⟨h0, h1, h2⟩ := ht 10 (by omega)
  have e1 : kMost ((10 : Nat) : Int) = 99 := by simp [kMost]
  have e2 : vMost ((10 : Nat) : Int) = 0 := by simp [vMost]
  rw [e1] at h1
  rw [e2] at h2
  clear ht e1 e2
  have al : Below w.heap.size w (w.alloc (.cells #[.int .i64 10, .int .i64 key, .int .i64 val] 24)) := (Below.refl _ _).alloc (Nat.le_refl _) _
  replace h0 : (w.alloc _).cell? ⟨0, 30, none⟩ = _ := kept_cell al h0
  replace h1 : (w.alloc _).cell? ⟨0, 31, none⟩ = _ := kept_cell al h1
  replace h2 : (w.alloc _).cell? ⟨0, 32, none⟩ = _ := kept_cell al h2
  rw [opB_10]
  cases hk : inB key 99 <;> cases hv : inB val 0 <;>
  · go_enter Tryd.func10, Tryd.ntmps10
    go_wp2_with (go_at_call 23; refine (within_any _ _ _).mono ?_; rintro e w' ⟨rfl, rfl⟩)
    go_ret
    exact ⟨rfl, al.alloc (by simp) _⟩

set_option maxHeartbeats 400000 in
theorem implOpOk_11 (key val : Int) (w : World) (ht : Tab w) :
    Calls Tryd.prog 10 #[.agg #[.int .i64 11, .int .i64 key, .int .i64 val]] w fun e w' => e = .returned (.bool (opB 11 key val)) ∧ Below w.heap.size w w' := by
  obtain ⟨h0, h1, h2⟩ := ht 11 (by omega)
  have e1 : kMost ((11 : Nat) : Int) = 0 := by simp [kMost]
  have e2 : vMost ((11 : Nat) : Int) = 0 := by simp [vMost]
  rw [e1] at h1
  rw [e2] at h2
  clear ht e1 e2
  have al : Below w.heap.size w (w.alloc (.cells #[.int .i64 11, .int .i64 key, .int .i64 val] 24)) := (Below.refl _ _).alloc (Nat.le_refl _) _
  replace h0 : (w.alloc _).cell? ⟨0, 33, none⟩ = _ := kept_cell al h0
  replace h1 : (w.alloc _).cell? ⟨0, 34, none⟩ = _ := kept_cell al h1
  replace h2 : (w.alloc _).cell? ⟨0, 35, none⟩ = _ := kept_cell al h2
  rw [opB_11]
  cases hk : inB key 0 <;> cases hv : inB val 0 <;>
  · go_enter Tryd.func10, Tryd.ntmps10
    go_wp2_with (go_at_call 23; refine (within_any _ _ _).mono ?_; rintro e w' ⟨rfl, rfl⟩)
    go_ret
    exact ⟨rfl, al.alloc (by simp) _⟩

set_option maxHeartbeats 400000 in
theorem implOpOk_12 (key val : Int) (w : World) (ht : Tab w) :
    Calls Tryd.prog 10 #[.agg #[.int .i64 12, .int .i64 key, .int .i64 val]] w fun e w' => e = .returned (.bool (opB 12 key val)) ∧ Below w.heap.size w w' := by
  obtain ⟨h0, h1, h2⟩ := ht 12 (by omega)
  have e1 : kMost ((12 : Nat) : Int) = 0 := by simp [kMost]
  have e2 : vMost ((12 : Nat) : Int) = 0 := by simp [vMost]
  rw [e1] at h1
  rw [e2] at h2
  clear ht e1 e2
  have al : Below w.heap.size w (w.alloc (.cells #[.int .i64 12, .int .i64 key, .int .i64 val] 24)) := (Below.refl _ _).alloc (Nat.le_refl _) _
  replace h0 : (w.alloc _).cell? ⟨0, 36, none⟩ = _ := kept_cell al h0
  replace h1 : (w.alloc _).cell? ⟨0, 37, none⟩ = _ := kept_cell al h1
  replace h2 : (w.alloc _).cell? ⟨0, 38, none⟩ = _ := kept_cell al h2
  rw [opB_12]
  cases hk : inB key 0 <;> cases hv : inB val 0 <;>
  · go_enter Tryd.func10, Tryd.ntmps10
    go_wp2_with (go_at_call 23; refine (within_any _ _ _).mono ?_; rintro e w' ⟨rfl, rfl⟩)
    go_ret
    exact ⟨rfl, al.alloc (by simp) _⟩

set_option maxHeartbeats 400000 in
theorem implOpOk_no (k key val : Int) (w : World) (h : k < 1 ∨ 12 < k) :
    Calls Tryd.prog 10 #[.agg #[.int .i64 k, .int .i64 key, .int .i64 val]] w fun e w' => e = .returned (.bool (opB k key val)) ∧ Below w.heap.size w w' := by
  rcases h with h | h
  · rw [opB_low h]
    go_enter Tryd.func10, Tryd.ntmps10
    go_wp2
    go_ret
    exact ⟨rfl, (Below.refl _ _).alloc (Nat.le_refl _) _⟩
  · rw [opB_high h]
    go_enter Tryd.func10, Tryd.ntmps10
    go_wp2
    go_ret
    exact ⟨rfl, (Below.refl _ _).alloc (Nat.le_refl _) _⟩

theorem implOpOk_any (k key val : Int) (w : World) (ht : Tab w) :
    Calls Tryd.prog 10 #[.agg #[.int .i64 k, .int .i64 key, .int .i64 val]] w fun e w' => e = .returned (.bool (opB k key val)) ∧ Below w.heap.size w w' := by
  by_cases h : k < 1 ∨ 12 < k
  · exact implOpOk_no k key val w h
  · have h12 : k = 1 ∨ k = 2 ∨ k = 3 ∨ k = 4 ∨ k = 5 ∨ k = 6 ∨ k = 7 ∨ k = 8 ∨ k = 9 ∨ k = 10 ∨ k = 11 ∨ k = 12 := by omega
    rcases h12 with rfl | rfl | rfl | rfl | rfl | rfl | rfl | rfl | rfl | rfl | rfl | rfl
    · exact implOpOk_1 key val w ht
    · exact implOpOk_2 key val w ht
    · exact implOpOk_3 key val w ht
    · exact implOpOk_4 key val w ht
    · exact implOpOk_5 key val w ht
    · exact implOpOk_6 key val w ht
    · exact implOpOk_7 key val w ht
    · exact implOpOk_8 key val w ht
    · exact implOpOk_9 key val w ht
    · exact implOpOk_10 key val w ht
    · exact implOpOk_11 key val w ht
    · exact implOpOk_12 key val w ht

set_option maxHeartbeats 400000 in
theorem specOpOk_1 (key val : Int) (w : World) :
    Calls Tryd.prog 11 #[.agg #[.int .i64 1, .int .i64 key, .int .i64 val]] w fun e w' => e = .returned (.bool (opB 1 key val)) ∧ Below w.heap.size w w' := by
  rw [opB_1]
  rw [inB_zero]
  cases hk : inB key 99 <;> by_cases hv : val = 0 <;>
  · go_enter Tryd.func11, Tryd.ntmps11
    go_wp2_with (go_at_call 24; refine (l1In_any _ _ _).mono ?_; rintro e w' ⟨rfl, rfl⟩)
    go_ret
    first | exact ⟨rfl, (Below.refl _ _).alloc (Nat.le_refl _) _⟩ | exact ⟨ret_bool (by simp [hv]), (Below.refl _ _).alloc (Nat.le_refl _) _⟩

set_option maxHeartbeats 400000 in
theorem specOpOk_2 (key val : Int) (w : World) :
    Calls Tryd.prog 11 #[.agg #[.int .i64 2, .int .i64 key, .int .i64 val]] w fun e w' => e = .returned (.bool (opB 2 key val)) ∧ Below w.heap.size w w' := by
  rw [opB_2]
  cases hk : inB key 99 <;> cases hv : inB val 999 <;>
  · go_enter Tryd.func11, Tryd.ntmps11
    go_wp2_with (go_at_call 24; refine (l1In_any _ _ _).mono ?_; rintro e w' ⟨rfl, rfl⟩)
    go_ret
    first | exact ⟨rfl, (Below.refl _ _).alloc (Nat.le_refl _) _⟩ | exact ⟨rfl, (Below.refl _ _).alloc (Nat.le_refl _) _⟩

set_option maxHeartbeats 400000 in
theorem specOpOk_3 (key val : Int) (w : World) :
    Calls Tryd.prog 11 #[.agg #[.int .i64 3, .int .i64 key, .int .i64 val]] w fun e w' => e = .returned (.bool (opB 3 key val)) ∧ Below w.heap.size w w' := by
  rw [opB_3]
  rw [inB_zero]
  cases hk : inB key 99 <;> by_cases hv : val = 0 <;>
  · go_enter Tryd.func11, Tryd.ntmps11
    go_wp2_with (go_at_call 24; refine (l1In_any _ _ _).mono ?_; rintro e w' ⟨rfl, rfl⟩)
    go_ret
    first | exact ⟨rfl, (Below.refl _ _).alloc (Nat.le_refl _) _⟩ | exact ⟨ret_bool (by simp [hv]), (Below.refl _ _).alloc (Nat.le_refl _) _⟩

set_option maxHeartbeats 400000 in
theorem specOpOk_4 (key val : Int) (w : World) :
    Calls Tryd.prog 11 #[.agg #[.int .i64 4, .int .i64 key, .int .i64 val]] w fun e w' => e = .returned (.bool (opB 4 key val)) ∧ Below w.heap.size w w' := by
  rw [opB_4]
  rw [inB_zero, inB_zero]
  by_cases hk : key = 0 <;> by_cases hv : val = 0 <;>
  · go_enter Tryd.func11, Tryd.ntmps11
    go_wp2
    go_ret
    first | exact ⟨rfl, (Below.refl _ _).alloc (Nat.le_refl _) _⟩ | exact ⟨ret_bool (by simp [hk, hv]), (Below.refl _ _).alloc (Nat.le_refl _) _⟩

set_option maxHeartbeats 400000 in
theorem specOpOk_5 (key val : Int) (w : World) :
    Calls Tryd.prog 11 #[.agg #[.int .i64 5, .int .i64 key, .int .i64 val]] w fun e w' => e = .returned (.bool (opB 5 key val)) ∧ Below w.heap.size w w' := by
  rw [opB_5]
  rw [inB_zero]
  by_cases hk : key = 0 <;> cases hv : inB val 999 <;>
  · go_enter Tryd.func11, Tryd.ntmps11
    go_wp2_with (go_at_call 24; refine (l1In_any _ _ _).mono ?_; rintro e w' ⟨rfl, rfl⟩)
    go_ret
    first | exact ⟨rfl, (Below.refl _ _).alloc (Nat.le_refl _) _⟩ | exact ⟨ret_bool (by simp [hk]), (Below.refl _ _).alloc (Nat.le_refl _) _⟩

set_option maxHeartbeats 400000 in
theorem specOpOk_6 (key val : Int) (w : World) :
    Calls Tryd.prog 11 #[.agg #[.int .i64 6, .int .i64 key, .int .i64 val]] w fun e w' => e = .returned (.bool (opB 6 key val)) ∧ Below w.heap.size w w' := by
  rw [opB_6]
  rw [inB_zero, inB_zero]
  by_cases hk : key = 0 <;> by_cases hv : val = 0 <;>
  · go_enter Tryd.func11, Tryd.ntmps11
    go_wp2
    go_ret
    first | exact ⟨rfl, (Below.refl _ _).alloc (Nat.le_refl _) _⟩ | exact ⟨ret_bool (by simp [hk, hv]), (Below.refl _ _).alloc (Nat.le_refl _) _⟩

set_option maxHeartbeats 400000 in
theorem specOpOk_7 (key val : Int) (w : World) :
    Calls Tryd.prog 11 #[.agg #[.int .i64 7, .int .i64 key, .int .i64 val]] w fun e w' => e = .returned (.bool (opB 7 key val)) ∧ Below w.heap.size w w' := by
  rw [opB_7]
  rw [inB_zero]
  by_cases hk : key = 0 <;> cases hv : inB val 999 <;>
  · go_enter Tryd.func11, Tryd.ntmps11
    go_wp2_with (go_at_call 24; refine (l1In_any _ _ _).mono ?_; rintro e w' ⟨rfl, rfl⟩)
    go_ret
    first | exact ⟨rfl, (Below.refl _ _).alloc (Nat.le_refl _) _⟩ | exact ⟨ret_bool (by simp [hk]), (Below.refl _ _).alloc (Nat.le_refl _) _⟩

set_option maxHeartbeats 400000 in
theorem specOpOk_8 (key val : Int) (w : World) :
    Calls Tryd.prog 11 #[.agg #[.int .i64 8, .int .i64 key, .int .i64 val]] w fun e w' => e = .returned (.bool (opB 8 key val)) ∧ Below w.heap.size w w' := by
  rw [opB_8]
  rw [inB_zero, inB_zero]
  by_cases hk : key = 0 <;> by_cases hv : val = 0 <;>
  · go_enter Tryd.func11, Tryd.ntmps11
    go_wp2
    go_ret
    first | exact ⟨rfl, (Below.refl _ _).alloc (Nat.le_refl _) _⟩ | exact ⟨ret_bool (by simp [hk, hv]), (Below.refl _ _).alloc (Nat.le_refl _) _⟩

set_option maxHeartbeats 400000 in
theorem specOpOk_9 (key val : Int) (w : World) :
    Calls Tryd.prog 11 #[.agg #[.int .i64 9, .int .i64 key, .int .i64 val]] w fun e w' => e = .returned (.bool (opB 9 key val)) ∧ Below w.heap.size w w' := by
  rw [opB_9]
  rw [inB_zero]
  cases hk : inB key 99 <;> by_cases hv : val = 0 <;>
  · go_enter Tryd.func11, Tryd.ntmps11
    go_wp2_with (go_at_call 24; refine (l1In_any _ _ _).mono ?_; rintro e w' ⟨rfl, rfl⟩)
    go_ret
    first | exact ⟨rfl, (Below.refl _ _).alloc (Nat.le_refl _) _⟩ | exact ⟨ret_bool (by simp [hv]), (Below.refl _ _).alloc (Nat.le_refl _) _⟩

set_option maxHeartbeats 400000 in
theorem specOpOk_10 (key val : Int) (w : World) :
    Calls Tryd.prog 11 #[.agg #[.int .i64 10, .int .i64 key, .int .i64 val]] w fun e w' => e = .returned (.bool (opB 10 key val)) ∧ Below w.heap.size w w' := by
  rw [opB_10]
  rw [inB_zero]
  cases hk : inB key 99 <;> by_cases hv : val = 0 <;>
  · go_enter Tryd.func11, Tryd.ntmps11
    go_wp2_with (go_at_call 24; refine (l1In_any _ _ _).mono ?_; rintro e w' ⟨rfl, rfl⟩)
    go_ret
    first | exact ⟨rfl, (Below.refl _ _).alloc (Nat.le_refl _) _⟩ | exact ⟨ret_bool (by simp [hv]), (Below.refl _ _).alloc (Nat.le_refl _) _⟩

set_option maxHeartbeats 400000 in
theorem specOpOk_11 (key val : Int) (w : World) :
    Calls Tryd.prog 11 #[.agg #[.int .i64 11, .int .i64 key, .int .i64 val]] w fun e w' => e = .returned (.bool (opB 11 key val)) ∧ Below w.heap.size w w' := by
  rw [opB_11]
  rw [inB_zero, inB_zero]
  by_cases hk : key = 0 <;> by_cases hv : val = 0 <;>
  · go_enter Tryd.func11, Tryd.ntmps11
    go_wp2
    go_ret
    first | exact ⟨rfl, (Below.refl _ _).alloc (Nat.le_refl _) _⟩ | exact ⟨ret_bool (by simp [hk, hv]), (Below.refl _ _).alloc (Nat.le_refl _) _⟩

set_option maxHeartbeats 400000 in
theorem specOpOk_12 (key val : Int) (w : World) :
    Calls Tryd.prog 11 #[.agg #[.int .i64 12, .int .i64 key, .int .i64 val]] w fun e w' => e = .returned (.bool (opB 12 key val)) ∧ Below w.heap.size w w' := by
  rw [opB_12]
  rw [inB_zero, inB_zero]
  by_cases hk : key = 0 <;> by_cases hv : val = 0 <;>
  · go_enter Tryd.func11, Tryd.ntmps11
    go_wp2
    go_ret
    first | exact ⟨rfl, (Below.refl _ _).alloc (Nat.le_refl _) _⟩ | exact ⟨ret_bool (by simp [hk, hv]), (Below.refl _ _).alloc (Nat.le_refl _) _⟩

set_option maxHeartbeats 800000 in
theorem specOpOk_no (k key val : Int) (w : World) (h : k < 1 ∨ 12 < k) :
    Calls Tryd.prog 11 #[.agg #[.int .i64 k, .int .i64 key, .int .i64 val]] w fun e w' => e = .returned (.bool (opB k key val)) ∧ Below w.heap.size w w' := by
  have e : opB k key val = false := by
    rcases h with h | h
    · exact opB_low h
    · exact opB_high h
  rw [e]
  have n1 : ¬ k = 1 := by omega
  have b1 : (k == 1) = false := by simpa using n1
  have n2 : ¬ k = 2 := by omega
  have b2 : (k == 2) = false := by simpa using n2
  have n3 : ¬ k = 3 := by omega
  have b3 : (k == 3) = false := by simpa using n3
  have n4 : ¬ k = 4 := by omega
  have b4 : (k == 4) = false := by simpa using n4
  have n5 : ¬ k = 5 := by omega
  have b5 : (k == 5) = false := by simpa using n5
  have n6 : ¬ k = 6 := by omega
  have b6 : (k == 6) = false := by simpa using n6
  have n7 : ¬ k = 7 := by omega
  have b7 : (k == 7) = false := by simpa using n7
  have n8 : ¬ k = 8 := by omega
  have b8 : (k == 8) = false := by simpa using n8
  have n9 : ¬ k = 9 := by omega
  have b9 : (k == 9) = false := by simpa using n9
  have n10 : ¬ k = 10 := by omega
  have b10 : (k == 10) = false := by simpa using n10
  have n11 : ¬ k = 11 := by omega
  have b11 : (k == 11) = false := by simpa using n11
  have n12 : ¬ k = 12 := by omega
  have b12 : (k == 12) = false := by simpa using n12
  clear h e
  go_enter Tryd.func11, Tryd.ntmps11
  go_wp2
  go_ret
  exact ⟨rfl, (Below.refl _ _).alloc (Nat.le_refl _) _⟩

theorem specOpOk_any (k key val : Int) (w : World) :
    Calls Tryd.prog 11 #[.agg #[.int .i64 k, .int .i64 key, .int .i64 val]] w fun e w' => e = .returned (.bool (opB k key val)) ∧ Below w.heap.size w w' := by
  by_cases h : k < 1 ∨ 12 < k
  · exact specOpOk_no k key val w h
  · have h12 : k = 1 ∨ k = 2 ∨ k = 3 ∨ k = 4 ∨ k = 5 ∨ k = 6 ∨ k = 7 ∨ k = 8 ∨ k = 9 ∨ k = 10 ∨ k = 11 ∨ k = 12 := by omega
    rcases h12 with rfl | rfl | rfl | rfl | rfl | rfl | rfl | rfl | rfl | rfl | rfl | rfl
    · exact specOpOk_1 key val w
    · exact specOpOk_2 key val w
    · exact specOpOk_3 key val w
    · exact specOpOk_4 key val w
    · exact specOpOk_5 key val w
    · exact specOpOk_6 key val w
    · exact specOpOk_7 key val w
    · exact specOpOk_8 key val w
    · exact specOpOk_9 key val w
    · exact specOpOk_10 key val w
    · exact specOpOk_11 key val w
    · exact specOpOk_12 key val w

set_option maxHeartbeats 400000 in
theorem toOpOp_any (k key val : Int) (w : World) :
    Calls Tryd.prog 17 #[.agg #[.int .i64 k, .int .i64 key, .int .i64 val]] w fun e w' => e = .returned (.agg #[.int .i64 k, .int .i64 key, .int .i64 val]) ∧ Below w.heap.size w w' := by
  go_enter Tryd.func17, Tryd.ntmps17
  go_wp2
  exact bodyPost_ret (v := .agg #[.int .i64 k, .int .i64 key, .int .i64 val]) (by simp [results, Tryd.results17, go_sem]) rfl ⟨rfl, (((Below.refl _ _).alloc (Nat.le_refl _) _).alloc (by simp) _).alloc (by simp; omega) _⟩

end Go.Proofs.YtafhlflddndgjaaDoor
