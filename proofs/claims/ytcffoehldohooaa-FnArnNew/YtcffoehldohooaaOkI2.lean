/- noneTwice. -/
import Derived.Test.YtcffoehldohooaaOkI
namespace Go.Proofs.Ytcffoehldohooaa
open Go.RowKit
set_option linter.unusedVariables false

/-- The ten cells of what was met among some. -/
structure MetAt (w : World) (zs : List Int) (k : Nat) (wr : World) : Prop where
  bel : Below w.heap.size w wr
  lt : w.heap.size < wr.heap.size
  cell : ∀ j : Nat, j < 10 → wr.cell? ⟨w.heap.size, j, none⟩ = some (.bool (hasB (zs.take k) (j : Int)))
  free : ∀ j : Nat, j < 10 → wr.frozen? ⟨w.heap.size, j, none⟩ = false
  once : (zs.take k).Nodup

theorem hasB_iff {zs : List Int} {x : Int} : hasB zs x = true ↔ x ∈ zs := by
  unfold hasB
  rw [List.any_eq_true]
  constructor
  · rintro ⟨z, hz, h⟩
    have : z = x := by simpa using h
    exact this ▸ hz
  · intro h
    exact ⟨x, h, by simp⟩

theorem take_next {zs : List Int} {k : Nat} {y : Int} (hk : k < zs.length) (hy : zs.getD k 0 = y) : zs.take (k + 1) = zs.take k ++ [y] := by
  rw [List.take_add_one]
  have : zs[k]? = some y := by rw [← hy]; simp [List.getD, hk]
  rw [this]
  rfl

theorem MetAt.next {w wr : World} {zs : List Int} {k j : Nat} (h : MetAt w zs k wr) (hk : k < zs.length) (hy : zs.getD k 0 = (j : Int)) (hj : j < 10) (hm : hasB (zs.take k) (j : Int) = false) :
    MetAt w zs (k + 1) (wr.setCell ⟨w.heap.size, j, none⟩ (.bool true)) := by
  refine ⟨h.bel.setCell (Nat.le_refl _) _, by simpa [World.setCell] using h.lt, fun i hi => ?_, fun i hi => ?_, ?_⟩
  · rw [take_next hk hy]
    by_cases e : i = j
    · subst e
      have : hasB (zs.take k ++ [(i : Int)]) (i : Int) = true := hasB_iff.2 (by simp)
      rw [this]
      have hc := h.cell i hi
      simp [go_sem, hc]
    · have : hasB (zs.take k ++ [(j : Int)]) (i : Int) = hasB (zs.take k) (i : Int) := by
        unfold hasB
        rw [List.any_append]
        have : ((j : Int) == (i : Int)) = false := by simp; omega
        simp [this]
      rw [this]
      have hc := h.cell i hi
      simp [go_sem, hc]
  · have hf := h.free i hi
    simp [go_sem, hf]
  · rw [take_next hk hy, List.nodup_append]
    refine ⟨h.once, by simp, fun x hx y hy2 => ?_⟩
    simp at hy2
    subst hy2
    intro e
    subst e
    rw [hasB_iff.2 hx] at hm
    cases hm

set_option maxHeartbeats 1600000 in
theorem noneTwice_any (a : Option Addr) (n c : Nat) (zs : List Int) (w : World) (hz : SInts w a n zs) (hn : n ≤ 1048576) (hp : placesB zs) :
    Calls Try.prog 41 #[.slice a n c] w fun e w' => e = .returned (.bool (decide zs.Nodup)) ∧ Below w.heap.size w w' := by
  have HZ : Hid (zs.length = n) := hz.1
  have HP : Hid (placesB zs) := hp
  have HS : Hid (SInts w a n zs) := hz
  clear hz hp
  go_enter Try.func41, Try.ntmps41
  go_wp2
  go_loopw [5, 8] (fun _ i wr => ∃ k : Nat, k ≤ n ∧ i = .int .i64 k ∧ MetAt w zs k wr) (fun _ i _ => n - (intOf i).toNat)
  case atStart =>
    refine ⟨0, Nat.zero_le _, rfl, (Below.refl _ _).alloc (Nat.le_refl _) _, by simp, fun j hj => ?_, fun j hj => ?_, by simp⟩
    · have : j = 0 ∨ j = 1 ∨ j = 2 ∨ j = 3 ∨ j = 4 ∨ j = 5 ∨ j = 6 ∨ j = 7 ∨ j = 8 ∨ j = 9 := by omega
      rcases this with rfl | rfl | rfl | rfl | rfl | rfl | rfl | rfl | rfl | rfl <;> simp [hasB]
    · have : j = 0 ∨ j = 1 ∨ j = 2 ∨ j = 3 ∨ j = 4 ∨ j = 5 ∨ j = 6 ∨ j = 7 ∨ j = 8 ∨ j = 9 := by omega
      rcases this with rfl | rfl | rfl | rfl | rfl | rfl | rfl | rfl | rfl | rfl <;> simp
  case round =>
    obtain ⟨k, hk, rfl, hmet⟩ := hrel
    by_cases hlt : k < n
    · obtain ⟨_, h0 | ⟨b', off', rfl, hc⟩⟩ := HS.out.below hmet.bel
      · omega
      · obtain ⟨y, hy⟩ : ∃ y, zs.getD k 0 = y := ⟨_, rfl⟩
        have h1 : wr.cell? ⟨b', off' + k, none⟩ = some (.int .i64 y) := by rw [← hy]; exact hc k hlt
        have hyb := HP.out k (by rw [HZ.out]; exact hlt)
        rw [hy] at hyb
        obtain ⟨j, rfl⟩ : ∃ j : Nat, y = j := ⟨y.toNat, by omega⟩
        have hj : j < 10 := by omega
        have hj' : (j : Int) < 10 := by omega
        have m1 := hmet.cell j hj
        have f1 := hmet.free j hj
        have HK : Hid (MetAt w zs k wr ∧ k < zs.length ∧ zs.getD k 0 = (j : Int)) := ⟨hmet, by rw [HZ.out]; exact hlt, hy⟩
        clear hc hy hyb hmet
        cases hm : hasB (zs.take k) (j : Int)
        · rw [hm] at m1
          go_wp2
          go_roundw
          case rel => exact ⟨k + 1, by omega, by go_num, HK.out.1.next HK.out.2.1 HK.out.2.2 hj hm⟩
          case measure => simp [intOf]; omega
        · rw [hm] at m1
          go_wp2
          go_ret
          refine ⟨ret_bool (decide_eq_false ?_).symm, HK.out.1.bel⟩
          intro hd
          have := (List.take_sublist (k + 1) zs).nodup hd
          rw [take_next HK.out.2.1 HK.out.2.2, List.nodup_append] at this
          exact this.2.2 _ (hasB_iff.1 hm) _ (by simp) rfl
    · obtain rfl : k = n := by omega
      have HK : Hid (MetAt w zs k wr) := hmet
      clear hmet
      go_wp2
      go_ret
      refine ⟨ret_bool (decide_eq_true ?_).symm, HK.out.bel⟩
      have := HK.out.once
      rwa [List.take_of_length_le (by rw [HZ.out]; exact Nat.le_refl _)] at this

end Go.Proofs.Ytcffoehldohooaa
