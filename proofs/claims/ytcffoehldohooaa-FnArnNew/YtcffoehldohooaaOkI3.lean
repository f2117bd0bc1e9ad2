/- lastIsNear. -/
import Derived.Test.YtcffoehldohooaaOkI2
namespace Go.Proofs.Ytcffoehldohooaa
open Go.RowKit
set_option linter.unusedVariables false

/-- Where the first one is that is a number; behind the end, if none is. -/
def idxOf (zs : List Int) (l : Int) : Nat := zs.findIdx (fun z => z == l)

theorem idxOf_at {zs : List Int} {l : Int} {k : Nat} (hk : k < zs.length) (h : (zs.getD k 0 == l) = true) (hb : ∀ j, j < k → (zs.getD j 0 == l) = false) : idxOf zs l = k := by
  unfold idxOf
  rw [List.findIdx_eq hk]
  refine ⟨by simpa [List.getD, hk] using h, fun j hj => ?_⟩
  have := hb j hj
  simpa [List.getD, show j < zs.length by omega] using this
theorem idxOf_none {zs : List Int} {l : Int} (hb : ∀ j, j < zs.length → (zs.getD j 0 == l) = false) : idxOf zs l = zs.length := by
  unfold idxOf
  rw [List.findIdx_eq_length]
  intro x hx
  obtain ⟨i, hi, rfl⟩ := List.mem_iff_getElem.1 hx
  have := hb i hi
  simpa [List.getD, hi] using this

theorem isLast_any (x l : Int) (g : Nat) (w : World) (hc : w.cell? ⟨g, 0, none⟩ = some (.int .i64 l)) :
    Calls Try.prog 62 #[.int .i64 x, .pointer (some ⟨g, 0, none⟩)] w fun e w' => e = .returned (.bool (x == l)) ∧ w' = w := by
  go_enter Try.func62, Try.ntmps62
  go_wp2
  go_ret
  exact ⟨rfl, rfl⟩

set_option maxHeartbeats 1600000 in
theorem findLast_any (a : Option Addr) (n c : Nat) (zs : List Int) (l : Int) (g : Nat) (w : World) (hg : w.cell? ⟨g, 0, none⟩ = some (.int .i64 l)) (hs : SInts w a n zs) (hn : n ≤ 1048576) :
    Calls Try.prog 61 #[.slice a n c, .func (Fn.func 62) #[] #[.pointer (some ⟨g, 0, none⟩)]] w fun e w' => e = .returned (.int .i64 (idxOf zs l : Nat)) ∧ w' = w := by
  have HZ : Hid (zs.length = n) := hs.1
  have HG : Hid (w.cell? ⟨g, 0, none⟩ = some (.int .i64 l)) := hg
  clear hg
  go_enter Try.func61, Try.ntmps61
  go_wp2
  go_loop [5, 6, 9] (fun _ _ i => ∃ k : Nat, k ≤ n ∧ i = .int .i64 k ∧ ∀ j, j < k → (zs.getD j 0 == l) = false) (fun _ _ i => n - (intOf i).toNat)
  case atStart => exact ⟨0, Nat.zero_le _, rfl, fun j hj => by omega⟩
  case round =>
    obtain ⟨k, hk, rfl, hall0⟩ := hrel
    have hall : Hid (∀ j, j < k → (zs.getD j 0 == l) = false) := hall0
    clear hall0
    by_cases hlt : k < n
    · obtain ⟨hz, h0 | ⟨b, off, rfl, hc⟩⟩ := hs
      · omega
      · obtain ⟨y, hy⟩ : ∃ y, zs.getD k 0 = y := ⟨_, rfl⟩
        have h1 : w.cell? ⟨b, off + k, none⟩ = some (.int .i64 y) := by rw [← hy]; exact hc k hlt
        have HY : Hid (zs.getD k 0 = y) := hy
        clear hc hy hz
        go_wp2_with (go_at_call 62; refine (isLast_any _ l g _ HG.out).mono ?_; rintro e w' ⟨rfl, rfl⟩; cases he : (y == l))
        · go_wp2
          go_round
          case rel => exact ⟨k + 1, by omega, by go_num, fun j hj => by
            by_cases e : j = k
            · subst e; rw [HY.out]; exact he
            · exact hall.out j (by omega)⟩
          case measure => simp [intOf]; omega
        · go_wp2
          go_ret
          refine ⟨?_, rfl⟩
          rw [idxOf_at (k := k) (by rw [HZ.out]; exact hlt) (by rw [HY.out]; exact he) hall.out]
          rfl
    · obtain rfl : k = n := by omega
      clear hs
      go_wp2
      go_ret
      refine ⟨?_, rfl⟩
      rw [idxOf_none (fun j hj => hall.out j (by rw [HZ.out] at hj; exact hj)), HZ.out]
      rfl

/-- As lastIsNear reckons. -/
def nearB (zs : List Int) (l : Int) : Bool := decide (idxOf zs l < zs.length) && decide ((zs.length : Int) - 2 ≤ (idxOf zs l : Int))

set_option maxHeartbeats 1600000 in
theorem lastIsNear_any (a : Option Addr) (n c : Nat) (zs : List Int) (l : Int) (w : World) (hs : SInts w a n zs) (hn : n ≤ 1048576) :
    Calls Try.prog 45 #[.slice a n c, .int .i64 l] w fun e w' => e = .returned (.bool (nearB zs l)) ∧ Below w.heap.size w w' := by
  have HZ : Hid (zs.length = n) := hs.1
  have A := al1 w (.cells #[.int .i64 l] 3)
  have hc : (w.alloc (.cells #[.int .i64 l] 3)).cell? ⟨w.heap.size, 0, none⟩ = some (.int .i64 l) := by simp
  have hs' := hs.below A
  clear hs
  have wm : IntKind.i64.wrap ((n : Int) - 2) = (n : Int) - 2 := wrap_in64 (by omega) (by omega)
  have HN : Hid (nearB zs l = (decide (idxOf zs l < n) && decide ((n : Int) - 2 ≤ (idxOf zs l : Int)))) := by show _ = _; simp only [nearB, HZ.out]
  have HA : Hid (Below w.heap.size w (w.alloc (.cells #[.int .i64 l] 3))) := A
  clear A
  go_enter Try.func45, Try.ntmps45
  go_wp2_with (go_at_call 61; refine (findLast_any _ _ _ zs l _ _ hc hs' hn).mono ?_; rintro e w' ⟨rfl, rfl⟩)
  · rename_i h
    go_ret
    exact ⟨ret_bool (by rw [HN.out, decide_eq_true h]; exact (Bool.true_and _).symm), HA.out⟩
  · rename_i h
    go_ret
    exact ⟨ret_bool (by rw [HN.out, decide_eq_false h]; rfl), HA.out⟩

end Go.Proofs.Ytcffoehldohooaa
