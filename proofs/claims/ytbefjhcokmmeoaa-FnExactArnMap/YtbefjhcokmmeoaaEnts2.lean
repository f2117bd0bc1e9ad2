/- Contracts of eqMapMap, of the marks in entries, and of szMapMap. -/
import Derived.Test.YtbefjhcokmmeoaaEnts
namespace Go.Proofs.Ytbefjhcokmmeoaa
open Go.RowKit
set_option linter.unusedVariables false

set_option maxHeartbeats 400000 in
theorem eqMapMap_yes (a a' : Option Addr) (n cap cap' : Nat) (zs : List Int) (w : World) (hs : SInts w a (n * 2) zs) (hs' : SInts w a' (n * 2) zs) (hn : n ≤ 4000000000) :
    Calls Try.prog 10 #[.agg #[.slice a n cap], .agg #[.slice a' n cap']] w fun e w' => e = .returned (.bool true) ∧ Below w.heap.size w w' := by
  have hb0 : ∀ o o1, Below w.heap.size w ((w.alloc o).alloc o1) := fun o o1 => ((Below.refl _ _).alloc (Nat.le_refl _) o).alloc (by simp) o1
  go_enter Try.func10, Try.ntmps10
  go_wp2_with fail
  refine (eqMapEntryS_yes _ _ _ _ _ zs _ (hs.below (hb0 _ _)) (hs'.below (hb0 _ _)) hn).mono ?_
  rintro e w1 ⟨rfl, hb1⟩
  have hb := below_trans' (hb0 _ _) hb1
  clear hb1 hb0 hs hs'
  go_wp2
  go_ret
  exact ⟨rfl, hb⟩

set_option maxHeartbeats 800000 in
theorem markMapEntryS_any (a : Option Addr) (n cap base : Nat) (zs : List Int) (k : Int) (w : World) (ho : w.ownsRow base 51 2 (.slice a n cap) n (zs.map (Value.int .i64))) (hk0 : 0 ≤ k) (hk : k + n ≤ 1000000000000) (hn : n ≤ 1000000000000) :
    Calls Try.prog 35 #[.slice a n cap, .int .i64 k] w fun e w' => e = .returned (.int .i64 (k + 2 * n)) ∧ w'.ownsRow base 51 2 (.slice a n cap) n ((marks k (n * 2)).map (Value.int .i64)) ∧ w.grownBy w' (Value.ownBlock (.slice a n cap)) ∧ w'.heap.size = w.heap.size := by
  have hz : zs.length = n * 2 := by simpa using ho.1
  by_cases hn0 : n = 0
  · subst hn0
    obtain rfl : zs = [] := List.eq_nil_of_length_eq_zero hz
    go_enter Try.func35, Try.ntmps35
    go_wp2
    go_loop [1, 5] (fun s i => s = .int .i64 k ∧ i = .int .i64 0) (fun _ _ => 0)
    case atStart => exact ⟨rfl, rfl⟩
    case round =>
      obtain ⟨rfl, rfl⟩ := hrel
      go_wp2
      go_ret
      exact ⟨by simp, by simpa [marks] using ho, World.grownBy.refl _ _, rfl⟩
  · obtain ⟨g, rfl⟩ : ∃ g, a = some ⟨g, 0, none⟩ := by
      rcases ho.2 with ⟨h, h0⟩ | ⟨g, c, cur, h, _⟩
      · exact absurd h0 hn0
      · cases h; exact ⟨g, rfl⟩
    go_enter Try.func35, Try.ntmps35
    go_wp2
    go_loopw [1, 5] (fun s i wr => ∃ (j : Nat) (ys : List Int), j ≤ n ∧ i = .int .i64 j ∧ s = .int .i64 (k + 2 * j) ∧ wr.ownsRow base 51 2 (.slice (some ⟨g, 0, none⟩) n cap) n (ys.map (Value.int .i64)) ∧ ys.take (j * 2) = (marks k (n * 2)).take (j * 2) ∧ w.grownBy wr (some g) ∧ wr.heap.size = w.heap.size)
      (fun _ i _ => n - (intOf i).toNat)
    case atStart => exact ⟨0, zs, Nat.zero_le _, rfl, by go_num, ho, by simp, World.grownBy.refl _ _, rfl⟩
    case round =>
      obtain ⟨j, ys, hj, rfl, rfl, hown, htake, hg, hsz⟩ := hrel
      by_cases hlt : j < n
      · have hyl : ys.length = n * 2 := by simpa using hown.1
        have o0 := own2_cell hown (j := j * 2) (by omega)
        have o1 := own2_cell hown (j := j * 2 + 1) (by omega)
        have f0 := hown.frozenAt (j * 2)
        have f1 := hown.frozenAt (j * 2 + 1)
        have st1 := hown.stored (j * 2) (.int .i64 (k + 2 * j))
        have st2 := st1.1.stored (j * 2 + 1) (.int .i64 (k + 2 * j + 1))
        have R : Hid (((wr.setCell ⟨g, j * 2, none⟩ (.int .i64 (k + 2 * j))).setCell ⟨g, j * 2 + 1, none⟩ (.int .i64 (k + 2 * j + 1))).ownsRow base 51 2 (.slice (some ⟨g, 0, none⟩) n cap) n (((ys.set (j * 2) (k + 2 * j)).set (j * 2 + 1) (k + 2 * j + 1)).map (Value.int .i64)) ∧
            ((ys.set (j * 2) (k + 2 * j)).set (j * 2 + 1) (k + 2 * j + 1)).take ((j + 1) * 2) = (marks k (n * 2)).take ((j + 1) * 2) ∧ w.grownBy ((wr.setCell ⟨g, j * 2, none⟩ (.int .i64 (k + 2 * j))).setCell ⟨g, j * 2 + 1, none⟩ (.int .i64 (k + 2 * j + 1))) (some g) ∧ ((wr.setCell ⟨g, j * 2, none⟩ (.int .i64 (k + 2 * j))).setCell ⟨g, j * 2 + 1, none⟩ (.int .i64 (k + 2 * j + 1))).heap.size = w.heap.size) := by
          refine ⟨by simpa using st2.1, ?_, ⟨st2.2.os.trans (st1.2.os.trans hg.os), st2.2.tape.trans (st1.2.tape.trans hg.tape), st2.2.output.trans (st1.2.output.trans hg.output), Nat.le_trans hg.size (Nat.le_trans st1.2.size st2.2.size), fun c hc hne => ?_⟩, by simpa using hsz⟩
          · have e0 : (marks k (n * 2)).getD (j * 2) 0 = k + 2 * j := by rw [marks_get k (by omega)]; omega
            have e1 : (marks k (n * 2)).getD (j * 2 + 1) 0 = k + 2 * j + 1 := by rw [marks_get k (by omega)]; omega
            have := take_set2 ys (marks k (n * 2)) j (by omega) (by rw [marks_len]; omega) htake
            rw [e0, e1] at this
            exact this
          · exact (st2.2.block c (Nat.lt_of_lt_of_le (by omega) st1.2.size) hne).trans ((st1.2.block c (by omega) hne).trans (hg.block c hc hne))
        clear hown htake hg st1 st2 hsz hyl
        go_wp2
        go_roundw
        case rel => exact ⟨j + 1, _, by omega, by go_num, by go_num, R.out⟩
        case measure => simp [intOf]; omega
      · obtain rfl : j = n := by omega
        have hyl : ys.length = j * 2 := by simpa using hown.1
        have e : ys = marks k (j * 2) := by
          rw [List.take_of_length_le (by omega), List.take_of_length_le (by rw [marks_len]; omega)] at htake
          exact htake
        subst e
        have HO : Hid (wr.ownsRow base 51 2 (.slice (some ⟨g, 0, none⟩) j cap) j ((marks k (j * 2)).map (Value.int .i64))) := hown
        clear hown htake hyl
        go_wp2
        go_ret
        exact ⟨rfl, HO.out, hg, hsz⟩

set_option maxHeartbeats 400000 in
theorem heldMapEntryS_any (a : Option Addr) (n cap : Nat) (k : Int) (w : World) (hs : SInts w a (n * 2) (marks k (n * 2))) (hk0 : 0 ≤ k) (hk : k + n ≤ 1000000000000) :
    Calls Try.prog 36 #[.slice a n cap, .int .i64 k] w fun e w' => e = .returned (.int .i64 (k + 2 * n)) ∧ w' = w := by
  go_enter Try.func36, Try.ntmps36
  go_wp2
  go_loop [1, 5] (fun s i => ∃ j : Nat, j ≤ n ∧ i = .int .i64 j ∧ s = .int .i64 (k + 2 * j)) (fun _ i => n - (intOf i).toNat)
  case atStart => exact ⟨0, Nat.zero_le _, rfl, by go_num⟩
  case round =>
    obtain ⟨j, hj, rfl, rfl⟩ := hrel
    by_cases hlt : j < n
    · obtain ⟨hz, h0 | ⟨b, off, rfl, hc⟩⟩ := hs
      · omega
      · have h1 : w.cell? ⟨b, off + j * 2, none⟩ = some (.int .i64 (k + 2 * j)) := by rw [hc _ (by omega), marks_get k (by omega)]; congr 2; omega
        have h2 : w.cell? ⟨b, off + j * 2 + 1, none⟩ = some (.int .i64 (k + 2 * j + 1)) := by rw [Nat.add_assoc, hc _ (by omega), marks_get k (by omega)]; congr 2; omega
        clear hc hz
        go_wp2
        go_round
        case rel => exact ⟨j + 1, by omega, by go_num, by go_num⟩
        case measure => simp [intOf]; omega
    · obtain rfl : j = n := by omega
      clear hs
      go_wp2
      go_ret
      exact ⟨rfl, rfl⟩

end Go.Proofs.Ytbefjhcokmmeoaa
