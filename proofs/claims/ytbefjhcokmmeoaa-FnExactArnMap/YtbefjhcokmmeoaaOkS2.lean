/- Contracts of the parts of the specification's ArnOk: the ends, and the queue's last one. -/
import Derived.Test.YtbefjhcokmmeoaaOkS
import Derived.Deep.QuietTactic
import Derived.BigQuiet
namespace Go.Proofs.Ytbefjhcokmmeoaa
open Go.RowKit
set_option linter.unusedVariables false

theorem below_drewN (B : Nat) (w : World) (n : Nat) : Below B w (w.drewN n) := ⟨rfl, rfl, rfl, Nat.le_refl _, fun _ _ => rfl⟩

theorem wrap_in64 {x : Int} (h0 : -9223372036854775808 ≤ x) (h1 : x ≤ 9223372036854775807) : IntKind.i64.wrap x = x := Go.IntWalk.i64_in x ⟨h0, h1⟩

set_option maxRecDepth 20000 in
set_option maxHeartbeats 1000000 in
theorem l2Last_any (b off cap : Nat) (ns : List Nd) (t f l : Int) (a : Option Addr) (n c : Nat) (zs : List Int) (w : World) (hz : SInts w a n zs) (hn : n ≤ 1048576) :
    Calls Try.prog 51 #[.agg #[.slice (some ⟨b, off, none⟩) 10 cap, .int .i64 t, .int .i64 f, .int .i64 l], .slice a n c] w fun e w' => e = .returned (.bool (lastB zs l)) ∧ Below w.heap.size w w' := by
  have HZ : Hid (zs.length = n) := hz.1
  have A := al1 w (.cells #[.slice (some ⟨b, off, none⟩) 10 cap, .int .i64 t, .int .i64 f, .int .i64 l] 32)
  have bx := boxA_new w (some ⟨b, off, none⟩) 10 cap t f l 32 rfl
  have c3 := bx.c3
  by_cases h0 : n = 0
  · subst h0
    have e : lastB zs l = false := by simp [lastB, HZ.out]
    rw [e]
    clear hz bx
    go_enter Try.func51, Try.ntmps51
    go_wp2
    go_quiet (fail)
    go_wp2
    go_ret
    exact ⟨rfl, below_trans' A (below_drewN _ _ _)⟩
  · obtain ⟨_, h | ⟨b', off', rfl, hc⟩⟩ := hz.below A
    · omega
    · obtain ⟨y, hy⟩ : ∃ y, zs.getD (n - 1) 0 = y := ⟨_, rfl⟩
      have h1 := hc (n - 1) (by omega)
      rw [hy] at h1
      have hpos : (0 : Int) < (n : Int) := by omega
      have hd0 : decide (0 < n) = true := decide_eq_true (by omega)
      obtain ⟨m, hm⟩ : ∃ m : Nat, n - 1 = m := ⟨_, rfl⟩
      have wm : IntKind.i64.wrap ((n : Int) - 1) = (m : Int) := by rw [wrap_in64 (by omega) (by omega)]; omega
      have w0 : IntKind.i64.wrap 0 = 0 := rfl
      have hmn : (m : Int) < (n : Int) := by omega
      rw [hm] at h1 hy
      cases hl : (l == y)
      · by_cases hn1 : n = 1
        · subst hn1
          obtain rfl : m = 0 := by omega
          rw [Nat.add_zero] at h1
          have e : lastB zs l = false := by
            unfold lastB
            rw [HZ.out]
            show (decide (0 < 1) && ((l == zs.getD 0 0) || (decide (1 < 1) && _))) = false
            rw [hy, hl]
            rfl
          rw [e]
          clear hz bx hc hy
          go_enter Try.func51, Try.ntmps51
          go_wp2
          go_quiet (fail)
          go_wp2
          go_ret
          exact ⟨rfl, below_trans' A (below_drewN _ _ _)⟩
        · obtain ⟨z, hz2⟩ : ∃ z, zs.getD (n - 2) 0 = z := ⟨_, rfl⟩
          have h2 := hc (n - 2) (by omega)
          rw [hz2] at h2
          obtain ⟨m2, hm2⟩ : ∃ m2 : Nat, n - 2 = m2 := ⟨_, rfl⟩
          have wm2 : IntKind.i64.wrap ((n : Int) - 2) = (m2 : Int) := by rw [wrap_in64 (by omega) (by omega)]; omega
          have hmn2 : (m2 : Int) < (n : Int) := by omega
          rw [hm2] at h2 hz2
          have hpos2 : (1 : Int) < (n : Int) := by omega
          have hd1 : decide (1 < n) = true := decide_eq_true (by omega)
          have e : lastB zs l = (l == z) := by
            unfold lastB
            rw [HZ.out, hm, hm2, hy, hz2, hl, decide_eq_true (show 0 < n by omega), decide_eq_true (show 1 < n by omega)]
            rfl
          rw [e]
          clear hz bx hc hy
          go_enter Try.func51, Try.ntmps51
          go_wp2
          go_quiet (fail)
          go_wp2
          go_ret
          exact ⟨rfl, below_trans' A (below_drewN _ _ _)⟩
      · have e : lastB zs l = true := by
          unfold lastB
          rw [HZ.out, hm, hy, hl, decide_eq_true (show 0 < n by omega)]
          rfl
        rw [e]
        clear hz bx hc hy
        go_enter Try.func51, Try.ntmps51
        go_wp2
        go_quiet (fail)
        go_wp2
        go_ret
        exact ⟨rfl, below_trans' A (below_drewN _ _ _)⟩

end Go.Proofs.Ytbefjhcokmmeoaa
