/- Lists of what was taken out, one for each hand; the law helpers over them. -/
import Derived.Test.YtgcpjihjhefpnaaOlds
namespace Go.Proofs.Ytgcpjihjhefpnaa
open Go.RowKit
set_option linter.unusedVariables false

/-- The slice of length n at a reads as lists of what was taken out. -/
def SLimbo (w : World) (a : Option Addr) (n : Nat) (oss : List (List Od)) : Prop :=
  oss.length = n ∧ (n = 0 ∨ ∃ b off, a = some ⟨b, off, none⟩ ∧ ∀ i os, oss[i]? = some os → ∃ ai ci, w.cell? ⟨b, off + i, none⟩ = some (.slice ai os.length ci) ∧ SOlds w ai os.length os)
theorem SLimbo.below {w w' : World} {a : Option Addr} {n : Nat} {oss : List (List Od)} (h : SLimbo w a n oss) (hb : Below w.heap.size w w') : SLimbo w' a n oss := by
  obtain ⟨hz, h0 | ⟨b, off, rfl, hc⟩⟩ := h
  · exact ⟨hz, .inl h0⟩
  · refine ⟨hz, .inr ⟨b, off, rfl, fun i os hi => ?_⟩⟩
    obtain ⟨ai, ci, h1, h2⟩ := hc i os hi
    exact ⟨ai, ci, cell_kept hb h1, h2.below hb⟩
theorem SLimbo.at {w : World} {a : Option Addr} {n : Nat} {oss : List (List Od)} (h : SLimbo w a n oss) {k : Nat} (hk : k < n) :
    ∃ b off os ai ci, a = some ⟨b, off, none⟩ ∧ oss[k]? = some os ∧ w.cell? ⟨b, off + k, none⟩ = some (.slice ai os.length ci) ∧ SOlds w ai os.length os := by
  obtain ⟨hz, h0 | ⟨b, off, rfl, hc⟩⟩ := h
  · omega
  · have hx : oss[k]? = some oss[k] := List.getElem?_eq_getElem (by omega)
    obtain ⟨ai, ci, h1, h2⟩ := hc k _ hx
    exact ⟨b, off, _, ai, ci, rfl, hx, h1, h2⟩

/-- How much there is in all. -/
def sumL : List (List Od) → Nat
  | [] => 0
  | os :: r => os.length + sumL r
theorem sumL_app (xs ys : List (List Od)) : sumL (xs ++ ys) = sumL xs + sumL ys := by
  induction xs with
  | nil => simp [sumL]
  | cons x xs ih => simp [sumL, ih]; omega
theorem take_one {α : Type} {xs : List α} {k : Nat} {x : α} (h : xs[k]? = some x) : xs.take (k + 1) = xs.take k ++ [x] := by
  rw [List.take_add_one, h]; rfl
theorem sumL_next {oss : List (List Od)} {k : Nat} {os : List Od} (h : oss[k]? = some os) : sumL (oss.take (k + 1)) = sumL (oss.take k) + os.length := by
  rw [take_one h, sumL_app]; simp [sumL]
theorem sumL_take (oss : List (List Od)) (k : Nat) : sumL (oss.take k) ≤ sumL oss := by
  have := sumL_app (oss.take k) (oss.drop k)
  rw [List.take_append_drop] at this
  omega
theorem sumL_mem {oss : List (List Od)} {k : Nat} {os : List Od} (h : oss[k]? = some os) : os.length ≤ sumL oss := by
  have := sumL_next h
  have := sumL_take oss (k + 1)
  omega

/-- What is left of a measure. -/
def leftR (n l : Int) : Int := if n ≤ l then l - n else -1
theorem leftR_pos {n l : Int} (h : n ≤ l) : leftR n l = l - n := if_pos h
theorem leftR_neg {n l : Int} (h : ¬ n ≤ l) : leftR n l = -1 := if_neg h

set_option maxHeartbeats 400000 in
theorem szPolOldS_any (a : Option Addr) (n cap : Nat) (l : Int) (w : World) (hn : n ≤ 9223372036854775807) (h0 : 0 ≤ l) (hl : l ≤ 1048576) :
    Calls Try.prog 45 #[.slice a n cap, .int .i64 l] w fun e w' => e = .returned (.int .i64 (leftR n l)) ∧ w' = w := by
  by_cases h : (n : Int) ≤ l
  · rw [leftR_pos h]
    go_enter Try.func45, Try.ntmps45
    go_wp2
    go_ret
    exact ⟨rfl, rfl⟩
  · rw [leftR_neg h]
    go_enter Try.func45, Try.ntmps45
    go_wp2
    go_ret
    exact ⟨rfl, rfl⟩

set_option maxHeartbeats 400000 in
theorem szIntS_any (a : Option Addr) (n cap : Nat) (l : Int) (w : World) (hn : n ≤ 9223372036854775807) (h0 : 0 ≤ l) (hl : l ≤ 1048576) :
    Calls Try.prog 26 #[.slice a n cap, .int .i64 l] w fun e w' => e = .returned (.int .i64 (leftR n l)) ∧ w' = w := by
  by_cases h : (n : Int) ≤ l
  · rw [leftR_pos h]
    go_enter Try.func26, Try.ntmps26
    go_wp2
    go_ret
    exact ⟨rfl, rfl⟩
  · rw [leftR_neg h]
    go_enter Try.func26, Try.ntmps26
    go_wp2
    go_ret
    exact ⟨rfl, rfl⟩

set_option maxHeartbeats 800000 in
theorem szPolOldSS_any (a : Option Addr) (n cap : Nat) (oss : List (List Od)) (l : Int) (w : World) (hs : SLimbo w a n oss) (hn : n ≤ 9223372036854775807) (hm : ∀ (i : Nat) (os : List Od), oss[i]? = some os → os.length ≤ 9223372036854775807) (h0 : 0 ≤ l) (hl : l ≤ 1048576) :
    Calls Try.prog 27 #[.slice a n cap, .int .i64 l] w fun e w' => e = .returned (.int .i64 (leftR ((n : Int) + (sumL oss : Nat)) l)) ∧ w' = w := by
  have HM : Hid (∀ (i : Nat) (os : List Od), oss[i]? = some os → os.length ≤ 9223372036854775807) := hm
  clear hm
  by_cases h : (n : Int) ≤ l
  · have HZ : Hid (oss.length = n) := hs.1
    have HS : Hid (SLimbo w a n oss) := hs
    clear hs
    go_enter Try.func27, Try.ntmps27
    go_wp2
    go_loop [1, 5] (fun s i => ∃ k q : Nat, k ≤ n ∧ i = .int .i64 k ∧ s = .int .i64 (l - n - q) ∧ sumL (oss.take k) = q ∧ ((n + q : Nat) : Int) ≤ l) (fun _ i => n - (intOf i).toNat)
    case atStart => exact ⟨0, 0, Nat.zero_le _, rfl, by go_num, rfl, by omega⟩
    case round =>
      obtain ⟨k, q, hk, rfl, rfl, hq, hb⟩ := hrel
      have HQ : Hid (sumL (oss.take k) = q) := hq
      clear hq
      by_cases hlt : k < n
      · obtain ⟨b, off, os, ai, ci, rfl, ho, hc, _⟩ := HS.out.at hlt
        have hml := HM.out k os ho
        have HO : Hid (oss[k]? = some os) := ho
        obtain ⟨m, e⟩ : ∃ m, os.length = m := ⟨_, rfl⟩
        rw [e] at hc hml
        have HE : Hid (os.length = m) := e
        clear ho e
        go_wp2_with fail
        refine (szPolOldS_any _ _ _ _ _ hml (by omega) (by omega)).mono ?_
        rintro e w' ⟨rfl, rfl⟩
        by_cases h2 : (m : Int) ≤ l - n - q
        · rw [leftR_pos h2]
          go_wp2
          go_round
          case rel => exact ⟨k + 1, q + m, by omega, by go_num, by go_num, by rw [sumL_next HO.out, HQ.out, HE.out], by omega⟩
          case measure => simp [intOf]; omega
        · rw [leftR_neg h2]
          go_wp2
          go_ret
          have := sumL_next HO.out
          have := sumL_take oss (k + 1)
          have := HQ.out
          have := HE.out
          refine ⟨?_, rfl⟩
          rw [leftR_neg (by omega)]
          rfl
      · obtain rfl : k = n := by omega
        go_wp2
        go_ret
        have e : sumL oss = q := by rw [← HQ.out, List.take_of_length_le (by rw [HZ.out]; exact Nat.le_refl _)]
        refine ⟨?_, rfl⟩
        rw [e, leftR_pos (by omega), show l - ((k : Int) + (q : Nat)) = l - k - q by omega]
        rfl
  · rw [leftR_neg (by omega)]
    clear hs
    go_enter Try.func27, Try.ntmps27
    go_wp2
    go_ret
    exact ⟨rfl, rfl⟩

set_option maxHeartbeats 1000000 in
theorem eqPolOldSS_yes (a a' : Option Addr) (n cap cap' : Nat) (oss : List (List Od)) (w : World) (hs : SLimbo w a n oss) (hs' : SLimbo w a' n oss) (hn : n ≤ 4000000000) (hm : sumL oss ≤ 4000000000) :
    Calls Try.prog 23 #[.slice a n cap, .slice a' n cap'] w fun e w' => e = .returned (.bool true) ∧ Below w.heap.size w w' := by
  have HS : Hid (SLimbo w a n oss ∧ SLimbo w a' n oss) := ⟨hs, hs'⟩
  have HM : Hid (sumL oss ≤ 4000000000) := hm
  clear hs hs' hm
  go_enter Try.func23, Try.ntmps23
  go_wp2
  go_loopw [5] (fun i wr => ∃ k : Nat, k ≤ n ∧ i = .int .i64 k ∧ Below w.heap.size w wr) (fun i _ => n - (intOf i).toNat)
  case atStart => exact ⟨0, Nat.zero_le _, rfl, Below.refl _ _⟩
  case round =>
    obtain ⟨k, hk, rfl, hbel⟩ := hrel
    by_cases hlt : k < n
    · obtain ⟨b, off, os, ai, ci, rfl, ho, hc, hO⟩ := (HS.out.1.below hbel).at hlt
      obtain ⟨b', off', os', ai', ci', rfl, ho', hc', hO'⟩ := (HS.out.2.below hbel).at hlt
      obtain rfl : os' = os := by rw [ho] at ho'; cases ho'; rfl
      have hml := sumL_mem ho
      obtain ⟨m, e⟩ : ∃ m, os'.length = m := ⟨_, rfl⟩
      rw [e] at hc hc' hml hO hO'
      have HO : Hid (SInts wr ai (m * 2) (flatO os') ∧ SInts wr ai' (m * 2) (flatO os') ∧ m ≤ 4000000000) := ⟨hO.2, hO'.2, by have := HM.out; omega⟩
      have HB : Hid (Below w.heap.size w wr) := hbel
      clear ho ho' e hml hO hO' hbel
      go_wp2
      go_region_with (go_at_call 42; refine (eqPolOldS_yes _ _ _ _ _ (flatO os') _ (HO.out.1.below (Below.refl _ _).drew) (HO.out.2.1.below (Below.refl _ _).drew) HO.out.2.2).mono ?_; rintro e w1 ⟨rfl, hb1⟩)
      all_goals
        have hb2 := below_trans' HB.out (below_trans' (Below.refl _ _).drew hb1)
        clear hb1 hc hc'
        go_wp2
        go_roundw
        case rel => exact ⟨k + 1, by omega, by go_num, hb2⟩
        case measure => simp [intOf]; omega
    · obtain rfl : k = n := by omega
      go_wp2
      go_ret
      exact ⟨rfl, hbel⟩

end Go.Proofs.Ytgcpjihjhefpnaa
