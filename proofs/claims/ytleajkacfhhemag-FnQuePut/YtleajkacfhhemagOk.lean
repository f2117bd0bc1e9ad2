/- Contracts of ListOk, of the specification's and of the program's, and of the two tests on bounds. -/
import Derived.Test.YtleajkacfhhemagInts
namespace Go.Proofs.Ytleajkacfhhemag
open Go.RowKit

/-- The number is in bounds. -/
def inB (x hi : Int) : Bool := decide (0 ≤ x) && decide (x ≤ hi)
/-- The values are ok. -/
def okL (zs : List Int) : Bool := decide (zs.length ≤ 8) && zs.all (fun x => inB x 999)

theorem inB_yes {x hi : Int} (h0 : 0 ≤ x) (h1 : x ≤ hi) : inB x hi = true := by simp [inB, h0, h1]
theorem inB_low {x hi : Int} (h0 : ¬ 0 ≤ x) : inB x hi = false := by simp [inB, h0]
theorem inB_high {x hi : Int} (h1 : ¬ x ≤ hi) : inB x hi = false := by simp [inB, h1]
theorem ret_bool {a b : Bool} (h : a = b) : Ending.returned (.bool a) = .returned (.bool b) := by rw [h]

set_option maxHeartbeats 400000 in
theorem l1In_any (x hi : Int) (w : World) :
    Calls Try.prog 23 #[.int .i64 x, .int .i64 0, .int .i64 hi] w fun e w' => e = .returned (.bool (inB x hi)) ∧ w' = w := by
  by_cases h0 : 0 ≤ x
  · by_cases h1 : x ≤ hi
    · go_enter Try.func23, Try.ntmps23
      go_wp2
      go_ret
      exact ⟨ret_bool (inB_yes h0 h1).symm, rfl⟩
    · go_enter Try.func23, Try.ntmps23
      go_wp2
      go_ret
      exact ⟨ret_bool (inB_high (by omega)).symm, rfl⟩
  · go_enter Try.func23, Try.ntmps23
    go_wp2
    go_ret
    exact ⟨ret_bool (inB_low (by omega)).symm, rfl⟩

set_option maxHeartbeats 400000 in
theorem within_any (x hi : Int) (w : World) :
    Calls Try.prog 24 #[.int .i64 x, .int .i64 hi] w fun e w' => e = .returned (.bool (inB x hi)) ∧ w' = w := by
  by_cases h0 : 0 ≤ x
  · by_cases h1 : x ≤ hi
    · go_enter Try.func24, Try.ntmps24
      go_wp2
      go_ret
      exact ⟨ret_bool (inB_yes h0 h1).symm, rfl⟩
    · go_enter Try.func24, Try.ntmps24
      go_wp2
      go_ret
      exact ⟨ret_bool (inB_high (by omega)).symm, rfl⟩
  · go_enter Try.func24, Try.ntmps24
    go_wp2
    go_ret
    exact ⟨ret_bool (inB_low (by omega)).symm, rfl⟩

theorem okL_long {zs : List Int} (h : 8 < zs.length) : okL zs = false := by simp [okL]; omega
theorem okL_no {zs : List Int} {k : Nat} (hk : k < zs.length) (h : inB (zs.getD k 0) 999 = false) : okL zs = false := by
  have : zs.all (fun x => inB x 999) = false := by
    rw [List.all_eq_false]
    refine ⟨zs[k], List.getElem_mem hk, ?_⟩
    simpa [List.getD, hk] using h
  simp [okL, this]
theorem okL_yes {zs : List Int} (h8 : zs.length ≤ 8) (h : ∀ i, i < zs.length → inB (zs.getD i 0) 999 = true) : okL zs = true := by
  have : zs.all (fun x => inB x 999) = true := by
    rw [List.all_eq_true]
    intro x hx
    obtain ⟨i, hi, rfl⟩ := List.mem_iff_getElem.1 hx
    simpa [List.getD, hi] using h i hi
  simp [okL, this, h8]

set_option maxHeartbeats 400000 in
theorem specListOk_any (a : Option Addr) (n cap : Nat) (zs : List Int) (w : World) (hs : SInts w a n zs) (hn : n ≤ 9223372036854775807) :
    Calls Try.prog 11 #[.slice a n cap] w fun e w' => e = .returned (.bool (okL zs)) ∧ w' = w := by
  by_cases h8 : 8 < n
  · have hko := okL_long (zs := zs) (by rw [hs.1]; exact h8)
    have h8' : (8 : Int) < (n : Int) := by omega
    clear hs
    rw [hko]
    go_enter Try.func11, Try.ntmps11
    go_wp2
    go_ret
    exact ⟨rfl, rfl⟩
  · have h8' : ¬ (8 : Int) < (n : Int) := by omega
    go_enter Try.func11, Try.ntmps11
    go_wp2
    go_loop [3] (fun i => ∃ k : Nat, k ≤ n ∧ i = .int .i64 k ∧ ∀ j, j < k → inB (zs.getD j 0) 999 = true) (fun i => n - (intOf i).toNat)
    case atStart => exact ⟨0, Nat.zero_le _, rfl, fun j hj => by omega⟩
    case round =>
      obtain ⟨k, hk, rfl, hall0⟩ := hrel
      have hall : Hid (∀ j, j < k → inB (zs.getD j 0) 999 = true) := hall0
      clear hall0
      by_cases hlt : k < n
      · obtain ⟨hz, h0 | ⟨b, off, rfl, hc⟩⟩ := hs
        · omega
        · obtain ⟨x, hx⟩ : ∃ x, zs.getD k 0 = x := ⟨_, rfl⟩
          have h1 : w.cell? ⟨b, off + k, none⟩ = some (.int .i64 x) := by rw [← hx]; exact hc k hlt
          have HX : Hid (zs.getD k 0 = x ∧ zs.length = n) := ⟨hx, hz⟩
          clear hc hx hz
          cases hin : inB x 999
          · go_wp2_with (go_at_call 23; refine (l1In_any _ _ _).mono ?_; rintro e w' ⟨rfl, rfl⟩)
            go_ret
            exact ⟨ret_bool (okL_no (k := k) (by rw [HX.out.2]; exact hlt) (by rw [HX.out.1]; exact hin)).symm, rfl⟩
          · go_wp2_with (go_at_call 23; refine (l1In_any _ _ _).mono ?_; rintro e w' ⟨rfl, rfl⟩)
            go_round
            case rel => exact ⟨k + 1, by omega, by go_num, fun j hj => by
              by_cases e : j = k
              · subst e; rw [HX.out.1]; exact hin
              · exact hall.out j (by omega)⟩
            case measure => simp [intOf]; omega
      · have : k = n := by omega
        subst this
        have hz := hs.1
        clear hs
        have HZ : Hid (zs.length = k) := hz
        clear hz
        go_wp2
        go_ret
        exact ⟨ret_bool (okL_yes (by rw [HZ.out]; omega) (by rw [HZ.out]; exact hall.out)).symm, rfl⟩

set_option maxHeartbeats 400000 in
theorem implListOk_any (a : Option Addr) (n cap : Nat) (zs : List Int) (w : World) (hs : SInts w a n zs) (hn : n ≤ 9223372036854775807) :
    Calls Try.prog 10 #[.slice a n cap] w fun e w' => e = .returned (.bool (okL zs)) ∧ w' = w := by
  by_cases h8 : 8 < n
  · have hko := okL_long (zs := zs) (by rw [hs.1]; exact h8)
    have h8' : (8 : Int) < (n : Int) := by omega
    clear hs
    rw [hko]
    go_enter Try.func10, Try.ntmps10
    go_wp2
    go_ret
    exact ⟨rfl, rfl⟩
  · have h8' : ¬ (8 : Int) < (n : Int) := by omega
    go_enter Try.func10, Try.ntmps10
    go_wp2
    go_loop [4, 10] (fun _ i => ∃ k : Nat, k ≤ n ∧ i = .int .i64 k ∧ ∀ j, j < k → inB (zs.getD j 0) 999 = true) (fun _ i => n - (intOf i).toNat)
    case atStart => exact ⟨0, Nat.zero_le _, rfl, fun j hj => by omega⟩
    case round =>
      obtain ⟨k, hk, rfl, hall0⟩ := hrel
      have hall : Hid (∀ j, j < k → inB (zs.getD j 0) 999 = true) := hall0
      clear hall0
      by_cases hlt : k < n
      · obtain ⟨hz, h0 | ⟨b, off, rfl, hc⟩⟩ := hs
        · omega
        · obtain ⟨x, hx⟩ : ∃ x, zs.getD k 0 = x := ⟨_, rfl⟩
          have h1 : w.cell? ⟨b, off + k, none⟩ = some (.int .i64 x) := by rw [← hx]; exact hc k hlt
          have HX : Hid (zs.getD k 0 = x ∧ zs.length = n) := ⟨hx, hz⟩
          clear hc hx hz
          cases hin : inB x 999
          · go_wp2_with (go_at_call 24; refine (within_any _ _ _).mono ?_; rintro e w' ⟨rfl, rfl⟩)
            go_ret
            exact ⟨ret_bool (okL_no (k := k) (by rw [HX.out.2]; exact hlt) (by rw [HX.out.1]; exact hin)).symm, rfl⟩
          · go_wp2_with (go_at_call 24; refine (within_any _ _ _).mono ?_; rintro e w' ⟨rfl, rfl⟩)
            go_round
            case rel => exact ⟨k + 1, by omega, by go_num, fun j hj => by
              by_cases e : j = k
              · subst e; rw [HX.out.1]; exact hin
              · exact hall.out j (by omega)⟩
            case measure => simp [intOf]; omega
      · have : k = n := by omega
        subst this
        have hz := hs.1
        clear hs
        have HZ : Hid (zs.length = k) := hz
        clear hz
        go_wp2
        go_ret
        exact ⟨ret_bool (okL_yes (by rw [HZ.out]; omega) (by rw [HZ.out]; exact hall.out)).symm, rfl⟩

end Go.Proofs.Ytleajkacfhhemag
