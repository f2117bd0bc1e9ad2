/- keysRise, of the entries of places. -/
import Derived.Test.YtcffoehldohooaaOkE
namespace Go.Proofs.Ytcffoehldohooaa
open Go.RowKit
set_option linter.unusedVariables false

theorem entsOf_key (ns : List Nd) (zs : List Int) (i : Nat) (hi : i < zs.length) : (entsOf ns zs).getD (i * 2) 0 = (ndAt ns (zs.getD i 0)).key := by
  induction zs generalizing i with
  | nil => simp at hi
  | cons z zs ih =>
    cases i with
    | zero => simp [entsOf]
    | succ i =>
      have := ih i (by simpa using hi)
      have e : (i + 1) * 2 = i * 2 + 1 + 1 := by omega
      rw [e]
      simp only [entsOf, List.flatMap_cons, List.cons_append, List.nil_append, List.getD_cons_succ]
      exact this

set_option maxHeartbeats 1000000 in
theorem keysRise_places (ns : List Nd) (cs : List Int) (a : Option Addr) (n cap : Nat) (w : World) (hs : SInts w a (n * 2) (entsOf ns cs)) (hl : cs.length = n) (hn : n ≤ 1048576) :
    Calls Try.prog 42 #[.slice a n cap] w fun e w' => e = .returned (.bool (riseB ns cs)) ∧ Below w.heap.size w w' := by
  have HL : Hid (cs.length = n) := hl
  clear hl
  go_enter Try.func42, Try.ntmps42
  go_wp2
  go_loopw [3] (fun i wr => ∃ k : Nat, 1 ≤ k ∧ (k ≤ n ∨ k = 1) ∧ i = .int .i64 k ∧ (∀ j, j + 1 < k → (ndAt ns (cs.getD j 0)).key < (ndAt ns (cs.getD (j + 1) 0)).key) ∧ Below w.heap.size w wr) (fun i _ => n - (intOf i).toNat)
  case atStart => exact ⟨1, Nat.le_refl _, .inr rfl, rfl, fun j hj => by omega, Below.refl _ _⟩
  case round =>
    obtain ⟨k, hk1, hk, rfl, hall, hbel⟩ := hrel
    have H2 : Hid (∀ j, j + 1 < k → (ndAt ns (cs.getD j 0)).key < (ndAt ns (cs.getD (j + 1) 0)).key) := hall
    clear hall
    by_cases hlt : k < n
    · obtain ⟨_, h0 | ⟨b, off, rfl, hc⟩⟩ := hs.below hbel
      · omega
      · obtain ⟨m, hm⟩ : ∃ m : Nat, k - 1 = m := ⟨_, rfl⟩
        obtain ⟨x, hx⟩ : ∃ x, (ndAt ns (cs.getD k 0)).key = x := ⟨_, rfl⟩
        obtain ⟨z, hz⟩ : ∃ z, (ndAt ns (cs.getD m 0)).key = z := ⟨_, rfl⟩
        have h1 : wr.cell? ⟨b, off + k * 2, none⟩ = some (.int .i64 x) := by rw [hc (k * 2) (by omega), entsOf_key ns cs k (by rw [HL.out]; exact hlt), hx]
        have h3 : wr.cell? ⟨b, off + m * 2, none⟩ = some (.int .i64 z) := by rw [hc (m * 2) (by omega), entsOf_key ns cs m (by rw [HL.out]; omega), hz]
        have wm : IntKind.i64.wrap ((k : Int) - 1) = (m : Int) := by rw [wrap_in64 (by omega) (by omega)]; omega
        have hmn : (m : Int) < (n : Int) := by omega
        have hkn : (k : Int) < (n : Int) := by omega
        have HM : Hid (m + 1 = k ∧ (ndAt ns (cs.getD m 0)).key = z ∧ (ndAt ns (cs.getD k 0)).key = x) := ⟨by omega, hz, hx⟩
        have HB : Hid (Below w.heap.size w wr) := hbel
        clear hx hz hs hc hm hbel hk
        by_cases hup : x ≤ z
        · go_wp2
          go_quiet (fail)
          go_wp2
          go_ret
          exact ⟨ret_bool (riseB_no (k := m) (by rw [HL.out]; have := HM.out.1; omega) (by rw [HM.out.1, HM.out.2.1, HM.out.2.2]; omega)).symm, below_trans' HB.out (below_drewN _ _ _)⟩
        · go_wp2
          go_quiet (fail)
          go_wp2
          go_roundw
          case rel => exact ⟨k + 1, by omega, .inl (by omega), by go_num, fun j hj => by
            by_cases e : j = m
            · subst e; rw [HM.out.1, HM.out.2.1, HM.out.2.2]; omega
            · exact H2.out j (by have := HM.out.1; omega), below_trans' HB.out (below_drewN _ _ _)⟩
          case measure => simp [intOf]; omega
    · have hge : (n : Int) ≤ (k : Int) := by omega
      clear hs
      go_wp2
      go_ret
      exact ⟨ret_bool (riseB_yes (fun j hj => H2.out j (by rw [HL.out] at hj; omega))).symm, hbel⟩

end Go.Proofs.Ytcffoehldohooaa
