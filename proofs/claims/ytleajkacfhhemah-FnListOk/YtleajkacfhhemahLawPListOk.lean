/- For every slice of bytes the law FnListOk answers true and leaves its argument as it was. No condition. -/
import Derived.Test.YtleajkacfhhemahPList
namespace Go.Proofs.Ytleajkacfhhemah
open Go.ChangeShapes Go.WideShapes Go.ChangeAt Go.RowKit
set_option linter.unusedVariables false

theorem okL_take {zs : List Int} (k : Nat) (h : okL zs = true) : okL (zs.take k) = true := by
  simp only [okL, Bool.and_eq_true, decide_eq_true_eq, List.all_eq_true] at h ⊢
  exact ⟨by rw [List.length_take]; omega, fun x hx => h.2 x (List.mem_of_mem_take hx)⟩

theorem okL_drop {zs : List Int} (k : Nat) (h : okL zs = true) : okL (zs.drop k) = true := by
  simp only [okL, Bool.and_eq_true, decide_eq_true_eq, List.all_eq_true] at h ⊢
  exact ⟨by rw [List.length_drop]; omega, fun x hx => h.2 x (List.mem_of_mem_drop hx)⟩

theorem SInts.take {w : World} {a : Option Addr} {n : Nat} {zs : List Int} (hs : SInts w a n zs) {k : Nat} (hk : k ≤ n) : SInts w a k (zs.take k) := by
  obtain ⟨hz, h0 | ⟨b, off, rfl, hc⟩⟩ := hs
  · exact ⟨by rw [List.length_take]; omega, .inl (by omega)⟩
  · refine ⟨by rw [List.length_take]; omega, .inr ⟨b, off, rfl, fun i hi => ?_⟩⟩
    rw [hc i (by omega)]
    simp [List.getD, hi]

theorem SInts.drop {w : World} {b off : Nat} {n : Nat} {zs : List Int} (hs : SInts w (some ⟨b, off, none⟩) n zs) {k : Nat} (hk : k ≤ n) {ao : Option Addr} (hao : ¬ n = k → ao = some ⟨b, off + k, none⟩) : SInts w ao (n - k) (zs.drop k) := by
  refine ⟨by rw [List.length_drop, hs.1], ?_⟩
  by_cases h : n = k
  · exact .inl (by omega)
  · obtain ⟨hz, h0 | ⟨b', off', e, hc⟩⟩ := hs
    · omega
    · cases e
      refine .inr ⟨b, off + k, hao h, fun i hi => ?_⟩
      rw [Nat.add_assoc, hc (k + i) (by omega)]
      simp [List.getD]

set_option maxHeartbeats 1600000 in
theorem listOk_walk (a : Option Addr) (n cap : Nat) (w : World) (hs : SBytes w a n) (hc : n ≤ cap) (hm : n ≤ 9223372036854775807) :
    Calls Try.prog 3 #[.slice a n cap] w fun e w' => e = .returned (.bool true) ∧ Below w.heap.size w w' := by
  by_cases hn : n ≤ 1048576
  · have hn' : ¬ (1048576 : Int) < (n : Int) := by omega
    go_enter Try.func3, Try.ntmps3
    go_wp2_with fail
    refine (drawListOk_any a n cap w hs hc hn).mono ?_
    rintro e w1 ⟨L, N, a1, c1, rfl, ho1, hN, hrng, ⟨g, rfl⟩, hb1⟩
    obtain ⟨hs1, hNc, hcM⟩ := own_room ho1
    have HS1 : Hid (SInts w1 (some ⟨g, 0, none⟩) N L) := hs1
    have HB1 : Hid (Below w.heap.size w w1) := hb1
    clear hs1 hb1 ho1 hrng hs
    go_wp2_with fail
    refine (implListOk_any _ N c1 L w1 HS1.out (by omega)).mono ?_
    rintro e w2 ⟨rfl, rfl⟩
    cases hok : okL L
    · go_wp2_with fail
      refine (specListOk_any _ N c1 L w2 HS1.out (by omega)).mono ?_
      rintro e w3 ⟨rfl, rfl⟩
      rw [hok]
      have hN0 : 0 < N := by
        rcases Nat.eq_zero_or_pos N with h | h
        · have hl := HS1.out.1
          rw [h] at hl
          rw [List.eq_nil_of_length_eq_zero hl] at hok
          simp [okL] at hok
        · exact h
      have hN0' : (0 : Int) < (N : Int) := by omega
      go_wp2
      go_loop [5] (fun i => ∃ k : Nat, k ≤ N + 1 ∧ i = .int .i64 k) (fun i => N + 1 - (intOf i).toNat)
      case atStart => exact ⟨0, Nat.zero_le _, rfl⟩
      case round =>
        obtain ⟨k, hk, rfl⟩ := hrel
        by_cases hlt : k ≤ N
        · have hlt' : (k : Int) ≤ (N : Int) := by omega
          go_wp2
          go_round
          case rel => exact ⟨k + 1, by omega, by go_num⟩
          case measure => simp [intOf]; omega
        · have hlt' : ¬ (k : Int) ≤ (N : Int) := by omega
          go_wp2_with fail
          refine (tgOk_any _).mono ?_
          rintro e w6 ⟨rfl, hb6⟩
          have HB6 : Hid (Below w.heap.size w w6) := below_trans' HB1.out hb6
          clear hb6 HB1 HS1
          go_wp2
          go_ret
          exact ⟨rfl, HB6.out⟩
    · go_wp2_with fail
      refine (specListOk_any _ N c1 L w2 HS1.out (by omega)).mono ?_
      rintro e w3 ⟨rfl, rfl⟩
      rw [hok]
      go_wp2
      go_loop [5] (fun i => ∃ k : Nat, k ≤ N + 1 ∧ i = .int .i64 k) (fun i => N + 1 - (intOf i).toNat)
      case atStart => exact ⟨0, Nat.zero_le _, rfl⟩
      case round =>
        obtain ⟨k, hk, rfl⟩ := hrel
        by_cases hlt : k ≤ N
        · have hlt' : (k : Int) ≤ (N : Int) := by omega
          have hkc : k ≤ c1 := by omega
          go_wp2_with fail
          refine (implListOk_any _ k _ (L.take k) w3 (HS1.out.take hlt) (by omega)).mono ?_
          rintro e w4 ⟨rfl, rfl⟩
          rw [okL_take k hok]
          by_cases hck : c1 = k
          · obtain rfl : N = c1 := by omega
            subst hck
            have e0 : okL [] = true := rfl
            go_wp2_with fail
            refine (implListOk_any _ 0 _ [] w4 ⟨rfl, .inl rfl⟩ (by omega)).mono ?_
            rintro e w5 ⟨rfl, rfl⟩
            rw [e0]
            go_wp2
            go_round
            case rel => exact ⟨N + 1, by omega, by go_num⟩
            case measure => simp [intOf]
          · go_wp2_with fail
            refine (implListOk_any _ (N - k) _ (L.drop k) w4 (HS1.out.drop hlt (by intro h; first | rfl | simp)) (by omega)).mono ?_
            rintro e w5 ⟨rfl, rfl⟩
            rw [okL_drop k hok]
            go_wp2
            go_round
            case rel => exact ⟨k + 1, by omega, by go_num⟩
            case measure => simp [intOf]; omega
        · have hlt' : ¬ (k : Int) ≤ (N : Int) := by omega
          go_wp2
          go_ret
          exact ⟨rfl, HB1.out⟩
  · have hn' : (1048576 : Int) < (n : Int) := by omega
    clear hs
    go_enter Try.func3, Try.ntmps3
    go_wp2
    go_ret
    exact ⟨rfl, Below.refl _ _⟩

set_option maxRecDepth 100000 in
theorem listOk_lifted (os : Os) (started : os.Started) (H : Type) (enc : TypeId × Value → H) :
    ReturnsInHanded {} Try.checked os 3 .any (Rows.fnListOkSpec.pre6 enc Try.prog Try.f3 Rows.fnListOkRow.domain false) (Rows.fnListOkSpec.post enc Try.prog Try.f3 false true false false) := by
  refine returnsInHanded_of_change (C := Try.checked) own started (by kernel_rfl) Try.func3
    (ChangeSpec.witness6 (enc := enc) (C := Try.checked) false ⟨#[], #[.slice none 0 0], []⟩ 8 (by kernel_rfl) (by kernel_rfl) (by kernel_rfl) (by kernel_rfl)) ?_
  intro W base args ds gs before hval0 hW hcnd _
  have hval : ∀ (j : Nat) t v, Try.f3.params[j]? = some t → args[j]? = some v → Value.okWide Try.prog W .any base t v := hval0
  have hW' := hW
  obtain ⟨p, q, hA0, hV, rfl, hfz, hnd⟩ := hW
  have hA : DataW.TrodAll enc Try.prog W 0 (fun _ => true) true Try.f3.params.toList args.toList ds p := hA0
  rw [Try.params3] at hA hval
  obtain ⟨v0, vs0, d0, ds0, p0, q0, hargs, rfl, rfl, h0, r0⟩ := trodAll_cons hA
  obtain ⟨rfl, rfl, rfl⟩ := trodAll_nil r0
  obtain rfl : args = #[v0] := by cases args; simp_all
  obtain ⟨rfl, rfl⟩ := trodVars_none hV
  obtain ⟨a0, len0, cap0, rfl⟩ := okWide_slice Try.underlying22 (hval 0 22 v0 rfl rfl)
  have k0 := h0
  have lt0 : ∀ x ∈ p0, x.block < W.heap.size := by obtain ⟨m, hm⟩ := k0; exact DataW.trod_lt m _ _ _ hm
  obtain ⟨hs, hc, hm⟩ := sbytes_of_open h0
  clear hA0 hval0
  refine (listOk_walk a0 len0 cap0 W hs hc hm).mono fun e W' ⟨he, bel⟩ => ?_
  subst he
  exact ⟨_, rfl, _, _, _, [], _, [], hW', trodAll_mk1 (shut_bool Try.underlying4 _), (trodAll_cons_mk (Below.trod laidOut (by kernel_rfl) (of_decide_eq_true (by kernel_rfl)) k0 bel lt0) trodAll_mk0), rfl, bel.frame _, fun h => by cases h⟩

theorem listOk_holds : Rows.FnListOkSaid :=
  OpenClaim.holds_of_wide 3 Try.f3 rfl rfl rfl rfl rfl rfl rfl ⟨rfl, rfl, rfl, rfl, rfl⟩ rfl rfl rfl rfl rfl (by kernel_rfl) Try.func3 (by kernel_rfl)
    (of_decide_eq_true (by kernel_rfl)) (by unfold Func.isWrapper; first | (rw [if_pos (by decide +kernel)]; kernel_rfl) | (rw [if_neg (by decide +kernel)]; exact ⟨rfl, rfl⟩))
    (fun os started H enc _ => listOk_lifted os started H enc)

#print axioms listOk_holds
end Go.Proofs.Ytleajkacfhhemah
