/- For every slice of bytes the law FnListFirst answers true and leaves its argument as it was. No condition. -/
import Derived.Test.YtleajkacfhhemanPList
namespace Go.Proofs.Ytleajkacfhheman
open Go.ChangeShapes Go.WideShapes Go.ChangeAt Go.RowKit
set_option linter.unusedVariables false

set_option maxHeartbeats 1600000 in
theorem listFirst_walk (a : Option Addr) (n cap : Nat) (w : World) (hs : SBytes w a n) (hc : n ≤ cap) (hm : n ≤ 9223372036854775807) :
    Calls Try.prog 3 #[.slice a n cap] w fun e w' => e = .returned (.bool true) ∧ Below w.heap.size w w' := by
  by_cases hn : n ≤ 1048576
  · have hn' : ¬ (1048576 : Int) < (n : Int) := by omega
    have al : Hid (∀ (W : World) (o : Obj), Below W.heap.size W (W.alloc o)) := fun W o => (Below.refl _ _).alloc (Nat.le_refl _) o
    go_enter Try.func3, Try.ntmps3
    go_wp2_with fail
    refine (drawListFirst_any a n cap w hs hc hn).mono ?_
    rintro e w1 ⟨L, N, a1, c1, rfl, ho1, hN, hrng, hb1⟩
    obtain ⟨hs1, hNc, hcM⟩ := own_room ho1
    have HS1 : Hid (SInts w1 a1 N L) := hs1
    have HB1 : Hid (Below w.heap.size w w1) := hb1
    clear hs1 hb1 ho1 hrng hs
    go_wp2_with fail
    refine (implListFirst_any a1 N c1 L w1 HS1.out (by omega)).mono ?_
    rintro e w2 ⟨rfl, hb2⟩
    obtain ⟨C, hC⟩ : ∃ C, firstC L = C := ⟨_, rfl⟩
    obtain ⟨V, hV⟩ : ∃ V, firstV L = V := ⟨_, rfl⟩
    have HCV : Hid (firstC L = C ∧ firstV L = V) := ⟨hC, hV⟩
    rw [hC, hV]
    have hspec : Hid (∀ (W : World), SInts W a1 N L → Calls Try.prog 6 #[.slice a1 N c1] W fun e w' => e = .returned (.agg #[.int .i64 C, .int .i64 V]) ∧ Below W.heap.size W w') := fun W h => by
      have := specListFirst_any a1 N c1 L W h (by omega)
      rwa [hC, hV] at this
    clear hC hV
    have B3 := below_trans' hb2 (al.out w2 (.cells #[.int .i64 C, .int .i64 V] 26))
    have HB3 : Hid (Below w.heap.size w (w2.alloc (.cells #[.int .i64 C, .int .i64 V] 26))) := below_trans' HB1.out B3
    have HS3 : Hid (SInts (w2.alloc (.cells #[.int .i64 C, .int .i64 V] 26)) a1 N L) := HS1.out.below B3
    have r0 : (w2.alloc (.cells #[.int .i64 C, .int .i64 V] 26)).cell? ⟨w2.heap.size, 0, none⟩ = some (.int .i64 C) := by simp
    have r1 : (w2.alloc (.cells #[.int .i64 C, .int .i64 V] 26)).cell? ⟨w2.heap.size, 1, none⟩ = some (.int .i64 V) := by simp
    clear hb2 B3 HS1 HB1
    go_wp2
    revert r0 r1 HB3 HS3
    generalize w2.alloc (.cells #[.int .i64 C, .int .i64 V] 26) = W3
    intro HB3 HS3 r0 r1
    go_region_with (go_at_call 6; go_must (refine (hspec.out _ (show SInts W3.drew a1 N L from HS3.out)).mono ?_; rintro e w4 ⟨rfl, hb4⟩; have q0 := cell_kept hb4 (show W3.drew.cell? ⟨w2.heap.size, 0, none⟩ = some (.int .i64 C) from r0); have q1 := cell_kept hb4 (show W3.drew.cell? ⟨w2.heap.size, 1, none⟩ = some (.int .i64 V) from r1); have HB4 : Hid (Below w.heap.size w w4) := below_trans' HB3.out.drew hb4; have HS4 : Hid (SInts w4 a1 N L) := (show SInts W3.drew a1 N L from HS3.out).below hb4; clear hb4))
    all_goals
      clear r0 r1 HB3 HS3 hspec
      go_wp2_with fail
      refine (specListOk_any a1 N c1 L _ HS4.out (by omega)).mono ?_
      rintro e w5 ⟨rfl, rfl⟩
      cases hok : okL L
      · go_wp2_with fail
        refine (tgOk_any _).mono ?_
        rintro e w6 ⟨rfl, hb6⟩
        have HB6 : Hid (Below w.heap.size w w6) := below_trans' HB4.out hb6
        clear hb6 HB4 HS4 q0 q1
        go_wp2
        go_ret
        exact ⟨rfl, HB6.out⟩
      · go_wp2_with fail
        refine (implListTake_cap a1 N c1 L _ HS4.out hNc hcM (by omega) hok).mono ?_
        rintro e w6 ⟨N6, a6, c6, rfl, ho6, hb6⟩
        have hcv := take_first hok
        rw [hcv.1, hcv.2, HCV.out.1, HCV.out.2]
        clear hcv ho6
        have B7 := below_trans' hb6 (al.out w6 (.cells #[.int .i64 C, .int .i64 V] 26))
        have HB7 : Hid (Below w.heap.size w (w6.alloc (.cells #[.int .i64 C, .int .i64 V] 26))) := below_trans' HB4.out B7
        have t0 := cell_kept B7 q0
        have t1 := cell_kept B7 q1
        clear q0 q1 B7 hb6 HB4 HS4
        go_wp2_with fail
        refine (tgOk_any _).mono ?_
        rintro e w8 ⟨rfl, hb8⟩
        have HB8 : Hid (Below w.heap.size w w8) := below_trans' HB7.out hb8
        clear hb8 HB7 t0 t1
        go_wp2
        go_ret
        exact ⟨rfl, HB8.out⟩
  · have hn' : (1048576 : Int) < (n : Int) := by omega
    clear hs
    go_enter Try.func3, Try.ntmps3
    go_wp2
    go_ret
    exact ⟨rfl, Below.refl _ _⟩

set_option maxRecDepth 100000 in
theorem listFirst_lifted (os : Os) (started : os.Started) (H : Type) (enc : TypeId × Value → H) :
    ReturnsInHanded {} Try.checked os 3 .any (Rows.fnListFirstSpec.pre6 enc Try.prog Try.f3 Rows.fnListFirstRow.domain false) (Rows.fnListFirstSpec.post enc Try.prog Try.f3 false true false false) := by
  refine returnsInHanded_of_change (C := Try.checked) own started (by kernel_rfl) Try.func3
    (ChangeSpec.witness6 (enc := enc) (C := Try.checked) false ⟨#[], #[.slice none 0 0], []⟩ 8 (by kernel_rfl) (by kernel_rfl) (by kernel_rfl) (by kernel_rfl)) ?_
  intro W base args ds gs before hval0 hW hcnd _
  have hval : ∀ (j : Nat) t v, Try.f3.params[j]? = some t → args[j]? = some v → Value.okWide Try.prog W .any base t v := hval0
  have hW' := hW
  obtain ⟨p, q, hA0, hV, rfl, hfz, hnd⟩ := hW
  have hA : DataW.TrodAll enc Try.prog W 0 (fun _ => true) true Try.f3.params.toList args.toList ds p := hA0
  rw [Try.params3] at hA hval
  obtain ⟨v0, vs0, d0, ds0, p0, q0, hargs, rfl, rfl, h0, r0⟩ := trodAll_cons hA
  obtain ⟨rfl, rfl, rfl⟩ := trodAll_nil r0
  obtain rfl : args = #[v0] := by cases args; simp_all
  obtain ⟨rfl, rfl⟩ := trodVars_none hV
  obtain ⟨a0, len0, cap0, rfl⟩ := okWide_slice Try.underlying22 (hval 0 22 v0 rfl rfl)
  have k0 := h0
  have lt0 : ∀ x ∈ p0, x.block < W.heap.size := by obtain ⟨m, hm⟩ := k0; exact DataW.trod_lt m _ _ _ hm
  obtain ⟨hs, hc, hm⟩ := sbytes_of_open h0
  clear hA0 hval0
  refine (listFirst_walk a0 len0 cap0 W hs hc hm).mono fun e W' ⟨he, bel⟩ => ?_
  subst he
  exact ⟨_, rfl, _, _, _, [], _, [], hW', trodAll_mk1 (shut_bool Try.underlying4 _), (trodAll_cons_mk (Below.trod laidOut (by kernel_rfl) (of_decide_eq_true (by kernel_rfl)) k0 bel lt0) trodAll_mk0), rfl, bel.frame _, fun h => by cases h⟩

theorem listFirst_holds : Rows.FnListFirstSaid :=
  OpenClaim.holds_of_wide 3 Try.f3 rfl rfl rfl rfl rfl rfl rfl ⟨rfl, rfl, rfl, rfl, rfl⟩ rfl rfl rfl rfl rfl (by kernel_rfl) Try.func3 (by kernel_rfl)
    (of_decide_eq_true (by kernel_rfl)) (by unfold Func.isWrapper; first | (rw [if_pos (by decide +kernel)]; kernel_rfl) | (rw [if_neg (by decide +kernel)]; exact ⟨rfl, rfl⟩))
    (fun os started H enc _ => listFirst_lifted os started H enc)

#print axioms listFirst_holds
end Go.Proofs.Ytleajkacfhheman
