/- For every slice of integers the law FnExactListOk answers true and leaves its argument as it was: ListOk of the program answers as that of the specification. No condition. -/
import Derived.Test.YtleajkacfhhemaqOk
import Derived.Test.YtleajkacfhhemaqFrame
namespace Go.Proofs.Ytleajkacfhhemaq
open Go.ChangeShapes Go.WideShapes Go.ChangeAt Go.RowKit
set_option linter.unusedVariables false

set_option maxHeartbeats 800000 in
theorem listOk_walk (a : Option Addr) (n cap : Nat) (zs : List Int) (w : World) (hs : SInts w a n zs) (hm : n ≤ 9223372036854775807) :
    Calls Try.prog 4 #[.slice a n cap] w fun e w' => e = .returned (.bool true) ∧ Below w.heap.size w w' := by
  by_cases hn : n ≤ 1048576
  · have hn' : ¬ (1048576 : Int) < (n : Int) := by omega
    go_enter Try.func4, Try.ntmps4
    go_wp2_with fail
    refine (toIntS_own _ _ _ zs _ hs hn).mono ?_
    rintro e w1 ⟨a1, c1, rfl, ho1, hs1, hb1⟩
    have hA1 := hs.below hb1
    go_wp2_with fail
    refine (specListOk_any _ _ _ zs _ hs1 (by omega)).mono ?_
    rintro e w1' ⟨rfl, rfl⟩
    go_wp2_with fail
    refine (toIntS_own _ _ _ zs _ hA1 hn).mono ?_
    rintro e w2 ⟨a2, c2, rfl, ho2, hs2, hb2⟩
    have hA2 := hA1.below hb2
    go_wp2_with fail
    refine (implListOk_any _ _ _ zs _ hs2 (by omega)).mono ?_
    rintro e w2' ⟨rfl, rfl⟩
    go_wp2_with fail
    refine (toIntS_own _ _ _ zs _ hA2 hn).mono ?_
    rintro e w3 ⟨a3, c3, rfl, ho3, hs3, hb3⟩
    have hs2' := hs2.below hb3
    go_wp2_with fail
    refine (eqIntS_yes _ _ _ _ _ zs _ hs2' hs3 (by omega)).mono ?_
    rintro e w4 ⟨rfl, hb4⟩
    have hB := below_trans' (below_trans' (below_trans' hb1 hb2) hb3) hb4
    go_wp2
    go_ret
    exact ⟨rfl, hB⟩
  · have hn' : (1048576 : Int) < (n : Int) := by omega
    clear hs
    go_enter Try.func4, Try.ntmps4
    go_wp2
    go_ret
    exact ⟨rfl, Below.refl _ _⟩

set_option maxRecDepth 100000 in
theorem listOk_lifted (os : Os) (started : os.Started) (H : Type) (enc : TypeId × Value → H) :
    ReturnsInHanded {} Try.checked os 4 .any (Rows.fnExactListOkSpec.pre6 enc Try.prog Try.f4 Rows.fnExactListOkRow.domain false) (Rows.fnExactListOkSpec.post enc Try.prog Try.f4 false true false false) := by
  refine returnsInHanded_of_change (C := Try.checked) own started (by kernel_rfl) Try.func4
    (ChangeSpec.witness6 (enc := enc) (C := Try.checked) false ⟨#[], #[.slice none 0 0], []⟩ 8 (by kernel_rfl) (by kernel_rfl) (by kernel_rfl) (by kernel_rfl)) ?_
  intro W base args ds gs before hval0 hW hcnd _
  have hval : ∀ (j : Nat) t v, Try.f4.params[j]? = some t → args[j]? = some v → Value.okWide Try.prog W .any base t v := hval0
  have hW' := hW
  obtain ⟨p, q, hA0, hV, rfl, hfz, hnd⟩ := hW
  have hA : DataW.TrodAll enc Try.prog W 0 (fun _ => true) true Try.f4.params.toList args.toList ds p := hA0
  rw [Try.params4] at hA hval
  obtain ⟨v0, vs0, d0, ds0, p0, q0, hargs, rfl, rfl, h0, r0⟩ := trodAll_cons hA
  obtain ⟨rfl, rfl, rfl⟩ := trodAll_nil r0
  obtain rfl : args = #[v0] := by cases args; simp_all
  obtain ⟨rfl, rfl⟩ := trodVars_none hV
  obtain ⟨a0, len0, cap0, rfl⟩ := okWide_slice Try.underlying38 (hval 0 38 v0 rfl rfl)
  have k0 := h0
  have lt0 : ∀ x ∈ p0, x.block < W.heap.size := by obtain ⟨m, hm⟩ := k0; exact DataW.trod_lt m _ _ _ hm
  obtain ⟨zs, hs, hm⟩ := sints_of_open h0
  clear hA0 hval0
  refine (listOk_walk a0 len0 cap0 zs W hs hm).mono fun e W' ⟨he, bel⟩ => ?_
  subst he
  exact ⟨_, rfl, _, _, _, [], _, [], hW', trodAll_mk1 (shut_bool Try.underlying4 _), (trodAll_cons_mk (Below.trod laidOut (by kernel_rfl) (of_decide_eq_true (by kernel_rfl)) k0 bel lt0) trodAll_mk0), rfl, bel.frame _, fun h => by cases h⟩

theorem listOk_holds : Rows.FnExactListOkSaid :=
  OpenClaim.holds_of_wide 4 Try.f4 rfl rfl rfl rfl rfl rfl rfl ⟨rfl, rfl, rfl, rfl, rfl⟩ rfl rfl rfl rfl rfl (by kernel_rfl) Try.func4 (by kernel_rfl)
    (of_decide_eq_true (by kernel_rfl)) (by unfold Func.isWrapper; first | (rw [if_pos (by decide +kernel)]; kernel_rfl) | (rw [if_neg (by decide +kernel)]; exact ⟨rfl, rfl⟩))
    (fun os started H enc _ => listOk_lifted os started H enc)

#print axioms listOk_holds
end Go.Proofs.Ytleajkacfhhemaq
