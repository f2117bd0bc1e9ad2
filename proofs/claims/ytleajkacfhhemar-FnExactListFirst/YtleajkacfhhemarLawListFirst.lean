/- For every slice of integers the law FnExactListFirst answers true and leaves its argument as it was: ListFirst of the program answers as that of the specification. No condition. -/
import Derived.Test.YtleajkacfhhemarFirst
import Derived.Test.YtleajkacfhhemarFrame
namespace Go.Proofs.Ytleajkacfhhemar
open Go.ChangeShapes Go.WideShapes Go.ChangeAt Go.RowKit
set_option linter.unusedVariables false

set_option maxHeartbeats 1600000 in
theorem listFirst_walk (a : Option Addr) (n cap : Nat) (zs : List Int) (w : World) (hs : SInts w a n zs) (hm : n ≤ 9223372036854775807) :
    Calls Try.prog 4 #[.slice a n cap] w fun e w' => e = .returned (.bool true) ∧ Below w.heap.size w w' := by
  by_cases hn : n ≤ 1048576
  · have hn' : ¬ (1048576 : Int) < (n : Int) := by omega
    have al : Hid (∀ (W : World) (o : Obj), Below W.heap.size W (W.alloc o)) := fun W o => (Below.refl _ _).alloc (Nat.le_refl _) o
    have hspec : Hid (∀ (W : World) (a : Option Addr) (c : Nat), SInts W a n zs → Calls Try.prog 11 #[.slice a n c] W fun e w' => e = .returned (.agg #[.int .i64 (firstC zs), .int .i64 (firstV zs)]) ∧ Below W.heap.size W w') := fun W a c h => specListFirst_any a n c zs W h hm
    have himpl : Hid (∀ (W : World) (a : Option Addr) (c : Nat), SInts W a n zs → Calls Try.prog 13 #[.slice a n c] W fun e w' => e = .returned (.agg #[.int .i64 (firstC zs), .int .i64 (firstV zs)]) ∧ Below W.heap.size W w') := fun W a c h => implListFirst_any a n c zs W h hm
    generalize firstC zs = C at hspec himpl
    generalize firstV zs = V at hspec himpl
    go_enter Try.func4, Try.ntmps4
    go_wp2_with fail
    refine (toIntS_own _ _ _ zs _ hs hn).mono ?_
    rintro e w1 ⟨a1, c1, rfl, ho1, hs1, hb1⟩
    go_wp2_with fail
    refine (hspec.out _ _ _ hs1).mono ?_
    rintro e w2 ⟨rfl, hb2⟩
    have hA3 := below_trans' (below_trans' hb1 hb2) (al.out w2 (.cells #[.int .i64 C, .int .i64 V] 27))
    have r0 : (w2.alloc (.cells #[.int .i64 C, .int .i64 V] 27)).cell? ⟨w2.heap.size, 0, none⟩ = some (.int .i64 C) := by simp
    have r1 : (w2.alloc (.cells #[.int .i64 C, .int .i64 V] 27)).cell? ⟨w2.heap.size, 1, none⟩ = some (.int .i64 V) := by simp
    clear hb1 hb2 ho1 hs1
    go_wp2_with fail
    refine (toIntS_own _ _ _ zs _ (hs.below hA3) hn).mono ?_
    rintro e w4 ⟨a4, c4, rfl, ho4, hs4, hb4⟩
    have hA4 := below_trans' hA3 hb4
    have q0 := cell_kept hb4 r0
    have q1 := cell_kept hb4 r1
    clear r0 r1 hA3 hb4 ho4
    go_wp2_with fail
    refine (himpl.out _ _ _ hs4).mono ?_
    rintro e w5 ⟨rfl, hb5⟩
    have B6 := below_trans' hb5 (al.out w5 (.cells #[.int .i64 C, .int .i64 V] 27))
    have hA6 := below_trans' hA4 B6
    have t0 := cell_kept B6 q0
    have t1 := cell_kept B6 q1
    have hs6 := hs4.below B6
    clear q0 q1 hA4 hb5 hs4 B6
    go_wp2_with fail
    refine (eqResRes_yes _ _ _).mono ?_
    rintro e w7 ⟨rfl, hb7⟩
    have hA7 := below_trans' hA6 hb7
    have hs7 := hs6.below hb7
    clear t0 t1 hA6 hs6 hb7
    go_wp2_with fail
    refine (toIntS_own _ _ _ zs _ (hs.below hA7) hn).mono ?_
    rintro e w8 ⟨a8, c8, rfl, ho8, hs8, hb8⟩
    have hA8 := below_trans' hA7 hb8
    have hs7' := hs7.below hb8
    clear hA7 hs7 hb8 ho8
    go_wp2_with fail
    refine (eqIntS_yes _ _ _ _ _ zs _ hs7' hs8 (by omega)).mono ?_
    rintro e w9 ⟨rfl, hb9⟩
    have hB := below_trans' hA8 hb9
    clear hA8 hb9 hs7' hs8
    go_wp2
    go_ret
    exact ⟨rfl, hB⟩
  · have hn' : (1048576 : Int) < (n : Int) := by omega
    clear hs
    go_enter Try.func4, Try.ntmps4
    go_wp2
    go_ret
    exact ⟨rfl, Below.refl _ _⟩

set_option maxRecDepth 100000 in
theorem listFirst_lifted (os : Os) (started : os.Started) (H : Type) (enc : TypeId × Value → H) :
    ReturnsInHanded {} Try.checked os 4 .any (Rows.fnExactListFirstSpec.pre6 enc Try.prog Try.f4 Rows.fnExactListFirstRow.domain false) (Rows.fnExactListFirstSpec.post enc Try.prog Try.f4 false true false false) := by
  refine returnsInHanded_of_change (C := Try.checked) own started (by kernel_rfl) Try.func4
    (ChangeSpec.witness6 (enc := enc) (C := Try.checked) false ⟨#[], #[.slice none 0 0], []⟩ 8 (by kernel_rfl) (by kernel_rfl) (by kernel_rfl) (by kernel_rfl)) ?_
  intro W base args ds gs before hval0 hW hcnd _
  have hval : ∀ (j : Nat) t v, Try.f4.params[j]? = some t → args[j]? = some v → Value.okWide Try.prog W .any base t v := hval0
  have hW' := hW
  obtain ⟨p, q, hA0, hV, rfl, hfz, hnd⟩ := hW
  have hA : DataW.TrodAll enc Try.prog W 0 (fun _ => true) true Try.f4.params.toList args.toList ds p := hA0
  rw [Try.params4] at hA hval
  obtain ⟨v0, vs0, d0, ds0, p0, q0, hargs, rfl, rfl, h0, r0⟩ := trodAll_cons hA
  obtain ⟨rfl, rfl, rfl⟩ := trodAll_nil r0
  obtain rfl : args = #[v0] := by cases args; simp_all
  obtain ⟨rfl, rfl⟩ := trodVars_none hV
  obtain ⟨a0, len0, cap0, rfl⟩ := okWide_slice Try.underlying36 (hval 0 36 v0 rfl rfl)
  have k0 := h0
  have lt0 : ∀ x ∈ p0, x.block < W.heap.size := by obtain ⟨m, hm⟩ := k0; exact DataW.trod_lt m _ _ _ hm
  obtain ⟨zs, hs, hm⟩ := sints_of_open h0
  clear hA0 hval0
  refine (listFirst_walk a0 len0 cap0 zs W hs hm).mono fun e W' ⟨he, bel⟩ => ?_
  subst he
  exact ⟨_, rfl, _, _, _, [], _, [], hW', trodAll_mk1 (shut_bool Try.underlying4 _), (trodAll_cons_mk (Below.trod laidOut (by kernel_rfl) (of_decide_eq_true (by kernel_rfl)) k0 bel lt0) trodAll_mk0), rfl, bel.frame _, fun h => by cases h⟩

theorem listFirst_holds : Rows.FnExactListFirstSaid :=
  OpenClaim.holds_of_wide 4 Try.f4 rfl rfl rfl rfl rfl rfl rfl ⟨rfl, rfl, rfl, rfl, rfl⟩ rfl rfl rfl rfl rfl (by kernel_rfl) Try.func4 (by kernel_rfl)
    (of_decide_eq_true (by kernel_rfl)) (by unfold Func.isWrapper; first | (rw [if_pos (by decide +kernel)]; kernel_rfl) | (rw [if_neg (by decide +kernel)]; exact ⟨rfl, rfl⟩))
    (fun os started H enc _ => listFirst_lifted os started H enc)

#print axioms listFirst_holds
end Go.Proofs.Ytleajkacfhhemar
