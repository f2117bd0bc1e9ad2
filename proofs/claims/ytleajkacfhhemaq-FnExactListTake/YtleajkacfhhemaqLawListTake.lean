/- For every slice of integers the law FnExactListTake answers true and leaves its argument as it was: ListTake of the program answers as that of the specification, writes into no argument, and its answer lies in memory of its own. No condition. -/
import Derived.Test.YtleajkacfhhemaqInv
import Derived.Test.YtleajkacfhhemaqFrame
import Derived.Test.YtleajkacfhhemaqTake
namespace Go.Proofs.Ytleajkacfhhemaq
open Go.ChangeShapes Go.WideShapes Go.ChangeAt Go.RowKit
set_option linter.unusedVariables false

set_option maxHeartbeats 2000000 in
theorem listTake_core (a : Option Addr) (n cap : Nat) (zs : List Int) (w : World) (hs : SInts w a n zs) (hn : n ≤ 1048576) (L : List Int) (C V : Int)
    (hspec : Hid (∀ (W : World) (b off : Nat), SInts W (some ⟨b, off, none⟩) n zs → Calls Try.prog 27 #[.slice (some ⟨b, off, none⟩) n n] W fun e w' => ListRes L C V e W w'))
    (himpl : Hid (∀ (W : World) (a : Option Addr), SInts W a n zs → Calls Try.prog 28 #[.slice a n n] W fun e w' => ListRes L C V e W w')) (hL : L.length ≤ 2000000) :
    Calls Try.prog 7 #[.slice a n cap] w fun e w' => e = .returned (.bool true) ∧ Below w.heap.size w w' := by
  have hn' : ¬ (1048576 : Int) < (n : Int) := by omega
  have hzl : Hid (zs.length = n) := hs.1
  go_enter Try.func7, Try.ntmps7
  go_wp2_with fail
  refine (toIntS_any _ _ _ zs _ hs hn).mono ?_
  rintro e w1 ⟨rfl, hr1, hb1⟩
  have hs1 := own_sints (own_of_rowIs hr1 hzl.out (by unfold maxLen; omega) (Nat.le_refl _))
  go_wp2_with fail
  refine (hspec.out _ _ _ hs1).mono ?_
  rintro e w2 ⟨Nw, aw, cw, rfl, ow, hb2⟩
  have hb2' := below_trans' hb1 hb2
  have hA2 := hs.below (hb2'.trans ((Below.refl w.heap.size w2).alloc hb2'.size (.cells #[.int .i64 C, .int .i64 V] 30)))
  go_wp2_with fail
  refine (toIntS_any _ _ _ zs _ hA2 hn).mono ?_
  rintro e w4 ⟨rfl, hr4, hb4⟩
  simp only [World.size_alloc] at hr4 hb4 ⊢
  have ox := own_of_rowIs hr4 hzl.out (by unfold maxLen; omega) (Nat.le_refl _)
  go_wp2_with fail
  refine (himpl.out _ _ (own_sints ox)).mono ?_
  rintro e w5 ⟨Ng, ag, cg, rfl, og, hb5⟩
  have I6 := law_inv hb2' hb1.size ow hb4 ox og hb5
  have hNw : Hid (Nw = Ng ∧ Ng = L.length) := by
    have h1 := ow.1
    have h2 := og.1
    simp at h1 h2
    exact ⟨by omega, by omega⟩
  obtain ⟨hNe, hNl⟩ := hNw.out
  subst hNe
  clear hNw hr1 hr4 hs1 ow og hb4 hb5 hb2 hb1 hA2 ox hb2'
  have HNl : Hid (Nw = L.length) := hNl
  clear hNl
  have hNb : Nw ≤ 2000000 := by have := HNl.out; omega
  go_wp2_with fail
  refine (eqIntS_yes _ _ _ _ _ L _ (own_sints I6.og) (own_sints I6.ow) (by omega)).mono ?_
  rintro e w7 ⟨rfl, hb7⟩
  have I7 := I6.below hb7
  have k10 := I7.c10
  have k11 := I7.c11
  have k20 := I7.c20
  have k21 := I7.c21
  clear I6 hb7
  go_wp2_with fail
  refine (eqResRes_yes _ _ _).mono ?_
  rintro e w8 ⟨rfl, hb8⟩
  have I8 := I7.below hb8
  clear I7 hb8 k10 k11 k20 k21
  go_wp2_with fail
  refine (toIntS_any _ _ _ zs _ (hs.below I8.bel) hn).mono ?_
  rintro e w9 ⟨rfl, hr9, hb9⟩
  have I9 := I8.below hb9
  have s9 := own_sints (own_of_rowIs hr9 hzl.out (by unfold maxLen; omega) (Nat.le_refl _))
  clear hr9 hb9
  go_wp2_with fail
  refine (eqIntS_yes _ _ _ _ _ zs _ (own_sints I9.ox) s9 (by omega)).mono ?_
  rintro e w10 ⟨rfl, hb10⟩
  have I10 := I9.below hb10
  clear I8 I9 hb10 s9
  go_wp2_with fail
  refine (markIntS_any _ _ _ _ zs 1 _ I10.ox (by omega) (by omega)).mono ?_
  rintro e w11 ⟨rfl, ho11, hg11, hz11⟩
  have I11 := I10.markX hg11 ho11
  clear I10 ho11 hg11 hz11
  go_wp2_with fail
  refine (eqIntS_yes _ _ _ _ _ L _ (own_sints I11.og) (own_sints I11.ow) (by omega)).mono ?_
  rintro e w12 ⟨rfl, hb12⟩
  have I12 := I11.below hb12
  have k10 := I12.c10
  have k11 := I12.c11
  have k20 := I12.c20
  have k21 := I12.c21
  clear I11 hb12
  go_wp2_with fail
  refine (eqResRes_yes _ _ _).mono ?_
  rintro e w13 ⟨rfl, hb13⟩
  have I13 := I12.below hb13
  clear I12 hb13 k10 k11 k20 k21
  go_wp2_with fail
  refine (markIntS_any _ _ _ _ L 1 _ I13.og (by omega) (by omega)).mono ?_
  rintro e w14 ⟨rfl, ho14, hg14, hz14⟩
  have I14 := I13.markG hg14 ho14
  clear I13 ho14 hg14 hz14
  go_wp2_with fail
  refine (heldIntS_any _ _ _ 1 _ (own_sints I14.og) (by omega) (by omega)).mono ?_
  rintro e w14' ⟨rfl, rfl⟩
  go_wp2_with fail
  refine (toIntS_any _ _ _ zs _ (hs.below I14.bel) hn).mono ?_
  rintro e w15 ⟨rfl, hr15, hb15⟩
  have I15 := I14.below hb15
  have s15 := own_sints (own_of_rowIs hr15 hzl.out (by unfold maxLen; omega) (Nat.le_refl _))
  clear I14 hr15 hb15
  go_wp2_with fail
  refine (himpl.out _ _ s15).mono ?_
  rintro e w16 ⟨Nh, ah, ch, rfl, oh, hb16⟩
  have I17 := (I15.below hb16).below ((Below.refl _ _).alloc (Nat.le_refl _) (.cells #[.int .i64 C, .int .i64 V] 30))
  have oh17 := ownsRow_below oh ((Below.refl _ _).alloc (Nat.le_refl _) (.cells #[.int .i64 C, .int .i64 V] 30))
  have hNh : Hid (Nh = Nw) := by
    have h1 := oh.1
    simp at h1
    have h2 := HNl.out
    show Nh = Nw
    omega
  obtain rfl := hNh.out
  clear hNh I15 s15 oh hb16
  go_wp2_with fail
  refine (eqIntS_yes _ _ _ _ _ L _ (own_sints oh17) (own_sints I17.ow) (by omega)).mono ?_
  rintro e w18 ⟨rfl, hb18⟩
  have I18 := I17.below hb18
  have k10 := I18.c10
  have k11 := I18.c11
  have k20 : w18.cell? ⟨w16.heap.size, 0, none⟩ = some (.int .i64 C) := cell_kept hb18 (by simp)
  have k21 : w18.cell? ⟨w16.heap.size, 1, none⟩ = some (.int .i64 V) := cell_kept hb18 (by simp)
  clear I17 oh17 hb18
  go_wp2_with fail
  refine (eqResRes_yes _ _ _).mono ?_
  rintro e w19 ⟨rfl, hb19⟩
  have I19 := I18.below hb19
  clear I18 hb19 k10 k11 k20 k21
  go_wp2_with fail
  refine (heldIntS_any _ _ _ 1 _ (own_sints I19.og) (by omega) (by omega)).mono ?_
  rintro e w19' ⟨rfl, rfl⟩
  go_wp2
  go_ret
  exact ⟨rfl, I19.bel⟩

set_option maxHeartbeats 400000 in
theorem listTake_walk (a : Option Addr) (n cap : Nat) (zs : List Int) (w : World) (hs : SInts w a n zs) (hm : n ≤ 9223372036854775807) :
    Calls Try.prog 7 #[.slice a n cap] w fun e w' => e = .returned (.bool true) ∧ Below w.heap.size w w' := by
  by_cases hn : n ≤ 1048576
  · exact listTake_core a n cap zs w hs hn (takeL zs) (takeC zs) (takeV zs) (fun W b off h => specListTake_any b off n zs W h (by omega)) (fun W a' h => implListTake_any a' n zs W h (by omega)) (by have := takeL_len zs; have := hs.1; omega)
  · have hn' : (1048576 : Int) < (n : Int) := by omega
    clear hs
    go_enter Try.func7, Try.ntmps7
    go_wp2
    go_ret
    exact ⟨rfl, Below.refl _ _⟩

set_option maxRecDepth 100000 in
theorem listTake_lifted (os : Os) (started : os.Started) (H : Type) (enc : TypeId × Value → H) :
    ReturnsInHanded {} Try.checked os 7 .any (Rows.fnExactListTakeSpec.pre6 enc Try.prog Try.f7 Rows.fnExactListTakeRow.domain false) (Rows.fnExactListTakeSpec.post enc Try.prog Try.f7 false true false false) := by
  refine returnsInHanded_of_change (C := Try.checked) own started (by kernel_rfl) Try.func7
    (ChangeSpec.witness6 (enc := enc) (C := Try.checked) false ⟨#[], #[.slice none 0 0], []⟩ 8 (by kernel_rfl) (by kernel_rfl) (by kernel_rfl) (by kernel_rfl)) ?_
  intro W base args ds gs before hval0 hW hcnd _
  have hval : ∀ (j : Nat) t v, Try.f7.params[j]? = some t → args[j]? = some v → Value.okWide Try.prog W .any base t v := hval0
  have hW' := hW
  obtain ⟨p, q, hA0, hV, rfl, hfz, hnd⟩ := hW
  have hA : DataW.TrodAll enc Try.prog W 0 (fun _ => true) true Try.f7.params.toList args.toList ds p := hA0
  rw [Try.params7] at hA hval
  obtain ⟨v0, vs0, d0, ds0, p0, q0, hargs, rfl, rfl, h0, r0⟩ := trodAll_cons hA
  obtain ⟨rfl, rfl, rfl⟩ := trodAll_nil r0
  obtain rfl : args = #[v0] := by cases args; simp_all
  obtain ⟨rfl, rfl⟩ := trodVars_none hV
  obtain ⟨a0, len0, cap0, rfl⟩ := okWide_slice Try.underlying38 (hval 0 38 v0 rfl rfl)
  have k0 := h0
  have lt0 : ∀ x ∈ p0, x.block < W.heap.size := by obtain ⟨m, hm⟩ := k0; exact DataW.trod_lt m _ _ _ hm
  obtain ⟨zs, hs, hm⟩ := sints_of_open h0
  clear hA0 hval0
  refine (listTake_walk a0 len0 cap0 zs W hs hm).mono fun e W' ⟨he, bel⟩ => ?_
  subst he
  exact ⟨_, rfl, _, _, _, [], _, [], hW', trodAll_mk1 (shut_bool Try.underlying4 _), (trodAll_cons_mk (Below.trod laidOut (by kernel_rfl) (of_decide_eq_true (by kernel_rfl)) k0 bel lt0) trodAll_mk0), rfl, bel.frame _, fun h => by cases h⟩

theorem listTake_holds : Rows.FnExactListTakeSaid :=
  OpenClaim.holds_of_wide 7 Try.f7 rfl rfl rfl rfl rfl rfl rfl ⟨rfl, rfl, rfl, rfl, rfl⟩ rfl rfl rfl rfl rfl (by kernel_rfl) Try.func7 (by kernel_rfl)
    (of_decide_eq_true (by kernel_rfl)) (by unfold Func.isWrapper; first | (rw [if_pos (by decide +kernel)]; kernel_rfl) | (rw [if_neg (by decide +kernel)]; exact ⟨rfl, rfl⟩))
    (fun os started H enc _ => listTake_lifted os started H enc)

#print axioms listTake_holds

end Go.Proofs.Ytleajkacfhhemaq
