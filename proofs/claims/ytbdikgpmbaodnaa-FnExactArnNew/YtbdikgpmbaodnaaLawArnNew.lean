/- The law FnExactArnNew answers true: ArnNew of the program answers as that of the specification, and its answer lies in memory of its own. No condition. -/
import Derived.Test.YtbdikgpmbaodnaaNew
import Derived.Test.YtbdikgpmbaodnaaFrame3
namespace Go.Proofs.Ytbdikgpmbaodnaa
open Go.ChangeShapes Go.WideShapes Go.ChangeAt Go.RowKit
set_option linter.unusedVariables false

set_option maxHeartbeats 4000000 in
theorem arnNew_walk (w : World) : Calls Try.prog 3 #[] w fun e w' => e = .returned (.bool true) ∧ Below w.heap.size w w' := by
  have hspec : Hid (∀ W, Calls Try.prog 15 #[] W fun e w' => ArenaRes (newTo 8) 10 0 1 1 e W w') := specArnNew_any
  have himpl : Hid (∀ W, Calls Try.prog 16 #[] W fun e w' => ArenaRes (newTo 8) 10 0 1 1 e W w') := implArnNew_any
  generalize newTo 8 = L at hspec himpl
  go_enter Try.func3, Try.ntmps3
  go_wp2_with fail
  refine (hspec.out _).mono ?_
  rintro e w1 ⟨aw, cw, rfl, ow, hb1⟩
  have T2 := al1 w1 (.cells #[.slice aw 10 cw, .int .i64 0, .int .i64 1, .int .i64 1] 24)
  go_wp2_with fail
  refine (himpl.out _).mono ?_
  rintro e w3 ⟨ag, cg, rfl, og, hb3⟩
  have T4 := al1 w3 (.cells #[.slice ag 10 cg, .int .i64 0, .int .i64 1, .int .i64 1] 24)
  have I4 := Inv3.start (Pw := ArIn w.heap.size (w1.alloc (.cells #[.slice aw 10 cw, .int .i64 0, .int .i64 1, .int .i64 1] 24)).heap.size w1.heap.size aw 10 cw L 0 1 1) (Px := fun _ => True) (Pg := ArIn (w1.alloc (.cells #[.slice aw 10 cw, .int .i64 0, .int .i64 1, .int .i64 1] 24)).heap.size (w3.alloc (.cells #[.slice ag 10 cg, .int .i64 0, .int .i64 1, .int .i64 1] 24)).heap.size w3.heap.size ag 10 cg L 0 1 1)
    (below_trans' hb1 T2) ⟨boxA_new w1 _ _ _ _ _ _ 24 rfl, rowIn_of (ownsRow_below ow T2) (Nat.le_refl _)⟩ (onlyB_ar _ _ _ _ _ _ _ hb1.size (by simp))
    (Below.refl _ _) trivial (onlyB_const _ _ _) (below_trans' hb3 T4) ⟨boxA_new w3 _ _ _ _ _ _ 24 rfl, rowIn_of (ownsRow_below og T4) (Nat.le_refl _)⟩ (onlyB_ar _ _ _ _ _ _ _ hb3.size (by simp))
  have G1 : Hid ((w1.alloc (.cells #[.slice aw 10 cw, .int .i64 0, .int .i64 1, .int .i64 1] 24)).heap.size ≤ w3.heap.size ∧ w3.heap.size < (w3.alloc (.cells #[.slice ag 10 cg, .int .i64 0, .int .i64 1, .int .i64 1] 24)).heap.size ∧ (∀ k, (Value.slice ag 10 cg).ownBlock = some k → (w1.alloc (.cells #[.slice aw 10 cw, .int .i64 0, .int .i64 1, .int .i64 1] 24)).heap.size ≤ k ∧ k < (w3.alloc (.cells #[.slice ag 10 cg, .int .i64 0, .int .i64 1, .int .i64 1] 24)).heap.size) ∧ ∀ k, (Value.slice ag 10 cg).ownBlock = some k → k < w3.heap.size) := ⟨hb3.size, by simp, fun k e => ⟨(og.lt k e).1, by have := (og.lt k e).2; simp; omega⟩, fun k e => (og.lt k e).2⟩
  clear hb1 T2 hb3 T4 ow og
  generalize (w1.alloc (.cells #[.slice aw 10 cw, .int .i64 0, .int .i64 1, .int .i64 1] 24)).heap.size = S1 at I4 G1
  generalize hS3 : (w3.alloc (.cells #[.slice ag 10 cg, .int .i64 0, .int .i64 1, .int .i64 1] 24)).heap.size = S3 at I4 G1
  clear hS3
  have c0 := I4.hw.1.c0
  have c1 := I4.hw.1.c1
  have c2 := I4.hw.1.c2
  have c3 := I4.hw.1.c3
  have d0 := I4.hg.1.c0
  have d1 := I4.hg.1.c1
  have d2 := I4.hg.1.c2
  have d3 := I4.hg.1.c3
  go_wp2_with fail
  refine (eqArnArena_yes _ _ _ _ _ L _ _ _ _ (own6_snodes I4.hg.2.1) (own6_snodes I4.hw.2.1) (by omega)).mono ?_
  rintro e w5 ⟨rfl, hb5⟩
  have I5 := I4.below hb5
  clear I4 hb5
  clear c0 c1 c2 c3 d0 d1 d2 d3
  have d0 := I5.hg.1.c0
  have d1 := I5.hg.1.c1
  have d2 := I5.hg.1.c2
  have d3 := I5.hg.1.c3
  go_wp2_with fail
  refine (markArnArena_any _ _ _ _ L _ _ _ 1 _ I5.hg.2.1 (by omega) (by omega) (by omega)).mono ?_
  rintro e w6 ⟨rfl, ho6, hg6⟩
  have I6 := I5.markG (Pg' := ArIn S1 S3 w3.heap.size ag 10 cg (marksN 1 10) 0 1 1) hg6 G1.out.2.2.1 ⟨I5.hg.1.grown hg6 (fun e => by have := G1.out.2.2.2 _ e.symm; omega), ho6, fun k e => (G1.out.2.2.1 k e).2⟩ (onlyB_ar _ _ _ _ _ _ _ G1.out.1 G1.out.2.1)
  clear I5 ho6 hg6
  clear d0 d1 d2 d3
  have d0 := I6.hg.1.c0
  have d1 := I6.hg.1.c1
  have d2 := I6.hg.1.c2
  have d3 := I6.hg.1.c3
  go_wp2_with fail
  refine (heldArnArena_any _ _ _ _ _ _ 1 _ (own6_snodes I6.hg.2.1) (by omega) (by omega) (by omega)).mono ?_
  rintro e w7 ⟨rfl, hb7⟩
  have I7 := I6.below hb7
  clear I6 hb7
  clear d0 d1 d2 d3
  go_wp2_with fail
  refine (himpl.out _).mono ?_
  rintro e w8 ⟨ah, ch, rfl, oh, hb8⟩
  have T9 := al1 w8 (.cells #[.slice ah 10 ch, .int .i64 0, .int .i64 1, .int .i64 1] 24)
  have I9 := (I7.below hb8).below T9
  have sh := own6_snodes (ownsRow_below oh T9)
  have bh := boxA_new w8 ah 10 ch 0 1 1 24 rfl
  have c0 := I9.hw.1.c0
  have c1 := I9.hw.1.c1
  have c2 := I9.hw.1.c2
  have c3 := I9.hw.1.c3
  have d0 := bh.c0
  have d1 := bh.c1
  have d2 := bh.c2
  have d3 := bh.c3
  clear I7 hb8 oh T9 bh
  go_wp2_with fail
  refine (eqArnArena_yes _ _ _ _ _ L _ _ _ _ sh (own6_snodes I9.hw.2.1) (by omega)).mono ?_
  rintro e w10 ⟨rfl, hb10⟩
  have I10 := I9.below hb10
  clear I9 hb10 sh
  clear c0 c1 c2 c3 d0 d1 d2 d3
  have d0 := I10.hg.1.c0
  have d1 := I10.hg.1.c1
  have d2 := I10.hg.1.c2
  have d3 := I10.hg.1.c3
  go_wp2_with fail
  refine (heldArnArena_any _ _ _ _ _ _ 1 _ (own6_snodes I10.hg.2.1) (by omega) (by omega) (by omega)).mono ?_
  rintro e w11 ⟨rfl, hb11⟩
  have hbel := below_trans' I10.bel hb11
  clear I10 hb11
  clear d0 d1 d2 d3
  go_wp2
  go_ret
  exact ⟨rfl, hbel⟩

set_option maxRecDepth 100000 in
theorem arnNew_lifted (os : Os) (started : os.Started) (H : Type) (enc : TypeId × Value → H) :
    ReturnsInHanded {} Try.checked os 3 .any (Rows.fnExactArnNewSpec.pre6 enc Try.prog Try.f3 Rows.fnExactArnNewRow.domain false) (Rows.fnExactArnNewSpec.post enc Try.prog Try.f3 false true false false) := by
  refine returnsInHanded_of_change (C := Try.checked) own started (by kernel_rfl) Try.func3
    (ChangeSpec.witness6 (enc := enc) (C := Try.checked) false ⟨#[], #[], []⟩ 8 (by kernel_rfl) (by kernel_rfl) (by kernel_rfl) (by kernel_rfl)) ?_
  intro W base args ds gs before hval0 hW hcnd _
  have hW' := hW
  obtain ⟨p, q, hA0, hV, rfl, hfz, hnd⟩ := hW
  have hA : DataW.TrodAll enc Try.prog W 0 (fun _ => true) true Try.f3.params.toList args.toList ds p := hA0
  rw [Try.params3] at hA
  obtain ⟨hargs, rfl, rfl⟩ := trodAll_nil hA
  obtain rfl : args = #[] := by cases args; simp_all
  obtain ⟨rfl, rfl⟩ := trodVars_none hV
  clear hA0 hval0
  refine (arnNew_walk W).mono fun e W' ⟨he, bel⟩ => ?_
  subst he
  exact ⟨_, rfl, _, _, _, [], _, [], hW', trodAll_mk1 (shut_bool Try.underlying4 _), trodAll_mk0, rfl, bel.frame _, fun h => by cases h⟩

theorem arnNew_holds : Rows.FnExactArnNewSaid :=
  OpenClaim.holds_of_wide 3 Try.f3 rfl rfl rfl rfl rfl rfl rfl ⟨rfl, rfl, rfl, rfl, rfl⟩ rfl rfl rfl rfl rfl (by kernel_rfl) Try.func3 (by kernel_rfl)
    (of_decide_eq_true (by kernel_rfl)) (by unfold Func.isWrapper; first | (rw [if_pos (by decide +kernel)]; kernel_rfl) | (rw [if_neg (by decide +kernel)]; exact ⟨rfl, rfl⟩))
    (fun os started H enc _ => arnNew_lifted os started H enc)

#print axioms arnNew_holds

end Go.Proofs.Ytbdikgpmbaodnaa
