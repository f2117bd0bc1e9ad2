/- For every state by itself, and whatever is asked, the law FnExactLinApply answers true and leaves its arguments as they were: LinApply of the program answers as that of the specification, writes into no argument, and its answer owns its memory. No condition but the card's own: the program's table reads as its text lays it. -/
import Derived.Test.YtklpdpdjblakgaaDoorGr4
import Derived.Test.YtklpdpdjblakgaaDoorGr9
import Derived.Test.YtklpdpdjblakgaaDoorGr1
import Derived.Test.YtklpdpdjblakgaaDoorTie
import Derived.Test.YtklpdpdjblakgaaDoorCards
import Derived.SevenTiedAt
namespace Go.Proofs.YtklpdpdjblakgaaDoor
open Go.ChangeShapes Go.WideShapes Go.ChangeAt Go.RowKit
set_option linter.unusedVariables false

set_option maxRecDepth 100000 in
theorem door_met (os : Os) (args : Array Value) : laidMetH Tryd.prog [("loop.example/tuggers/impl.askedMost", Rows.laid_loop_example_tuggers_impl_askedMost)] ((World.doorLaid Tryd.prog 400 os).forCall (fun _ _ => 0) ⟨#[], args, []⟩).memory :=
  laidMetH_of_parts3 (fuel := 8) (laidMet_of_run' 8 (by kernel_rfl) (by kernel_rfl)) (by kernel_rfl) (by kernel_rfl)

set_option maxRecDepth 100000 in
theorem exactLinApply_lifted (os : Os) (started : os.Started) (H : Type) (enc : TypeId × Value → H) :
    ReturnsInHanded {} Tryd.checked os 3 .any (fun w args => (Rows.fnExactLinApplySpec.pre enc Tryd.prog Tryd.f3 [] false w args ∧ laidMetH Tryd.prog [("loop.example/tuggers/impl.askedMost", Rows.laid_loop_example_tuggers_impl_askedMost)] w) ∧ sizedMet enc Tryd.prog Tryd.f3 (OpenSpec.ofChange Rows.fnExactLinApplySpec) false w args)
      (Rows.fnExactLinApplySpec.post enc Tryd.prog Tryd.f3 false true false false) := by
  refine returnsInHanded_of_change_and (C := Tryd.checked) (X := fun w _ => laidMetH Tryd.prog [("loop.example/tuggers/impl.askedMost", Rows.laid_loop_example_tuggers_impl_askedMost)] w) (fun _ _ _ hh h => h.of_heap hh) own started (by kernel_rfl) Tryd.func3
    (ChangeSpec.witness_shaped (enc := enc) (C := Tryd.checked) (os := os) (X := fun w _ => laidMetH Tryd.prog [("loop.example/tuggers/impl.askedMost", Rows.laid_loop_example_tuggers_impl_askedMost)] w) false (World.doorLaid Tryd.prog 400 os) #[.agg #[.slice none 0 0, .slice none 0 0, .slice none 0 0], .agg #[.int .i64 0, .int .i64 0, .int .i64 0]] 8 rfl (World.shaped_of_RefB (by kernel_rfl) (by kernel_rfl)) (by kernel_rfl) (by kernel_rfl) (by kernel_rfl) (door_met os _)) ?_
  intro W base args ds gs before hval0 hW _ _ hL _
  have hval : ∀ (j : Nat) t v, Tryd.f3.params[j]? = some t → args[j]? = some v → Value.okWide Tryd.prog W .any base t v := hval0
  have hW' := hW
  obtain ⟨p, q, hA0, hV, rfl, hfz, hnd⟩ := hW
  have hA : DataW.TrodAll enc Tryd.prog W 0 (fun _ => true) true Tryd.f3.params.toList args.toList ds p := hA0
  rw [Tryd.params3] at hA hval
  obtain ⟨v0, vs0, d0, ds0, p0, q0, hargs, rfl, rfl, h0, r0⟩ := trodAll_cons hA
  obtain ⟨v1, vs1, d2, ds1, p1, q1, rfl, rfl, rfl, h1, r1⟩ := trodAll_cons r0
  obtain ⟨rfl, rfl, rfl⟩ := trodAll_nil r1
  obtain rfl : args = #[v0, v1] := by cases args; simp_all
  obtain ⟨d1, rfl⟩ : ∃ d1, gs = [d1] := by
    have hV2 : DataW.TrodVars enc Tryd.prog W (fun _ => true) ["loop.example/tuggers/impl.askedMost"] gs q := hV
    obtain ⟨_, _, _, _, d1, _, e, _⟩ := trodVars_one hV2
    exact ⟨d1, e⟩
  have hVr : varsRowed Tryd.prog Rows.fnExactLinApplySpec.vars = true := by kernel_rfl
  have k0 := h0
  have lt0 : ∀ x ∈ p0, x.block < W.heap.size := by obtain ⟨m, hm⟩ := k0; exact DataW.trod_lt m _ _ _ hm
  have k1 := h1
  have lt1 : ∀ x ∈ p1, x.block < W.heap.size := by obtain ⟨m, hm⟩ := k1; exact DataW.trod_lt m _ _ _ hm
  obtain ⟨v, d, rfl, hs, l1, l2, l3⟩ := state_of_open (hval 0 27 v0 rfl rfl) h0
  obtain ⟨k, x, y, rfl⟩ := lop_of_open (hval 1 29 v1 rfl rfl) h1
  have hT := tab_of_laid hL
  clear hA0 hval0
  refine (linExact_walk v d k x y W hs l1 l2 l3 hT).mono fun e W' ⟨he, bel⟩ => ?_
  subst he
  exact ⟨_, rfl, _, _, _, [], _, _, hW', trodAll_mk1 (shut_bool Tryd.underlying4 _), (trodAll_cons_mk (Below.trod laidOut (by kernel_rfl) (of_decide_eq_true (by kernel_rfl)) k0 bel lt0) (trodAll_cons_mk (Below.trod laidOut (by kernel_rfl) (of_decide_eq_true (by kernel_rfl)) k1 bel lt1) trodAll_mk0)), Below.trodVars laidOut bel hVr hV, bel.frame _, fun h => by cases h⟩

theorem exactLinApply_said : Rows.FnExactLinApplySaid :=
  OpenClaim.holds_of_wide 3 Tryd.f3 rfl rfl rfl rfl rfl rfl rfl ⟨rfl, rfl, rfl, rfl, rfl⟩ rfl rfl rfl rfl rfl (by kernel_rfl) Tryd.func3 (by kernel_rfl)
    (of_decide_eq_true (by kernel_rfl)) (by unfold Func.isWrapper; first | (rw [if_pos (by decide +kernel)]; kernel_rfl) | (rw [if_neg (by decide +kernel)]; exact ⟨rfl, rfl⟩))
    (fun os started H enc _ => exactLinApply_lifted os started H enc)

theorem exactLinApply_holds : Rows.FnExactLinApplyCardSaid :=
  Claim7.holds_tied_plain_at .later [] [.data] true (true, "0895f57191a4b0cc4ece07b0d2b22b4cd8bfa79ce60b643e201eb2e634eaa9a2") false
    exactLinApply_said (fun _ h => by cases h) (by kernel_rfl) (fun _ h => by cases h) fnExactLinApply_row_tie rfl ⟨rfl, rfl⟩ (by kernel_rfl) rfl
    (fun f fn hf hfn => by
      obtain rfl : f = 3 := Option.some.inj ((show Tryd.prog.funcNamed "loop.example/tuggers/laws.FnExactLinApply" = some 3 by kernel_rfl).symm.trans hf) |>.symm
      obtain rfl : fn = Tryd.f3 := (Option.some.inj (Tryd.func3.symm.trans hfn)).symm
      exact ⟨by kernel_rfl, fun j t ht => by
        rw [Tryd.params3] at ht
        rcases j with _ | _ | j
        · obtain rfl : t = 27 := by simpa using ht.symm
          exact (show Tryd.prog.wantsStandIn 27 = false by kernel_rfl)
        · obtain rfl : t = 29 := by simpa using ht.symm
          exact (show Tryd.prog.wantsStandIn 29 = false by kernel_rfl)
        · simp at ht⟩)
    (by kernel_rfl)

#print axioms exactLinApply_holds

end Go.Proofs.YtklpdpdjblakgaaDoor
