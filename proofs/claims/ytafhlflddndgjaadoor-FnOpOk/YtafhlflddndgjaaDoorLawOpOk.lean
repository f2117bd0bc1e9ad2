/- For everything that can be asked, three numbers, the law FnExactOpOk answers true and leaves its argument as it was: OpOk of the program answers as that of the specification. No condition but the card's own: the program's table reads as its text lays it. -/
import Derived.Test.YtafhlflddndgjaaDoorTabS
import Derived.Test.YtafhlflddndgjaaDoorTie
import Derived.Test.YtafhlflddndgjaaDoorCards
import Derived.SevenTiedAt
namespace Go.Proofs.YtafhlflddndgjaaDoor
open Go.ChangeShapes Go.WideShapes Go.ChangeAt Go.RowKit
set_option linter.unusedVariables false

theorem below_onto {W V U : World} {m : Nat} (h : Below m W V) (hm : m ≤ V.heap.size) (h' : Below V.heap.size V U) : Below m W U := h.trans (h'.mono hm)

set_option maxHeartbeats 400000 in
theorem opOk_walk (k key val : Int) (w : World) (ht : Tab w) :
    Calls Tryd.prog 6 #[.agg #[.int .i64 k, .int .i64 key, .int .i64 val]] w fun e w' => e = .returned (.bool true) ∧ Below w.heap.size w w' := by
  have hs := specOpOk_any k key val
  have hi := implOpOk_any k key val
  have hc := toOpOp_any k key val
  have B0 : Below w.heap.size w (w.alloc (.cells #[.int .i64 k, .int .i64 key, .int .i64 val] 41)) := (Below.refl _ _).alloc (Nat.le_refl _) _
  have p0 : (w.alloc (.cells #[.int .i64 k, .int .i64 key, .int .i64 val] 41)).cell? ⟨w.heap.size, 0, none⟩ = some (.int .i64 k) := by simp
  have p1 : (w.alloc (.cells #[.int .i64 k, .int .i64 key, .int .i64 val] 41)).cell? ⟨w.heap.size, 1, none⟩ = some (.int .i64 key) := by simp
  have p2 : (w.alloc (.cells #[.int .i64 k, .int .i64 key, .int .i64 val] 41)).cell? ⟨w.heap.size, 2, none⟩ = some (.int .i64 val) := by simp
  have hz : w.heap.size ≤ (w.alloc (.cells #[.int .i64 k, .int .i64 key, .int .i64 val] 41)).heap.size := by simp
  go_enter Tryd.func6, Tryd.ntmps6
  go_wp2_with fail
  refine (hc _).mono ?_
  rintro e w1 ⟨rfl, b1⟩
  have q0 := kept_cell b1 p0
  have q1 := kept_cell b1 p1
  have q2 := kept_cell b1 p2
  have B1 := below_onto B0 hz b1
  have z1 := Nat.le_trans hz b1.size
  clear p0 p1 p2 B0 hz b1
  go_wp2_with fail
  refine (hs _).mono ?_
  rintro e w2 ⟨rfl, b2⟩
  have r0 := kept_cell b2 q0
  have r1 := kept_cell b2 q1
  have r2 := kept_cell b2 q2
  have B2 := below_onto B1 z1 b2
  have z2 := Nat.le_trans z1 b2.size
  clear q0 q1 q2 B1 z1 b2
  go_wp2_with fail
  refine (hc _).mono ?_
  rintro e w3 ⟨rfl, b3⟩
  have B3 := below_onto B2 z2 b3
  have z3 := Nat.le_trans z2 b3.size
  clear r0 r1 r2 B2 z2 b3
  go_wp2_with fail
  refine (hi _ (ht.below B3)).mono ?_
  rintro e w4 ⟨rfl, b4⟩
  have B4 := below_onto B3 z3 b4
  clear B3 z3 b4
  generalize opB k key val = b
  cases b
  · go_wp2
    go_ret
    exact ⟨rfl, B4⟩
  · go_wp2
    go_ret
    exact ⟨rfl, B4⟩

set_option maxRecDepth 100000 in
theorem op_of_open {H : Type} {enc : TypeId × Value → H} {W : World} {base : Nat} {v0 : Value} {d0 : DataW H} {p0 : List MemPlace} (hv : Value.okWide Tryd.prog W .any base 41 v0)
    (h0 : DataW.Trod enc Tryd.prog W 0 (fun _ => true) true 41 v0 d0 p0) : ∃ k key val : Int, v0 = .agg #[.int .i64 k, .int .i64 key, .int .i64 val] := by
  obtain ⟨cs, rfl, hsz⟩ := okWide_struct Tryd.underlying41 hv
  obtain ⟨fuel, hf⟩ := h0
  have hs3 : cs.size = 3 := hsz.trans (by kernel_rfl)
  obtain ⟨a, b, c, e, _⟩ := op_of_trod Tryd.underlying41 rfl rfl rfl rfl (by simpa [Value.cells] using hs3) hf
  refine ⟨a, b, c, ?_⟩
  congr 1
  apply Array.ext'
  simpa [Value.cells] using e

set_option maxRecDepth 100000 in
theorem door_met (os : Os) (args : Array Value) : laidMetH Tryd.prog [("loop.example/tuggers/impl.askedMost", Rows.laid_loop_example_tuggers_impl_askedMost)] ((World.doorLaid Tryd.prog 400 os).forCall (fun _ _ => 0) ⟨#[], args, []⟩).memory :=
  laidMetH_of_parts3 (fuel := 8) (laidMet_of_run' 8 (by kernel_rfl) (by kernel_rfl)) (by kernel_rfl) (by kernel_rfl)

set_option maxRecDepth 100000 in
theorem opOk_lifted (os : Os) (started : os.Started) (H : Type) (enc : TypeId × Value → H) :
    ReturnsInHanded {} Tryd.checked os 6 .any (fun w args => (Rows.fnExactOpOkSpec.pre enc Tryd.prog Tryd.f6 [] false w args ∧ laidMetH Tryd.prog [("loop.example/tuggers/impl.askedMost", Rows.laid_loop_example_tuggers_impl_askedMost)] w) ∧ sizedMet enc Tryd.prog Tryd.f6 (OpenSpec.ofChange Rows.fnExactOpOkSpec) false w args)
      (Rows.fnExactOpOkSpec.post enc Tryd.prog Tryd.f6 false true false false) := by
  refine returnsInHanded_of_change_and (C := Tryd.checked) (X := fun w _ => laidMetH Tryd.prog [("loop.example/tuggers/impl.askedMost", Rows.laid_loop_example_tuggers_impl_askedMost)] w) (fun _ _ _ hh h => h.of_heap hh) own started (by kernel_rfl) Tryd.func6
    (ChangeSpec.witness_shaped (enc := enc) (C := Tryd.checked) (os := os) (X := fun w _ => laidMetH Tryd.prog [("loop.example/tuggers/impl.askedMost", Rows.laid_loop_example_tuggers_impl_askedMost)] w) false (World.doorLaid Tryd.prog 400 os) #[.agg #[.int .i64 0, .int .i64 0, .int .i64 0]] 8 rfl (World.shaped_of_RefB (by kernel_rfl) (by kernel_rfl)) (by kernel_rfl) (by kernel_rfl) (by kernel_rfl) (door_met os _)) ?_
  intro W base args ds gs before hval0 hW _ _ hL _
  have hval : ∀ (j : Nat) t v, Tryd.f6.params[j]? = some t → args[j]? = some v → Value.okWide Tryd.prog W .any base t v := hval0
  have hW' := hW
  obtain ⟨p, q, hA0, hV, rfl, hfz, hnd⟩ := hW
  have hA : DataW.TrodAll enc Tryd.prog W 0 (fun _ => true) true Tryd.f6.params.toList args.toList ds p := hA0
  rw [Tryd.params6] at hA hval
  obtain ⟨v0, vs0, d0, ds0, p0, q0, hargs, rfl, rfl, h0, r0⟩ := trodAll_cons hA
  obtain ⟨rfl, rfl, rfl⟩ := trodAll_nil r0
  obtain rfl : args = #[v0] := by cases args; simp_all
  obtain ⟨d1, rfl⟩ : ∃ d1, gs = [d1] := by
    have hV2 : DataW.TrodVars enc Tryd.prog W (fun _ => true) ["loop.example/tuggers/impl.askedMost"] gs q := hV
    obtain ⟨_, _, _, _, d1, _, e, _⟩ := trodVars_one hV2
    exact ⟨d1, e⟩
  have hVr : varsRowed Tryd.prog Rows.fnExactOpOkSpec.vars = true := by kernel_rfl
  have k0 := h0
  have lt0 : ∀ x ∈ p0, x.block < W.heap.size := by obtain ⟨m, hm⟩ := k0; exact DataW.trod_lt m _ _ _ hm
  obtain ⟨k, key, val, rfl⟩ := op_of_open (hval 0 41 v0 rfl rfl) h0
  have hT := tab_of_laid hL
  clear hA0 hval0
  refine (opOk_walk k key val W hT).mono fun e W' ⟨he, bel⟩ => ?_
  subst he
  exact ⟨_, rfl, _, _, _, [], _, _, hW', trodAll_mk1 (shut_bool Tryd.underlying4 _), (trodAll_cons_mk (Below.trod laidOut (by kernel_rfl) (of_decide_eq_true (by kernel_rfl)) k0 bel lt0) trodAll_mk0), Below.trodVars laidOut bel hVr hV, bel.frame _, fun h => by cases h⟩

theorem opOk_said : Rows.FnExactOpOkSaid :=
  OpenClaim.holds_of_wide 6 Tryd.f6 rfl rfl rfl rfl rfl rfl rfl ⟨rfl, rfl, rfl, rfl, rfl⟩ rfl rfl rfl rfl rfl (by kernel_rfl) Tryd.func6 (by kernel_rfl)
    (of_decide_eq_true (by kernel_rfl)) (by unfold Func.isWrapper; first | (rw [if_pos (by decide +kernel)]; kernel_rfl) | (rw [if_neg (by decide +kernel)]; exact ⟨rfl, rfl⟩))
    (fun os started H enc _ => opOk_lifted os started H enc)

theorem opOk_holds : Rows.FnExactOpOkCardSaid :=
  Claim7.holds_tied_plain_at .later [] [.data] true (true, "0af08fa4255ccecc8197f8ce2f23474d3a0d6e2d22f1a7b96ef653e0e766170c") false
    opOk_said (fun _ h => by cases h) (by kernel_rfl) (fun _ h => by cases h) fnExactOpOk_row_tie rfl ⟨rfl, rfl⟩ (by kernel_rfl) rfl
    (fun f fn hf hfn => by
      obtain rfl : f = 6 := Option.some.inj ((show Tryd.prog.funcNamed "loop.example/tuggers/laws.FnExactOpOk" = some 6 by kernel_rfl).symm.trans hf) |>.symm
      obtain rfl : fn = Tryd.f6 := (Option.some.inj (Tryd.func6.symm.trans hfn)).symm
      exact ⟨by kernel_rfl, fun j t ht => by
        rw [Tryd.params6] at ht
        have h3 : t = 41 := by
          rcases j with _ | j
          · simpa using ht.symm
          · simp at ht
        subst h3
        exact (show Tryd.prog.wantsStandIn 41 = false by kernel_rfl)⟩)
    (by kernel_rfl)

#print axioms opOk_holds

end Go.Proofs.YtafhlflddndgjaaDoor
