/- The law FnExactPolNew answers true: PolNew of the program answers as that of the specification, and its answer lies in memory of its own. No condition. -/
import Derived.Test.YtgcpjihjhefpnaaNewI
import Derived.Test.YtgcpjihjhefpnaaFrameP
import Derived.Test.YtgcpjihjhefpnaaMarks
namespace Go.Proofs.Ytgcpjihjhefpnaa
open Go.ChangeShapes Go.WideShapes Go.ChangeAt Go.RowKit
set_option linter.unusedVariables false

theorem New3.below {lo gp gl : Nat} {ps : List Int} {W W' : World} (h : New3 lo gp gl ps W) (hb : Below W.heap.size W W') : New3 lo gp gl ps W' :=
  ⟨ownsRow_below h.op hb, fun i hi => cell_kept hb (h.ol i hi), h.ne, h.le⟩
theorem New3.sl {lo gp gl : Nat} {ps : List Int} {W : World} (h : New3 lo gp gl ps W) : SLimbo W (some ⟨gl, 0, none⟩) 3 [[], [], []] := by
  refine ⟨rfl, .inr ⟨gl, 0, rfl, fun i os hi => ?_⟩⟩
  have hi3 : i < 3 := by
    have := (List.getElem?_eq_some_iff.1 hi).1
    simpa using this
  have hos : os = [] := by
    match i, hi3, hi with
    | 0, _, hi => simpa using hi.symm
    | 1, _, hi => simpa using hi.symm
    | 2, _, hi => simpa using hi.symm
  subst hos
  exact ⟨none, 0, by rw [Nat.zero_add]; exact h.ol i hi3, rfl, rfl, .inl rfl⟩

set_option maxHeartbeats 400000 in
theorem markPolOldS_nil (k : Int) (w : World) : Calls Try.prog 43 #[.slice none 0 0, .int .i64 k] w fun e w' => e = .returned (.int .i64 k) ∧ w' = w := by
  go_enter Try.func43, Try.ntmps43
  go_wp2
  go_loop [1, 5] (fun s i => i = .int .i64 0 ∧ s = .int .i64 k) (fun _ _ => 0)
  case atStart => exact ⟨rfl, rfl⟩
  case round =>
    obtain ⟨rfl, rfl⟩ := hrel
    go_wp2
    go_ret
    exact ⟨rfl, rfl⟩

set_option maxHeartbeats 400000 in
theorem heldPolOldS_nil (k : Int) (w : World) : Calls Try.prog 44 #[.slice none 0 0, .int .i64 k] w fun e w' => e = .returned (.int .i64 k) ∧ w' = w := by
  go_enter Try.func44, Try.ntmps44
  go_wp2
  go_loop [1, 5] (fun s i => i = .int .i64 0 ∧ s = .int .i64 k) (fun _ _ => 0)
  case atStart => exact ⟨rfl, rfl⟩
  case round =>
    obtain ⟨rfl, rfl⟩ := hrel
    go_wp2
    go_ret
    exact ⟨rfl, rfl⟩

set_option maxHeartbeats 400000 in
theorem markPolOldSS_nil (gl : Nat) (k : Int) (w : World) (hc : ∀ i, i < 3 → w.cell? ⟨gl, i, none⟩ = some (.slice none 0 0)) : Calls Try.prog 24 #[.slice (some ⟨gl, 0, none⟩) 3 3, .int .i64 k] w fun e w' => e = .returned (.int .i64 k) ∧ w' = w := by
  go_enter Try.func24, Try.ntmps24
  go_wp2
  go_loop [1, 5] (fun s i => ∃ j : Nat, j ≤ 3 ∧ i = .int .i64 j ∧ s = .int .i64 k) (fun _ i => 3 - (intOf i).toNat)
  case atStart => exact ⟨0, by omega, rfl, rfl⟩
  case round =>
    obtain ⟨j, hj, rfl, rfl⟩ := hrel
    by_cases hlt : j < 3
    · have h1 := hc j hlt
      clear hc
      go_wp2_with fail
      refine (markPolOldS_nil _ _).mono ?_
      rintro e w' ⟨rfl, rfl⟩
      go_wp2
      go_round
      case rel => exact ⟨j + 1, by omega, by go_num, rfl⟩
      case measure => simp [intOf]; omega
    · obtain rfl : j = 3 := by omega
      clear hc
      go_wp2
      go_ret
      exact ⟨rfl, rfl⟩

set_option maxHeartbeats 400000 in
theorem heldPolOldSS_nil (gl : Nat) (k : Int) (w : World) (hk : 0 ≤ k) (hc : ∀ i, i < 3 → w.cell? ⟨gl, i, none⟩ = some (.slice none 0 0)) : Calls Try.prog 25 #[.slice (some ⟨gl, 0, none⟩) 3 3, .int .i64 k] w fun e w' => e = .returned (.int .i64 k) ∧ w' = w := by
  have hk' : ¬ k < 0 := by omega
  go_enter Try.func25, Try.ntmps25
  go_wp2
  go_loop [1, 5] (fun s i => ∃ j : Nat, j ≤ 3 ∧ i = .int .i64 j ∧ s = .int .i64 k) (fun _ i => 3 - (intOf i).toNat)
  case atStart => exact ⟨0, by omega, rfl, rfl⟩
  case round =>
    obtain ⟨j, hj, rfl, rfl⟩ := hrel
    by_cases hlt : j < 3
    · have h1 := hc j hlt
      clear hc
      go_wp2_with fail
      refine (heldPolOldS_nil _ _).mono ?_
      rintro e w' ⟨rfl, rfl⟩
      go_wp2
      go_round
      case rel => exact ⟨j + 1, by omega, by go_num, rfl⟩
      case measure => simp [intOf]; omega
    · obtain rfl : j = 3 := by omega
      clear hc
      go_wp2
      go_ret
      exact ⟨rfl, rfl⟩

set_option maxHeartbeats 800000 in
theorem markPolPool_new (lo gp gl : Nat) (ps : List Int) (w : World) (h : New3 lo gp gl ps w) (hlo : lo ≤ w.heap.size) :
    Calls Try.prog 10 #[.agg #[.int .i64 0, .slice (some ⟨gp, 0, none⟩) 3 3, .slice (some ⟨gl, 0, none⟩) 3 3], .int .i64 1] w fun e w' => e = .returned (.int .i64 4) ∧ New3 lo gp gl (marks 1 3) w' ∧ w.grownBy w' (some gp) := by
  have A := al1 w (.cells #[.int .i64 0, .slice (some ⟨gp, 0, none⟩) 3 3, .slice (some ⟨gl, 0, none⟩) 3 3] 25)
  have H0 : Hid (New3 lo gp gl ps (w.alloc (.cells #[.int .i64 0, .slice (some ⟨gp, 0, none⟩) 3 3, .slice (some ⟨gl, 0, none⟩) 3 3] 25)) ∧ gp < w.heap.size) := ⟨h.below A, (h.op.lt gp rfl).2⟩
  have bx := boxP_new w 0 (some ⟨gp, 0, none⟩) 3 3 (some ⟨gl, 0, none⟩) 3 3 25 rfl
  clear h
  go_enter Try.func10, Try.ntmps10
  go_wp2_with fail
  refine (markIntS_any _ _ _ lo ps _ _ H0.out.1.op (by omega) (by omega)).mono ?_
  rintro e w1 ⟨rfl, ho1, hg1, hs1⟩
  have ne1 : some w.heap.size ≠ some gp := fun e => by have e1 := Option.some.inj e; have := H0.out.2; omega
  have c2 : w1.cell? ⟨w.heap.size, 2, none⟩ = some (.slice (some ⟨gl, 0, none⟩) 3 3) := hg1.cell bx.c2 ne1
  have N1 : Hid (New3 lo gp gl (marks 1 3) w1 ∧ w.grownBy w1 (some gp)) := by
    refine ⟨⟨ho1, fun i hi => hg1.cell (H0.out.1.ol i hi) (fun e => H0.out.1.ne (Option.some.inj e).symm), H0.out.1.ne, H0.out.1.le⟩, ?_⟩
    exact ⟨hg1.os.trans A.os, hg1.tape.trans A.tape, hg1.output.trans A.output, Nat.le_trans A.size hg1.size, fun c hc hn => (hg1.block c (Nat.lt_of_lt_of_le hc A.size) hn).trans (A.block c hc)⟩
  clear ho1 hg1 hs1 bx A ne1 H0
  go_wp2_with fail
  refine (markPolOldSS_nil gl _ _ N1.out.1.ol).mono ?_
  rintro e w2 ⟨rfl, rfl⟩
  clear c2
  go_wp2
  go_ret
  exact ⟨rfl, N1.out.1, N1.out.2⟩

set_option maxHeartbeats 800000 in
theorem heldPolPool_new (lo gp gl : Nat) (w : World) (h : New3 lo gp gl (marks 1 3) w) :
    Calls Try.prog 11 #[.agg #[.int .i64 0, .slice (some ⟨gp, 0, none⟩) 3 3, .slice (some ⟨gl, 0, none⟩) 3 3], .int .i64 1] w fun e w' => e = .returned (.int .i64 4) ∧ Below w.heap.size w w' := by
  have A := al1 w (.cells #[.int .i64 0, .slice (some ⟨gp, 0, none⟩) 3 3, .slice (some ⟨gl, 0, none⟩) 3 3] 25)
  have H0 : Hid (New3 lo gp gl (marks 1 3) (w.alloc (.cells #[.int .i64 0, .slice (some ⟨gp, 0, none⟩) 3 3, .slice (some ⟨gl, 0, none⟩) 3 3] 25))) := h.below A
  clear h
  go_enter Try.func11, Try.ntmps11
  go_wp2_with fail
  refine (heldIntS_any _ _ _ 1 _ (own_sints H0.out.op) (by omega) (by omega)).mono ?_
  rintro e w1 ⟨rfl, rfl⟩
  go_wp2_with fail
  refine (heldPolOldSS_nil gl _ _ (by omega) H0.out.ol).mono ?_
  rintro e w2 ⟨rfl, rfl⟩
  go_wp2
  go_ret
  exact ⟨rfl, A⟩

/-- What stands while the law runs. -/
structure LN (w2 : World) (b2 gp gl : Nat) (ps : List Int) (W : World) : Prop where
  base : Below w2.heap.size w2 W
  bg : BoxP W b2 0 (some ⟨gp, 0, none⟩) 3 3 (some ⟨gl, 0, none⟩) 3 3
  n3 : New3 w2.heap.size gp gl ps W
  lt : gp < b2
theorem LN.below {w2 : World} {b2 gp gl : Nat} {ps : List Int} {W W' : World} (h : LN w2 b2 gp gl ps W) (hb : Below W.heap.size W W') : LN w2 b2 gp gl ps W' :=
  ⟨below_trans' h.base hb, h.bg.below hb, h.n3.below hb, h.lt⟩
theorem LN.mark {w2 : World} {b2 gp gl : Nat} {ps ps' : List Int} {W W' : World} (h : LN w2 b2 gp gl ps W) (hg : W.grownBy W' (some gp)) (hn : New3 w2.heap.size gp gl ps' W') : LN w2 b2 gp gl ps' W' := by
  have ne : some b2 ≠ some gp := fun e => by have e1 := Option.some.inj e; have := h.lt; omega
  exact ⟨h.base.grown hg h.base.size (fun k e => by obtain rfl : gp = k := Option.some.inj e; exact (h.n3.op.lt gp rfl).1), ⟨hg.cell h.bg.c0 ne, hg.cell h.bg.c1 ne, hg.cell h.bg.c2 ne⟩, hn, h.lt⟩

set_option maxHeartbeats 4000000 in
theorem polNew_walk (w : World) : Calls Try.prog 3 #[] w fun e w' => e = .returned (.bool true) ∧ Below w.heap.size w w' := by
  go_enter Try.func3, Try.ntmps3
  go_wp2_with fail
  refine (specPolNew_any _).mono ?_
  rintro e w1 ⟨pa, pc, la, lc, rfl, sp, sl, hb1⟩
  have T2 := al1 w1 (.cells #[.int .i64 0, .slice pa 3 pc, .slice la 3 lc] 25)
  have H2 : Hid (BoxP (w1.alloc (.cells #[.int .i64 0, .slice pa 3 pc, .slice la 3 lc] 25)) w1.heap.size 0 pa 3 pc la 3 lc ∧ SInts (w1.alloc (.cells #[.int .i64 0, .slice pa 3 pc, .slice la 3 lc] 25)) pa 3 [0, 0, 0] ∧ SLimbo (w1.alloc (.cells #[.int .i64 0, .slice pa 3 pc, .slice la 3 lc] 25)) la 3 [[], [], []] ∧ Below w.heap.size w (w1.alloc (.cells #[.int .i64 0, .slice pa 3 pc, .slice la 3 lc] 25)) ∧ w.heap.size ≤ w1.heap.size) := ⟨boxP_new w1 _ _ _ _ _ _ _ 25 rfl, sp.below T2, sl.below T2, below_trans' hb1 T2, hb1.size⟩
  clear sp sl hb1 T2
  go_wp2_with fail
  refine (implPolNew_any _).mono ?_
  generalize w1.alloc (.cells #[.int .i64 0, .slice pa 3 pc, .slice la 3 lc] 25) = w2 at H2 ⊢
  rintro e w3 ⟨gp, gl, rfl, n3, hb3⟩
  have T4 := al1 w3 (.cells #[.int .i64 0, .slice (some ⟨gp, 0, none⟩) 3 3, .slice (some ⟨gl, 0, none⟩) 3 3] 25)
  have I4 : LN w2 w3.heap.size gp gl [0, 0, 0] (w3.alloc (.cells #[.int .i64 0, .slice (some ⟨gp, 0, none⟩) 3 3, .slice (some ⟨gl, 0, none⟩) 3 3] 25)) := ⟨below_trans' hb3 T4, boxP_new w3 _ _ _ _ _ _ _ 25 rfl, n3.below T4, (n3.op.lt gp rfl).2⟩
  clear n3 hb3 T4
  obtain ⟨c0, c1, c2⟩ := (H2.out.1.below I4.base).cells
  obtain ⟨d0, d1, d2⟩ := I4.bg.cells
  go_wp2_with fail
  refine (eqPolPool_yes 0 _ _ _ _ _ _ _ _ _ _ [0, 0, 0] [[], [], []] _ (own_sints I4.n3.op) (H2.out.2.1.below I4.base) I4.n3.sl (H2.out.2.2.1.below I4.base) (by omega) (by omega) (by decide)).mono ?_
  rintro e w5 ⟨rfl, hb5⟩
  have I5 := I4.below hb5
  clear I4 hb5 c0 c1 c2 d0 d1 d2
  obtain ⟨d0, d1, d2⟩ := I5.bg.cells
  go_wp2_with fail
  refine (markPolPool_new _ _ _ _ _ I5.n3 I5.base.size).mono ?_
  rintro e w6 ⟨rfl, n6, g6⟩
  have I6 := I5.mark g6 n6
  clear I5 n6 g6 d0 d1 d2
  obtain ⟨d0, d1, d2⟩ := I6.bg.cells
  go_wp2_with fail
  refine (heldPolPool_new _ _ _ _ I6.n3).mono ?_
  rintro e w7 ⟨rfl, hb7⟩
  have I7 := I6.below hb7
  clear I6 hb7 d0 d1 d2
  go_wp2_with fail
  refine (implPolNew_any _).mono ?_
  rintro e w8 ⟨hp, hl, rfl, n8, hb8⟩
  have T9 := al1 w8 (.cells #[.int .i64 0, .slice (some ⟨hp, 0, none⟩) 3 3, .slice (some ⟨hl, 0, none⟩) 3 3] 25)
  have I9 := (I7.below hb8).below T9
  have n9 := n8.below T9
  have b9 := boxP_new w8 0 (some ⟨hp, 0, none⟩) 3 3 (some ⟨hl, 0, none⟩) 3 3 25 rfl
  clear I7 hb8 n8 T9
  obtain ⟨c0, c1, c2⟩ := (H2.out.1.below I9.base).cells
  obtain ⟨d0, d1, d2⟩ := b9.cells
  go_wp2_with fail
  refine (eqPolPool_yes 0 _ _ _ _ _ _ _ _ _ _ [0, 0, 0] [[], [], []] _ (own_sints n9.op) (H2.out.2.1.below I9.base) n9.sl (H2.out.2.2.1.below I9.base) (by omega) (by omega) (by decide)).mono ?_
  rintro e w10 ⟨rfl, hb10⟩
  have I10 := I9.below hb10
  clear I9 hb10 n9 b9 c0 c1 c2 d0 d1 d2
  obtain ⟨d0, d1, d2⟩ := I10.bg.cells
  go_wp2_with fail
  refine (heldPolPool_new _ _ _ _ I10.n3).mono ?_
  rintro e w11 ⟨rfl, hb11⟩
  have hbel : Below w.heap.size w w11 := H2.out.2.2.2.1.trans ((below_trans' I10.base hb11).mono (H2.out.2.2.2.1.size))
  clear I10 hb11 d0 d1 d2 H2
  go_wp2
  go_ret
  exact ⟨rfl, hbel⟩

set_option maxRecDepth 100000 in
theorem polNew_lifted (os : Os) (started : os.Started) (H : Type) (enc : TypeId × Value → H) :
    ReturnsInHanded {} Try.checked os 3 .any (Rows.fnExactPolNewSpec.pre6 enc Try.prog Try.f3 Rows.fnExactPolNewRow.domain false) (Rows.fnExactPolNewSpec.post enc Try.prog Try.f3 false true false false) := by
  refine returnsInHanded_of_change (C := Try.checked) own started (by kernel_rfl) Try.func3
    (ChangeSpec.witness6 (enc := enc) (C := Try.checked) false ⟨#[], #[], []⟩ 8 (by kernel_rfl) (by kernel_rfl) (by kernel_rfl) (by kernel_rfl)) ?_
  intro W base args ds gs before hval0 hW hcnd _
  have hW' := hW
  obtain ⟨p, q, hA0, hV, rfl, hfz, hnd⟩ := hW
  have hA : DataW.TrodAll enc Try.prog W 0 (fun _ => true) true Try.f3.params.toList args.toList ds p := hA0
  rw [Try.params3] at hA
  obtain ⟨hargs, rfl, rfl⟩ := trodAll_nil hA
  obtain rfl : args = #[] := by cases args; simp_all
  obtain ⟨rfl, rfl⟩ := trodVars_none hV
  clear hA0 hval0
  refine (polNew_walk W).mono fun e W' ⟨he, bel⟩ => ?_
  subst he
  exact ⟨_, rfl, _, _, _, [], _, [], hW', trodAll_mk1 (shut_bool Try.underlying4 _), trodAll_mk0, rfl, bel.frame _, fun h => by cases h⟩

theorem polNew_holds : Rows.FnExactPolNewSaid :=
  OpenClaim.holds_of_wide 3 Try.f3 rfl rfl rfl rfl rfl rfl rfl ⟨rfl, rfl, rfl, rfl, rfl⟩ rfl rfl rfl rfl rfl (by kernel_rfl) Try.func3 (by kernel_rfl)
    (of_decide_eq_true (by kernel_rfl)) (by unfold Func.isWrapper; first | (rw [if_pos (by decide +kernel)]; kernel_rfl) | (rw [if_neg (by decide +kernel)]; exact ⟨rfl, rfl⟩))
    (fun os started H enc _ => polNew_lifted os started H enc)

#print axioms polNew_holds

end Go.Proofs.Ytgcpjihjhefpnaa
