/- For every slice of bytes the law FnMapCount answers true and leaves its argument as it was. No condition. -/
import Derived.Test.YtkfamlbalgolmaaPMap
namespace Go.Proofs.Ytkfamlbalgolmaa
open Go.ChangeShapes Go.WideShapes Go.ChangeAt Go.RowKit
set_option linter.unusedVariables false

theorem cnt_from {zs : List Int} {key : Int} {i n : Nat} (hlow : ∀ j, j < i → keyAt zs j < key) (hhigh : ∀ j, i ≤ j → j < n → key ≤ keyAt zs j) : ∀ k, k ≤ n → cntN zs key k = k - i
  | 0, _ => by simp [cntN]
  | k + 1, hk => by
    have ih := cnt_from hlow hhigh k (by omega)
    by_cases h : k < i
    · rw [cntN_no rfl (hlow k h), ih]
      omega
    · rw [cntN_yes rfl (hhigh k (by omega) (by omega)), ih]
      omega
theorem next_low {zs : List Int} {n : Nat} {key : Int} {j : Nat} (h : j < fIdx (fun i => geK key (keyAt zs i)) n) : keyAt zs j < key := by
  have := (fIdx_spec (fun i => geK key (keyAt zs i)) n).1 j h
  have h2 : ¬ key ≤ keyAt zs j := of_decide_eq_false this
  omega
theorem next_high {zs : List Int} {n : Nat} {key : Int} (hup : ∀ i, i < n → entUp zs i = true) {j : Nat} (h : fIdx (fun i => geK key (keyAt zs i)) n ≤ j) (hj : j < n) : key ≤ keyAt zs j := by
  have h1 : key ≤ keyAt zs (fIdx (fun i => geK key (keyAt zs i)) n) := of_decide_eq_true ((fIdx_spec (fun i => geK key (keyAt zs i)) n).2 (by omega))
  by_cases e : j = fIdx (fun i => geK key (keyAt zs i)) n
  · rw [e]; exact h1
  · have := up_lt hup j (fIdx (fun i => geK key (keyAt zs i)) n) (by omega) hj
    omega
theorem cnt_next {zs : List Int} {n : Nat} {key : Int} (hup : ∀ i, i < n → entUp zs i = true) : cntV zs n key = ((n - fIdx (fun i => geK key (keyAt zs i)) n : Nat) : Int) := by
  unfold cntV
  rw [cnt_from (fun j h => next_low h) (fun j h hj => next_high hup h hj) n (Nat.le_refl _)]
theorem cnt_behind {zs : List Int} {n k : Nat} (hup : ∀ i, i < n → entUp zs i = true) (hk : k < n) : cntV zs n (keyAt zs k + 1) = ((n - (k + 1) : Nat) : Int) := by
  unfold cntV
  rw [cnt_from (i := k + 1) (fun j h => by
    by_cases e : j = k
    · subst e; omega
    · have := up_lt hup k j (by omega) hk
      omega) (fun j h hj => by have := up_lt hup j k (by omega) hj; omega) n (Nat.le_refl _)]
theorem cnt_all {zs : List Int} {n : Nat} (hin : ∀ i, i < n → entIn zs i = true) : cntV zs n 0 = (n : Int) := by
  unfold cntV
  rw [cnt_from (i := 0) (fun j h => by omega) (fun j h hj => by
    have := hin j hj
    simp only [entIn, inB, Bool.and_eq_true, decide_eq_true_eq] at this
    exact this.1.1) n (Nat.le_refl _)]
  simp
theorem key_in {zs : List Int} {n k : Nat} (hin : ∀ i, i < n → entIn zs i = true) (hk : k < n) : 0 ≤ keyAt zs k ∧ keyAt zs k ≤ 99 := by
  have := hin k hk
  simp only [entIn, inB, Bool.and_eq_true, decide_eq_true_eq] at this
  exact this.1

set_option maxRecDepth 20000 in
set_option maxHeartbeats 4000000 in
theorem mapCount_walk (a : Option Addr) (n cap : Nat) (w : World) (hs : SBytes w a n) (hc : n ≤ cap) (hm : n ≤ 9223372036854775807) :
    Calls Try.prog 8 #[.slice a n cap] w fun e w' => e = .returned (.bool true) ∧ Below w.heap.size w w' := by
  by_cases hn : n ≤ 1048576
  · have hn' : ¬ (1048576 : Int) < (n : Int) := by omega
    go_enter Try.func8, Try.ntmps8
    go_wp2_with fail
    refine (drawMapCount_any a n cap w hs hc hn).mono ?_
    rintro e w1 ⟨L, N, am, cm, x, rfl, ho1, hN, hb1⟩
    have S1 : Hid (SInts (w1.alloc (.cells #[.slice am N cm] 25)) am (N * 2) L ∧ Below w.heap.size w (w1.alloc (.cells #[.slice am N cm] 25)) ∧ (w1.alloc (.cells #[.slice am N cm] 25)).cell? ⟨w1.heap.size, 0, none⟩ = some (.slice am N cm)) := ⟨(own2_sints ho1).below (al1 _ _), below_trans' hb1 (al1 _ _), cell_at w1 _ _ 0 rfl rfl⟩
    clear ho1 hb1 hs
    obtain ⟨V, hV⟩ : ∃ V, cntV L N x = V := ⟨_, rfl⟩
    have hspec : Hid (∀ W, SInts W am (N * 2) L → Calls Try.prog 28 #[.agg #[.slice am N cm], .int .i64 x] W fun e w' => e = .returned (.agg #[.int .i64 2, .int .i64 V]) ∧ Below W.heap.size W w') := fun W h => by
      have := specMapCount_any am N cm L x W h (by omega)
      rwa [hV] at this
    go_wp2_with fail
    refine (implMapCount_any am N cm L x _ S1.out.1 (by omega)).mono ?_
    rintro e w2 ⟨rfl, hb2⟩
    rw [hV]
    have G2 : GS w w1.heap.size am N cm L w2.heap.size 2 V (w2.alloc (.cells #[.int .i64 2, .int .i64 V] 29)) :=
      ⟨below_trans' (below_trans' S1.out.2.1 hb2) (al1 _ _), cell_kept (al1 _ _) (cell_kept hb2 S1.out.2.2), (S1.out.1.below hb2).below (al1 _ _), cell_at w2 _ _ 0 rfl rfl, cell_at w2 _ _ 1 rfl rfl⟩
    have HCV : Hid ((2 : Int) = 2 ∧ cntV L N x = V) := ⟨rfl, hV⟩
    clear S1 hb2 hV
    go_wp2
    generalize w2.alloc (.cells #[.int .i64 2, .int .i64 V] 29) = W2 at G2 ⊢
    have HG2 : Hid (GS w w1.heap.size am N cm L w2.heap.size 2 V W2.drew) := G2.below (Below.refl _ _).drew
    obtain ⟨p0, p1, p2⟩ := G2.cells
    clear G2
    go_region_held_law (fun V' => V'.cell? ⟨w1.heap.size, 0, none⟩ = some (.slice am N cm) ∧ V'.cell? ⟨w2.heap.size, 0, none⟩ = some (.int .i64 2) ∧ V'.cell? ⟨w2.heap.size, 1, none⟩ = some (.int .i64 V)) (first | (go_keep; done) | exact KP.out)
      ((go_at_call 28; refine (hspec.out _ HG2.out.s).mono ?_; rintro e w4 ⟨rfl, hb4⟩; have HG4 : Hid (GS w w1.heap.size am N cm L w2.heap.size 2 V w4) := HG2.out.below hb4; have KP : Hid (w4.cell? ⟨w1.heap.size, 0, none⟩ = some (.slice am N cm) ∧ w4.cell? ⟨w2.heap.size, 0, none⟩ = some (.int .i64 2) ∧ w4.cell? ⟨w2.heap.size, 1, none⟩ = some (.int .i64 V)) := HG4.out.cells; clear hb4))
    clear HG2 p0 p1 p2 hspec
    have p0 := HG4.out.m
    go_wp2_with fail
    refine (specMapOk_any am N cm L _ HG4.out.s (by omega)).mono ?_
    rintro e w5 ⟨rfl, hb5⟩
    have HG5 : Hid (GS w w1.heap.size am N cm L w2.heap.size 2 V w5) := HG4.out.below hb5
    clear hb5 HG4 p0
    have HG4 := HG5
    clear HG5
    cases hok : okM L N
    · go_wp2_with fail
      refine (tgOk_any _).mono ?_
      rintro e w9 ⟨rfl, hb9⟩
      have HB9 : Hid (Below w.heap.size w w9) := below_trans' HG4.out.bel hb9
      clear hb9 HG4
      go_wp2
      go_ret
      exact ⟨rfl, HB9.out⟩
    · have HUP : Hid ((∀ i, i < N → entIn L i = true) ∧ (∀ i, i < N → entUp L i = true)) := (okM_parts hok).2
      clear hok
      have p0 := HG4.out.m
      go_wp2_with fail
      refine (implMapNext_any am N cm L x _ HG4.out.s (by omega)).mono ?_
      rintro e w6 ⟨rfl, hb6⟩
      have hle := fIdx_le (fun i => geK x (keyAt L i)) N
      by_cases hf : fIdx (fun i => geK x (keyAt L i)) N = N
      · have e1 : nextC L N x = 1 := by unfold nextC; rw [if_pos hf]
        have e2 : nextV L N x = 0 := by unfold nextV; rw [if_pos hf]
        have e3 : V = 0 := by rw [← HCV.out.2, cnt_next HUP.out.2, hf]; simp
        rw [e1, e2]
        clear e1 e2 hf hle
        subst e3
        have HG7 : Hid (GS w w1.heap.size am N cm L w2.heap.size 2 0 (w6.alloc (.cells #[.int .i64 1, .int .i64 0] 29))) := (HG4.out.below hb6).below (al1 _ _)
        clear hb6 HG4 p0
        obtain ⟨p0, p1, p2⟩ := HG7.out.cells
        have HG4 := HG7
        clear HG7
        go_wp2_with fail
        refine (tgOk_any _).mono ?_
        rintro e w9 ⟨rfl, hb9⟩
        have HB9 : Hid (Below w.heap.size w w9) := below_trans' HG4.out.bel hb9
        clear hb9 HG4
        go_wp2
        go_ret
        exact ⟨rfl, HB9.out⟩
      · have e1 : nextC L N x = 2 := by unfold nextC; rw [if_neg hf]
        obtain ⟨y, hy⟩ : ∃ y, nextV L N x = y := ⟨_, rfl⟩
        have e2 : keyAt L (fIdx (fun i => geK x (keyAt L i)) N) = y := by rw [← hy]; unfold nextV; rw [if_neg hf]
        have e3 : V = ((N - fIdx (fun i => geK x (keyAt L i)) N : Nat) : Int) := by rw [← HCV.out.2, cnt_next HUP.out.2]
        have e4 : cntV L N (y + 1) = V - 1 := by rw [e3, ← e2, cnt_behind HUP.out.2 (by omega)]; omega
        have e5 := cnt_all HUP.out.1
        have hyb : 0 ≤ y ∧ y ≤ 99 := by rw [← e2]; exact key_in HUP.out.1 (by omega)
        obtain ⟨hy0, hy9⟩ := hyb
        have hVb : 1 ≤ V ∧ V ≤ 9 := by rw [e3]; omega
        obtain ⟨hV1, hV9⟩ := hVb
        obtain ⟨y', hy'⟩ : ∃ y', IntKind.i64.wrap (y + 1) = y' := ⟨_, rfl⟩
        obtain ⟨V1, hV'⟩ : ∃ V1, IntKind.i64.wrap (V - 1) = V1 := ⟨_, rfl⟩
        have HE : Hid (cntV L N y' = V1 ∧ cntV L N 0 = (N : Int)) := by
          refine ⟨?_, e5⟩
          rw [← hy', ← hV', wrap_i64_small _ (by omega) (by omega), wrap_i64_small _ (by omega) (by omega)]
          exact e4
        rw [e1, hy]
        clear e1 hy e2 e3 e4 e5 hf hle
        have HG7 : Hid (GS w w1.heap.size am N cm L w2.heap.size 2 V (w6.alloc (.cells #[.int .i64 2, .int .i64 y] 29)).drew) := ((HG4.out.below hb6).below (al1 _ _)).below (Below.refl _ _).drew
        have y0 := cell_at w6 #[.int .i64 2, .int .i64 y] 29 0 rfl (v := .int .i64 2) rfl
        have y1 := cell_at w6 #[.int .i64 2, .int .i64 y] 29 1 rfl (v := .int .i64 y) rfl
        obtain ⟨p0, p1, p2⟩ := ((HG4.out.below hb6).below (al1 w6 (.cells #[.int .i64 2, .int .i64 y] 29))).cells
        have hfd1 : ∀ (W : World) (u v : Int), (Instr.field 29 (.agg #[.int .i64 u, .int .i64 v]) 1).run Try.prog W = .ok (.int .i64 v) W := fun _ _ _ => by kernel_rfl
        clear hb6 HG4
        go_wp2
        generalize w6.alloc (.cells #[.int .i64 2, .int .i64 y] 29) = W6 at HG7 y0 y1 p0 p1 p2 ⊢
        go_region_held_law (fun V' => V'.cell? ⟨w1.heap.size, 0, none⟩ = some (.slice am N cm) ∧ V'.cell? ⟨w2.heap.size, 0, none⟩ = some (.int .i64 2) ∧ V'.cell? ⟨w2.heap.size, 1, none⟩ = some (.int .i64 V) ∧ V'.cell? ⟨w6.heap.size, 1, none⟩ = some (.int .i64 y)) (first | (go_keep; done) | exact KP.out)
          ((first | (go_at_call_of 27 (Value.int IntKind.i64 0); refine (implMapCount_any am N cm L 0 _ HG8.out.1.s (by omega)).mono ?_; rintro e w9 ⟨rfl, hb9⟩; rw [HE.out.2]; have HG9 : Hid (GS w w1.heap.size am N cm L w2.heap.size 2 V w9) := HG8.out.1.below hb9; have KP : Hid (w9.cell? ⟨w1.heap.size, 0, none⟩ = some (.slice am N cm) ∧ w9.cell? ⟨w2.heap.size, 0, none⟩ = some (.int .i64 2) ∧ w9.cell? ⟨w2.heap.size, 1, none⟩ = some (.int .i64 V) ∧ w9.cell? ⟨w6.heap.size, 1, none⟩ = some (.int .i64 y)) := ⟨HG9.out.m, HG9.out.x0, HG9.out.x1, cell_kept hb9 HG8.out.2⟩; clear hb9) | (go_at_call 27; refine (implMapCount_any am N cm L y' _ HG7.out.s (by omega)).mono ?_; rintro e w8 ⟨rfl, hb8⟩; rw [HE.out.1]; have HG8 : Hid (GS w w1.heap.size am N cm L w2.heap.size 2 V w8 ∧ w8.cell? ⟨w6.heap.size, 1, none⟩ = some (.int .i64 y)) := ⟨HG7.out.below hb8, cell_kept hb8 y1⟩; have KP : Hid (w8.cell? ⟨w1.heap.size, 0, none⟩ = some (.slice am N cm) ∧ w8.cell? ⟨w2.heap.size, 0, none⟩ = some (.int .i64 2) ∧ w8.cell? ⟨w2.heap.size, 1, none⟩ = some (.int .i64 V) ∧ w8.cell? ⟨w6.heap.size, 1, none⟩ = some (.int .i64 y)) := ⟨HG8.out.1.m, HG8.out.1.x0, HG8.out.1.x1, HG8.out.2⟩; clear hb8)))
        all_goals
          go_wp2
          go_ret
          exact ⟨rfl, HG9.out.bel⟩
  · have hn' : (1048576 : Int) < (n : Int) := by omega
    clear hs
    go_enter Try.func8, Try.ntmps8
    go_wp2
    go_ret
    exact ⟨rfl, Below.refl _ _⟩

set_option maxRecDepth 100000 in
theorem mapCount_lifted (os : Os) (started : os.Started) (H : Type) (enc : TypeId × Value → H) :
    ReturnsInHanded {} Try.checked os 8 .any (Rows.fnMapCountSpec.pre6 enc Try.prog Try.f8 Rows.fnMapCountRow.domain false) (Rows.fnMapCountSpec.post enc Try.prog Try.f8 false true false false) := by
  refine returnsInHanded_of_change (C := Try.checked) own started (by kernel_rfl) Try.func8
    (ChangeSpec.witness6 (enc := enc) (C := Try.checked) false ⟨#[], #[.slice none 0 0], []⟩ 8 (by kernel_rfl) (by kernel_rfl) (by kernel_rfl) (by kernel_rfl)) ?_
  intro W base args ds gs before hval0 hW hcnd _
  have hval : ∀ (j : Nat) t v, Try.f8.params[j]? = some t → args[j]? = some v → Value.okWide Try.prog W .any base t v := hval0
  have hW' := hW
  obtain ⟨p, q, hA0, hV, rfl, hfz, hnd⟩ := hW
  have hA : DataW.TrodAll enc Try.prog W 0 (fun _ => true) true Try.f8.params.toList args.toList ds p := hA0
  rw [Try.params8] at hA hval
  obtain ⟨v0, vs0, d0, ds0, p0, q0, hargs, rfl, rfl, h0, r0⟩ := trodAll_cons hA
  obtain ⟨rfl, rfl, rfl⟩ := trodAll_nil r0
  obtain rfl : args = #[v0] := by cases args; simp_all
  obtain ⟨rfl, rfl⟩ := trodVars_none hV
  obtain ⟨a0, len0, cap0, rfl⟩ := okWide_slice Try.underlying22 (hval 0 22 v0 rfl rfl)
  have k0 := h0
  have lt0 : ∀ x ∈ p0, x.block < W.heap.size := by obtain ⟨m, hm⟩ := k0; exact DataW.trod_lt m _ _ _ hm
  obtain ⟨hs, hc, hm⟩ := sbytes_of_open h0
  clear hA0 hval0
  refine (mapCount_walk a0 len0 cap0 W hs hc hm).mono fun e W' ⟨he, bel⟩ => ?_
  subst he
  exact ⟨_, rfl, _, _, _, [], _, [], hW', trodAll_mk1 (shut_bool Try.underlying4 _), (trodAll_cons_mk (Below.trod laidOut (by kernel_rfl) (of_decide_eq_true (by kernel_rfl)) k0 bel lt0) trodAll_mk0), rfl, bel.frame _, fun h => by cases h⟩

theorem mapCount_holds : Rows.FnMapCountSaid :=
  OpenClaim.holds_of_wide 8 Try.f8 rfl rfl rfl rfl rfl rfl rfl ⟨rfl, rfl, rfl, rfl, rfl⟩ rfl rfl rfl rfl rfl (by kernel_rfl) Try.func8 (by kernel_rfl)
    (of_decide_eq_true (by kernel_rfl)) (by unfold Func.isWrapper; first | (rw [if_pos (by decide +kernel)]; kernel_rfl) | (rw [if_neg (by decide +kernel)]; exact ⟨rfl, rfl⟩))
    (fun os started H enc _ => mapCount_lifted os started H enc)

#print axioms mapCount_holds

end Go.Proofs.Ytkfamlbalgolmaa
