/- For every slice of bytes the law FnMapNext answers true and leaves its argument as it was. No condition. -/
import Derived.Test.YtkfamlbalgolmaaPMap
namespace Go.Proofs.Ytkfamlbalgolmaa
open Go.ChangeShapes Go.WideShapes Go.ChangeAt Go.RowKit
set_option linter.unusedVariables false

theorem eqM_get {zs : List Int} {n : Nat} (hup : ∀ i, i < n → entUp zs i = true) {k : Nat} (hk : k < n) : getC zs n (keyAt zs k) = 2 := by
  unfold getC
  have h : fIdx (fun i => eqK (keyAt zs k) (keyAt zs i)) n = k := fIdx_eq (by omega) (fun j hj => by
    have := up_lt hup k j hj hk
    simp [eqK]
    omega) (.inr (by simp [eqK]))
  rw [h, if_neg (by omega)]

set_option maxRecDepth 20000 in
set_option maxHeartbeats 4000000 in
theorem mapNext_walk (a : Option Addr) (n cap : Nat) (w : World) (hs : SBytes w a n) (hc : n ≤ cap) (hm : n ≤ 9223372036854775807) :
    Calls Try.prog 7 #[.slice a n cap] w fun e w' => e = .returned (.bool true) ∧ Below w.heap.size w w' := by
  by_cases hn : n ≤ 1048576
  · have hn' : ¬ (1048576 : Int) < (n : Int) := by omega
    go_enter Try.func7, Try.ntmps7
    go_wp2_with fail
    refine (drawMapNext_any a n cap w hs hc hn).mono ?_
    rintro e w1 ⟨L, N, am, cm, x, rfl, ho1, hN, hb1⟩
    have S1 : Hid (SInts (w1.alloc (.cells #[.slice am N cm] 25)) am (N * 2) L ∧ Below w.heap.size w (w1.alloc (.cells #[.slice am N cm] 25)) ∧ (w1.alloc (.cells #[.slice am N cm] 25)).cell? ⟨w1.heap.size, 0, none⟩ = some (.slice am N cm)) := ⟨(own2_sints ho1).below (al1 _ _), below_trans' hb1 (al1 _ _), cell_at w1 _ _ 0 rfl rfl⟩
    clear ho1 hb1 hs
    obtain ⟨C, hC⟩ : ∃ C, nextC L N x = C := ⟨_, rfl⟩
    obtain ⟨V, hV⟩ : ∃ V, nextV L N x = V := ⟨_, rfl⟩
    have hspec : Hid (∀ W, SInts W am (N * 2) L → Calls Try.prog 25 #[.agg #[.slice am N cm], .int .i64 x] W fun e w' => e = .returned (.agg #[.int .i64 C, .int .i64 V]) ∧ Below W.heap.size W w') := fun W h => by
      have := specMapNext_any am N cm L x W h (by omega)
      rwa [hC, hV] at this
    go_wp2_with fail
    refine (implMapNext_any am N cm L x _ S1.out.1 (by omega)).mono ?_
    rintro e w2 ⟨rfl, hb2⟩
    rw [hC, hV]
    have G2 : GS w w1.heap.size am N cm L w2.heap.size C V (w2.alloc (.cells #[.int .i64 C, .int .i64 V] 29)) :=
      ⟨below_trans' (below_trans' S1.out.2.1 hb2) (al1 _ _), cell_kept (al1 _ _) (cell_kept hb2 S1.out.2.2), (S1.out.1.below hb2).below (al1 _ _), cell_at w2 _ _ 0 rfl rfl, cell_at w2 _ _ 1 rfl rfl⟩
    have HCV : Hid (nextC L N x = C ∧ nextV L N x = V) := ⟨hC, hV⟩
    clear S1 hb2 hC hV
    go_wp2
    generalize w2.alloc (.cells #[.int .i64 C, .int .i64 V] 29) = W2 at G2 ⊢
    have HG2 : Hid (GS w w1.heap.size am N cm L w2.heap.size C V W2.drew) := G2.below (Below.refl _ _).drew
    obtain ⟨p0, p1, p2⟩ := G2.cells
    clear G2
    go_region_held_law (fun V' => V'.cell? ⟨w1.heap.size, 0, none⟩ = some (.slice am N cm) ∧ V'.cell? ⟨w2.heap.size, 0, none⟩ = some (.int .i64 C) ∧ V'.cell? ⟨w2.heap.size, 1, none⟩ = some (.int .i64 V)) (first | (go_keep; done) | exact KP.out)
      ((go_at_call 25; refine (hspec.out _ HG2.out.s).mono ?_; rintro e w4 ⟨rfl, hb4⟩; have HG4 : Hid (GS w w1.heap.size am N cm L w2.heap.size C V w4) := HG2.out.below hb4; have KP : Hid (w4.cell? ⟨w1.heap.size, 0, none⟩ = some (.slice am N cm) ∧ w4.cell? ⟨w2.heap.size, 0, none⟩ = some (.int .i64 C) ∧ w4.cell? ⟨w2.heap.size, 1, none⟩ = some (.int .i64 V)) := HG4.out.cells; clear hb4))
    clear HG2 p0 p1 p2 hspec
    have p0 := HG4.out.m
    go_wp2_with fail
    refine (specMapOk_any am N cm L _ HG4.out.s (by omega)).mono ?_
    rintro e w5 ⟨rfl, hb5⟩
    have HG5 : Hid (GS w w1.heap.size am N cm L w2.heap.size C V w5) := HG4.out.below hb5
    clear hb5 HG4 p0
    have HG4 := HG5
    clear HG5
    cases hok : okM L N
    · go_wp2_with fail
      refine (tgOk_any _).mono ?_
      rintro e w9 ⟨rfl, hb9⟩
      have HB9 : Hid (Below w.heap.size w w9) := below_trans' HG4.out.bel hb9
      clear hb9 HG4
      go_wp2
      go_ret
      exact ⟨rfl, HB9.out⟩
    · have HUP : Hid (∀ i, i < N → entUp L i = true) := (okM_parts hok).2.2
      clear hok
      go_wp2
      go_loopw [6, 7] (fun i _ wr => ∃ k : Nat, k ≤ N ∧ i = .int .i64 k ∧ GS w w1.heap.size am N cm L w2.heap.size C V wr) (fun i _ _ => N - (intOf i).toNat)
      case atStart => exact ⟨0, Nat.zero_le _, rfl, HG4.out⟩
      case round =>
        obtain ⟨k, hk, rfl, G⟩ := hrel
        clear HG4
        have HG : Hid (GS w w1.heap.size am N cm L w2.heap.size C V wr) := G
        obtain ⟨p0, p1, p2⟩ := G.cells
        by_cases hlt : k < N
        · obtain ⟨_, h0 | ⟨b, off, rfl, hcc⟩⟩ := G.s
          · omega
          · obtain ⟨y, hy⟩ : ∃ y, keyAt L k = y := ⟨_, rfl⟩
            have c0 : wr.cell? ⟨b, off + k * 2, none⟩ = some (.int .i64 y) := by rw [← hy]; exact hcc (k * 2) (by omega)
            have HY : Hid (keyAt L k = y) := hy
            clear hcc hy G
            by_cases hge : x ≤ y
            · have hlow := (fIdx_spec (fun i => geK x (keyAt L i)) N).1
              have hle : fIdx (fun i => geK x (keyAt L i)) N ≤ k := Decidable.byContradiction fun hh => by
                have := hlow k (by omega)
                rw [HY.out] at this
                simp [geK] at this
                omega
              have e1 : C = 2 := by rw [← HCV.out.1]; unfold nextC; rw [if_neg (by omega)]
              have e2 : V ≤ y := by
                rw [← HCV.out.2]
                unfold nextV
                rw [if_neg (by omega), ← HY.out]
                by_cases e : fIdx (fun i => geK x (keyAt L i)) N = k
                · rw [e]; exact Int.le_refl _
                · have := up_lt HUP.out k (fIdx (fun i => geK x (keyAt L i)) N) (by omega) hlt
                  omega
              have e3 : ¬ y < V := by omega
              clear hlow hle
              subst e1
              go_wp2
              go_roundw
              case rel => exact ⟨k + 1, by omega, by go_num, HG.out⟩
              case measure => simp [intOf]; omega
            · go_wp2
              go_roundw
              case rel => exact ⟨k + 1, by omega, by go_num, HG.out⟩
              case measure => simp [intOf]; omega
        · obtain rfl : k = N := by omega
          clear hlt hk
          obtain ⟨hlow, hat⟩ := fIdx_spec (fun i => geK x (keyAt L i)) k
          have hle := fIdx_le (fun i => geK x (keyAt L i)) k
          by_cases hf : fIdx (fun i => geK x (keyAt L i)) k = k
          · have e1 : C = 1 := by rw [← HCV.out.1]; unfold nextC; rw [if_pos hf]
            have e2 : V = 0 := by rw [← HCV.out.2]; unfold nextV; rw [if_pos hf]
            clear hlow hat hle hf G
            subst e1 e2
            have HG4 : Hid (GS w w1.heap.size am k cm L w2.heap.size 1 0 wr) := HG
            clear HG
            go_wp2_with fail
            refine (tgOk_any _).mono ?_
            rintro e w9 ⟨rfl, hb9⟩
            have HB9 : Hid (Below w.heap.size w w9) := below_trans' HG4.out.bel hb9
            clear hb9 HG4
            go_wp2
            go_ret
            exact ⟨rfl, HB9.out⟩
          · have e1 : C = 2 := by rw [← HCV.out.1]; unfold nextC; rw [if_neg hf]
            have e2 : keyAt L (fIdx (fun i => geK x (keyAt L i)) k) = V := by rw [← HCV.out.2]; unfold nextV; rw [if_neg hf]
            have h3 := hat (by omega)
            have e3 : x ≤ V := by
              rw [← e2]
              exact of_decide_eq_true h3
            have hget : Hid (getC L k V = 2) := by
              show _ = _
              rw [← e2]
              exact eqM_get HUP.out (by omega)
            clear hlow hat hle hf G e2 h3
            subst e1
            go_wp2_with fail
            refine (implMapGet_any am k cm L V _ HG.out.s (by omega)).mono ?_
            rintro e w6 ⟨rfl, hb6⟩
            rw [hget.out]
            have HB : Hid (Below w.heap.size w w6) := below_trans' HG.out.bel hb6
            obtain ⟨gv, hgv⟩ : ∃ gv, getV L k V = gv := ⟨_, rfl⟩
            rw [hgv]
            have hfd : ∀ W : World, (Instr.field 29 (.agg #[.int .i64 2, .int .i64 gv]) 0).run Try.prog W = .ok (.int .i64 2) W := fun _ => by kernel_rfl
            clear hb6 HG hgv
            go_wp2
            go_ret
            exact ⟨rfl, HB.out⟩
  · have hn' : (1048576 : Int) < (n : Int) := by omega
    clear hs
    go_enter Try.func7, Try.ntmps7
    go_wp2
    go_ret
    exact ⟨rfl, Below.refl _ _⟩

set_option maxRecDepth 100000 in
theorem mapNext_lifted (os : Os) (started : os.Started) (H : Type) (enc : TypeId × Value → H) :
    ReturnsInHanded {} Try.checked os 7 .any (Rows.fnMapNextSpec.pre6 enc Try.prog Try.f7 Rows.fnMapNextRow.domain false) (Rows.fnMapNextSpec.post enc Try.prog Try.f7 false true false false) := by
  refine returnsInHanded_of_change (C := Try.checked) own started (by kernel_rfl) Try.func7
    (ChangeSpec.witness6 (enc := enc) (C := Try.checked) false ⟨#[], #[.slice none 0 0], []⟩ 8 (by kernel_rfl) (by kernel_rfl) (by kernel_rfl) (by kernel_rfl)) ?_
  intro W base args ds gs before hval0 hW hcnd _
  have hval : ∀ (j : Nat) t v, Try.f7.params[j]? = some t → args[j]? = some v → Value.okWide Try.prog W .any base t v := hval0
  have hW' := hW
  obtain ⟨p, q, hA0, hV, rfl, hfz, hnd⟩ := hW
  have hA : DataW.TrodAll enc Try.prog W 0 (fun _ => true) true Try.f7.params.toList args.toList ds p := hA0
  rw [Try.params7] at hA hval
  obtain ⟨v0, vs0, d0, ds0, p0, q0, hargs, rfl, rfl, h0, r0⟩ := trodAll_cons hA
  obtain ⟨rfl, rfl, rfl⟩ := trodAll_nil r0
  obtain rfl : args = #[v0] := by cases args; simp_all
  obtain ⟨rfl, rfl⟩ := trodVars_none hV
  obtain ⟨a0, len0, cap0, rfl⟩ := okWide_slice Try.underlying22 (hval 0 22 v0 rfl rfl)
  have k0 := h0
  have lt0 : ∀ x ∈ p0, x.block < W.heap.size := by obtain ⟨m, hm⟩ := k0; exact DataW.trod_lt m _ _ _ hm
  obtain ⟨hs, hc, hm⟩ := sbytes_of_open h0
  clear hA0 hval0
  refine (mapNext_walk a0 len0 cap0 W hs hc hm).mono fun e W' ⟨he, bel⟩ => ?_
  subst he
  exact ⟨_, rfl, _, _, _, [], _, [], hW', trodAll_mk1 (shut_bool Try.underlying4 _), (trodAll_cons_mk (Below.trod laidOut (by kernel_rfl) (of_decide_eq_true (by kernel_rfl)) k0 bel lt0) trodAll_mk0), rfl, bel.frame _, fun h => by cases h⟩

theorem mapNext_holds : Rows.FnMapNextSaid :=
  OpenClaim.holds_of_wide 7 Try.f7 rfl rfl rfl rfl rfl rfl rfl ⟨rfl, rfl, rfl, rfl, rfl⟩ rfl rfl rfl rfl rfl (by kernel_rfl) Try.func7 (by kernel_rfl)
    (of_decide_eq_true (by kernel_rfl)) (by unfold Func.isWrapper; first | (rw [if_pos (by decide +kernel)]; kernel_rfl) | (rw [if_neg (by decide +kernel)]; exact ⟨rfl, rfl⟩))
    (fun os started H enc _ => mapNext_lifted os started H enc)

#print axioms mapNext_holds

end Go.Proofs.Ytkfamlbalgolmaa
