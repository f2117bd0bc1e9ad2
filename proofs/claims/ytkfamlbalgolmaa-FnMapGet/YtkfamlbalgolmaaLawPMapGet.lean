/- For every slice of bytes the law FnMapGet answers true and leaves its argument as it was. No condition. -/
import Derived.Test.YtkfamlbalgolmaaPMap
namespace Go.Proofs.Ytkfamlbalgolmaa
open Go.ChangeShapes Go.WideShapes Go.ChangeAt Go.RowKit
set_option linter.unusedVariables false

set_option maxRecDepth 20000 in
set_option maxHeartbeats 4000000 in
theorem mapGet_walk (a : Option Addr) (n cap : Nat) (w : World) (hs : SBytes w a n) (hc : n ≤ cap) (hm : n ≤ 9223372036854775807) :
    Calls Try.prog 5 #[.slice a n cap] w fun e w' => e = .returned (.bool true) ∧ Below w.heap.size w w' := by
  by_cases hn : n ≤ 1048576
  · have hn' : ¬ (1048576 : Int) < (n : Int) := by omega
    go_enter Try.func5, Try.ntmps5
    go_wp2_with fail
    refine (drawMapGet_any a n cap w hs hc hn).mono ?_
    rintro e w1 ⟨L, N, am, cm, x, rfl, ho1, hN, hb1⟩
    have S1 : Hid (SInts (w1.alloc (.cells #[.slice am N cm] 25)) am (N * 2) L ∧ Below w.heap.size w (w1.alloc (.cells #[.slice am N cm] 25)) ∧ (w1.alloc (.cells #[.slice am N cm] 25)).cell? ⟨w1.heap.size, 0, none⟩ = some (.slice am N cm)) := ⟨(own2_sints ho1).below (al1 _ _), below_trans' hb1 (al1 _ _), cell_at w1 _ _ 0 rfl rfl⟩
    clear ho1 hb1 hs
    obtain ⟨C, hC⟩ : ∃ C, getC L N x = C := ⟨_, rfl⟩
    obtain ⟨V, hV⟩ : ∃ V, getV L N x = V := ⟨_, rfl⟩
    have hspec : Hid (∀ W, SInts W am (N * 2) L → Calls Try.prog 21 #[.agg #[.slice am N cm], .int .i64 x] W fun e w' => e = .returned (.agg #[.int .i64 C, .int .i64 V]) ∧ Below W.heap.size W w') := fun W h => by
      have := specMapGet_any am N cm L x W h (by omega)
      rwa [hC, hV] at this
    go_wp2_with fail
    refine (implMapGet_any am N cm L x _ S1.out.1 (by omega)).mono ?_
    rintro e w2 ⟨rfl, hb2⟩
    rw [hC, hV]
    have G2 : GS w w1.heap.size am N cm L w2.heap.size C V (w2.alloc (.cells #[.int .i64 C, .int .i64 V] 29)) :=
      ⟨below_trans' (below_trans' S1.out.2.1 hb2) (al1 _ _), cell_kept (al1 _ _) (cell_kept hb2 S1.out.2.2), (S1.out.1.below hb2).below (al1 _ _), cell_at w2 _ _ 0 rfl rfl, cell_at w2 _ _ 1 rfl rfl⟩
    have HCV : Hid (getC L N x = C ∧ getV L N x = V) := ⟨hC, hV⟩
    clear S1 hb2 hC hV
    go_wp2
    generalize w2.alloc (.cells #[.int .i64 C, .int .i64 V] 29) = W2 at G2 ⊢
    have HG2 : Hid (GS w w1.heap.size am N cm L w2.heap.size C V W2.drew) := G2.below (Below.refl _ _).drew
    obtain ⟨p0, p1, p2⟩ := G2.cells
    clear G2
    go_region_held_law (fun V' => V'.cell? ⟨w1.heap.size, 0, none⟩ = some (.slice am N cm) ∧ V'.cell? ⟨w2.heap.size, 0, none⟩ = some (.int .i64 C) ∧ V'.cell? ⟨w2.heap.size, 1, none⟩ = some (.int .i64 V)) (first | (go_keep; done) | exact KP.out)
      ((go_at_call 21; refine (hspec.out _ HG2.out.s).mono ?_; rintro e w4 ⟨rfl, hb4⟩; have HG4 : Hid (GS w w1.heap.size am N cm L w2.heap.size C V w4) := HG2.out.below hb4; have KP : Hid (w4.cell? ⟨w1.heap.size, 0, none⟩ = some (.slice am N cm) ∧ w4.cell? ⟨w2.heap.size, 0, none⟩ = some (.int .i64 C) ∧ w4.cell? ⟨w2.heap.size, 1, none⟩ = some (.int .i64 V)) := HG4.out.cells; clear hb4))
    clear HG2 p0 p1 p2 hspec
    go_wp2
    go_loopw [6] (fun i wr => ∃ k : Nat, k ≤ N ∧ i = .int .i64 k ∧ (∀ j, j < k → eqK x (keyAt L j) = false) ∧ GS w w1.heap.size am N cm L w2.heap.size C V wr) (fun i _ => N - (intOf i).toNat)
    case atStart => exact ⟨0, Nat.zero_le _, rfl, fun j hj => by omega, HG4.out⟩
    case round =>
      obtain ⟨k, hk, rfl, hlow0, G⟩ := hrel
      clear HG4
      have hlow : Hid (∀ j, j < k → eqK x (keyAt L j) = false) := hlow0
      have HG : Hid (GS w w1.heap.size am N cm L w2.heap.size C V wr) := G
      obtain ⟨p0, p1, p2⟩ := G.cells
      clear hlow0
      by_cases hlt : k < N
      · obtain ⟨_, h0 | ⟨b, off, rfl, hcc⟩⟩ := G.s
        · omega
        · obtain ⟨y, hy⟩ : ∃ y, keyAt L k = y := ⟨_, rfl⟩
          obtain ⟨z, hz⟩ : ∃ z, valAt L k = z := ⟨_, rfl⟩
          have c0 : wr.cell? ⟨b, off + k * 2, none⟩ = some (.int .i64 y) := by rw [← hy]; exact hcc (k * 2) (by omega)
          have c1 : wr.cell? ⟨b, off + k * 2 + 1, none⟩ = some (.int .i64 z) := by rw [← hz]; exact hcc (k * 2 + 1) (by omega)
          have HY : Hid (keyAt L k = y ∧ valAt L k = z) := ⟨hy, hz⟩
          clear hcc hy hz G
          by_cases he : y = x
          · have hf : fIdx (fun i => eqK x (keyAt L i)) N = k := fIdx_eq hk hlow.out (.inr (by show eqK x (keyAt L k) = true; rw [HY.out.1, he]; simp [eqK]))
            have e1 : C = 2 := by rw [← HCV.out.1]; unfold getC; rw [hf, if_neg (by omega)]
            have e2 : V = z := by rw [← HCV.out.2]; unfold getV; rw [hf, if_neg (by omega)]; exact HY.out.2
            clear hf
            subst e1 e2 he
            go_wp2
            go_region_held_law (fun V' => V'.cell? ⟨w1.heap.size, 0, none⟩ = some (.slice (some ⟨b, off, none⟩) N cm) ∧ V'.cell? ⟨w2.heap.size, 0, none⟩ = some (.int .i64 2) ∧ V'.cell? ⟨w2.heap.size, 1, none⟩ = some (.int .i64 V) ∧ V'.cell? ⟨b, off + k * 2 + 1, none⟩ = some (.int .i64 V)) (first | (go_keep; done)) (fail)
            go_wp2
            go_ret
            exact ⟨rfl, HG.out.bel.drew⟩
          · have hne : (y == x) = false := by simpa using he
            go_wp2
            go_roundw
            case rel => exact ⟨k + 1, by omega, by go_num, fun j hj => by
              by_cases e : j = k
              · subst e; rw [HY.out.1]; simpa [eqK] using he
              · exact hlow.out j (by omega), HG.out⟩
            case measure => simp [intOf]; omega
      · obtain rfl : k = N := by omega
        have hf : fIdx (fun i => eqK x (keyAt L i)) k = k := fIdx_eq hk hlow.out (.inl rfl)
        have e1 : C = 1 := by rw [← HCV.out.1]; unfold getC; rw [hf, if_pos rfl]
        have e2 : V = 0 := by rw [← HCV.out.2]; unfold getV; rw [hf, if_pos rfl]
        clear hf G
        subst e1 e2
        have HG4 : Hid (GS w w1.heap.size am k cm L w2.heap.size 1 0 wr) := HG
        clear HG
        go_wp2_with fail
        refine (tgOk_any _).mono ?_
        rintro e w9 ⟨rfl, hb9⟩
        have HB9 : Hid (Below w.heap.size w w9) := below_trans' HG4.out.bel hb9
        clear hb9 HG4
        go_wp2
        go_ret
        exact ⟨rfl, HB9.out⟩
  · have hn' : (1048576 : Int) < (n : Int) := by omega
    clear hs
    go_enter Try.func5, Try.ntmps5
    go_wp2
    go_ret
    exact ⟨rfl, Below.refl _ _⟩

set_option maxRecDepth 100000 in
theorem mapGet_lifted (os : Os) (started : os.Started) (H : Type) (enc : TypeId × Value → H) :
    ReturnsInHanded {} Try.checked os 5 .any (Rows.fnMapGetSpec.pre6 enc Try.prog Try.f5 Rows.fnMapGetRow.domain false) (Rows.fnMapGetSpec.post enc Try.prog Try.f5 false true false false) := by
  refine returnsInHanded_of_change (C := Try.checked) own started (by kernel_rfl) Try.func5
    (ChangeSpec.witness6 (enc := enc) (C := Try.checked) false ⟨#[], #[.slice none 0 0], []⟩ 8 (by kernel_rfl) (by kernel_rfl) (by kernel_rfl) (by kernel_rfl)) ?_
  intro W base args ds gs before hval0 hW hcnd _
  have hval : ∀ (j : Nat) t v, Try.f5.params[j]? = some t → args[j]? = some v → Value.okWide Try.prog W .any base t v := hval0
  have hW' := hW
  obtain ⟨p, q, hA0, hV, rfl, hfz, hnd⟩ := hW
  have hA : DataW.TrodAll enc Try.prog W 0 (fun _ => true) true Try.f5.params.toList args.toList ds p := hA0
  rw [Try.params5] at hA hval
  obtain ⟨v0, vs0, d0, ds0, p0, q0, hargs, rfl, rfl, h0, r0⟩ := trodAll_cons hA
  obtain ⟨rfl, rfl, rfl⟩ := trodAll_nil r0
  obtain rfl : args = #[v0] := by cases args; simp_all
  obtain ⟨rfl, rfl⟩ := trodVars_none hV
  obtain ⟨a0, len0, cap0, rfl⟩ := okWide_slice Try.underlying22 (hval 0 22 v0 rfl rfl)
  have k0 := h0
  have lt0 : ∀ x ∈ p0, x.block < W.heap.size := by obtain ⟨m, hm⟩ := k0; exact DataW.trod_lt m _ _ _ hm
  obtain ⟨hs, hc, hm⟩ := sbytes_of_open h0
  clear hA0 hval0
  refine (mapGet_walk a0 len0 cap0 W hs hc hm).mono fun e W' ⟨he, bel⟩ => ?_
  subst he
  exact ⟨_, rfl, _, _, _, [], _, [], hW', trodAll_mk1 (shut_bool Try.underlying4 _), (trodAll_cons_mk (Below.trod laidOut (by kernel_rfl) (of_decide_eq_true (by kernel_rfl)) k0 bel lt0) trodAll_mk0), rfl, bel.frame _, fun h => by cases h⟩

theorem mapGet_holds : Rows.FnMapGetSaid :=
  OpenClaim.holds_of_wide 5 Try.f5 rfl rfl rfl rfl rfl rfl rfl ⟨rfl, rfl, rfl, rfl, rfl⟩ rfl rfl rfl rfl rfl (by kernel_rfl) Try.func5 (by kernel_rfl)
    (of_decide_eq_true (by kernel_rfl)) (by unfold Func.isWrapper; first | (rw [if_pos (by decide +kernel)]; kernel_rfl) | (rw [if_neg (by decide +kernel)]; exact ⟨rfl, rfl⟩))
    (fun os started H enc _ => mapGet_lifted os started H enc)

#print axioms mapGet_holds

end Go.Proofs.Ytkfamlbalgolmaa
