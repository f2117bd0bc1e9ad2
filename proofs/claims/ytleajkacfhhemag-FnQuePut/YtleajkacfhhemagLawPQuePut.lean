/- For every slice of bytes the law FnQuePut answers true and leaves its argument as it was. No condition. -/
import Derived.Test.YtleajkacfhhemagPPush
import Derived.Test.YtleajkacfhhemagLawPListTake
namespace Go.Proofs.Ytleajkacfhhemag
open Go.ChangeShapes Go.WideShapes Go.ChangeAt Go.RowKit
set_option linter.unusedVariables false

theorem okL_snoc {x : Int} {r : List Int} (h : okL r = true) (hx : inB x 999 = true) (h8 : ¬ r.length = 8) : okL (r ++ [x]) = true := by
  have h3 := okL_len h
  simp only [okL, Bool.and_eq_true, decide_eq_true_eq, List.all_eq_true, List.length_append, List.length_cons, List.length_nil] at h ⊢
  refine ⟨by omega, fun y hy => ?_⟩
  rcases List.mem_append.1 hy with hy | hy
  · exact h.2 y hy
  · simp at hy; subst hy; exact hx

theorem okL_dropq {zs : List Int} (k : Nat) (h : okL zs = true) : okL (zs.drop k) = true := by
  simp only [okL, Bool.and_eq_true, decide_eq_true_eq, List.all_eq_true] at h ⊢
  exact ⟨by rw [List.length_drop]; omega, fun x hx => h.2 x (List.mem_of_mem_drop hx)⟩

set_option maxHeartbeats 400000 in
theorem drawQuePut_any (a : Option Addr) (n cap : Nat) (w : World) (hs : SBytes w a n) (hc : n ≤ cap) (hn : n ≤ 1048576) :
    Calls Try.prog 14 #[.slice a n cap] w (DrawnV w) := by
  go_enter Try.func14, Try.ntmps14
  go_wp2_with fail
  refine (drawStkPush_any a n cap w hs hc hn).mono ?_
  rintro e w1 ⟨L, N, g, c1, v, rfl, ho1, hN, hb1⟩
  go_wp2
  exact bodyPost_ret (v := .tuple #[.slice (some ⟨g, 0, none⟩) N c1, .int .i64 v]) (by simp [results, Try.results14, go_sem]) rfl ⟨L, N, g, c1, v, rfl, ho1, hN, hb1⟩

/-- What the law's loop keeps. -/
structure QInv (w : World) (g N : Nat) (L : List Int) (v : Int) (b5 k M : Nat) (a : Option Addr) (c : Nat) (W : World) : Prop where
  bel : Below w.heap.size w W
  sv : SInts W (some ⟨g, 0, none⟩) N L
  sy : SInts W a M (L.drop k ++ [v])
  mc : M ≤ c
  cM : c ≤ 9223372036854775807
  p0 : W.cell? ⟨b5, 0, none⟩ = some (.int .i64 2)

set_option maxHeartbeats 3200000 in
theorem quePut_walk (a : Option Addr) (n cap : Nat) (w : World) (hs : SBytes w a n) (hc : n ≤ cap) (hm : n ≤ 9223372036854775807) :
    Calls Try.prog 4 #[.slice a n cap] w fun e w' => e = .returned (.bool true) ∧ Below w.heap.size w w' := by
  by_cases hn : n ≤ 1048576
  · have hn' : ¬ (1048576 : Int) < (n : Int) := by omega
    have al : Hid (∀ (W : World) (o : Obj), Below W.heap.size W (W.alloc o)) := fun W o => (Below.refl _ _).alloc (Nat.le_refl _) o
    go_enter Try.func4, Try.ntmps4
    go_wp2_with fail
    refine (drawQuePut_any a n cap w hs hc hn).mono ?_
    rintro e w1 ⟨L, N, g, c1, v, rfl, ho1, hN, hb1⟩
    obtain ⟨hs1, hNc, hcM⟩ := own_room ho1
    have HS1 : Hid (SInts w1 (some ⟨g, 0, none⟩) N L) := hs1
    have HB1 : Hid (Below w.heap.size w w1) := hb1
    clear hs1 hb1 ho1 hs
    obtain ⟨C, hC⟩ : ∃ C, putC L v = C := ⟨_, rfl⟩
    obtain ⟨T, hT⟩ : ∃ T, putL L N v = T := ⟨_, rfl⟩
    have himpl : Hid (∀ (W : World), SInts W (some ⟨g, 0, none⟩) N L → Calls Try.prog 15 #[.slice (some ⟨g, 0, none⟩) N c1, .int .i64 v] W fun e w' => ListRes T C 0 e W w') := fun W h => by
      have := implQuePut_any _ N c1 L v W h hNc ⟨hcM, by omega⟩
      rwa [hC, hT] at this
    have hspec : Hid (∀ (W : World), SInts W (some ⟨g, 0, none⟩) N L → Calls Try.prog 16 #[.slice (some ⟨g, 0, none⟩) N c1, .int .i64 v] W fun e w' => ListRes T C 0 e W w') := fun W h => by
      have := specQuePut_any _ _ N c1 L v W h (by omega)
      rwa [hC, hT] at this
    have HCV : Hid (putC L v = C ∧ putL L N v = T) := ⟨hC, hT⟩
    clear hC hT
    go_wp2_with fail
    refine (himpl.out _ HS1.out).mono ?_
    rintro e w2 ⟨N2, a2, c2, rfl, ho2, hb2⟩
    obtain ⟨hs2, hNc2, hcM2⟩ := own_room ho2
    have hl2 := hs2.1
    have B3 := al.out w2 (.cells #[.int .i64 C, .int .i64 0] 27)
    have HB3 : Hid (Below w.heap.size w (w2.alloc (.cells #[.int .i64 C, .int .i64 0] 27))) := below_trans' (below_trans' HB1.out hb2) B3
    have HS3 : Hid (SInts (w2.alloc (.cells #[.int .i64 C, .int .i64 0] 27)) (some ⟨g, 0, none⟩) N L) := (HS1.out.below hb2).below B3
    have HX3 : Hid (SInts (w2.alloc (.cells #[.int .i64 C, .int .i64 0] 27)) a2 N2 T) := hs2.below B3
    have r0 : (w2.alloc (.cells #[.int .i64 C, .int .i64 0] 27)).cell? ⟨w2.heap.size, 0, none⟩ = some (.int .i64 C) := by simp
    have r1 : (w2.alloc (.cells #[.int .i64 C, .int .i64 0] 27)).cell? ⟨w2.heap.size, 1, none⟩ = some (.int .i64 0) := by simp
    have HR : Hid ((w2.alloc (.cells #[.int .i64 C, .int .i64 0] 27)).cell? ⟨w2.heap.size, 0, none⟩ = some (.int .i64 C) ∧ (w2.alloc (.cells #[.int .i64 C, .int .i64 0] 27)).cell? ⟨w2.heap.size, 1, none⟩ = some (.int .i64 0)) := ⟨r0, r1⟩
    clear hb2 B3 HS1 HB1 ho2 hs2 himpl r0 r1
    go_wp2_with fail
    refine (hspec.out _ HS3.out).mono ?_
    rintro e w4 ⟨N4, a4, c4, rfl, ho4, hb4⟩
    obtain ⟨hs4, hNc4, hcM4⟩ := own_room ho4
    have hl4 := hs4.1
    obtain rfl : N4 = N2 := by omega
    have B5 := below_trans' hb4 (al.out w4 (.cells #[.int .i64 C, .int .i64 0] 27))
    have I5 : TInv w g N c1 L a2 c2 N4 a4 c4 T w2.heap.size w4.heap.size C 0 (w4.alloc (.cells #[.int .i64 C, .int .i64 0] 27)) :=
      { bel := below_trans' HB3.out B5, sv := HS3.out.below B5, sx := HX3.out.below B5, sw := hs4.below (al.out w4 _), p0 := cell_kept B5 HR.out.1, p1 := cell_kept B5 HR.out.2, q0 := by simp, q1 := by simp }
    have HI5 : Hid (TInv w g N c1 L a2 c2 N4 a4 c4 T w2.heap.size w4.heap.size C 0 (w4.alloc (.cells #[.int .i64 C, .int .i64 0] 27))) := I5
    have HL : Hid (T.length = N4) := hl2
    clear I5 B5 HB3 HS3 HX3 HR hs4 ho4 hb4 hl2 hl4 hspec
    go_wp2_with fail
    refine (tgInts_yes _ _ _ _ _ T _ HI5.out.sx HI5.out.sw (by omega)).mono ?_
    rintro e w6 ⟨rfl, hb6⟩
    have I6 := HI5.out.below hb6
    have HI6 : Hid (TInv w g N c1 L a2 c2 N4 a4 c4 T w2.heap.size w4.heap.size C 0 w6) := I6
    have p0 := I6.p0
    have p1 := I6.p1
    have q0 := I6.q0
    have q1 := I6.q1
    clear I6 hb6 HI5
    obtain ⟨ok, hok⟩ : ∃ ok, okL L = ok := ⟨_, rfl⟩
    have HOK : Hid (okL L = ok) := hok
    clear hok
    have hS : Hid (Calls Try.prog 11 #[.slice (some ⟨g, 0, none⟩) N c1] w6 fun e w' => e = .returned (.bool ok) ∧ w' = w6) := by
      have := specListOk_any _ N c1 L w6 HI6.out.sv (by omega)
      rwa [HOK.out] at this
    go_wp2_with fail
    refine hS.out.mono ?_
    rintro e w8 ⟨rfl, rfl⟩
    have hbad : (ok && inB v 999) = false → C = 0 ∧ N4 = 0 := by
      intro h
      constructor
      · rw [← HCV.out.1]; simp [putC, HOK.out, h]
      · rw [← HL.out, ← HCV.out.2]; simp [putL, HOK.out, h]
    have HBAD : Hid ((ok && inB v 999) = false → C = 0 ∧ N4 = 0) := hbad
    clear hbad
    cases ok
    · obtain ⟨rfl, rfl⟩ := HBAD.out rfl
      go_wp2_with fail
      refine (tgOk_any _).mono ?_
      rintro e w9 ⟨rfl, hb9⟩
      have HB9 : Hid (Below w.heap.size w w9) := below_trans' HI6.out.bel hb9
      clear hb9 HI6 p0 p1 q0 q1 hS
      go_wp2
      go_ret
      exact ⟨rfl, HB9.out⟩
    · by_cases hv0 : v < 0
      · obtain ⟨rfl, rfl⟩ := HBAD.out (by simp [inB]; omega)
        go_wp2_with fail
        refine (tgOk_any _).mono ?_
        rintro e w9 ⟨rfl, hb9⟩
        have HB9 : Hid (Below w.heap.size w w9) := below_trans' HI6.out.bel hb9
        clear hb9 HI6 p0 p1 q0 q1 hS
        go_wp2
        go_ret
        exact ⟨rfl, HB9.out⟩
      · by_cases hv1 : 999 < v
        · obtain ⟨rfl, rfl⟩ := HBAD.out (by simp [inB]; omega)
          go_wp2_with fail
          refine (tgOk_any _).mono ?_
          rintro e w9 ⟨rfl, hb9⟩
          have HB9 : Hid (Below w.heap.size w w9) := below_trans' HI6.out.bel hb9
          clear hb9 HI6 p0 p1 q0 q1 hS
          go_wp2
          go_ret
          exact ⟨rfl, HB9.out⟩
        · have hin : Hid (inB v 999 = true) := inB_yes (by omega) (by omega)
          by_cases h8 : N = 8
          · subst h8
            have hLl := HI6.out.sv.1
            obtain rfl : C = 3 := by rw [← HCV.out.1]; simp [putC, HOK.out, hin.out, hLl]
            obtain rfl : L = T := by rw [← HCV.out.2]; simp [putL, HOK.out, hin.out, hLl]
            obtain rfl : N4 = 8 := by rw [← HL.out]; exact hLl
            clear hLl hS
            go_wp2_with fail
            refine (tgInts_yes _ _ _ _ _ L _ HI6.out.sx HI6.out.sv (by omega)).mono ?_
            rintro e w9 ⟨rfl, hb9⟩
            have HB9 : Hid (Below w.heap.size w w9) := below_trans' HI6.out.bel hb9
            clear hb9 HI6 p0 p1 q0 q1
            go_wp2
            go_ret
            exact ⟨rfl, HB9.out⟩
          · have h8' : ((N : Int) == 8) = false := by simp; omega
            have hLl : Hid (L.length = N) := HI6.out.sv.1
            have hL8 : Hid (¬ L.length = 8) := by rw [hLl.out]; exact h8
            obtain rfl : C = 2 := by rw [← HCV.out.1]; simp [putC, HOK.out, hin.out, hL8.out]
            obtain rfl : T = L ++ [v] := by rw [← HCV.out.2, ← hLl.out]; simp [putL, HOK.out, hin.out, hL8.out]
            have hokT : Hid (okL (L ++ [v]) = true) := okL_snoc HOK.out hin.out hL8.out
            have HQ : Hid (QInv w g N L v w2.heap.size 0 N4 a2 c2 w8) := { bel := HI6.out.bel, sv := HI6.out.sv, sy := by simpa using HI6.out.sx, mc := hNc2, cM := hcM2, p0 := HI6.out.p0 }
            clear hS HI6 p0 p1 q0 q1 HCV HL hNc2 hcM2
            go_wp2
            go_loopw [9, 10] (fun y i wr => ∃ (k M : Nat) (a' : Option Addr) (c' : Nat), i = .int .i64 k ∧ y = .slice a' M c' ∧ k ≤ N ∧ QInv w g N L v w2.heap.size k M a' c' wr) (fun _ i _ => N - (intOf i).toNat)
            case atStart => exact ⟨0, N4, a2, c2, rfl, rfl, Nat.zero_le _, HQ.out⟩
            case round =>
              clear HQ
              obtain ⟨k, M, a', c', rfl, rfl, hk, Q⟩ := hrel
              have HQ : Hid (QInv w g N L v w2.heap.size k M a' c' wr) := Q
              clear Q
              by_cases hlt : k < N
              · have hlt' : (k : Int) < (N : Int) := by omega
                obtain ⟨x, hx⟩ : ∃ x, L.getD k 0 = x := ⟨_, rfl⟩
                have hsplit : Hid (L.drop k ++ [v] = x :: (L.drop (k + 1) ++ [v])) := by
                  have hl : k < L.length := by rw [hLl.out]; exact hlt
                  have e0 : L[k] = x := by rw [← hx]; simp [List.getD, hl]
                  have e1 : L.drop k = x :: L.drop (k + 1) := by rw [List.drop_eq_getElem_cons hl, e0]
                  show L.drop k ++ [v] = x :: (L.drop (k + 1) ++ [v])
                  rw [e1]
                  rfl
                have hokS : Hid (okL (x :: (L.drop (k + 1) ++ [v])) = true) := by
                  have h := okL_dropq k hokT.out
                  rw [List.drop_append_of_le_length (by rw [hLl.out]; omega)] at h
                  show _ = _
                  rw [← hsplit.out]; exact h
                have hsy : Hid (SInts wr a' M (x :: (L.drop (k + 1) ++ [v]))) := by rw [← hsplit.out]; exact HQ.out.sy
                have hM : Hid (M ≤ 1099511627776) := by
                  have h1 := hsy.out.1
                  have h2 := okL_len hokS.out
                  show _ ≤ _
                  omega
                have hvk : Hid (∀ W, SInts W (some ⟨g, 0, none⟩) N L → W.cell? ⟨g, k, none⟩ = some (.int .i64 x)) := by
                  intro W h
                  obtain ⟨_, h0 | ⟨b', off', e, hc⟩⟩ := h
                  · omega
                  · cases e
                    have := hc k hlt
                    rw [Nat.zero_add, hx] at this
                    exact this
                clear hx
                go_wp2_with fail
                refine (implListTake_some a' M c' x (L.drop (k + 1) ++ [v]) _ hsy.out HQ.out.mc ⟨HQ.out.cM, hM.out⟩ hokS.out).mono ?_
                rintro e w9 ⟨N9, a9, c9, rfl, ho9, hb9⟩
                obtain ⟨hs9, hNc9, hcM9⟩ := own_room ho9
                have B9 := al.out w9 (.cells #[.int .i64 2, .int .i64 x] 27)
                have B := below_trans' hb9 B9
                have HQ9 : Hid (QInv w g N L v w2.heap.size (k + 1) N9 a9 c9 (w9.alloc (.cells #[.int .i64 2, .int .i64 x] 27))) :=
                  { bel := below_trans' HQ.out.bel B, sv := HQ.out.sv.below B, sy := hs9.below B9, mc := hNc9, cM := hcM9, p0 := cell_kept B HQ.out.p0 }
                have y0 := hvk.out _ HQ9.out.sv
                clear B B9 hb9 ho9 hs9 hNc9 hcM9 hsy HQ hvk
                go_wp2
                go_quiet (fail)
                go_wp2
                go_roundw
                case rel => exact ⟨k + 1, N9, a9, c9, by go_num, rfl, by omega, { bel := ⟨HQ9.out.bel.os, HQ9.out.bel.tape, HQ9.out.bel.output, HQ9.out.bel.size, HQ9.out.bel.block⟩, sv := HQ9.out.sv, sy := HQ9.out.sy, mc := HQ9.out.mc, cM := HQ9.out.cM, p0 := HQ9.out.p0 }⟩
                case measure => simp [intOf]; omega
              · obtain rfl : k = N := by omega
                have hsy : Hid (SInts wr a' M [v]) := by
                  have h := HQ.out.sy
                  rw [List.drop_of_length_le (by rw [hLl.out]; omega)] at h
                  show SInts wr a' M [v]
                  simpa using h
                obtain rfl : M = 1 := by simpa using hsy.out.1.symm
                have B := al.out wr (.cells #[.int .i64 v] 3)
                have hs1 : SInts (wr.alloc (.cells #[.int .i64 v] 3)) (some ⟨wr.heap.size, 0, none⟩) 1 [v] := ⟨rfl, .inr ⟨_, 0, rfl, fun i hi => by
                  obtain rfl : i = 0 := by omega
                  simp⟩⟩
                have HS1 : Hid (SInts (wr.alloc (.cells #[.int .i64 v] 3)) (some ⟨wr.heap.size, 0, none⟩) 1 [v]) := hs1
                have HS2 : Hid (SInts (wr.alloc (.cells #[.int .i64 v] 3)) a' 1 [v]) := hsy.out.below B
                have HBB : Hid (Below w.heap.size w (wr.alloc (.cells #[.int .i64 v] 3))) := below_trans' HQ.out.bel B
                have HP : Hid ((wr.alloc (.cells #[.int .i64 v] 3)).cell? ⟨w2.heap.size, 0, none⟩ = some (.int .i64 2)) := cell_kept B HQ.out.p0
                clear hs1 B hsy HQ
                go_wp2_with fail
                refine (tgInts_yes _ _ _ _ _ [v] _ HS2.out HS1.out (by omega)).mono ?_
                rintro e w9 ⟨rfl, hb9⟩
                have z0 := cell_kept hb9 HP.out
                have HB9 : Hid (Below w.heap.size w w9) := below_trans' HBB.out hb9
                clear hb9 HBB HP HS1 HS2
                go_wp2
                go_ret
                exact ⟨rfl, HB9.out⟩
  · have hn' : (1048576 : Int) < (n : Int) := by omega
    clear hs
    go_enter Try.func4, Try.ntmps4
    go_wp2
    go_ret
    exact ⟨rfl, Below.refl _ _⟩

set_option maxRecDepth 100000 in
theorem quePut_lifted (os : Os) (started : os.Started) (H : Type) (enc : TypeId × Value → H) :
    ReturnsInHanded {} Try.checked os 4 .any (Rows.fnQuePutSpec.pre6 enc Try.prog Try.f4 Rows.fnQuePutRow.domain false) (Rows.fnQuePutSpec.post enc Try.prog Try.f4 false true false false) := by
  refine returnsInHanded_of_change (C := Try.checked) own started (by kernel_rfl) Try.func4
    (ChangeSpec.witness6 (enc := enc) (C := Try.checked) false ⟨#[], #[.slice none 0 0], []⟩ 8 (by kernel_rfl) (by kernel_rfl) (by kernel_rfl) (by kernel_rfl)) ?_
  intro W base args ds gs before hval0 hW hcnd _
  have hval : ∀ (j : Nat) t v, Try.f4.params[j]? = some t → args[j]? = some v → Value.okWide Try.prog W .any base t v := hval0
  have hW' := hW
  obtain ⟨p, q, hA0, hV, rfl, hfz, hnd⟩ := hW
  have hA : DataW.TrodAll enc Try.prog W 0 (fun _ => true) true Try.f4.params.toList args.toList ds p := hA0
  rw [Try.params4] at hA hval
  obtain ⟨v0, vs0, d0, ds0, p0, q0, hargs, rfl, rfl, h0, r0⟩ := trodAll_cons hA
  obtain ⟨rfl, rfl, rfl⟩ := trodAll_nil r0
  obtain rfl : args = #[v0] := by cases args; simp_all
  obtain ⟨rfl, rfl⟩ := trodVars_none hV
  obtain ⟨a0, len0, cap0, rfl⟩ := okWide_slice Try.underlying22 (hval 0 22 v0 rfl rfl)
  have k0 := h0
  have lt0 : ∀ x ∈ p0, x.block < W.heap.size := by obtain ⟨m, hm⟩ := k0; exact DataW.trod_lt m _ _ _ hm
  obtain ⟨hs, hc, hm⟩ := sbytes_of_open h0
  clear hA0 hval0
  refine (quePut_walk a0 len0 cap0 W hs hc hm).mono fun e W' ⟨he, bel⟩ => ?_
  subst he
  exact ⟨_, rfl, _, _, _, [], _, [], hW', trodAll_mk1 (shut_bool Try.underlying4 _), (trodAll_cons_mk (Below.trod laidOut (by kernel_rfl) (of_decide_eq_true (by kernel_rfl)) k0 bel lt0) trodAll_mk0), rfl, bel.frame _, fun h => by cases h⟩

theorem quePut_holds : Rows.FnQuePutSaid :=
  OpenClaim.holds_of_wide 4 Try.f4 rfl rfl rfl rfl rfl rfl rfl ⟨rfl, rfl, rfl, rfl, rfl⟩ rfl rfl rfl rfl rfl (by kernel_rfl) Try.func4 (by kernel_rfl)
    (of_decide_eq_true (by kernel_rfl)) (by unfold Func.isWrapper; first | (rw [if_pos (by decide +kernel)]; kernel_rfl) | (rw [if_neg (by decide +kernel)]; exact ⟨rfl, rfl⟩))
    (fun os started H enc _ => quePut_lifted os started H enc)

#print axioms quePut_holds
end Go.Proofs.Ytleajkacfhhemag
