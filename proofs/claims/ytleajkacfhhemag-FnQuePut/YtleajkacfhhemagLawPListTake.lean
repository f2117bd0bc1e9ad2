/- For every slice of bytes the law FnListTake answers true and leaves its argument as it was. No condition. -/
import Derived.Test.YtleajkacfhhemagPList
import Derived.Test.YtleajkacfhhemagTake2
namespace Go.Proofs.Ytleajkacfhhemag
open Go.ChangeShapes Go.WideShapes Go.ChangeAt Go.RowKit
set_option linter.unusedVariables false

theorem implListTake_capany (a : Option Addr) (n cap : Nat) (zs : List Int) (w : World) (hs : SInts w a n zs) (hnc : n ≤ cap) (hcap : cap ≤ 9223372036854775807) (hn : n ≤ 1048576) :
    Calls Try.prog 13 #[.slice a n cap] w fun e w' => ListRes (takeL zs) (takeC zs) (takeV zs) e w w' := by
  cases hok : okL zs
  · have e1 : takeL zs = [] := by simp [takeL, hok]
    have e2 : takeC zs = 0 := by simp [takeC, hok]
    have e3 : takeV zs = 0 := by simp [takeV, hok]
    rw [e1, e2, e3]
    exact implListTake_bad _ n cap zs w hs (by omega) hok
  · exact implListTake_cap a n cap zs w hs hnc hcap hn hok

theorem putL_back {x : Int} {r : List Int} (h : okL (x :: r) = true) : putL r 0 x = x :: r := by
  have h1 : okL r = true := by
    simp only [okL, Bool.and_eq_true, decide_eq_true_eq, List.all_eq_true, List.length_cons] at h ⊢
    exact ⟨by omega, fun y hy => h.2 y (List.mem_cons_of_mem _ hy)⟩
  have h2 : inB x 999 = true := by
    simp only [okL, Bool.and_eq_true, List.all_eq_true] at h
    exact h.2 x (List.mem_cons_self ..)
  have h3 := okL_len h
  simp at h3
  have h4 : ¬ r.length = 8 := by omega
  simp [putL, h1, h2, h4]

/-- What the law keeps behind its first calls. -/
structure TInv (w : World) (g N c1 : Nat) (L : List Int) (a2 : Option Addr) (c2 M : Nat) (a4 : Option Addr) (c4 : Nat) (T : List Int) (b5 b7 : Nat) (C V : Int) (W : World) : Prop where
  bel : Below w.heap.size w W
  sv : SInts W (some ⟨g, 0, none⟩) N L
  sx : SInts W a2 M T
  sw : SInts W a4 M T
  p0 : W.cell? ⟨b5, 0, none⟩ = some (.int .i64 C)
  p1 : W.cell? ⟨b5, 1, none⟩ = some (.int .i64 V)
  q0 : W.cell? ⟨b7, 0, none⟩ = some (.int .i64 C)
  q1 : W.cell? ⟨b7, 1, none⟩ = some (.int .i64 V)

theorem TInv.below {w : World} {g N c1 : Nat} {L : List Int} {a2 : Option Addr} {c2 M : Nat} {a4 : Option Addr} {c4 : Nat} {T : List Int} {b5 b7 : Nat} {C V : Int} {W W' : World}
    (h : TInv w g N c1 L a2 c2 M a4 c4 T b5 b7 C V W) (hb : Below W.heap.size W W') : TInv w g N c1 L a2 c2 M a4 c4 T b5 b7 C V W' :=
  { bel := below_trans' h.bel hb, sv := h.sv.below hb, sx := h.sx.below hb, sw := h.sw.below hb, p0 := cell_kept hb h.p0, p1 := cell_kept hb h.p1, q0 := cell_kept hb h.q0, q1 := cell_kept hb h.q1 }

set_option maxHeartbeats 1600000 in
theorem listTake_walk (a : Option Addr) (n cap : Nat) (w : World) (hs : SBytes w a n) (hc : n ≤ cap) (hm : n ≤ 9223372036854775807) :
    Calls Try.prog 5 #[.slice a n cap] w fun e w' => e = .returned (.bool true) ∧ Below w.heap.size w w' := by
  by_cases hn : n ≤ 1048576
  · have hn' : ¬ (1048576 : Int) < (n : Int) := by omega
    have al : Hid (∀ (W : World) (o : Obj), Below W.heap.size W (W.alloc o)) := fun W o => (Below.refl _ _).alloc (Nat.le_refl _) o
    go_enter Try.func5, Try.ntmps5
    go_wp2_with fail
    refine (drawListTake_any a n cap w hs hc hn).mono ?_
    rintro e w1 ⟨L, N, a1, c1, rfl, ho1, hN, hrng, ⟨g, rfl⟩, hb1⟩
    obtain ⟨hs1, hNc, hcM⟩ := own_room ho1
    have HS1 : Hid (SInts w1 (some ⟨g, 0, none⟩) N L) := hs1
    have HB1 : Hid (Below w.heap.size w w1) := hb1
    clear hs1 hb1 ho1 hrng hs
    obtain ⟨C, hC⟩ : ∃ C, takeC L = C := ⟨_, rfl⟩
    obtain ⟨V, hV⟩ : ∃ V, takeV L = V := ⟨_, rfl⟩
    obtain ⟨T, hT⟩ : ∃ T, takeL L = T := ⟨_, rfl⟩
    have himpl : Hid (∀ (W : World), SInts W (some ⟨g, 0, none⟩) N L → Calls Try.prog 13 #[.slice (some ⟨g, 0, none⟩) N c1] W fun e w' => ListRes T C V e W w') := fun W h => by
      have := implListTake_capany _ N c1 L W h hNc hcM (by omega)
      rwa [hC, hV, hT] at this
    have hspec : Hid (∀ (W : World), SInts W (some ⟨g, 0, none⟩) N L → Calls Try.prog 18 #[.slice (some ⟨g, 0, none⟩) N c1] W fun e w' => ListRes T C V e W w') := fun W h => by
      have := specListTake_cap _ _ N c1 L W h hNc hcM
      rwa [hC, hV, hT] at this
    have HCV : Hid (takeC L = C ∧ takeV L = V ∧ takeL L = T) := ⟨hC, hV, hT⟩
    clear hC hV hT
    go_wp2_with fail
    refine (himpl.out _ HS1.out).mono ?_
    rintro e w2 ⟨N2, a2, c2, rfl, ho2, hb2⟩
    obtain ⟨hs2, hNc2, hcM2⟩ := own_room ho2
    have hl2 := hs2.1
    have B3 := al.out w2 (.cells #[.int .i64 C, .int .i64 V] 27)
    have HB3 : Hid (Below w.heap.size w (w2.alloc (.cells #[.int .i64 C, .int .i64 V] 27))) := below_trans' (below_trans' HB1.out hb2) B3
    have HS3 : Hid (SInts (w2.alloc (.cells #[.int .i64 C, .int .i64 V] 27)) (some ⟨g, 0, none⟩) N L) := (HS1.out.below hb2).below B3
    have HX3 : Hid (SInts (w2.alloc (.cells #[.int .i64 C, .int .i64 V] 27)) a2 N2 T) := hs2.below B3
    have r0 : (w2.alloc (.cells #[.int .i64 C, .int .i64 V] 27)).cell? ⟨w2.heap.size, 0, none⟩ = some (.int .i64 C) := by simp
    have r1 : (w2.alloc (.cells #[.int .i64 C, .int .i64 V] 27)).cell? ⟨w2.heap.size, 1, none⟩ = some (.int .i64 V) := by simp
    have HR : Hid ((w2.alloc (.cells #[.int .i64 C, .int .i64 V] 27)).cell? ⟨w2.heap.size, 0, none⟩ = some (.int .i64 C) ∧ (w2.alloc (.cells #[.int .i64 C, .int .i64 V] 27)).cell? ⟨w2.heap.size, 1, none⟩ = some (.int .i64 V)) := ⟨r0, r1⟩
    clear hb2 B3 HS1 HB1 ho2 hs2 himpl r0 r1
    go_wp2_with fail
    refine (hspec.out _ HS3.out).mono ?_
    rintro e w4 ⟨N4, a4, c4, rfl, ho4, hb4⟩
    obtain ⟨hs4, hNc4, hcM4⟩ := own_room ho4
    have hl4 := hs4.1
    obtain rfl : N4 = N2 := by omega
    have B5 := below_trans' hb4 (al.out w4 (.cells #[.int .i64 C, .int .i64 V] 27))
    have I5 : TInv w g N c1 L a2 c2 N4 a4 c4 T w2.heap.size w4.heap.size C V (w4.alloc (.cells #[.int .i64 C, .int .i64 V] 27)) :=
      { bel := below_trans' HB3.out B5, sv := HS3.out.below B5, sx := HX3.out.below B5, sw := hs4.below (al.out w4 _), p0 := cell_kept B5 HR.out.1, p1 := cell_kept B5 HR.out.2, q0 := by simp, q1 := by simp }
    have HI5 : Hid (TInv w g N c1 L a2 c2 N4 a4 c4 T w2.heap.size w4.heap.size C V (w4.alloc (.cells #[.int .i64 C, .int .i64 V] 27))) := I5
    have HL : Hid (T.length = N4) := hl2
    clear I5 B5 HB3 HS3 HX3 HR hs4 ho4 hb4 hl2 hl4 hspec
    go_wp2_with fail
    refine (tgInts_yes _ _ _ _ _ T _ HI5.out.sx HI5.out.sw (by omega)).mono ?_
    rintro e w6 ⟨rfl, hb6⟩
    have I6 := HI5.out.below hb6
    have HI6 : Hid (TInv w g N c1 L a2 c2 N4 a4 c4 T w2.heap.size w4.heap.size C V w6) := I6
    have p0 := I6.p0
    have p1 := I6.p1
    have q0 := I6.q0
    have q1 := I6.q1
    clear I6 hb6 HI5
    go_wp2_with fail
    refine (specListOk_any _ N c1 L _ HI6.out.sv (by omega)).mono ?_
    rintro e w7 ⟨rfl, rfl⟩
    cases hok : okL L
    · obtain rfl : C = 0 := by rw [← HCV.out.1]; simp [takeC, hok]
      obtain rfl : N4 = 0 := by rw [← HL.out, ← HCV.out.2.2]; simp [takeL, hok]
      go_wp2_with fail
      refine (tgOk_any _).mono ?_
      rintro e w8 ⟨rfl, hb8⟩
      have HB8 : Hid (Below w.heap.size w w8) := below_trans' HI6.out.bel hb8
      clear hb8 HI6 p0 p1 q0 q1
      go_wp2
      go_ret
      exact ⟨rfl, HB8.out⟩
    · cases L with
      | nil =>
        obtain rfl : C = 1 := by rw [← HCV.out.1]; rfl
        obtain rfl : N4 = 0 := by rw [← HL.out, ← HCV.out.2.2]; rfl
        obtain rfl : N = 0 := HI6.out.sv.1.symm
        go_wp2
        go_ret
        exact ⟨rfl, HI6.out.bel⟩
      | cons x r =>
        obtain rfl : C = 2 := by rw [← HCV.out.1]; simp [takeC, hok]
        obtain rfl : V = x := by rw [← HCV.out.2.1]; simp [takeV, hok]
        obtain rfl : T = r := by rw [← HCV.out.2.2]; simp [takeL, hok]
        have hNn : ((N : Int) == 0) = false := by
          have := HI6.out.sv.1
          simp at this
          simp
          omega
        have hNN : Hid (N = N4 + 1) := by
          have := HI6.out.sv.1
          have h2 := HL.out
          simp at this
          show N = N4 + 1
          omega
        go_wp2_with fail
        refine (implStkPush_any a2 N4 c2 T V _ HI6.out.sx hNc2 ⟨hcM2, by have := hNN.out; omega⟩).mono ?_
        rintro e w8 ⟨N8, a8, c8, rfl, ho8, hb8⟩
        rw [putL_back hok] at ho8
        obtain ⟨hs8, hNc8, hcM8⟩ := own_room ho8
        obtain rfl : N8 = N := by
          have h1 := hs8.1
          have h2 := HI6.out.sv.1
          omega
        have B9 := below_trans' hb8 (al.out w8 (.cells #[.int .i64 (putC T V), .int .i64 0] 27))
        have HS9 := hs8.below (al.out w8 (.cells #[.int .i64 (putC T V), .int .i64 0] 27))
        have I9 := HI6.out.below B9
        have HI9 : Hid (TInv w g N8 c1 (V :: T) a2 c2 N4 a4 c4 T w2.heap.size w4.heap.size 2 V (w8.alloc (.cells #[.int .i64 (putC T V), .int .i64 0] 27))) := I9
        have HT9 : Hid (SInts (w8.alloc (.cells #[.int .i64 (putC T V), .int .i64 0] 27)) a8 N8 (V :: T)) := HS9
        have z0 := I9.p0
        clear B9 HS9 I9 hb8 ho8 hs8 HI6 p0 p1 q0 q1
        go_wp2_with fail
        refine (tgInts_yes _ _ _ _ _ (V :: T) _ HT9.out HI9.out.sv (by omega)).mono ?_
        rintro e w10 ⟨rfl, hb10⟩
        have HB10 : Hid (Below w.heap.size w w10) := below_trans' HI9.out.bel hb10
        clear hb10 HI9 HT9 z0
        go_wp2
        go_ret
        exact ⟨rfl, HB10.out⟩
  · have hn' : (1048576 : Int) < (n : Int) := by omega
    clear hs
    go_enter Try.func5, Try.ntmps5
    go_wp2
    go_ret
    exact ⟨rfl, Below.refl _ _⟩

set_option maxRecDepth 100000 in
theorem listTake_lifted (os : Os) (started : os.Started) (H : Type) (enc : TypeId × Value → H) :
    ReturnsInHanded {} Try.checked os 5 .any (Rows.fnListTakeSpec.pre6 enc Try.prog Try.f5 Rows.fnListTakeRow.domain false) (Rows.fnListTakeSpec.post enc Try.prog Try.f5 false true false false) := by
  refine returnsInHanded_of_change (C := Try.checked) own started (by kernel_rfl) Try.func5
    (ChangeSpec.witness6 (enc := enc) (C := Try.checked) false ⟨#[], #[.slice none 0 0], []⟩ 8 (by kernel_rfl) (by kernel_rfl) (by kernel_rfl) (by kernel_rfl)) ?_
  intro W base args ds gs before hval0 hW hcnd _
  have hval : ∀ (j : Nat) t v, Try.f5.params[j]? = some t → args[j]? = some v → Value.okWide Try.prog W .any base t v := hval0
  have hW' := hW
  obtain ⟨p, q, hA0, hV, rfl, hfz, hnd⟩ := hW
  have hA : DataW.TrodAll enc Try.prog W 0 (fun _ => true) true Try.f5.params.toList args.toList ds p := hA0
  rw [Try.params5] at hA hval
  obtain ⟨v0, vs0, d0, ds0, p0, q0, hargs, rfl, rfl, h0, r0⟩ := trodAll_cons hA
  obtain ⟨rfl, rfl, rfl⟩ := trodAll_nil r0
  obtain rfl : args = #[v0] := by cases args; simp_all
  obtain ⟨rfl, rfl⟩ := trodVars_none hV
  obtain ⟨a0, len0, cap0, rfl⟩ := okWide_slice Try.underlying22 (hval 0 22 v0 rfl rfl)
  have k0 := h0
  have lt0 : ∀ x ∈ p0, x.block < W.heap.size := by obtain ⟨m, hm⟩ := k0; exact DataW.trod_lt m _ _ _ hm
  obtain ⟨hs, hc, hm⟩ := sbytes_of_open h0
  clear hA0 hval0
  refine (listTake_walk a0 len0 cap0 W hs hc hm).mono fun e W' ⟨he, bel⟩ => ?_
  subst he
  exact ⟨_, rfl, _, _, _, [], _, [], hW', trodAll_mk1 (shut_bool Try.underlying4 _), (trodAll_cons_mk (Below.trod laidOut (by kernel_rfl) (of_decide_eq_true (by kernel_rfl)) k0 bel lt0) trodAll_mk0), rfl, bel.frame _, fun h => by cases h⟩

theorem listTake_holds : Rows.FnListTakeSaid :=
  OpenClaim.holds_of_wide 5 Try.f5 rfl rfl rfl rfl rfl rfl rfl ⟨rfl, rfl, rfl, rfl, rfl⟩ rfl rfl rfl rfl rfl (by kernel_rfl) Try.func5 (by kernel_rfl)
    (of_decide_eq_true (by kernel_rfl)) (by unfold Func.isWrapper; first | (rw [if_pos (by decide +kernel)]; kernel_rfl) | (rw [if_neg (by decide +kernel)]; exact ⟨rfl, rfl⟩))
    (fun os started H enc _ => listTake_lifted os started H enc)

#print axioms listTake_holds
end Go.Proofs.Ytleajkacfhhemag
