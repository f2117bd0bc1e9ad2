/- For every slice of bytes the law FnOpOk answers true and leaves its argument as it was. No condition but the card's own: the program's table reads as its text lays it. -/
import Derived.Test.YtafhlflddndgjaaDoorLOp
import Derived.Test.YtafhlflddndgjaaDoorTabS
import Derived.Test.YtafhlflddndgjaaDoorMapOk
import Derived.Test.YtafhlflddndgjaaDoorLawOpOk
namespace Go.Proofs.YtafhlflddndgjaaDoor
open Go.ChangeShapes Go.WideShapes Go.ChangeAt Go.RowKit
set_option linter.unusedVariables false

theorem Tryd.cells5 : Tryd.prog.cellsOf 5 = 1 := by kernel_rfl

theorem sbytes_of_open {H : Type} {enc : TypeId × Value → H} {W : World} {a0 : Option Addr} {len0 cap0 : Nat} {d0 : DataW H} {p0 : List MemPlace}
    (h0 : DataW.Trod enc Tryd.prog W 0 (fun _ => true) true 22 (.slice a0 len0 cap0) d0 p0) : SBytes W a0 len0 ∧ len0 ≤ cap0 ∧ len0 ≤ 9223372036854775807 := by
  obtain ⟨fuel, hf⟩ := h0
  rcases open_ints Tryd.underlying22 Tryd.underlying5 Tryd.cells5 hf with ⟨hcs, _⟩ | ⟨x, l, c, zs, hcs, _, hl, hm, hz, _, hcell, hwz⟩
  · simp [Value.cells] at hcs
    obtain ⟨rfl, rfl, rfl⟩ := hcs
    exact ⟨.inl rfl, Nat.le_refl _, by omega⟩
  · simp [Value.cells] at hcs
    obtain ⟨rfl, rfl, rfl⟩ := hcs
    unfold maxLen at hm
    refine ⟨?_, hl, by omega⟩
    by_cases h0 : len0 = 0
    · exact .inl h0
    · obtain ⟨b, off, spot⟩ := x
      have hc := hcell 0 (by simp at hz; omega)
      have hspot : spot = none := by simpa [Addr.add] using World.cell?_spot hc
      subst hspot
      refine .inr ⟨b, off, rfl, fun i hi => ?_⟩
      have := hcell i (by simp at hz; omega)
      rw [Addr.add_lit] at this
      have hb := range_u8 hwz i
      rw [List.getD_eq_getElem?_getD] at this
      exact ⟨_, by omega, by omega, this⟩

set_option maxHeartbeats 400000 in
theorem tgOk_any (w : World) : Calls Tryd.prog 12 #[] w fun e w' => e = .returned (.bool true) ∧ Below w.heap.size w w' := by
  have e0 : okM [] 0 = true := by decide
  go_enter Tryd.func12, Tryd.ntmps12
  go_wp2_with fail
  refine (implMapOk_any none 0 0 [] w ⟨rfl, .inl rfl⟩ (by omega)).mono ?_
  rintro e w1 ⟨rfl, hb⟩
  rw [e0]
  go_wp2
  go_ret
  exact ⟨rfl, hb⟩

set_option maxHeartbeats 400000 in
theorem drawOpOk_any (a : Option Addr) (n cap : Nat) (w : World) (hs : SBytes w a n) (hc : n ≤ cap) (hn : n ≤ 1048576) :
    Calls Tryd.prog 16 #[.slice a n cap] w (fun e w' => ∃ k x y : Int, e = .returned (.agg #[.int .i64 k, .int .i64 x, .int .i64 y]) ∧ Below w.heap.size w w') := by
  have A := al1 w (.cells #[.int .i64 0, .int .i64 0, .int .i64 0] 24)
  have hres : (w.alloc (.cells #[.int .i64 0, .int .i64 0, .int .i64 0] 24)).heap[w.heap.size]? = some (.cells #[.int .i64 0, .int .i64 0, .int .i64 0] 24) := new_block w _
  have hs1 := sbytes_below hs A
  have hwz : w.heap.size < (w.alloc (.cells #[.int .i64 0, .int .i64 0, .int .i64 0] 24)).heap.size := by simp
  go_enter Tryd.func16, Tryd.ntmps16
  go_wp2_with fail
  refine (open_any a n cap _ hc hn).mono ?_
  generalize w.alloc (.cells #[.int .i64 0, .int .i64 0, .int .i64 0] 24) = w0 at A hres hs1 hwz ⊢
  rintro e w1 ⟨m, c, ⟨hm, h3⟩, rfl, hw1⟩
  have hrd : Rd w1 w0.heap.size 0 := by rw [hw1]; exact rd_open w0 a n m c hs1 hm h3
  have hb1 : Below w0.heap.size w0 w1 := by rw [hw1]; exact al1 _ _
  have hsz : w0.heap.size < w1.heap.size := by rw [hw1]; simp
  have r1 := (hb1.block _ hwz).trans hres
  have HB1 : Hid (Below w.heap.size w w1) := below_trans' A hb1
  clear hw1 hb1 A hres hs hs1
  go_wp2_with fail
  refine (op_any w0.heap.size 0 2 w1 hrd hsz (by omega) (by omega) (by omega)).mono ?_
  rintro e w3 ⟨k, x, y, q, rfl, hrd3, hq, k13⟩
  have r3 : Hid (w3.heap[w.heap.size]? = some (.cells #[.int .i64 0, .int .i64 0, .int .i64 0] 24)) := (k13.block w.heap.size (by omega) (by omega)).trans r1
  have B3 : Hid (Below w.heap.size w w3) := HB1.out.trans (k13.bel.mono (by omega))
  have c0 := cell_block0 r3.out
  have c1 := cell_block1 r3.out
  have c2 := cell_block2 r3.out
  have f0 := frozen_block r3.out 0
  have f1 := frozen_block r3.out 1
  have f2 := frozen_block r3.out 2
  clear k13 hrd3 hq r1 hrd hsz hwz
  go_wp2_with fail
  have b1 := Joins.block_setCell (i := 0) r3.out (.int .i64 k)
  have b2 := Joins.block_setCell (i := 1) b1 (.int .i64 x)
  have b3 := Joins.block_setCell (i := 2) b2 (.int .i64 y)
  refine bodyPost_ret (results_cell_row Tryd.results16 _ _ _ _ _ _ _ rfl b3 Tryd.underlying24 rfl Tryd.info24) rfl ?_
  exact ⟨k, x, y, by simp, ((B3.out.setCell (p := ⟨w.heap.size, 0, none⟩) (Nat.le_refl _) _).setCell (p := ⟨w.heap.size, 1, none⟩) (Nat.le_refl _) _).setCell (p := ⟨w.heap.size, 2, none⟩) (Nat.le_refl _) _⟩

theorem Tab.alloc {W : World} (h : Tab W) (o : Obj) : Tab (W.alloc o) := h.below (al1 W o)

theorem opB_key (k v : Int) : opB k 100 v = false := by
  cases h : opB k 100 v
  · rfl
  · exfalso
    by_cases l : k < 1
    · rw [opB_low l] at h; cases h
    by_cases g : 12 < k
    · rw [opB_high g] at h; cases h
    have : k = 1 ∨ k = 2 ∨ k = 3 ∨ k = 4 ∨ k = 5 ∨ k = 6 ∨ k = 7 ∨ k = 8 ∨ k = 9 ∨ k = 10 ∨ k = 11 ∨ k = 12 := by omega
    rcases this with rfl | rfl | rfl | rfl | rfl | rfl | rfl | rfl | rfl | rfl | rfl | rfl <;> simp [opB, kMost, vMost, inB] at h
theorem opB_val (k key : Int) : opB k key 1000 = false := by
  cases h : opB k key 1000
  · rfl
  · exfalso
    by_cases l : k < 1
    · rw [opB_low l] at h; cases h
    by_cases g : 12 < k
    · rw [opB_high g] at h; cases h
    have : k = 1 ∨ k = 2 ∨ k = 3 ∨ k = 4 ∨ k = 5 ∨ k = 6 ∨ k = 7 ∨ k = 8 ∨ k = 9 ∨ k = 10 ∨ k = 11 ∨ k = 12 := by omega
    rcases this with rfl | rfl | rfl | rfl | rfl | rfl | rfl | rfl | rfl | rfl | rfl | rfl <;> simp [opB, kMost, vMost, inB] at h

set_option maxRecDepth 20000 in
set_option maxHeartbeats 1000000 in
theorem opOkP_walk (a : Option Addr) (n cap : Nat) (w : World) (hs : SBytes w a n) (hc : n ≤ cap) (hm : n ≤ 9223372036854775807) (ht : Tab w) :
    Calls Tryd.prog 5 #[.slice a n cap] w fun e w' => e = .returned (.bool true) ∧ Below w.heap.size w w' := by
  by_cases hn : n ≤ 1048576
  · have hn' : ¬ (1048576 : Int) < (n : Int) := by omega
    go_enter Tryd.func5, Tryd.ntmps5
    go_wp2_with fail
    refine (drawOpOk_any a n cap w hs hc hn).mono ?_
    rintro e w1 ⟨k, key, val, rfl, hb1⟩
    have ht1 := ht.below hb1
    clear hs ht hc hm
    go_wp2_with fail
    have T0 := ht1.alloc (.cells #[.int .i64 k, .int .i64 key, .int .i64 val] 24)
    have B0 : Hid (Below w.heap.size w (w1.alloc (.cells #[.int .i64 k, .int .i64 key, .int .i64 val] 24))) := below_trans' hb1 (al1 _ _)
    have r0 := new_block w1 (.cells #[.int .i64 k, .int .i64 key, .int .i64 val] 24)
    have p0 := cell_block0 r0
    have p2 := cell_block2 r0
    have p1 := cell_block1 r0
    generalize w1.alloc (.cells #[.int .i64 k, .int .i64 key, .int .i64 val] 24) = W0 at T0 B0 p0 p1 p2 ⊢
    clear r0 hb1 ht1
    refine (implOpOk_any k key val W0 T0).mono ?_
    rintro e w2 ⟨rfl, b2⟩
    have T2 := T0.below b2
    have B2 : Hid (Below w.heap.size w w2) := below_trans' B0.out b2
    have q0 := kept_cell b2 p0
    have q1 := kept_cell b2 p1
    have q2 := kept_cell b2 p2
    clear T0 B0 p0 p1 p2 b2
    go_wp2_with fail
    refine (specOpOk_any k key val w2).mono ?_
    rintro e w3 ⟨rfl, b3⟩
    have T3 := T2.below b3
    have B3 : Hid (Below w.heap.size w w3) := below_trans' B2.out b3
    have o0 := kept_cell b3 q0
    have o1 := kept_cell b3 q1
    have o2 := kept_cell b3 q2
    have ol : w1.heap.size < w3.heap.size := World.block_lt_of_cell? w3 ⟨w1.heap.size, 0, none⟩ o0
    have ol1 : w1.heap.size < w3.heap.size + 1 := by omega
    clear T2 B2 q0 q1 q2 b3
    obtain ⟨b, hb⟩ : ∃ b, opB k key val = b := ⟨_, rfl⟩
    rw [hb]
    have HB : Hid (opB k key val = b) := hb
    clear hb
    cases b
    · go_wp2_with fail
      have TX := (T3.alloc (.cells #[.int .i64 k, .int .i64 100, .int .i64 val] 24)).alloc (.cells #[.int .i64 k, .int .i64 key, .int .i64 1000] 24)
      have bx : Below w3.heap.size w3 ((w3.alloc (.cells #[.int .i64 k, .int .i64 100, .int .i64 val] 24)).alloc (.cells #[.int .i64 k, .int .i64 key, .int .i64 1000] 24)) := below_trans' (al1 _ _) (al1 _ _)
      have ey : ((w3.alloc (.cells #[.int .i64 k, .int .i64 100, .int .i64 val] 24)).alloc (.cells #[.int .i64 k, .int .i64 key, .int .i64 1000] 24)).heap[w3.heap.size + 1]? = some (.cells #[.int .i64 k, .int .i64 key, .int .i64 1000] 24) := by
        have := new_block (w3.alloc (.cells #[.int .i64 k, .int .i64 100, .int .i64 val] 24)) (.cells #[.int .i64 k, .int .i64 key, .int .i64 1000] 24)
        simpa using this
      have BX : Hid (Below w.heap.size w ((w3.alloc (.cells #[.int .i64 k, .int .i64 100, .int .i64 val] 24)).alloc (.cells #[.int .i64 k, .int .i64 key, .int .i64 1000] 24))) := below_trans' B3.out bx
      have x0 := kept_cell bx o0
      have x2 := kept_cell bx o2
      have y0 := cell_block0 ey
      have y1 := cell_block1 ey
      have y2 := cell_block2 ey
      generalize (w3.alloc (.cells #[.int .i64 k, .int .i64 100, .int .i64 val] 24)).alloc (.cells #[.int .i64 k, .int .i64 key, .int .i64 1000] 24) = WX at TX BX x0 x2 y0 y1 y2 ⊢
      clear bx ey o0 o1 o2 B3 T3 ol ol1
      refine (implOpOk_any k 100 val WX TX).mono ?_
      rintro e w4 ⟨rfl, b4⟩
      rw [opB_key]
      have T4 := TX.below b4
      have B4 : Hid (Below w.heap.size w w4) := below_trans' BX.out b4
      have z0 := kept_cell b4 y0
      have z1 := kept_cell b4 y1
      have z2 := kept_cell b4 y2
      have u0 := kept_cell b4 x0
      have u2 := kept_cell b4 x2
      clear TX BX x0 x2 y0 y1 y2 b4
      go_wp2_with fail
      refine (implOpOk_any k key 1000 w4 T4).mono ?_
      rintro e w5 ⟨rfl, b5⟩
      rw [opB_val]
      have B5 : Hid (Below w.heap.size w w5) := below_trans' B4.out b5
      have v0 := kept_cell b5 u0
      have v2 := kept_cell b5 u2
      clear T4 B4 z0 z1 z2 u0 u2 b5
      go_wp2_with fail
      refine (tgOk_any w5).mono ?_
      rintro e w6 ⟨rfl, b6⟩
      have B6 : Hid (Below w.heap.size w w6) := below_trans' B5.out b6
      clear b6 B5 v0 v2
      go_wp2
      go_ret
      exact ⟨rfl, B6.out⟩
    · go_wp2_with fail
      have TX := (T3.alloc (.cells #[.int .i64 k, .int .i64 100, .int .i64 val] 24)).alloc (.cells #[.int .i64 k, .int .i64 key, .int .i64 1000] 24)
      have bx : Below w3.heap.size w3 ((w3.alloc (.cells #[.int .i64 k, .int .i64 100, .int .i64 val] 24)).alloc (.cells #[.int .i64 k, .int .i64 key, .int .i64 1000] 24)) := below_trans' (al1 _ _) (al1 _ _)
      have ey : ((w3.alloc (.cells #[.int .i64 k, .int .i64 100, .int .i64 val] 24)).alloc (.cells #[.int .i64 k, .int .i64 key, .int .i64 1000] 24)).heap[w3.heap.size + 1]? = some (.cells #[.int .i64 k, .int .i64 key, .int .i64 1000] 24) := by
        have := new_block (w3.alloc (.cells #[.int .i64 k, .int .i64 100, .int .i64 val] 24)) (.cells #[.int .i64 k, .int .i64 key, .int .i64 1000] 24)
        simpa using this
      have BX : Hid (Below w.heap.size w ((w3.alloc (.cells #[.int .i64 k, .int .i64 100, .int .i64 val] 24)).alloc (.cells #[.int .i64 k, .int .i64 key, .int .i64 1000] 24))) := below_trans' B3.out bx
      have x0 := kept_cell bx o0
      have x2 := kept_cell bx o2
      have y0 := cell_block0 ey
      have y1 := cell_block1 ey
      have y2 := cell_block2 ey
      generalize (w3.alloc (.cells #[.int .i64 k, .int .i64 100, .int .i64 val] 24)).alloc (.cells #[.int .i64 k, .int .i64 key, .int .i64 1000] 24) = WX at TX BX x0 x2 y0 y1 y2 ⊢
      clear bx ey o0 o1 o2 B3 T3 ol ol1
      refine (implOpOk_any k 100 val WX TX).mono ?_
      rintro e w4 ⟨rfl, b4⟩
      rw [opB_key]
      have T4 := TX.below b4
      have B4 : Hid (Below w.heap.size w w4) := below_trans' BX.out b4
      have z0 := kept_cell b4 y0
      have z1 := kept_cell b4 y1
      have z2 := kept_cell b4 y2
      have u0 := kept_cell b4 x0
      have u2 := kept_cell b4 x2
      clear TX BX x0 x2 y0 y1 y2 b4
      go_wp2_with fail
      refine (implOpOk_any k key 1000 w4 T4).mono ?_
      rintro e w5 ⟨rfl, b5⟩
      rw [opB_val]
      have B5 : Hid (Below w.heap.size w w5) := below_trans' B4.out b5
      have v0 := kept_cell b5 u0
      have v2 := kept_cell b5 u2
      clear T4 B4 z0 z1 z2 u0 u2 b5
      have l : ¬ k < 1 := fun l => by rw [opB_low l] at HB; cases HB.out
      have g : ¬ 12 < k := fun g => by rw [opB_high g] at HB; cases HB.out
      have hk1 : 1 ≤ k := by omega
      have hk2 : k ≤ 12 := by omega
      by_cases hv : val = 0
      · subst hv
        clear l g HB
        go_wp2
        go_ret
        exact ⟨rfl, B5.out⟩
      · have h7 : k = 2 ∨ k = 5 ∨ k = 7 := by
          have h12 : k = 1 ∨ k = 2 ∨ k = 3 ∨ k = 4 ∨ k = 5 ∨ k = 6 ∨ k = 7 ∨ k = 8 ∨ k = 9 ∨ k = 10 ∨ k = 11 ∨ k = 12 := by omega
          have h := HB.out
          rcases h12 with rfl | rfl | rfl | rfl | rfl | rfl | rfl | rfl | rfl | rfl | rfl | rfl <;> simp [opB, kMost, vMost, inB_zero, hv] at h <;> omega
        have hv0 : (val == 0) = false := by simpa using hv
        clear l g HB hk1 hk2 hv
        rcases h7 with rfl | rfl | rfl
        · go_wp2
          all_goals
            go_ret
            exact ⟨rfl, B5.out⟩
        · go_wp2
          all_goals
            go_ret
            exact ⟨rfl, B5.out⟩
        · go_wp2
          all_goals
            go_ret
            exact ⟨rfl, B5.out⟩
  · have hn' : (1048576 : Int) < (n : Int) := by omega
    clear hs
    go_enter Tryd.func5, Tryd.ntmps5
    go_wp2
    go_ret
    exact ⟨rfl, Below.refl _ _⟩

set_option maxRecDepth 100000 in
theorem opOkP_lifted (os : Os) (started : os.Started) (H : Type) (enc : TypeId × Value → H) :
    ReturnsInHanded {} Tryd.checked os 5 .any (fun w args => (Rows.fnOpOkSpec.pre enc Tryd.prog Tryd.f5 [] false w args ∧ laidMetH Tryd.prog [("loop.example/tuggers/impl.askedMost", Rows.laid_loop_example_tuggers_impl_askedMost)] w) ∧ sizedMet enc Tryd.prog Tryd.f5 (OpenSpec.ofChange Rows.fnOpOkSpec) false w args)
      (Rows.fnOpOkSpec.post enc Tryd.prog Tryd.f5 false true false false) := by
  refine returnsInHanded_of_change_and (C := Tryd.checked) (X := fun w _ => laidMetH Tryd.prog [("loop.example/tuggers/impl.askedMost", Rows.laid_loop_example_tuggers_impl_askedMost)] w) (fun _ _ _ hh h => h.of_heap hh) own started (by kernel_rfl) Tryd.func5
    (ChangeSpec.witness_shaped (enc := enc) (C := Tryd.checked) (os := os) (X := fun w _ => laidMetH Tryd.prog [("loop.example/tuggers/impl.askedMost", Rows.laid_loop_example_tuggers_impl_askedMost)] w) false (World.doorLaid Tryd.prog 400 os) #[.slice none 0 0] 8 rfl (World.shaped_of_RefB (by kernel_rfl) (by kernel_rfl)) (by kernel_rfl) (by kernel_rfl) (by kernel_rfl) (door_met os _)) ?_
  intro W base args ds gs before hval0 hW _ _ hL _
  have hval : ∀ (j : Nat) t v, Tryd.f5.params[j]? = some t → args[j]? = some v → Value.okWide Tryd.prog W .any base t v := hval0
  have hW' := hW
  obtain ⟨p, q, hA0, hV, rfl, hfz, hnd⟩ := hW
  have hA : DataW.TrodAll enc Tryd.prog W 0 (fun _ => true) true Tryd.f5.params.toList args.toList ds p := hA0
  rw [Tryd.params5] at hA hval
  obtain ⟨v0, vs0, d0, ds0, p0, q0, hargs, rfl, rfl, h0, r0⟩ := trodAll_cons hA
  obtain ⟨rfl, rfl, rfl⟩ := trodAll_nil r0
  obtain rfl : args = #[v0] := by cases args; simp_all
  obtain ⟨d1, rfl⟩ : ∃ d1, gs = [d1] := by
    have hV2 : DataW.TrodVars enc Tryd.prog W (fun _ => true) ["loop.example/tuggers/impl.askedMost"] gs q := hV
    obtain ⟨_, _, _, _, d1, _, e, _⟩ := trodVars_one hV2
    exact ⟨d1, e⟩
  have hVr : varsRowed Tryd.prog Rows.fnOpOkSpec.vars = true := by kernel_rfl
  have k0 := h0
  have lt0 : ∀ x ∈ p0, x.block < W.heap.size := by obtain ⟨m, hm⟩ := k0; exact DataW.trod_lt m _ _ _ hm
  obtain ⟨a0, len0, cap0, rfl⟩ := okWide_slice Tryd.underlying22 (hval 0 22 v0 rfl rfl)
  obtain ⟨hs, hc, hm⟩ := sbytes_of_open h0
  have hT := tab_of_laid hL
  clear hA0 hval0
  refine (opOkP_walk a0 len0 cap0 W hs hc hm hT).mono fun e W' ⟨he, bel⟩ => ?_
  subst he
  exact ⟨_, rfl, _, _, _, [], _, _, hW', trodAll_mk1 (shut_bool Tryd.underlying4 _), (trodAll_cons_mk (Below.trod laidOut (by kernel_rfl) (of_decide_eq_true (by kernel_rfl)) k0 bel lt0) trodAll_mk0), Below.trodVars laidOut bel hVr hV, bel.frame _, fun h => by cases h⟩

theorem opOkP_said : Rows.FnOpOkSaid :=
  OpenClaim.holds_of_wide 5 Tryd.f5 rfl rfl rfl rfl rfl rfl rfl ⟨rfl, rfl, rfl, rfl, rfl⟩ rfl rfl rfl rfl rfl (by kernel_rfl) Tryd.func5 (by kernel_rfl)
    (of_decide_eq_true (by kernel_rfl)) (by unfold Func.isWrapper; first | (rw [if_pos (by decide +kernel)]; kernel_rfl) | (rw [if_neg (by decide +kernel)]; exact ⟨rfl, rfl⟩))
    (fun os started H enc _ => opOkP_lifted os started H enc)

theorem opOkP_holds : Rows.FnOpOkCardSaid :=
  Claim7.holds_tied_plain_at .later [] [.data] true (true, "0af08fa4255ccecc8197f8ce2f23474d3a0d6e2d22f1a7b96ef653e0e766170c") false
    opOkP_said (fun _ h => by cases h) (by kernel_rfl) (fun _ h => by cases h) fnOpOk_row_tie rfl ⟨rfl, rfl⟩ (by kernel_rfl) rfl
    (fun f fn hf hfn => by
      obtain rfl : f = 5 := Option.some.inj ((show Tryd.prog.funcNamed "loop.example/tuggers/laws.FnOpOk" = some 5 by kernel_rfl).symm.trans hf) |>.symm
      obtain rfl : fn = Tryd.f5 := (Option.some.inj (Tryd.func5.symm.trans hfn)).symm
      exact ⟨by kernel_rfl, fun j t ht => by
        rw [Tryd.params5] at ht
        have h3 : t = 22 := by
          rcases j with _ | j
          · simpa using ht.symm
          · simp at ht
        subst h3
        exact (show Tryd.prog.wantsStandIn 22 = false by kernel_rfl)⟩)
    (by kernel_rfl)

#print axioms opOkP_holds

end Go.Proofs.YtafhlflddndgjaaDoor
