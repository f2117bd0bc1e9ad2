/- What is asked is done: the law FnLinApply's walk. -/
import Derived.Test.YtklpdpdjblakgaaDoorGr8
namespace Go.Proofs.YtklpdpdjblakgaaDoor
open Go.RowKit
set_option linter.unusedVariables false

theorem g_at {w W : World} {l : List (Nat × List Value)} {sts : List (SV × LD)} (h : G w W l sts) {v : SV} {d : LD} (hm : (v, d) ∈ sts) : SS W v d := h.ss _ hm

set_option maxRecDepth 20000 in
set_option maxHeartbeats 8000000 in
theorem linAp_walk (a : Option Addr) (n cap : Nat) (w : World) (hs : SBytes w a n) (hc : n ≤ cap) (hm : n ≤ 9223372036854775807) (ht : Tab w) :
    Calls Tryd.prog 4 #[.slice a n cap] w fun e w' => e = .returned (.bool true) ∧ Below w.heap.size w w' := by
  by_cases hn : n ≤ 1048576
  · have hn' : ¬ (1048576 : Int) < (n : Int) := by omega
    have HT : Hid (Tab w) := ht
    clear ht
    go_enter Tryd.func4, Tryd.ntmps4
    go_wp2_with fail
    refine (drawLinApply_any a n cap w hs hc hn).mono ?_
    rintro e w1 ⟨v, d, k, x, y, rfl, hst, hso, hd9, hb1⟩
    have G1 : G w ((w1.alloc (.cells #[v.m d, v.s d, v.q d] 35)).alloc (.cells #[.int .i64 k, .int .i64 x, .int .i64 y] 41)) _ _ := (((G.start hb1).st hst.ss).add #[v.m d, v.s d, v.q d] 35 rfl).add #[.int .i64 k, .int .i64 x, .int .i64 y] 41 (b := w1.heap.size + 1) (by simp)
    have HR : Hid (Room v d ∧ Somes v ∧ Few d) := ⟨hst.room, hso, few9 hd9⟩
    have hspec : Hid (∀ W v', SS W v' d → Room v' d → Somes v' → Calls Tryd.prog 9 #[stV v' d, .agg #[.int .i64 k, .int .i64 x, .int .i64 y]] W (SpRes (aD k x y d) (aCd k x y d) (aVd k x y d) W)) := fun W v' h1 h2 h3 => specLinApply_any v' d k x y W h1 h2 HR.out.2.2 h3
    have himpl : Hid (∀ W v', SS W v' d → Room v' d → Tab W → Calls Tryd.prog 12 #[stV v' d, .agg #[.int .i64 k, .int .i64 x, .int .i64 y]] W (OfRes W.heap.size (aD k x y d) (aCd k x y d) (aVd k x y d) W)) := fun W v' h1 h2 h3 => implLinApply_any v' d k x y W h1 h2 HR.out.2.2 h3
    have HFD : Hid (Few (aD k x y d)) := aD_few HR.out.2.2
    obtain ⟨D, hD⟩ : ∃ D, aD k x y d = D := ⟨_, rfl⟩
    obtain ⟨C, hC⟩ : ∃ C, aCd k x y d = C := ⟨_, rfl⟩
    obtain ⟨V, hV⟩ : ∃ V, aVd k x y d = V := ⟨_, rfl⟩
    have HD : Hid (aD k x y d = D ∧ aCd k x y d = C ∧ aVd k x y d = V) := ⟨hD, hC, hV⟩
    rw [hD, hC, hV] at hspec himpl
    rw [hD] at HFD
    clear hst hso hd9 hb1 hs hD hC hV
    have bs0 := G1.bx (w1.heap.size, [v.m d, v.s d, v.q d]) (by simp) 0 _ rfl
    have bs1 := G1.bx (w1.heap.size, [v.m d, v.s d, v.q d]) (by simp) 1 _ rfl
    have bs2 := G1.bx (w1.heap.size, [v.m d, v.s d, v.q d]) (by simp) 2 _ rfl
    have bo0 := G1.bx (w1.heap.size + 1, [.int .i64 k, .int .i64 x, .int .i64 y]) (by simp) 0 _ rfl
    have bo1 := G1.bx (w1.heap.size + 1, [.int .i64 k, .int .i64 x, .int .i64 y]) (by simp) 1 _ rfl
    have bo2 := G1.bx (w1.heap.size + 1, [.int .i64 k, .int .i64 x, .int .i64 y]) (by simp) 2 _ rfl
    go_wp2_with fail
    refine (himpl.out _ v (G1.ss (v, d) (by simp)) HR.out.1 (tab_onto HT.out G1.bel)).mono ?_
    generalize ((w1.alloc (.cells #[v.m d, v.s d, v.q d] 35)).alloc (.cells #[.int .i64 k, .int .i64 x, .int .i64 y] 41)) = W1 at G1 bs0 bs1 bs2 bo0 bo1 bo2 ⊢
    rintro e w2 ⟨u2, rfl, hst2, _, hb2⟩
    have G2 : G w ((w2.alloc (.cells #[u2.m D, u2.s D, u2.q D] 35)).alloc (.cells #[.int .i64 C, .int .i64 V] 37)) _ _ := (((G1.below hb2).st hst2.ss).add #[u2.m D, u2.s D, u2.q D] 35 rfl).add #[.int .i64 C, .int .i64 V] 37 (b := w2.heap.size + 1) (by simp)
    clear bs0 bs1 bs2 bo0 bo1 bo2 G1 hst2 hb2 himpl
    have bs0 := G2.bx (w1.heap.size, [v.m d, v.s d, v.q d]) (by simp) 0 _ rfl
    have bs1 := G2.bx (w1.heap.size, [v.m d, v.s d, v.q d]) (by simp) 1 _ rfl
    have bs2 := G2.bx (w1.heap.size, [v.m d, v.s d, v.q d]) (by simp) 2 _ rfl
    have bo0 := G2.bx (w1.heap.size + 1, [.int .i64 k, .int .i64 x, .int .i64 y]) (by simp) 0 _ rfl
    have bo1 := G2.bx (w1.heap.size + 1, [.int .i64 k, .int .i64 x, .int .i64 y]) (by simp) 1 _ rfl
    have bo2 := G2.bx (w1.heap.size + 1, [.int .i64 k, .int .i64 x, .int .i64 y]) (by simp) 2 _ rfl
    go_wp2_with fail
    refine (hspec.out _ v (G2.ss (v, d) (by simp)) HR.out.1 HR.out.2.1).mono ?_
    generalize ((w2.alloc (.cells #[u2.m D, u2.s D, u2.q D] 35)).alloc (.cells #[.int .i64 C, .int .i64 V] 37)) = W2 at G2 bs0 bs1 bs2 bo0 bo1 bo2 ⊢
    rintro e w3 ⟨u3, rfl, hst3, hb3⟩
    have G3 : G w ((w3.alloc (.cells #[u3.m D, u3.s D, u3.q D] 35)).alloc (.cells #[.int .i64 C, .int .i64 V] 37)) _ _ := (((G2.below hb3).st hst3.ss).add #[u3.m D, u3.s D, u3.q D] 35 rfl).add #[.int .i64 C, .int .i64 V] 37 (b := w3.heap.size + 1) (by simp)
    clear bs0 bs1 bs2 bo0 bo1 bo2 G2 hst3 hb3 hspec
    have bx0 := G3.bx (w2.heap.size, [u2.m D, u2.s D, u2.q D]) (by simp) 0 _ rfl
    have bx1 := G3.bx (w2.heap.size, [u2.m D, u2.s D, u2.q D]) (by simp) 1 _ rfl
    have bx2 := G3.bx (w2.heap.size, [u2.m D, u2.s D, u2.q D]) (by simp) 2 _ rfl
    have bA0 := G3.bx (w3.heap.size, [u3.m D, u3.s D, u3.q D]) (by simp) 0 _ rfl
    have bA1 := G3.bx (w3.heap.size, [u3.m D, u3.s D, u3.q D]) (by simp) 1 _ rfl
    have bA2 := G3.bx (w3.heap.size, [u3.m D, u3.s D, u3.q D]) (by simp) 2 _ rfl
    have br0 := G3.bx (w2.heap.size + 1, [.int .i64 C, .int .i64 V]) (by simp) 0 _ rfl
    have br1 := G3.bx (w2.heap.size + 1, [.int .i64 C, .int .i64 V]) (by simp) 1 _ rfl
    have bF0 := G3.bx (w3.heap.size + 1, [.int .i64 C, .int .i64 V]) (by simp) 0 _ rfl
    have bF1 := G3.bx (w3.heap.size + 1, [.int .i64 C, .int .i64 V]) (by simp) 1 _ rfl
    go_wp2_with fail
    refine (tgState_yes u2 u3 D _ (G3.ss (u2, D) (by simp)) (G3.ss (u3, D) (by simp)) HFD.out).mono ?_
    generalize ((w3.alloc (.cells #[u3.m D, u3.s D, u3.q D] 35)).alloc (.cells #[.int .i64 C, .int .i64 V] 37)) = W3 at G3 bx0 bx1 bx2 bA0 bA1 bA2 br0 br1 bF0 bF1 ⊢
    rintro e wa ⟨rfl, hba⟩
    have Ga := G3.below hba
    clear bx0 bx1 bx2 bA0 bA1 bA2 br0 br1 bF0 bF1 G3 hba
    have bs0 := Ga.bx (w1.heap.size, [v.m d, v.s d, v.q d]) (by simp) 0 _ rfl
    have bs1 := Ga.bx (w1.heap.size, [v.m d, v.s d, v.q d]) (by simp) 1 _ rfl
    have bs2 := Ga.bx (w1.heap.size, [v.m d, v.s d, v.q d]) (by simp) 2 _ rfl
    have br0 := Ga.bx (w2.heap.size + 1, [.int .i64 C, .int .i64 V]) (by simp) 0 _ rfl
    have br1 := Ga.bx (w2.heap.size + 1, [.int .i64 C, .int .i64 V]) (by simp) 1 _ rfl
    have bF0 := Ga.bx (w3.heap.size + 1, [.int .i64 C, .int .i64 V]) (by simp) 0 _ rfl
    have bF1 := Ga.bx (w3.heap.size + 1, [.int .i64 C, .int .i64 V]) (by simp) 1 _ rfl
    go_wp2_with fail
    refine (specMapOk_any _ _ _ d.zs _ (g_at Ga (v := v) (d := d) (by simp)).m (by have := HR.out.2.2.m; omega)).mono ?_
    rintro e w4 ⟨rfl, hb4⟩
    have G4 := Ga.below hb4
    clear bs0 bs1 bs2 br0 br1 bF0 bF1 Ga hb4
    have bs0 := G4.bx (w1.heap.size, [v.m d, v.s d, v.q d]) (by simp) 0 _ rfl
    have bs1 := G4.bx (w1.heap.size, [v.m d, v.s d, v.q d]) (by simp) 1 _ rfl
    have bs2 := G4.bx (w1.heap.size, [v.m d, v.s d, v.q d]) (by simp) 2 _ rfl
    have bo0 := G4.bx (w1.heap.size + 1, [.int .i64 k, .int .i64 x, .int .i64 y]) (by simp) 0 _ rfl
    have bo1 := G4.bx (w1.heap.size + 1, [.int .i64 k, .int .i64 x, .int .i64 y]) (by simp) 1 _ rfl
    have bo2 := G4.bx (w1.heap.size + 1, [.int .i64 k, .int .i64 x, .int .i64 y]) (by simp) 2 _ rfl
    have bx0 := G4.bx (w2.heap.size, [u2.m D, u2.s D, u2.q D]) (by simp) 0 _ rfl
    have bx1 := G4.bx (w2.heap.size, [u2.m D, u2.s D, u2.q D]) (by simp) 1 _ rfl
    have bx2 := G4.bx (w2.heap.size, [u2.m D, u2.s D, u2.q D]) (by simp) 2 _ rfl
    have br0 := G4.bx (w2.heap.size + 1, [.int .i64 C, .int .i64 V]) (by simp) 0 _ rfl
    have br1 := G4.bx (w2.heap.size + 1, [.int .i64 C, .int .i64 V]) (by simp) 1 _ rfl
    have HG4 : Hid (G w w4 [(w3.heap.size + 1, [.int .i64 C, .int .i64 V]), (w3.heap.size, [u3.m D, u3.s D, u3.q D]), (w2.heap.size + 1, [.int .i64 C, .int .i64 V]), (w2.heap.size, [u2.m D, u2.s D, u2.q D]), (w1.heap.size + 1, [.int .i64 k, .int .i64 x, .int .i64 y]), (w1.heap.size, [v.m d, v.s d, v.q d])] [(u3, D), (u2, D), (v, d)]) := G4
    clear G4
    generalize hm1 : okM d.zs d.n = b1
    generalize hm2 : okL d.s = b2
    generalize hm3 : okL d.q = b3
    generalize hm4 : opB k x y = b4
    have HQ : Hid (okM d.zs d.n = b1 ∧ okL d.s = b2 ∧ okL d.q = b3 ∧ opB k x y = b4) := ⟨hm1, hm2, hm3, hm4⟩
    clear hm1 hm2 hm3 hm4
    have HBAD : Hid ((b1 && (b2 && (b3 && b4))) = false → D = ⟨0, [], [], []⟩ ∧ C = 0 ∧ V = 0) := fun h => by
      obtain ⟨q1, q2, q3, q4⟩ := HQ.out
      obtain ⟨e1, e2, e3⟩ := aD_bad (k := k) (x := x) (y := y) (d := d) (by rw [← q1, ← q2, ← q3, ← q4] at h; simpa only [okD, apOk, stOk, Bool.and_assoc] using h)
      obtain ⟨f1, f2, f3⟩ := HD.out
      exact ⟨f1.symm.trans e1, f2.symm.trans e2, f3.symm.trans e3⟩
    cases b1
    · obtain ⟨e1, e2, e3⟩ := HBAD.out rfl
      subst e1 e2 e3
      clear HD HBAD
      go_wp2_with fail
      refine (tgOk_any _).mono ?_
      rintro e w9 ⟨rfl, hb9⟩
      have HB9 : Hid (Below w.heap.size w w9) := below_trans' HG4.out.bel hb9
      clear hb9
      go_wp2
      go_ret
      exact ⟨rfl, HB9.out⟩
    go_wp2_with fail
    refine (specListOk_any _ _ _ d.s _ (g_at HG4.out (v := v) (d := d) (by simp)).s (by have := HR.out.2.2.s; omega)).mono ?_
    rintro e w4' ⟨rfl, rfl⟩
    rw [HQ.out.2.1]
    cases b2
    · obtain ⟨e1, e2, e3⟩ := HBAD.out rfl
      subst e1 e2 e3
      clear HD HBAD
      go_wp2_with fail
      refine (tgOk_any _).mono ?_
      rintro e w9 ⟨rfl, hb9⟩
      have HB9 : Hid (Below w.heap.size w w9) := below_trans' HG4.out.bel hb9
      clear hb9
      go_wp2
      go_ret
      exact ⟨rfl, HB9.out⟩
    go_wp2_with fail
    refine (specListOk_any _ _ _ d.q _ (g_at HG4.out (v := v) (d := d) (by simp)).q (by have := HR.out.2.2.q; omega)).mono ?_
    rintro e w4' ⟨rfl, rfl⟩
    rw [HQ.out.2.2.1]
    cases b3
    · obtain ⟨e1, e2, e3⟩ := HBAD.out rfl
      subst e1 e2 e3
      clear HD HBAD
      go_wp2_with fail
      refine (tgOk_any _).mono ?_
      rintro e w9 ⟨rfl, hb9⟩
      have HB9 : Hid (Below w.heap.size w w9) := below_trans' HG4.out.bel hb9
      clear hb9
      go_wp2
      go_ret
      exact ⟨rfl, HB9.out⟩
    go_wp2_with fail
    refine (specOpOk_any k x y _).mono ?_
    rintro e w5 ⟨rfl, hb5⟩
    rw [HQ.out.2.2.2]
    have G5 := HG4.out.below hb5
    clear bs0 bs1 bs2 bo0 bo1 bo2 bx0 bx1 bx2 br0 br1 hb5 HG4
    have bs0 := G5.bx (w1.heap.size, [v.m d, v.s d, v.q d]) (by simp) 0 _ rfl
    have bs1 := G5.bx (w1.heap.size, [v.m d, v.s d, v.q d]) (by simp) 1 _ rfl
    have bs2 := G5.bx (w1.heap.size, [v.m d, v.s d, v.q d]) (by simp) 2 _ rfl
    have bo0 := G5.bx (w1.heap.size + 1, [.int .i64 k, .int .i64 x, .int .i64 y]) (by simp) 0 _ rfl
    have bo1 := G5.bx (w1.heap.size + 1, [.int .i64 k, .int .i64 x, .int .i64 y]) (by simp) 1 _ rfl
    have bo2 := G5.bx (w1.heap.size + 1, [.int .i64 k, .int .i64 x, .int .i64 y]) (by simp) 2 _ rfl
    have bx0 := G5.bx (w2.heap.size, [u2.m D, u2.s D, u2.q D]) (by simp) 0 _ rfl
    have bx1 := G5.bx (w2.heap.size, [u2.m D, u2.s D, u2.q D]) (by simp) 1 _ rfl
    have bx2 := G5.bx (w2.heap.size, [u2.m D, u2.s D, u2.q D]) (by simp) 2 _ rfl
    have br0 := G5.bx (w2.heap.size + 1, [.int .i64 C, .int .i64 V]) (by simp) 0 _ rfl
    have br1 := G5.bx (w2.heap.size + 1, [.int .i64 C, .int .i64 V]) (by simp) 1 _ rfl
    have HG5 : Hid (G w w5 [(w3.heap.size + 1, [.int .i64 C, .int .i64 V]), (w3.heap.size, [u3.m D, u3.s D, u3.q D]), (w2.heap.size + 1, [.int .i64 C, .int .i64 V]), (w2.heap.size, [u2.m D, u2.s D, u2.q D]), (w1.heap.size + 1, [.int .i64 k, .int .i64 x, .int .i64 y]), (w1.heap.size, [v.m d, v.s d, v.q d])] [(u3, D), (u2, D), (v, d)]) := G5
    clear G5
    cases b4
    · obtain ⟨e1, e2, e3⟩ := HBAD.out rfl
      subst e1 e2 e3
      clear HD HBAD
      go_wp2_with fail
      refine (tgOk_any _).mono ?_
      rintro e w9 ⟨rfl, hb9⟩
      have HB9 : Hid (Below w.heap.size w w9) := below_trans' HG5.out.bel hb9
      clear hb9
      go_wp2
      go_ret
      exact ⟨rfl, HB9.out⟩
    have HOK : Hid (apOk k x y d.n d.zs d.s d.q = true) := by
      obtain ⟨q1, q2, q3, q4⟩ := HQ.out
      exact apOk_mk q1 q2 q3 q4
    obtain ⟨ha, hb, _, _⟩ := opB_parts HQ.out.2.2.2
    clear HBAD HQ
    rcases (show k = 1 ∨ k = 2 ∨ k = 3 ∨ k = 4 ∨ k = 5 ∨ k = 6 ∨ k = 7 ∨ k = 8 ∨ k = 9 ∨ k = 10 ∨ k = 11 ∨ k = 12 by omega) with rfl | rfl | rfl | rfl | rfl | rfl | rfl | rfl | rfl | rfl | rfl | rfl
    · have e1 : aD 1 x y d = d := by simp only [aD, aN, aZ, aS, aQ, HOK.out, if_true]; rfl
      have e2 : aCd 1 x y d = getC d.zs d.n x := by simp only [aCd, aC, HOK.out, if_true]; rfl
      have e3 : aVd 1 x y d = getV d.zs d.n x := by simp only [aVd, aV, HOK.out, if_true]; rfl
      obtain ⟨f1, f2, f3⟩ := HD.out
      rw [e1] at f1
      rw [e2] at f2
      rw [e3] at f3
      clear e1 e2 e3 HD
      obtain ⟨N', Z', S', Q'⟩ := D
      rw [LD.mk.injEq] at f1
      obtain ⟨g1, g2, g3, g4⟩ := f1
      subst g1 g2 g3 g4
      have nx : w2.heap.size + 1 < w5.heap.size := World.block_lt_of_cell? w5 ⟨w2.heap.size + 1, 0, none⟩ (HG5.out.bx (w2.heap.size + 1, [.int .i64 C, .int .i64 V]) (by simp) 0 _ rfl)
      have no : w1.heap.size + 1 < w5.heap.size := World.block_lt_of_cell? w5 ⟨w1.heap.size + 1, 0, none⟩ (HG5.out.bx (w1.heap.size + 1, [.int .i64 1, .int .i64 x, .int .i64 y]) (by simp) 0 _ rfl)
      have nx1 : w2.heap.size + 1 < w5.heap.size + 1 := by omega
      have no1 : w1.heap.size + 1 < w5.heap.size + 1 := by omega
      have ny : w2.heap.size < w5.heap.size := by omega
      have ny1 : w2.heap.size < w5.heap.size + 1 := by omega
      have ns : w1.heap.size < w5.heap.size := by omega
      have ns1 : w1.heap.size < w5.heap.size + 1 := by omega
      go_wp2_with fail
      refine (implMapGet_any _ _ _ d.zs x _ ((g_at HG5.out (v := v) (d := d) (by simp)).below (below_trans' (al1 w5 (.cells #[v.m d, v.s d, v.q d] 35)) (al1 _ (.cells #[.int .i64 2, .int .i64 0] 37)))).m (by have := HR.out.2.2.m; omega)).mono ?_
      rw [f2, f3]
      rintro e w6 ⟨rfl, hb6⟩
      have X6 := (b3_new w5 (v.m d) (v.s d) (v.q d) 35 rfl).below (below_trans' (al1 _ (.cells #[.int .i64 2, .int .i64 0] 37)) hb6)
      have Y6 := (b2_new (w5.alloc (.cells #[v.m d, v.s d, v.q d] 35)) (.int .i64 2) (.int .i64 0) 37 (b := w5.heap.size + 1) (by simp)).below hb6
      have m0 : w5.heap.size + 2 ≤ w6.heap.size := by have := hb6.size; simpa using this
      have b6 : Below w5.heap.size w5 w6 := below_trans' (below_trans' (al1 w5 (.cells #[v.m d, v.s d, v.q d] 35)) (al1 _ (.cells #[.int .i64 2, .int .i64 0] 37))) hb6
      have hb7 : Below w5.heap.size w5 ((w6.setCell ⟨w5.heap.size + 1, 0, none⟩ (.int .i64 C)).setCell ⟨w5.heap.size + 1, 1, none⟩ (.int .i64 V)) := (b6.setCell (p := ⟨w5.heap.size + 1, 0, none⟩) (by show w5.heap.size ≤ w5.heap.size + 1; omega) _).setCell (p := ⟨w5.heap.size + 1, 1, none⟩) (by show w5.heap.size ≤ w5.heap.size + 1; omega) _
      have X7 : B3 ((w6.setCell ⟨w5.heap.size + 1, 0, none⟩ (.int .i64 C)).setCell ⟨w5.heap.size + 1, 1, none⟩ (.int .i64 V)) w5.heap.size (v.m d) (v.s d) (v.q d) := (X6.far (by omega)).far (by omega)
      have Y7 : B2 ((w6.setCell ⟨w5.heap.size + 1, 0, none⟩ (.int .i64 C)).setCell ⟨w5.heap.size + 1, 1, none⟩ (.int .i64 V)) (w5.heap.size + 1) (.int .i64 C) (.int .i64 V) := Y6.set0.set1
      have S7 : SS ((w6.setCell ⟨w5.heap.size + 1, 0, none⟩ (.int .i64 C)).setCell ⟨w5.heap.size + 1, 1, none⟩ (.int .i64 V)) ⟨v.ma, v.mc, v.sa, v.sc, v.qa, v.qc⟩ ⟨d.n, d.zs, d.s, d.q⟩ := (g_at HG5.out (v := v) (d := d) (by simp)).below hb7
      have U7 : SS ((w6.setCell ⟨w5.heap.size + 1, 0, none⟩ (.int .i64 C)).setCell ⟨w5.heap.size + 1, 1, none⟩ (.int .i64 V)) u2 ⟨d.n, d.zs, d.s, d.q⟩ := (HG5.out.ss (u2, (⟨d.n, d.zs, d.s, d.q⟩ : LD)) (by simp)).below hb7
      have G7 := HG5.out.below hb7
      have HXY : Hid (_ ∧ _ ∧ _ ∧ _ ∧ _ ∧ _) := ⟨hb7, X7, Y7, S7, U7, G7⟩
      obtain ⟨t0, t1, t2⟩ := X6.cells
      obtain ⟨h0, h1, h2⟩ := X6.frees
      have y0 := Y6.c0
      have y1 := Y6.c1
      have z0 := Y6.f 0
      have z1 := Y6.f 1
      have G6 := HG5.out.below b6
      clear bs0 bs1 bs2 bo0 bo1 bo2 bx0 bx1 bx2 br0 br1
      have bx0 := G6.bx (w2.heap.size, [u2.m (⟨d.n, d.zs, d.s, d.q⟩ : LD), u2.s (⟨d.n, d.zs, d.s, d.q⟩ : LD), u2.q (⟨d.n, d.zs, d.s, d.q⟩ : LD)]) (by simp) 0 _ rfl
      have bx1 := G6.bx (w2.heap.size, [u2.m (⟨d.n, d.zs, d.s, d.q⟩ : LD), u2.s (⟨d.n, d.zs, d.s, d.q⟩ : LD), u2.q (⟨d.n, d.zs, d.s, d.q⟩ : LD)]) (by simp) 1 _ rfl
      have bx2 := G6.bx (w2.heap.size, [u2.m (⟨d.n, d.zs, d.s, d.q⟩ : LD), u2.s (⟨d.n, d.zs, d.s, d.q⟩ : LD), u2.q (⟨d.n, d.zs, d.s, d.q⟩ : LD)]) (by simp) 2 _ rfl
      have q1 : w2.heap.size ≠ w5.heap.size := by omega
      have q2 : w2.heap.size ≠ w5.heap.size + 1 := by omega
      have q3 : w5.heap.size ≠ w2.heap.size := by omega
      have q4 : w5.heap.size + 1 ≠ w2.heap.size := by omega
      clear hb7 X7 Y7 S7 U7 G7 X6 Y6 G6 b6 hb6
      go_wp2_with fail
      refine (tgState_yes u2 ⟨v.ma, v.mc, v.sa, v.sc, v.qa, v.qc⟩ ⟨d.n, d.zs, d.s, d.q⟩ _ HXY.out.2.2.2.2.1 HXY.out.2.2.2.1 HFD.out).mono ?_
      rintro e w8 ⟨rfl, hb8⟩
      have G8 := HXY.out.2.2.2.2.2.below hb8
      have Y8 := HXY.out.2.2.1.below hb8
      have c0 := Y8.c0
      have c1 := Y8.c1
      have kr0 := G8.bx (w2.heap.size + 1, [.int .i64 C, .int .i64 V]) (by simp) 0 _ rfl
      have kr1 := G8.bx (w2.heap.size + 1, [.int .i64 C, .int .i64 V]) (by simp) 1 _ rfl
      have HB8 : Hid (Below w.heap.size w w8) := G8.bel
      clear HXY G8 Y8 hb8 t0 t1 t2 h0 h1 h2 y0 y1 z0 z1 q1 q2 q3 q4 bx0 bx1 bx2
      go_wp2
      go_ret
      exact ⟨rfl, HB8.out⟩
    · have e1 : aD 2 x y d = ⟨ptN d.zs d.n x y, ptL d.zs d.n x y, d.s, d.q⟩ := by simp only [aD, aN, aZ, aS, aQ, HOK.out, if_true]; rfl
      have e2 : aCd 2 x y d = ptC d.zs d.n x y := by simp only [aCd, aC, HOK.out, if_true]; rfl
      have e3 : aVd 2 x y d = 0 := by simp only [aVd, aV, HOK.out, if_true]; rfl
      obtain ⟨f1, f2, f3⟩ := HD.out
      rw [e1] at f1
      rw [e2] at f2
      rw [e3] at f3
      clear e1 e2 e3 HD
      obtain ⟨N', Z', S', Q'⟩ := D
      rw [LD.mk.injEq] at f1
      obtain ⟨g1, g2, g3, g4⟩ := f1
      subst g3 g4
      subst f3
      have nx : w2.heap.size + 1 < w5.heap.size := World.block_lt_of_cell? w5 ⟨w2.heap.size + 1, 0, none⟩ (HG5.out.bx (w2.heap.size + 1, [.int .i64 C, .int .i64 0]) (by simp) 0 _ rfl)
      have no : w1.heap.size + 1 < w5.heap.size := World.block_lt_of_cell? w5 ⟨w1.heap.size + 1, 0, none⟩ (HG5.out.bx (w1.heap.size + 1, [.int .i64 2, .int .i64 x, .int .i64 y]) (by simp) 0 _ rfl)
      have nx1 : w2.heap.size + 1 < w5.heap.size + 1 := by omega
      have no1 : w1.heap.size + 1 < w5.heap.size + 1 := by omega
      have ny : w2.heap.size < w5.heap.size := by omega
      have ny1 : w2.heap.size < w5.heap.size + 1 := by omega
      have ns : w1.heap.size < w5.heap.size := by omega
      have ns1 : w1.heap.size < w5.heap.size + 1 := by omega
      go_wp2_with fail
      refine (implMapPut_cap _ _ _ d.zs x y _ ((g_at HG5.out (v := v) (d := d) (by simp)).below (below_trans' (al1 w5 (.cells #[v.m d, v.s d, v.q d] 35)) (al1 _ (.cells #[.int .i64 2, .int .i64 0] 37)))).m (by have := HR.out.2.2.m; omega) HR.out.1.m.1 HR.out.1.m.2).mono ?_
      rw [g1, g2, f2]
      rintro e w6 ⟨a', c', rfl, ow, hb6⟩
      have X6 := (b3_new w5 (v.m d) (v.s d) (v.q d) 35 rfl).below (below_trans' (al1 _ (.cells #[.int .i64 2, .int .i64 0] 37)) hb6)
      have Y6 := (b2_new (w5.alloc (.cells #[v.m d, v.s d, v.q d] 35)) (.int .i64 2) (.int .i64 0) 37 (b := w5.heap.size + 1) (by simp)).below hb6
      have m0 : w5.heap.size + 2 ≤ w6.heap.size := by have := hb6.size; simpa using this
      have b6 : Below w5.heap.size w5 w6 := below_trans' (below_trans' (al1 w5 (.cells #[v.m d, v.s d, v.q d] 35)) (al1 _ (.cells #[.int .i64 2, .int .i64 0] 37))) hb6
      have hb7 : Below w5.heap.size w5 (((w6.setCell ⟨w5.heap.size, 0, none⟩ (.slice a' N' c')).setCell ⟨w5.heap.size + 1, 0, none⟩ (.int .i64 C)).setCell ⟨w5.heap.size + 1, 1, none⟩ (.int .i64 0)) := ((b6.setCell (p := ⟨w5.heap.size, 0, none⟩) (Nat.le_refl _) _).setCell (p := ⟨w5.heap.size + 1, 0, none⟩) (by show w5.heap.size ≤ w5.heap.size + 1; omega) _).setCell (p := ⟨w5.heap.size + 1, 1, none⟩) (by show w5.heap.size ≤ w5.heap.size + 1; omega) _
      have X7 : B3 (((w6.setCell ⟨w5.heap.size, 0, none⟩ (.slice a' N' c')).setCell ⟨w5.heap.size + 1, 0, none⟩ (.int .i64 C)).setCell ⟨w5.heap.size + 1, 1, none⟩ (.int .i64 0)) w5.heap.size (.slice a' N' c') (v.s d) (v.q d) := ((X6.set0).far (by omega)).far (by omega)
      have Y7 : B2 (((w6.setCell ⟨w5.heap.size, 0, none⟩ (.slice a' N' c')).setCell ⟨w5.heap.size + 1, 0, none⟩ (.int .i64 C)).setCell ⟨w5.heap.size + 1, 1, none⟩ (.int .i64 0)) (w5.heap.size + 1) (.int .i64 C) (.int .i64 0) := ((Y6.far (by omega)).set0).set1
      have ow' : w6.ownsRow (w5.heap.size + 2) 84 2 (.slice a' N' c') N' (Z'.map (Value.int .i64)) := own_mono ow (by simp)
      have O7 : (((w6.setCell ⟨w5.heap.size, 0, none⟩ (.slice a' N' c')).setCell ⟨w5.heap.size + 1, 0, none⟩ (.int .i64 C)).setCell ⟨w5.heap.size + 1, 1, none⟩ (.int .i64 0)).ownsRow (w5.heap.size + 2) 84 2 (.slice a' N' c') N' (Z'.map (Value.int .i64)) := own_far (own_far (own_far ow' (by omega) _) (by omega) _) (by omega) _
      have S0 := (g_at HG5.out (v := v) (d := d) (by simp)).below hb7
      have S7 : SS (((w6.setCell ⟨w5.heap.size, 0, none⟩ (.slice a' N' c')).setCell ⟨w5.heap.size + 1, 0, none⟩ (.int .i64 C)).setCell ⟨w5.heap.size + 1, 1, none⟩ (.int .i64 0)) ⟨a', c', v.sa, v.sc, v.qa, v.qc⟩ ⟨N', Z', d.s, d.q⟩ := ⟨own2_sints O7, S0.s, S0.q⟩
      have U7 : SS (((w6.setCell ⟨w5.heap.size, 0, none⟩ (.slice a' N' c')).setCell ⟨w5.heap.size + 1, 0, none⟩ (.int .i64 C)).setCell ⟨w5.heap.size + 1, 1, none⟩ (.int .i64 0)) u2 ⟨N', Z', d.s, d.q⟩ := (HG5.out.ss (u2, (⟨N', Z', d.s, d.q⟩ : LD)) (by simp)).below hb7
      have G7 := HG5.out.below hb7
      have HXY : Hid (_ ∧ _ ∧ _ ∧ _ ∧ _ ∧ _) := ⟨hb7, X7, Y7, S7, U7, G7⟩
      obtain ⟨t0, t1, t2⟩ := X6.cells
      obtain ⟨h0, h1, h2⟩ := X6.frees
      have y0 := Y6.c0
      have y1 := Y6.c1
      have z0 := Y6.f 0
      have z1 := Y6.f 1
      have G6 := HG5.out.below b6
      clear bs0 bs1 bs2 bo0 bo1 bo2 bx0 bx1 bx2 br0 br1
      have bx0 := G6.bx (w2.heap.size, [u2.m (⟨N', Z', d.s, d.q⟩ : LD), u2.s (⟨N', Z', d.s, d.q⟩ : LD), u2.q (⟨N', Z', d.s, d.q⟩ : LD)]) (by simp) 0 _ rfl
      have bx1 := G6.bx (w2.heap.size, [u2.m (⟨N', Z', d.s, d.q⟩ : LD), u2.s (⟨N', Z', d.s, d.q⟩ : LD), u2.q (⟨N', Z', d.s, d.q⟩ : LD)]) (by simp) 1 _ rfl
      have bx2 := G6.bx (w2.heap.size, [u2.m (⟨N', Z', d.s, d.q⟩ : LD), u2.s (⟨N', Z', d.s, d.q⟩ : LD), u2.q (⟨N', Z', d.s, d.q⟩ : LD)]) (by simp) 2 _ rfl
      have q1 : w2.heap.size ≠ w5.heap.size := by omega
      have q2 : w2.heap.size ≠ w5.heap.size + 1 := by omega
      have q3 : w5.heap.size ≠ w2.heap.size := by omega
      have q4 : w5.heap.size + 1 ≠ w2.heap.size := by omega
      clear hb7 X7 Y7 S7 U7 G7 X6 Y6 G6 b6 hb6 ow ow' O7 S0
      go_wp2_with fail
      refine (tgState_yes u2 ⟨a', c', v.sa, v.sc, v.qa, v.qc⟩ ⟨N', Z', d.s, d.q⟩ _ HXY.out.2.2.2.2.1 HXY.out.2.2.2.1 HFD.out).mono ?_
      rintro e w8 ⟨rfl, hb8⟩
      have G8 := HXY.out.2.2.2.2.2.below hb8
      have Y8 := HXY.out.2.2.1.below hb8
      have c0 := Y8.c0
      have c1 := Y8.c1
      have kr0 := G8.bx (w2.heap.size + 1, [.int .i64 C, .int .i64 0]) (by simp) 0 _ rfl
      have kr1 := G8.bx (w2.heap.size + 1, [.int .i64 C, .int .i64 0]) (by simp) 1 _ rfl
      have HB8 : Hid (Below w.heap.size w w8) := G8.bel
      clear HXY G8 Y8 hb8 t0 t1 t2 h0 h1 h2 y0 y1 z0 z1 q1 q2 q3 q4 bx0 bx1 bx2
      go_wp2
      go_ret
      exact ⟨rfl, HB8.out⟩
    · have e1 : aD 3 x y d = ⟨delN d.zs d.n x, delL d.zs d.n x, d.s, d.q⟩ := by simp only [aD, aN, aZ, aS, aQ, HOK.out, if_true]; rfl
      have e2 : aCd 3 x y d = delC d.zs d.n x := by simp only [aCd, aC, HOK.out, if_true]; rfl
      have e3 : aVd 3 x y d = delV d.zs d.n x := by simp only [aVd, aV, HOK.out, if_true]; rfl
      obtain ⟨f1, f2, f3⟩ := HD.out
      rw [e1] at f1
      rw [e2] at f2
      rw [e3] at f3
      clear e1 e2 e3 HD
      obtain ⟨N', Z', S', Q'⟩ := D
      rw [LD.mk.injEq] at f1
      obtain ⟨g1, g2, g3, g4⟩ := f1
      subst g3 g4
      have nx : w2.heap.size + 1 < w5.heap.size := World.block_lt_of_cell? w5 ⟨w2.heap.size + 1, 0, none⟩ (HG5.out.bx (w2.heap.size + 1, [.int .i64 C, .int .i64 V]) (by simp) 0 _ rfl)
      have no : w1.heap.size + 1 < w5.heap.size := World.block_lt_of_cell? w5 ⟨w1.heap.size + 1, 0, none⟩ (HG5.out.bx (w1.heap.size + 1, [.int .i64 3, .int .i64 x, .int .i64 y]) (by simp) 0 _ rfl)
      have nx1 : w2.heap.size + 1 < w5.heap.size + 1 := by omega
      have no1 : w1.heap.size + 1 < w5.heap.size + 1 := by omega
      have ny : w2.heap.size < w5.heap.size := by omega
      have ny1 : w2.heap.size < w5.heap.size + 1 := by omega
      have ns : w1.heap.size < w5.heap.size := by omega
      have ns1 : w1.heap.size < w5.heap.size + 1 := by omega
      go_wp2_with fail
      refine (implMapDel_cap _ _ _ d.zs x _ ((g_at HG5.out (v := v) (d := d) (by simp)).below (below_trans' (al1 w5 (.cells #[v.m d, v.s d, v.q d] 35)) (al1 _ (.cells #[.int .i64 2, .int .i64 0] 37)))).m (by have := HR.out.2.2.m; omega) HR.out.1.m.1 HR.out.1.m.2).mono ?_
      rw [g1, g2, f2, f3]
      rintro e w6 ⟨a', c', rfl, ow, hb6⟩
      have X6 := (b3_new w5 (v.m d) (v.s d) (v.q d) 35 rfl).below (below_trans' (al1 _ (.cells #[.int .i64 2, .int .i64 0] 37)) hb6)
      have Y6 := (b2_new (w5.alloc (.cells #[v.m d, v.s d, v.q d] 35)) (.int .i64 2) (.int .i64 0) 37 (b := w5.heap.size + 1) (by simp)).below hb6
      have m0 : w5.heap.size + 2 ≤ w6.heap.size := by have := hb6.size; simpa using this
      have b6 : Below w5.heap.size w5 w6 := below_trans' (below_trans' (al1 w5 (.cells #[v.m d, v.s d, v.q d] 35)) (al1 _ (.cells #[.int .i64 2, .int .i64 0] 37))) hb6
      have hb7 : Below w5.heap.size w5 (((w6.setCell ⟨w5.heap.size, 0, none⟩ (.slice a' N' c')).setCell ⟨w5.heap.size + 1, 0, none⟩ (.int .i64 C)).setCell ⟨w5.heap.size + 1, 1, none⟩ (.int .i64 V)) := ((b6.setCell (p := ⟨w5.heap.size, 0, none⟩) (Nat.le_refl _) _).setCell (p := ⟨w5.heap.size + 1, 0, none⟩) (by show w5.heap.size ≤ w5.heap.size + 1; omega) _).setCell (p := ⟨w5.heap.size + 1, 1, none⟩) (by show w5.heap.size ≤ w5.heap.size + 1; omega) _
      have X7 : B3 (((w6.setCell ⟨w5.heap.size, 0, none⟩ (.slice a' N' c')).setCell ⟨w5.heap.size + 1, 0, none⟩ (.int .i64 C)).setCell ⟨w5.heap.size + 1, 1, none⟩ (.int .i64 V)) w5.heap.size (.slice a' N' c') (v.s d) (v.q d) := ((X6.set0).far (by omega)).far (by omega)
      have Y7 : B2 (((w6.setCell ⟨w5.heap.size, 0, none⟩ (.slice a' N' c')).setCell ⟨w5.heap.size + 1, 0, none⟩ (.int .i64 C)).setCell ⟨w5.heap.size + 1, 1, none⟩ (.int .i64 V)) (w5.heap.size + 1) (.int .i64 C) (.int .i64 V) := ((Y6.far (by omega)).set0).set1
      have ow' : w6.ownsRow (w5.heap.size + 2) 84 2 (.slice a' N' c') N' (Z'.map (Value.int .i64)) := own_mono ow (by simp)
      have O7 : (((w6.setCell ⟨w5.heap.size, 0, none⟩ (.slice a' N' c')).setCell ⟨w5.heap.size + 1, 0, none⟩ (.int .i64 C)).setCell ⟨w5.heap.size + 1, 1, none⟩ (.int .i64 V)).ownsRow (w5.heap.size + 2) 84 2 (.slice a' N' c') N' (Z'.map (Value.int .i64)) := own_far (own_far (own_far ow' (by omega) _) (by omega) _) (by omega) _
      have S0 := (g_at HG5.out (v := v) (d := d) (by simp)).below hb7
      have S7 : SS (((w6.setCell ⟨w5.heap.size, 0, none⟩ (.slice a' N' c')).setCell ⟨w5.heap.size + 1, 0, none⟩ (.int .i64 C)).setCell ⟨w5.heap.size + 1, 1, none⟩ (.int .i64 V)) ⟨a', c', v.sa, v.sc, v.qa, v.qc⟩ ⟨N', Z', d.s, d.q⟩ := ⟨own2_sints O7, S0.s, S0.q⟩
      have U7 : SS (((w6.setCell ⟨w5.heap.size, 0, none⟩ (.slice a' N' c')).setCell ⟨w5.heap.size + 1, 0, none⟩ (.int .i64 C)).setCell ⟨w5.heap.size + 1, 1, none⟩ (.int .i64 V)) u2 ⟨N', Z', d.s, d.q⟩ := (HG5.out.ss (u2, (⟨N', Z', d.s, d.q⟩ : LD)) (by simp)).below hb7
      have G7 := HG5.out.below hb7
      have HXY : Hid (_ ∧ _ ∧ _ ∧ _ ∧ _ ∧ _) := ⟨hb7, X7, Y7, S7, U7, G7⟩
      obtain ⟨t0, t1, t2⟩ := X6.cells
      obtain ⟨h0, h1, h2⟩ := X6.frees
      have y0 := Y6.c0
      have y1 := Y6.c1
      have z0 := Y6.f 0
      have z1 := Y6.f 1
      have G6 := HG5.out.below b6
      clear bs0 bs1 bs2 bo0 bo1 bo2 bx0 bx1 bx2 br0 br1
      have bx0 := G6.bx (w2.heap.size, [u2.m (⟨N', Z', d.s, d.q⟩ : LD), u2.s (⟨N', Z', d.s, d.q⟩ : LD), u2.q (⟨N', Z', d.s, d.q⟩ : LD)]) (by simp) 0 _ rfl
      have bx1 := G6.bx (w2.heap.size, [u2.m (⟨N', Z', d.s, d.q⟩ : LD), u2.s (⟨N', Z', d.s, d.q⟩ : LD), u2.q (⟨N', Z', d.s, d.q⟩ : LD)]) (by simp) 1 _ rfl
      have bx2 := G6.bx (w2.heap.size, [u2.m (⟨N', Z', d.s, d.q⟩ : LD), u2.s (⟨N', Z', d.s, d.q⟩ : LD), u2.q (⟨N', Z', d.s, d.q⟩ : LD)]) (by simp) 2 _ rfl
      have q1 : w2.heap.size ≠ w5.heap.size := by omega
      have q2 : w2.heap.size ≠ w5.heap.size + 1 := by omega
      have q3 : w5.heap.size ≠ w2.heap.size := by omega
      have q4 : w5.heap.size + 1 ≠ w2.heap.size := by omega
      clear hb7 X7 Y7 S7 U7 G7 X6 Y6 G6 b6 hb6 ow ow' O7 S0
      go_wp2_with fail
      refine (tgState_yes u2 ⟨a', c', v.sa, v.sc, v.qa, v.qc⟩ ⟨N', Z', d.s, d.q⟩ _ HXY.out.2.2.2.2.1 HXY.out.2.2.2.1 HFD.out).mono ?_
      rintro e w8 ⟨rfl, hb8⟩
      have G8 := HXY.out.2.2.2.2.2.below hb8
      have Y8 := HXY.out.2.2.1.below hb8
      have c0 := Y8.c0
      have c1 := Y8.c1
      have kr0 := G8.bx (w2.heap.size + 1, [.int .i64 C, .int .i64 V]) (by simp) 0 _ rfl
      have kr1 := G8.bx (w2.heap.size + 1, [.int .i64 C, .int .i64 V]) (by simp) 1 _ rfl
      have HB8 : Hid (Below w.heap.size w w8) := G8.bel
      clear HXY G8 Y8 hb8 t0 t1 t2 h0 h1 h2 y0 y1 z0 z1 q1 q2 q3 q4 bx0 bx1 bx2
      go_wp2
      go_ret
      exact ⟨rfl, HB8.out⟩
    · have e1 : aD 4 x y d = d := by simp only [aD, aN, aZ, aS, aQ, HOK.out, if_true]; rfl
      have e2 : aCd 4 x y d = 2 := by simp only [aCd, aC, HOK.out, if_true]; rfl
      have e3 : aVd 4 x y d = 0 := by simp only [aVd, aV, HOK.out, if_true]; rfl
      obtain ⟨f1, f2, f3⟩ := HD.out
      rw [e1] at f1
      rw [e2] at f2
      rw [e3] at f3
      clear e1 e2 e3 HD
      obtain ⟨N', Z', S', Q'⟩ := D
      rw [LD.mk.injEq] at f1
      obtain ⟨g1, g2, g3, g4⟩ := f1
      subst g1 g2 g3 g4
      subst f2
      subst f3
      have nx : w2.heap.size + 1 < w5.heap.size := World.block_lt_of_cell? w5 ⟨w2.heap.size + 1, 0, none⟩ (HG5.out.bx (w2.heap.size + 1, [.int .i64 2, .int .i64 0]) (by simp) 0 _ rfl)
      have no : w1.heap.size + 1 < w5.heap.size := World.block_lt_of_cell? w5 ⟨w1.heap.size + 1, 0, none⟩ (HG5.out.bx (w1.heap.size + 1, [.int .i64 4, .int .i64 x, .int .i64 y]) (by simp) 0 _ rfl)
      have nx1 : w2.heap.size + 1 < w5.heap.size + 1 := by omega
      have no1 : w1.heap.size + 1 < w5.heap.size + 1 := by omega
      have ny : w2.heap.size < w5.heap.size := by omega
      have ny1 : w2.heap.size < w5.heap.size + 1 := by omega
      have ns : w1.heap.size < w5.heap.size := by omega
      have ns1 : w1.heap.size < w5.heap.size + 1 := by omega
      have hb7 : Below w5.heap.size w5 ((w5.alloc (.cells #[v.m d, v.s d, v.q d] 35)).alloc (.cells #[.int .i64 2, .int .i64 0] 37)) := below_trans' (al1 w5 (.cells #[v.m d, v.s d, v.q d] 35)) (al1 _ (.cells #[.int .i64 2, .int .i64 0] 37))
      have X7 : B3 ((w5.alloc (.cells #[v.m d, v.s d, v.q d] 35)).alloc (.cells #[.int .i64 2, .int .i64 0] 37)) w5.heap.size (v.m d) (v.s d) (v.q d) := (b3_new w5 (v.m d) (v.s d) (v.q d) 35 rfl).below (al1 _ (.cells #[.int .i64 2, .int .i64 0] 37))
      have Y7 : B2 ((w5.alloc (.cells #[v.m d, v.s d, v.q d] 35)).alloc (.cells #[.int .i64 2, .int .i64 0] 37)) (w5.heap.size + 1) (.int .i64 2) (.int .i64 0) := b2_new (w5.alloc (.cells #[v.m d, v.s d, v.q d] 35)) (.int .i64 2) (.int .i64 0) 37 (b := w5.heap.size + 1) (by simp)
      have S7 : SS ((w5.alloc (.cells #[v.m d, v.s d, v.q d] 35)).alloc (.cells #[.int .i64 2, .int .i64 0] 37)) ⟨v.ma, v.mc, v.sa, v.sc, v.qa, v.qc⟩ ⟨d.n, d.zs, d.s, d.q⟩ := (g_at HG5.out (v := v) (d := d) (by simp)).below hb7
      have U7 : SS ((w5.alloc (.cells #[v.m d, v.s d, v.q d] 35)).alloc (.cells #[.int .i64 2, .int .i64 0] 37)) u2 ⟨d.n, d.zs, d.s, d.q⟩ := (HG5.out.ss (u2, (⟨d.n, d.zs, d.s, d.q⟩ : LD)) (by simp)).below hb7
      have G7 := HG5.out.below hb7
      have HXY : Hid (_ ∧ _ ∧ _ ∧ _ ∧ _ ∧ _) := ⟨hb7, X7, Y7, S7, U7, G7⟩
      clear hb7 X7 Y7 S7 U7 G7
      go_wp2_with fail
      refine (tgState_yes u2 ⟨v.ma, v.mc, v.sa, v.sc, v.qa, v.qc⟩ ⟨d.n, d.zs, d.s, d.q⟩ _ HXY.out.2.2.2.2.1 HXY.out.2.2.2.1 HFD.out).mono ?_
      rintro e w8 ⟨rfl, hb8⟩
      have G8 := HXY.out.2.2.2.2.2.below hb8
      have Y8 := HXY.out.2.2.1.below hb8
      have c0 := Y8.c0
      have c1 := Y8.c1
      have kr0 := G8.bx (w2.heap.size + 1, [.int .i64 2, .int .i64 0]) (by simp) 0 _ rfl
      have kr1 := G8.bx (w2.heap.size + 1, [.int .i64 2, .int .i64 0]) (by simp) 1 _ rfl
      have HB8 : Hid (Below w.heap.size w w8) := G8.bel
      clear HXY G8 Y8 hb8 bs0 bs1 bs2 bo0 bo1 bo2 bx0 bx1 bx2 br0 br1
      go_wp2
      go_ret
      exact ⟨rfl, HB8.out⟩
    · have e1 : aD 5 x y d = ⟨d.n, d.zs, putL d.s 0 y, d.q⟩ := by simp only [aD, aN, aZ, aS, aQ, HOK.out, if_true]; rfl
      have e2 : aCd 5 x y d = putC d.s y := by simp only [aCd, aC, HOK.out, if_true]; rfl
      have e3 : aVd 5 x y d = 0 := by simp only [aVd, aV, HOK.out, if_true]; rfl
      obtain ⟨f1, f2, f3⟩ := HD.out
      rw [e1] at f1
      rw [e2] at f2
      rw [e3] at f3
      clear e1 e2 e3 HD
      obtain ⟨N', Z', S', Q'⟩ := D
      rw [LD.mk.injEq] at f1
      obtain ⟨g1, g2, g3, g4⟩ := f1
      subst g1 g2 g4
      subst f3
      have nx : w2.heap.size + 1 < w5.heap.size := World.block_lt_of_cell? w5 ⟨w2.heap.size + 1, 0, none⟩ (HG5.out.bx (w2.heap.size + 1, [.int .i64 C, .int .i64 0]) (by simp) 0 _ rfl)
      have no : w1.heap.size + 1 < w5.heap.size := World.block_lt_of_cell? w5 ⟨w1.heap.size + 1, 0, none⟩ (HG5.out.bx (w1.heap.size + 1, [.int .i64 5, .int .i64 x, .int .i64 y]) (by simp) 0 _ rfl)
      have nx1 : w2.heap.size + 1 < w5.heap.size + 1 := by omega
      have no1 : w1.heap.size + 1 < w5.heap.size + 1 := by omega
      have ny : w2.heap.size < w5.heap.size := by omega
      have ny1 : w2.heap.size < w5.heap.size + 1 := by omega
      have ns : w1.heap.size < w5.heap.size := by omega
      have ns1 : w1.heap.size < w5.heap.size + 1 := by omega
      go_wp2_with fail
      refine (implStkPush_any _ _ _ d.s y _ ((g_at HG5.out (v := v) (d := d) (by simp)).below (below_trans' (al1 w5 (.cells #[v.m d, v.s d, v.q d] 35)) (al1 _ (.cells #[.int .i64 2, .int .i64 0] 37)))).s HR.out.1.s.1 ⟨HR.out.1.s.2, by have := HR.out.2.2.s; omega⟩).mono ?_
      rw [g3, f2]
      rintro e w6 ⟨M, a', c', rfl, ow, hb6⟩
      obtain rfl : M = S'.length := by have := ow.1; simpa using this.symm
      have X6 := (b3_new w5 (v.m d) (v.s d) (v.q d) 35 rfl).below (below_trans' (al1 _ (.cells #[.int .i64 2, .int .i64 0] 37)) hb6)
      have Y6 := (b2_new (w5.alloc (.cells #[v.m d, v.s d, v.q d] 35)) (.int .i64 2) (.int .i64 0) 37 (b := w5.heap.size + 1) (by simp)).below hb6
      have m0 : w5.heap.size + 2 ≤ w6.heap.size := by have := hb6.size; simpa using this
      have b6 : Below w5.heap.size w5 w6 := below_trans' (below_trans' (al1 w5 (.cells #[v.m d, v.s d, v.q d] 35)) (al1 _ (.cells #[.int .i64 2, .int .i64 0] 37))) hb6
      have hb7 : Below w5.heap.size w5 (((w6.setCell ⟨w5.heap.size, 1, none⟩ (.slice a' S'.length c')).setCell ⟨w5.heap.size + 1, 0, none⟩ (.int .i64 C)).setCell ⟨w5.heap.size + 1, 1, none⟩ (.int .i64 0)) := ((b6.setCell (p := ⟨w5.heap.size, 1, none⟩) (Nat.le_refl _) _).setCell (p := ⟨w5.heap.size + 1, 0, none⟩) (by show w5.heap.size ≤ w5.heap.size + 1; omega) _).setCell (p := ⟨w5.heap.size + 1, 1, none⟩) (by show w5.heap.size ≤ w5.heap.size + 1; omega) _
      have X7 : B3 (((w6.setCell ⟨w5.heap.size, 1, none⟩ (.slice a' S'.length c')).setCell ⟨w5.heap.size + 1, 0, none⟩ (.int .i64 C)).setCell ⟨w5.heap.size + 1, 1, none⟩ (.int .i64 0)) w5.heap.size (v.m d) (.slice a' S'.length c') (v.q d) := ((X6.set1).far (by omega)).far (by omega)
      have Y7 : B2 (((w6.setCell ⟨w5.heap.size, 1, none⟩ (.slice a' S'.length c')).setCell ⟨w5.heap.size + 1, 0, none⟩ (.int .i64 C)).setCell ⟨w5.heap.size + 1, 1, none⟩ (.int .i64 0)) (w5.heap.size + 1) (.int .i64 C) (.int .i64 0) := ((Y6.far (by omega)).set0).set1
      have ow' : w6.ownsRow (w5.heap.size + 2) 3 1 (.slice a' S'.length c') S'.length (S'.map (Value.int .i64)) := own_mono ow (by simp)
      have O7 : (((w6.setCell ⟨w5.heap.size, 1, none⟩ (.slice a' S'.length c')).setCell ⟨w5.heap.size + 1, 0, none⟩ (.int .i64 C)).setCell ⟨w5.heap.size + 1, 1, none⟩ (.int .i64 0)).ownsRow (w5.heap.size + 2) 3 1 (.slice a' S'.length c') S'.length (S'.map (Value.int .i64)) := own_far (own_far (own_far ow' (by omega) _) (by omega) _) (by omega) _
      have S0 := (g_at HG5.out (v := v) (d := d) (by simp)).below hb7
      have S7 : SS (((w6.setCell ⟨w5.heap.size, 1, none⟩ (.slice a' S'.length c')).setCell ⟨w5.heap.size + 1, 0, none⟩ (.int .i64 C)).setCell ⟨w5.heap.size + 1, 1, none⟩ (.int .i64 0)) ⟨v.ma, v.mc, a', c', v.qa, v.qc⟩ ⟨d.n, d.zs, S', d.q⟩ := ⟨S0.m, own_sints O7, S0.q⟩
      have U7 : SS (((w6.setCell ⟨w5.heap.size, 1, none⟩ (.slice a' S'.length c')).setCell ⟨w5.heap.size + 1, 0, none⟩ (.int .i64 C)).setCell ⟨w5.heap.size + 1, 1, none⟩ (.int .i64 0)) u2 ⟨d.n, d.zs, S', d.q⟩ := (HG5.out.ss (u2, (⟨d.n, d.zs, S', d.q⟩ : LD)) (by simp)).below hb7
      have G7 := HG5.out.below hb7
      have HXY : Hid (_ ∧ _ ∧ _ ∧ _ ∧ _ ∧ _) := ⟨hb7, X7, Y7, S7, U7, G7⟩
      obtain ⟨t0, t1, t2⟩ := X6.cells
      obtain ⟨h0, h1, h2⟩ := X6.frees
      have y0 := Y6.c0
      have y1 := Y6.c1
      have z0 := Y6.f 0
      have z1 := Y6.f 1
      have G6 := HG5.out.below b6
      clear bs0 bs1 bs2 bo0 bo1 bo2 bx0 bx1 bx2 br0 br1
      have bx0 := G6.bx (w2.heap.size, [u2.m (⟨d.n, d.zs, S', d.q⟩ : LD), u2.s (⟨d.n, d.zs, S', d.q⟩ : LD), u2.q (⟨d.n, d.zs, S', d.q⟩ : LD)]) (by simp) 0 _ rfl
      have bx1 := G6.bx (w2.heap.size, [u2.m (⟨d.n, d.zs, S', d.q⟩ : LD), u2.s (⟨d.n, d.zs, S', d.q⟩ : LD), u2.q (⟨d.n, d.zs, S', d.q⟩ : LD)]) (by simp) 1 _ rfl
      have bx2 := G6.bx (w2.heap.size, [u2.m (⟨d.n, d.zs, S', d.q⟩ : LD), u2.s (⟨d.n, d.zs, S', d.q⟩ : LD), u2.q (⟨d.n, d.zs, S', d.q⟩ : LD)]) (by simp) 2 _ rfl
      have q1 : w2.heap.size ≠ w5.heap.size := by omega
      have q2 : w2.heap.size ≠ w5.heap.size + 1 := by omega
      have q3 : w5.heap.size ≠ w2.heap.size := by omega
      have q4 : w5.heap.size + 1 ≠ w2.heap.size := by omega
      clear hb7 X7 Y7 S7 U7 G7 X6 Y6 G6 b6 hb6 ow ow' O7 S0
      go_wp2_with fail
      refine (tgState_yes u2 ⟨v.ma, v.mc, a', c', v.qa, v.qc⟩ ⟨d.n, d.zs, S', d.q⟩ _ HXY.out.2.2.2.2.1 HXY.out.2.2.2.1 HFD.out).mono ?_
      rintro e w8 ⟨rfl, hb8⟩
      have G8 := HXY.out.2.2.2.2.2.below hb8
      have Y8 := HXY.out.2.2.1.below hb8
      have c0 := Y8.c0
      have c1 := Y8.c1
      have kr0 := G8.bx (w2.heap.size + 1, [.int .i64 C, .int .i64 0]) (by simp) 0 _ rfl
      have kr1 := G8.bx (w2.heap.size + 1, [.int .i64 C, .int .i64 0]) (by simp) 1 _ rfl
      have HB8 : Hid (Below w.heap.size w w8) := G8.bel
      clear HXY G8 Y8 hb8 t0 t1 t2 h0 h1 h2 y0 y1 z0 z1 q1 q2 q3 q4 bx0 bx1 bx2
      go_wp2
      go_ret
      exact ⟨rfl, HB8.out⟩
    · have e1 : aD 6 x y d = ⟨d.n, d.zs, takeL d.s, d.q⟩ := by simp only [aD, aN, aZ, aS, aQ, HOK.out, if_true]; rfl
      have e2 : aCd 6 x y d = takeC d.s := by simp only [aCd, aC, HOK.out, if_true]; rfl
      have e3 : aVd 6 x y d = takeV d.s := by simp only [aVd, aV, HOK.out, if_true]; rfl
      obtain ⟨f1, f2, f3⟩ := HD.out
      rw [e1] at f1
      rw [e2] at f2
      rw [e3] at f3
      clear e1 e2 e3 HD
      obtain ⟨N', Z', S', Q'⟩ := D
      rw [LD.mk.injEq] at f1
      obtain ⟨g1, g2, g3, g4⟩ := f1
      subst g1 g2 g4
      have nx : w2.heap.size + 1 < w5.heap.size := World.block_lt_of_cell? w5 ⟨w2.heap.size + 1, 0, none⟩ (HG5.out.bx (w2.heap.size + 1, [.int .i64 C, .int .i64 V]) (by simp) 0 _ rfl)
      have no : w1.heap.size + 1 < w5.heap.size := World.block_lt_of_cell? w5 ⟨w1.heap.size + 1, 0, none⟩ (HG5.out.bx (w1.heap.size + 1, [.int .i64 6, .int .i64 x, .int .i64 y]) (by simp) 0 _ rfl)
      have nx1 : w2.heap.size + 1 < w5.heap.size + 1 := by omega
      have no1 : w1.heap.size + 1 < w5.heap.size + 1 := by omega
      have ny : w2.heap.size < w5.heap.size := by omega
      have ny1 : w2.heap.size < w5.heap.size + 1 := by omega
      have ns : w1.heap.size < w5.heap.size := by omega
      have ns1 : w1.heap.size < w5.heap.size + 1 := by omega
      go_wp2_with fail
      refine (implListTake_capL _ _ _ d.s _ ((g_at HG5.out (v := v) (d := d) (by simp)).below (below_trans' (al1 w5 (.cells #[v.m d, v.s d, v.q d] 35)) (al1 _ (.cells #[.int .i64 2, .int .i64 0] 37)))).s HR.out.1.s.1 HR.out.1.s.2 (by have := HR.out.2.2.s; omega)).mono ?_
      rw [g3, f2, f3]
      rintro e w6 ⟨M, a', c', rfl, ow, hb6⟩
      obtain rfl : M = S'.length := by have := ow.1; simpa using this.symm
      have X6 := (b3_new w5 (v.m d) (v.s d) (v.q d) 35 rfl).below (below_trans' (al1 _ (.cells #[.int .i64 2, .int .i64 0] 37)) hb6)
      have Y6 := (b2_new (w5.alloc (.cells #[v.m d, v.s d, v.q d] 35)) (.int .i64 2) (.int .i64 0) 37 (b := w5.heap.size + 1) (by simp)).below hb6
      have m0 : w5.heap.size + 2 ≤ w6.heap.size := by have := hb6.size; simpa using this
      have b6 : Below w5.heap.size w5 w6 := below_trans' (below_trans' (al1 w5 (.cells #[v.m d, v.s d, v.q d] 35)) (al1 _ (.cells #[.int .i64 2, .int .i64 0] 37))) hb6
      have hb7 : Below w5.heap.size w5 (((w6.setCell ⟨w5.heap.size, 1, none⟩ (.slice a' S'.length c')).setCell ⟨w5.heap.size + 1, 0, none⟩ (.int .i64 C)).setCell ⟨w5.heap.size + 1, 1, none⟩ (.int .i64 V)) := ((b6.setCell (p := ⟨w5.heap.size, 1, none⟩) (Nat.le_refl _) _).setCell (p := ⟨w5.heap.size + 1, 0, none⟩) (by show w5.heap.size ≤ w5.heap.size + 1; omega) _).setCell (p := ⟨w5.heap.size + 1, 1, none⟩) (by show w5.heap.size ≤ w5.heap.size + 1; omega) _
      have X7 : B3 (((w6.setCell ⟨w5.heap.size, 1, none⟩ (.slice a' S'.length c')).setCell ⟨w5.heap.size + 1, 0, none⟩ (.int .i64 C)).setCell ⟨w5.heap.size + 1, 1, none⟩ (.int .i64 V)) w5.heap.size (v.m d) (.slice a' S'.length c') (v.q d) := ((X6.set1).far (by omega)).far (by omega)
      have Y7 : B2 (((w6.setCell ⟨w5.heap.size, 1, none⟩ (.slice a' S'.length c')).setCell ⟨w5.heap.size + 1, 0, none⟩ (.int .i64 C)).setCell ⟨w5.heap.size + 1, 1, none⟩ (.int .i64 V)) (w5.heap.size + 1) (.int .i64 C) (.int .i64 V) := ((Y6.far (by omega)).set0).set1
      have ow' : w6.ownsRow (w5.heap.size + 2) 3 1 (.slice a' S'.length c') S'.length (S'.map (Value.int .i64)) := own_mono ow (by simp)
      have O7 : (((w6.setCell ⟨w5.heap.size, 1, none⟩ (.slice a' S'.length c')).setCell ⟨w5.heap.size + 1, 0, none⟩ (.int .i64 C)).setCell ⟨w5.heap.size + 1, 1, none⟩ (.int .i64 V)).ownsRow (w5.heap.size + 2) 3 1 (.slice a' S'.length c') S'.length (S'.map (Value.int .i64)) := own_far (own_far (own_far ow' (by omega) _) (by omega) _) (by omega) _
      have S0 := (g_at HG5.out (v := v) (d := d) (by simp)).below hb7
      have S7 : SS (((w6.setCell ⟨w5.heap.size, 1, none⟩ (.slice a' S'.length c')).setCell ⟨w5.heap.size + 1, 0, none⟩ (.int .i64 C)).setCell ⟨w5.heap.size + 1, 1, none⟩ (.int .i64 V)) ⟨v.ma, v.mc, a', c', v.qa, v.qc⟩ ⟨d.n, d.zs, S', d.q⟩ := ⟨S0.m, own_sints O7, S0.q⟩
      have U7 : SS (((w6.setCell ⟨w5.heap.size, 1, none⟩ (.slice a' S'.length c')).setCell ⟨w5.heap.size + 1, 0, none⟩ (.int .i64 C)).setCell ⟨w5.heap.size + 1, 1, none⟩ (.int .i64 V)) u2 ⟨d.n, d.zs, S', d.q⟩ := (HG5.out.ss (u2, (⟨d.n, d.zs, S', d.q⟩ : LD)) (by simp)).below hb7
      have G7 := HG5.out.below hb7
      have HXY : Hid (_ ∧ _ ∧ _ ∧ _ ∧ _ ∧ _) := ⟨hb7, X7, Y7, S7, U7, G7⟩
      obtain ⟨t0, t1, t2⟩ := X6.cells
      obtain ⟨h0, h1, h2⟩ := X6.frees
      have y0 := Y6.c0
      have y1 := Y6.c1
      have z0 := Y6.f 0
      have z1 := Y6.f 1
      have G6 := HG5.out.below b6
      clear bs0 bs1 bs2 bo0 bo1 bo2 bx0 bx1 bx2 br0 br1
      have bx0 := G6.bx (w2.heap.size, [u2.m (⟨d.n, d.zs, S', d.q⟩ : LD), u2.s (⟨d.n, d.zs, S', d.q⟩ : LD), u2.q (⟨d.n, d.zs, S', d.q⟩ : LD)]) (by simp) 0 _ rfl
      have bx1 := G6.bx (w2.heap.size, [u2.m (⟨d.n, d.zs, S', d.q⟩ : LD), u2.s (⟨d.n, d.zs, S', d.q⟩ : LD), u2.q (⟨d.n, d.zs, S', d.q⟩ : LD)]) (by simp) 1 _ rfl
      have bx2 := G6.bx (w2.heap.size, [u2.m (⟨d.n, d.zs, S', d.q⟩ : LD), u2.s (⟨d.n, d.zs, S', d.q⟩ : LD), u2.q (⟨d.n, d.zs, S', d.q⟩ : LD)]) (by simp) 2 _ rfl
      have q1 : w2.heap.size ≠ w5.heap.size := by omega
      have q2 : w2.heap.size ≠ w5.heap.size + 1 := by omega
      have q3 : w5.heap.size ≠ w2.heap.size := by omega
      have q4 : w5.heap.size + 1 ≠ w2.heap.size := by omega
      clear hb7 X7 Y7 S7 U7 G7 X6 Y6 G6 b6 hb6 ow ow' O7 S0
      go_wp2_with fail
      refine (tgState_yes u2 ⟨v.ma, v.mc, a', c', v.qa, v.qc⟩ ⟨d.n, d.zs, S', d.q⟩ _ HXY.out.2.2.2.2.1 HXY.out.2.2.2.1 HFD.out).mono ?_
      rintro e w8 ⟨rfl, hb8⟩
      have G8 := HXY.out.2.2.2.2.2.below hb8
      have Y8 := HXY.out.2.2.1.below hb8
      have c0 := Y8.c0
      have c1 := Y8.c1
      have kr0 := G8.bx (w2.heap.size + 1, [.int .i64 C, .int .i64 V]) (by simp) 0 _ rfl
      have kr1 := G8.bx (w2.heap.size + 1, [.int .i64 C, .int .i64 V]) (by simp) 1 _ rfl
      have HB8 : Hid (Below w.heap.size w w8) := G8.bel
      clear HXY G8 Y8 hb8 t0 t1 t2 h0 h1 h2 y0 y1 z0 z1 q1 q2 q3 q4 bx0 bx1 bx2
      go_wp2
      go_ret
      exact ⟨rfl, HB8.out⟩
    · have e1 : aD 7 x y d = ⟨d.n, d.zs, d.s, putL d.q d.q.length y⟩ := by simp only [aD, aN, aZ, aS, aQ, HOK.out, if_true]; rfl
      have e2 : aCd 7 x y d = putC d.q y := by simp only [aCd, aC, HOK.out, if_true]; rfl
      have e3 : aVd 7 x y d = 0 := by simp only [aVd, aV, HOK.out, if_true]; rfl
      obtain ⟨f1, f2, f3⟩ := HD.out
      rw [e1] at f1
      rw [e2] at f2
      rw [e3] at f3
      clear e1 e2 e3 HD
      obtain ⟨N', Z', S', Q'⟩ := D
      rw [LD.mk.injEq] at f1
      obtain ⟨g1, g2, g3, g4⟩ := f1
      subst g1 g2 g3
      subst f3
      have nx : w2.heap.size + 1 < w5.heap.size := World.block_lt_of_cell? w5 ⟨w2.heap.size + 1, 0, none⟩ (HG5.out.bx (w2.heap.size + 1, [.int .i64 C, .int .i64 0]) (by simp) 0 _ rfl)
      have no : w1.heap.size + 1 < w5.heap.size := World.block_lt_of_cell? w5 ⟨w1.heap.size + 1, 0, none⟩ (HG5.out.bx (w1.heap.size + 1, [.int .i64 7, .int .i64 x, .int .i64 y]) (by simp) 0 _ rfl)
      have nx1 : w2.heap.size + 1 < w5.heap.size + 1 := by omega
      have no1 : w1.heap.size + 1 < w5.heap.size + 1 := by omega
      have ny : w2.heap.size < w5.heap.size := by omega
      have ny1 : w2.heap.size < w5.heap.size + 1 := by omega
      have ns : w1.heap.size < w5.heap.size := by omega
      have ns1 : w1.heap.size < w5.heap.size + 1 := by omega
      go_wp2_with fail
      refine (implQuePut_any _ _ _ d.q y _ ((g_at HG5.out (v := v) (d := d) (by simp)).below (below_trans' (al1 w5 (.cells #[v.m d, v.s d, v.q d] 35)) (al1 _ (.cells #[.int .i64 2, .int .i64 0] 37)))).q HR.out.1.q.1 ⟨HR.out.1.q.2, by have := HR.out.2.2.q; omega⟩).mono ?_
      rw [g4, f2]
      rintro e w6 ⟨M, a', c', rfl, ow, hb6⟩
      obtain rfl : M = Q'.length := by have := ow.1; simpa using this.symm
      have X6 := (b3_new w5 (v.m d) (v.s d) (v.q d) 35 rfl).below (below_trans' (al1 _ (.cells #[.int .i64 2, .int .i64 0] 37)) hb6)
      have Y6 := (b2_new (w5.alloc (.cells #[v.m d, v.s d, v.q d] 35)) (.int .i64 2) (.int .i64 0) 37 (b := w5.heap.size + 1) (by simp)).below hb6
      have m0 : w5.heap.size + 2 ≤ w6.heap.size := by have := hb6.size; simpa using this
      have b6 : Below w5.heap.size w5 w6 := below_trans' (below_trans' (al1 w5 (.cells #[v.m d, v.s d, v.q d] 35)) (al1 _ (.cells #[.int .i64 2, .int .i64 0] 37))) hb6
      have hb7 : Below w5.heap.size w5 (((w6.setCell ⟨w5.heap.size, 2, none⟩ (.slice a' Q'.length c')).setCell ⟨w5.heap.size + 1, 0, none⟩ (.int .i64 C)).setCell ⟨w5.heap.size + 1, 1, none⟩ (.int .i64 0)) := ((b6.setCell (p := ⟨w5.heap.size, 2, none⟩) (Nat.le_refl _) _).setCell (p := ⟨w5.heap.size + 1, 0, none⟩) (by show w5.heap.size ≤ w5.heap.size + 1; omega) _).setCell (p := ⟨w5.heap.size + 1, 1, none⟩) (by show w5.heap.size ≤ w5.heap.size + 1; omega) _
      have X7 : B3 (((w6.setCell ⟨w5.heap.size, 2, none⟩ (.slice a' Q'.length c')).setCell ⟨w5.heap.size + 1, 0, none⟩ (.int .i64 C)).setCell ⟨w5.heap.size + 1, 1, none⟩ (.int .i64 0)) w5.heap.size (v.m d) (v.s d) (.slice a' Q'.length c') := ((X6.set2).far (by omega)).far (by omega)
      have Y7 : B2 (((w6.setCell ⟨w5.heap.size, 2, none⟩ (.slice a' Q'.length c')).setCell ⟨w5.heap.size + 1, 0, none⟩ (.int .i64 C)).setCell ⟨w5.heap.size + 1, 1, none⟩ (.int .i64 0)) (w5.heap.size + 1) (.int .i64 C) (.int .i64 0) := ((Y6.far (by omega)).set0).set1
      have ow' : w6.ownsRow (w5.heap.size + 2) 3 1 (.slice a' Q'.length c') Q'.length (Q'.map (Value.int .i64)) := own_mono ow (by simp)
      have O7 : (((w6.setCell ⟨w5.heap.size, 2, none⟩ (.slice a' Q'.length c')).setCell ⟨w5.heap.size + 1, 0, none⟩ (.int .i64 C)).setCell ⟨w5.heap.size + 1, 1, none⟩ (.int .i64 0)).ownsRow (w5.heap.size + 2) 3 1 (.slice a' Q'.length c') Q'.length (Q'.map (Value.int .i64)) := own_far (own_far (own_far ow' (by omega) _) (by omega) _) (by omega) _
      have S0 := (g_at HG5.out (v := v) (d := d) (by simp)).below hb7
      have S7 : SS (((w6.setCell ⟨w5.heap.size, 2, none⟩ (.slice a' Q'.length c')).setCell ⟨w5.heap.size + 1, 0, none⟩ (.int .i64 C)).setCell ⟨w5.heap.size + 1, 1, none⟩ (.int .i64 0)) ⟨v.ma, v.mc, v.sa, v.sc, a', c'⟩ ⟨d.n, d.zs, d.s, Q'⟩ := ⟨S0.m, S0.s, own_sints O7⟩
      have U7 : SS (((w6.setCell ⟨w5.heap.size, 2, none⟩ (.slice a' Q'.length c')).setCell ⟨w5.heap.size + 1, 0, none⟩ (.int .i64 C)).setCell ⟨w5.heap.size + 1, 1, none⟩ (.int .i64 0)) u2 ⟨d.n, d.zs, d.s, Q'⟩ := (HG5.out.ss (u2, (⟨d.n, d.zs, d.s, Q'⟩ : LD)) (by simp)).below hb7
      have G7 := HG5.out.below hb7
      have HXY : Hid (_ ∧ _ ∧ _ ∧ _ ∧ _ ∧ _) := ⟨hb7, X7, Y7, S7, U7, G7⟩
      obtain ⟨t0, t1, t2⟩ := X6.cells
      obtain ⟨h0, h1, h2⟩ := X6.frees
      have y0 := Y6.c0
      have y1 := Y6.c1
      have z0 := Y6.f 0
      have z1 := Y6.f 1
      have G6 := HG5.out.below b6
      clear bs0 bs1 bs2 bo0 bo1 bo2 bx0 bx1 bx2 br0 br1
      have bx0 := G6.bx (w2.heap.size, [u2.m (⟨d.n, d.zs, d.s, Q'⟩ : LD), u2.s (⟨d.n, d.zs, d.s, Q'⟩ : LD), u2.q (⟨d.n, d.zs, d.s, Q'⟩ : LD)]) (by simp) 0 _ rfl
      have bx1 := G6.bx (w2.heap.size, [u2.m (⟨d.n, d.zs, d.s, Q'⟩ : LD), u2.s (⟨d.n, d.zs, d.s, Q'⟩ : LD), u2.q (⟨d.n, d.zs, d.s, Q'⟩ : LD)]) (by simp) 1 _ rfl
      have bx2 := G6.bx (w2.heap.size, [u2.m (⟨d.n, d.zs, d.s, Q'⟩ : LD), u2.s (⟨d.n, d.zs, d.s, Q'⟩ : LD), u2.q (⟨d.n, d.zs, d.s, Q'⟩ : LD)]) (by simp) 2 _ rfl
      have q1 : w2.heap.size ≠ w5.heap.size := by omega
      have q2 : w2.heap.size ≠ w5.heap.size + 1 := by omega
      have q3 : w5.heap.size ≠ w2.heap.size := by omega
      have q4 : w5.heap.size + 1 ≠ w2.heap.size := by omega
      clear hb7 X7 Y7 S7 U7 G7 X6 Y6 G6 b6 hb6 ow ow' O7 S0
      go_wp2_with fail
      refine (tgState_yes u2 ⟨v.ma, v.mc, v.sa, v.sc, a', c'⟩ ⟨d.n, d.zs, d.s, Q'⟩ _ HXY.out.2.2.2.2.1 HXY.out.2.2.2.1 HFD.out).mono ?_
      rintro e w8 ⟨rfl, hb8⟩
      have G8 := HXY.out.2.2.2.2.2.below hb8
      have Y8 := HXY.out.2.2.1.below hb8
      have c0 := Y8.c0
      have c1 := Y8.c1
      have kr0 := G8.bx (w2.heap.size + 1, [.int .i64 C, .int .i64 0]) (by simp) 0 _ rfl
      have kr1 := G8.bx (w2.heap.size + 1, [.int .i64 C, .int .i64 0]) (by simp) 1 _ rfl
      have HB8 : Hid (Below w.heap.size w w8) := G8.bel
      clear HXY G8 Y8 hb8 t0 t1 t2 h0 h1 h2 y0 y1 z0 z1 q1 q2 q3 q4 bx0 bx1 bx2
      go_wp2
      go_ret
      exact ⟨rfl, HB8.out⟩
    · have e1 : aD 8 x y d = ⟨d.n, d.zs, d.s, takeL d.q⟩ := by simp only [aD, aN, aZ, aS, aQ, HOK.out, if_true]; rfl
      have e2 : aCd 8 x y d = takeC d.q := by simp only [aCd, aC, HOK.out, if_true]; rfl
      have e3 : aVd 8 x y d = takeV d.q := by simp only [aVd, aV, HOK.out, if_true]; rfl
      obtain ⟨f1, f2, f3⟩ := HD.out
      rw [e1] at f1
      rw [e2] at f2
      rw [e3] at f3
      clear e1 e2 e3 HD
      obtain ⟨N', Z', S', Q'⟩ := D
      rw [LD.mk.injEq] at f1
      obtain ⟨g1, g2, g3, g4⟩ := f1
      subst g1 g2 g3
      have nx : w2.heap.size + 1 < w5.heap.size := World.block_lt_of_cell? w5 ⟨w2.heap.size + 1, 0, none⟩ (HG5.out.bx (w2.heap.size + 1, [.int .i64 C, .int .i64 V]) (by simp) 0 _ rfl)
      have no : w1.heap.size + 1 < w5.heap.size := World.block_lt_of_cell? w5 ⟨w1.heap.size + 1, 0, none⟩ (HG5.out.bx (w1.heap.size + 1, [.int .i64 8, .int .i64 x, .int .i64 y]) (by simp) 0 _ rfl)
      have nx1 : w2.heap.size + 1 < w5.heap.size + 1 := by omega
      have no1 : w1.heap.size + 1 < w5.heap.size + 1 := by omega
      have ny : w2.heap.size < w5.heap.size := by omega
      have ny1 : w2.heap.size < w5.heap.size + 1 := by omega
      have ns : w1.heap.size < w5.heap.size := by omega
      have ns1 : w1.heap.size < w5.heap.size + 1 := by omega
      go_wp2_with fail
      refine (implListTake_capL _ _ _ d.q _ ((g_at HG5.out (v := v) (d := d) (by simp)).below (below_trans' (al1 w5 (.cells #[v.m d, v.s d, v.q d] 35)) (al1 _ (.cells #[.int .i64 2, .int .i64 0] 37)))).q HR.out.1.q.1 HR.out.1.q.2 (by have := HR.out.2.2.q; omega)).mono ?_
      rw [g4, f2, f3]
      rintro e w6 ⟨M, a', c', rfl, ow, hb6⟩
      obtain rfl : M = Q'.length := by have := ow.1; simpa using this.symm
      have X6 := (b3_new w5 (v.m d) (v.s d) (v.q d) 35 rfl).below (below_trans' (al1 _ (.cells #[.int .i64 2, .int .i64 0] 37)) hb6)
      have Y6 := (b2_new (w5.alloc (.cells #[v.m d, v.s d, v.q d] 35)) (.int .i64 2) (.int .i64 0) 37 (b := w5.heap.size + 1) (by simp)).below hb6
      have m0 : w5.heap.size + 2 ≤ w6.heap.size := by have := hb6.size; simpa using this
      have b6 : Below w5.heap.size w5 w6 := below_trans' (below_trans' (al1 w5 (.cells #[v.m d, v.s d, v.q d] 35)) (al1 _ (.cells #[.int .i64 2, .int .i64 0] 37))) hb6
      have hb7 : Below w5.heap.size w5 (((w6.setCell ⟨w5.heap.size, 2, none⟩ (.slice a' Q'.length c')).setCell ⟨w5.heap.size + 1, 0, none⟩ (.int .i64 C)).setCell ⟨w5.heap.size + 1, 1, none⟩ (.int .i64 V)) := ((b6.setCell (p := ⟨w5.heap.size, 2, none⟩) (Nat.le_refl _) _).setCell (p := ⟨w5.heap.size + 1, 0, none⟩) (by show w5.heap.size ≤ w5.heap.size + 1; omega) _).setCell (p := ⟨w5.heap.size + 1, 1, none⟩) (by show w5.heap.size ≤ w5.heap.size + 1; omega) _
      have X7 : B3 (((w6.setCell ⟨w5.heap.size, 2, none⟩ (.slice a' Q'.length c')).setCell ⟨w5.heap.size + 1, 0, none⟩ (.int .i64 C)).setCell ⟨w5.heap.size + 1, 1, none⟩ (.int .i64 V)) w5.heap.size (v.m d) (v.s d) (.slice a' Q'.length c') := ((X6.set2).far (by omega)).far (by omega)
      have Y7 : B2 (((w6.setCell ⟨w5.heap.size, 2, none⟩ (.slice a' Q'.length c')).setCell ⟨w5.heap.size + 1, 0, none⟩ (.int .i64 C)).setCell ⟨w5.heap.size + 1, 1, none⟩ (.int .i64 V)) (w5.heap.size + 1) (.int .i64 C) (.int .i64 V) := ((Y6.far (by omega)).set0).set1
      have ow' : w6.ownsRow (w5.heap.size + 2) 3 1 (.slice a' Q'.length c') Q'.length (Q'.map (Value.int .i64)) := own_mono ow (by simp)
      have O7 : (((w6.setCell ⟨w5.heap.size, 2, none⟩ (.slice a' Q'.length c')).setCell ⟨w5.heap.size + 1, 0, none⟩ (.int .i64 C)).setCell ⟨w5.heap.size + 1, 1, none⟩ (.int .i64 V)).ownsRow (w5.heap.size + 2) 3 1 (.slice a' Q'.length c') Q'.length (Q'.map (Value.int .i64)) := own_far (own_far (own_far ow' (by omega) _) (by omega) _) (by omega) _
      have S0 := (g_at HG5.out (v := v) (d := d) (by simp)).below hb7
      have S7 : SS (((w6.setCell ⟨w5.heap.size, 2, none⟩ (.slice a' Q'.length c')).setCell ⟨w5.heap.size + 1, 0, none⟩ (.int .i64 C)).setCell ⟨w5.heap.size + 1, 1, none⟩ (.int .i64 V)) ⟨v.ma, v.mc, v.sa, v.sc, a', c'⟩ ⟨d.n, d.zs, d.s, Q'⟩ := ⟨S0.m, S0.s, own_sints O7⟩
      have U7 : SS (((w6.setCell ⟨w5.heap.size, 2, none⟩ (.slice a' Q'.length c')).setCell ⟨w5.heap.size + 1, 0, none⟩ (.int .i64 C)).setCell ⟨w5.heap.size + 1, 1, none⟩ (.int .i64 V)) u2 ⟨d.n, d.zs, d.s, Q'⟩ := (HG5.out.ss (u2, (⟨d.n, d.zs, d.s, Q'⟩ : LD)) (by simp)).below hb7
      have G7 := HG5.out.below hb7
      have HXY : Hid (_ ∧ _ ∧ _ ∧ _ ∧ _ ∧ _) := ⟨hb7, X7, Y7, S7, U7, G7⟩
      obtain ⟨t0, t1, t2⟩ := X6.cells
      obtain ⟨h0, h1, h2⟩ := X6.frees
      have y0 := Y6.c0
      have y1 := Y6.c1
      have z0 := Y6.f 0
      have z1 := Y6.f 1
      have G6 := HG5.out.below b6
      clear bs0 bs1 bs2 bo0 bo1 bo2 bx0 bx1 bx2 br0 br1
      have bx0 := G6.bx (w2.heap.size, [u2.m (⟨d.n, d.zs, d.s, Q'⟩ : LD), u2.s (⟨d.n, d.zs, d.s, Q'⟩ : LD), u2.q (⟨d.n, d.zs, d.s, Q'⟩ : LD)]) (by simp) 0 _ rfl
      have bx1 := G6.bx (w2.heap.size, [u2.m (⟨d.n, d.zs, d.s, Q'⟩ : LD), u2.s (⟨d.n, d.zs, d.s, Q'⟩ : LD), u2.q (⟨d.n, d.zs, d.s, Q'⟩ : LD)]) (by simp) 1 _ rfl
      have bx2 := G6.bx (w2.heap.size, [u2.m (⟨d.n, d.zs, d.s, Q'⟩ : LD), u2.s (⟨d.n, d.zs, d.s, Q'⟩ : LD), u2.q (⟨d.n, d.zs, d.s, Q'⟩ : LD)]) (by simp) 2 _ rfl
      have q1 : w2.heap.size ≠ w5.heap.size := by omega
      have q2 : w2.heap.size ≠ w5.heap.size + 1 := by omega
      have q3 : w5.heap.size ≠ w2.heap.size := by omega
      have q4 : w5.heap.size + 1 ≠ w2.heap.size := by omega
      clear hb7 X7 Y7 S7 U7 G7 X6 Y6 G6 b6 hb6 ow ow' O7 S0
      go_wp2_with fail
      refine (tgState_yes u2 ⟨v.ma, v.mc, v.sa, v.sc, a', c'⟩ ⟨d.n, d.zs, d.s, Q'⟩ _ HXY.out.2.2.2.2.1 HXY.out.2.2.2.1 HFD.out).mono ?_
      rintro e w8 ⟨rfl, hb8⟩
      have G8 := HXY.out.2.2.2.2.2.below hb8
      have Y8 := HXY.out.2.2.1.below hb8
      have c0 := Y8.c0
      have c1 := Y8.c1
      have kr0 := G8.bx (w2.heap.size + 1, [.int .i64 C, .int .i64 V]) (by simp) 0 _ rfl
      have kr1 := G8.bx (w2.heap.size + 1, [.int .i64 C, .int .i64 V]) (by simp) 1 _ rfl
      have HB8 : Hid (Below w.heap.size w w8) := G8.bel
      clear HXY G8 Y8 hb8 t0 t1 t2 h0 h1 h2 y0 y1 z0 z1 q1 q2 q3 q4 bx0 bx1 bx2
      go_wp2
      go_ret
      exact ⟨rfl, HB8.out⟩
    · have e1 : aD 9 x y d = d := by simp only [aD, aN, aZ, aS, aQ, HOK.out, if_true]; rfl
      have e2 : aCd 9 x y d = nextC d.zs d.n x := by simp only [aCd, aC, HOK.out, if_true]; rfl
      have e3 : aVd 9 x y d = nextV d.zs d.n x := by simp only [aVd, aV, HOK.out, if_true]; rfl
      obtain ⟨f1, f2, f3⟩ := HD.out
      rw [e1] at f1
      rw [e2] at f2
      rw [e3] at f3
      clear e1 e2 e3 HD
      obtain ⟨N', Z', S', Q'⟩ := D
      rw [LD.mk.injEq] at f1
      obtain ⟨g1, g2, g3, g4⟩ := f1
      subst g1 g2 g3 g4
      have nx : w2.heap.size + 1 < w5.heap.size := World.block_lt_of_cell? w5 ⟨w2.heap.size + 1, 0, none⟩ (HG5.out.bx (w2.heap.size + 1, [.int .i64 C, .int .i64 V]) (by simp) 0 _ rfl)
      have no : w1.heap.size + 1 < w5.heap.size := World.block_lt_of_cell? w5 ⟨w1.heap.size + 1, 0, none⟩ (HG5.out.bx (w1.heap.size + 1, [.int .i64 9, .int .i64 x, .int .i64 y]) (by simp) 0 _ rfl)
      have nx1 : w2.heap.size + 1 < w5.heap.size + 1 := by omega
      have no1 : w1.heap.size + 1 < w5.heap.size + 1 := by omega
      have ny : w2.heap.size < w5.heap.size := by omega
      have ny1 : w2.heap.size < w5.heap.size + 1 := by omega
      have ns : w1.heap.size < w5.heap.size := by omega
      have ns1 : w1.heap.size < w5.heap.size + 1 := by omega
      go_wp2_with fail
      refine (implMapNext_any _ _ _ d.zs x _ ((g_at HG5.out (v := v) (d := d) (by simp)).below (below_trans' (al1 w5 (.cells #[v.m d, v.s d, v.q d] 35)) (al1 _ (.cells #[.int .i64 2, .int .i64 0] 37)))).m (by have := HR.out.2.2.m; omega)).mono ?_
      rw [f2, f3]
      rintro e w6 ⟨rfl, hb6⟩
      have X6 := (b3_new w5 (v.m d) (v.s d) (v.q d) 35 rfl).below (below_trans' (al1 _ (.cells #[.int .i64 2, .int .i64 0] 37)) hb6)
      have Y6 := (b2_new (w5.alloc (.cells #[v.m d, v.s d, v.q d] 35)) (.int .i64 2) (.int .i64 0) 37 (b := w5.heap.size + 1) (by simp)).below hb6
      have m0 : w5.heap.size + 2 ≤ w6.heap.size := by have := hb6.size; simpa using this
      have b6 : Below w5.heap.size w5 w6 := below_trans' (below_trans' (al1 w5 (.cells #[v.m d, v.s d, v.q d] 35)) (al1 _ (.cells #[.int .i64 2, .int .i64 0] 37))) hb6
      have hb7 : Below w5.heap.size w5 ((w6.setCell ⟨w5.heap.size + 1, 0, none⟩ (.int .i64 C)).setCell ⟨w5.heap.size + 1, 1, none⟩ (.int .i64 V)) := (b6.setCell (p := ⟨w5.heap.size + 1, 0, none⟩) (by show w5.heap.size ≤ w5.heap.size + 1; omega) _).setCell (p := ⟨w5.heap.size + 1, 1, none⟩) (by show w5.heap.size ≤ w5.heap.size + 1; omega) _
      have X7 : B3 ((w6.setCell ⟨w5.heap.size + 1, 0, none⟩ (.int .i64 C)).setCell ⟨w5.heap.size + 1, 1, none⟩ (.int .i64 V)) w5.heap.size (v.m d) (v.s d) (v.q d) := (X6.far (by omega)).far (by omega)
      have Y7 : B2 ((w6.setCell ⟨w5.heap.size + 1, 0, none⟩ (.int .i64 C)).setCell ⟨w5.heap.size + 1, 1, none⟩ (.int .i64 V)) (w5.heap.size + 1) (.int .i64 C) (.int .i64 V) := Y6.set0.set1
      have S7 : SS ((w6.setCell ⟨w5.heap.size + 1, 0, none⟩ (.int .i64 C)).setCell ⟨w5.heap.size + 1, 1, none⟩ (.int .i64 V)) ⟨v.ma, v.mc, v.sa, v.sc, v.qa, v.qc⟩ ⟨d.n, d.zs, d.s, d.q⟩ := (g_at HG5.out (v := v) (d := d) (by simp)).below hb7
      have U7 : SS ((w6.setCell ⟨w5.heap.size + 1, 0, none⟩ (.int .i64 C)).setCell ⟨w5.heap.size + 1, 1, none⟩ (.int .i64 V)) u2 ⟨d.n, d.zs, d.s, d.q⟩ := (HG5.out.ss (u2, (⟨d.n, d.zs, d.s, d.q⟩ : LD)) (by simp)).below hb7
      have G7 := HG5.out.below hb7
      have HXY : Hid (_ ∧ _ ∧ _ ∧ _ ∧ _ ∧ _) := ⟨hb7, X7, Y7, S7, U7, G7⟩
      obtain ⟨t0, t1, t2⟩ := X6.cells
      obtain ⟨h0, h1, h2⟩ := X6.frees
      have y0 := Y6.c0
      have y1 := Y6.c1
      have z0 := Y6.f 0
      have z1 := Y6.f 1
      have G6 := HG5.out.below b6
      clear bs0 bs1 bs2 bo0 bo1 bo2 bx0 bx1 bx2 br0 br1
      have bx0 := G6.bx (w2.heap.size, [u2.m (⟨d.n, d.zs, d.s, d.q⟩ : LD), u2.s (⟨d.n, d.zs, d.s, d.q⟩ : LD), u2.q (⟨d.n, d.zs, d.s, d.q⟩ : LD)]) (by simp) 0 _ rfl
      have bx1 := G6.bx (w2.heap.size, [u2.m (⟨d.n, d.zs, d.s, d.q⟩ : LD), u2.s (⟨d.n, d.zs, d.s, d.q⟩ : LD), u2.q (⟨d.n, d.zs, d.s, d.q⟩ : LD)]) (by simp) 1 _ rfl
      have bx2 := G6.bx (w2.heap.size, [u2.m (⟨d.n, d.zs, d.s, d.q⟩ : LD), u2.s (⟨d.n, d.zs, d.s, d.q⟩ : LD), u2.q (⟨d.n, d.zs, d.s, d.q⟩ : LD)]) (by simp) 2 _ rfl
      have q1 : w2.heap.size ≠ w5.heap.size := by omega
      have q2 : w2.heap.size ≠ w5.heap.size + 1 := by omega
      have q3 : w5.heap.size ≠ w2.heap.size := by omega
      have q4 : w5.heap.size + 1 ≠ w2.heap.size := by omega
      clear hb7 X7 Y7 S7 U7 G7 X6 Y6 G6 b6 hb6
      go_wp2_with fail
      refine (tgState_yes u2 ⟨v.ma, v.mc, v.sa, v.sc, v.qa, v.qc⟩ ⟨d.n, d.zs, d.s, d.q⟩ _ HXY.out.2.2.2.2.1 HXY.out.2.2.2.1 HFD.out).mono ?_
      rintro e w8 ⟨rfl, hb8⟩
      have G8 := HXY.out.2.2.2.2.2.below hb8
      have Y8 := HXY.out.2.2.1.below hb8
      have c0 := Y8.c0
      have c1 := Y8.c1
      have kr0 := G8.bx (w2.heap.size + 1, [.int .i64 C, .int .i64 V]) (by simp) 0 _ rfl
      have kr1 := G8.bx (w2.heap.size + 1, [.int .i64 C, .int .i64 V]) (by simp) 1 _ rfl
      have HB8 : Hid (Below w.heap.size w w8) := G8.bel
      clear HXY G8 Y8 hb8 t0 t1 t2 h0 h1 h2 y0 y1 z0 z1 q1 q2 q3 q4 bx0 bx1 bx2
      go_wp2
      go_ret
      exact ⟨rfl, HB8.out⟩
    · have e1 : aD 10 x y d = d := by simp only [aD, aN, aZ, aS, aQ, HOK.out, if_true]; rfl
      have e2 : aCd 10 x y d = 2 := by simp only [aCd, aC, HOK.out, if_true]; rfl
      have e3 : aVd 10 x y d = cntV d.zs d.n x := by simp only [aVd, aV, HOK.out, if_true]; rfl
      obtain ⟨f1, f2, f3⟩ := HD.out
      rw [e1] at f1
      rw [e2] at f2
      rw [e3] at f3
      clear e1 e2 e3 HD
      obtain ⟨N', Z', S', Q'⟩ := D
      rw [LD.mk.injEq] at f1
      obtain ⟨g1, g2, g3, g4⟩ := f1
      subst g1 g2 g3 g4
      subst f2
      have nx : w2.heap.size + 1 < w5.heap.size := World.block_lt_of_cell? w5 ⟨w2.heap.size + 1, 0, none⟩ (HG5.out.bx (w2.heap.size + 1, [.int .i64 2, .int .i64 V]) (by simp) 0 _ rfl)
      have no : w1.heap.size + 1 < w5.heap.size := World.block_lt_of_cell? w5 ⟨w1.heap.size + 1, 0, none⟩ (HG5.out.bx (w1.heap.size + 1, [.int .i64 10, .int .i64 x, .int .i64 y]) (by simp) 0 _ rfl)
      have nx1 : w2.heap.size + 1 < w5.heap.size + 1 := by omega
      have no1 : w1.heap.size + 1 < w5.heap.size + 1 := by omega
      have ny : w2.heap.size < w5.heap.size := by omega
      have ny1 : w2.heap.size < w5.heap.size + 1 := by omega
      have ns : w1.heap.size < w5.heap.size := by omega
      have ns1 : w1.heap.size < w5.heap.size + 1 := by omega
      go_wp2_with fail
      refine (implMapCount_any _ _ _ d.zs x _ ((g_at HG5.out (v := v) (d := d) (by simp)).below (below_trans' (al1 w5 (.cells #[v.m d, v.s d, v.q d] 35)) (al1 _ (.cells #[.int .i64 2, .int .i64 0] 37)))).m (by have := HR.out.2.2.m; omega)).mono ?_
      rw [f3]
      rintro e w6 ⟨rfl, hb6⟩
      have X6 := (b3_new w5 (v.m d) (v.s d) (v.q d) 35 rfl).below (below_trans' (al1 _ (.cells #[.int .i64 2, .int .i64 0] 37)) hb6)
      have Y6 := (b2_new (w5.alloc (.cells #[v.m d, v.s d, v.q d] 35)) (.int .i64 2) (.int .i64 0) 37 (b := w5.heap.size + 1) (by simp)).below hb6
      have m0 : w5.heap.size + 2 ≤ w6.heap.size := by have := hb6.size; simpa using this
      have b6 : Below w5.heap.size w5 w6 := below_trans' (below_trans' (al1 w5 (.cells #[v.m d, v.s d, v.q d] 35)) (al1 _ (.cells #[.int .i64 2, .int .i64 0] 37))) hb6
      have hb7 : Below w5.heap.size w5 ((w6.setCell ⟨w5.heap.size + 1, 0, none⟩ (.int .i64 2)).setCell ⟨w5.heap.size + 1, 1, none⟩ (.int .i64 V)) := (b6.setCell (p := ⟨w5.heap.size + 1, 0, none⟩) (by show w5.heap.size ≤ w5.heap.size + 1; omega) _).setCell (p := ⟨w5.heap.size + 1, 1, none⟩) (by show w5.heap.size ≤ w5.heap.size + 1; omega) _
      have X7 : B3 ((w6.setCell ⟨w5.heap.size + 1, 0, none⟩ (.int .i64 2)).setCell ⟨w5.heap.size + 1, 1, none⟩ (.int .i64 V)) w5.heap.size (v.m d) (v.s d) (v.q d) := (X6.far (by omega)).far (by omega)
      have Y7 : B2 ((w6.setCell ⟨w5.heap.size + 1, 0, none⟩ (.int .i64 2)).setCell ⟨w5.heap.size + 1, 1, none⟩ (.int .i64 V)) (w5.heap.size + 1) (.int .i64 2) (.int .i64 V) := Y6.set0.set1
      have S7 : SS ((w6.setCell ⟨w5.heap.size + 1, 0, none⟩ (.int .i64 2)).setCell ⟨w5.heap.size + 1, 1, none⟩ (.int .i64 V)) ⟨v.ma, v.mc, v.sa, v.sc, v.qa, v.qc⟩ ⟨d.n, d.zs, d.s, d.q⟩ := (g_at HG5.out (v := v) (d := d) (by simp)).below hb7
      have U7 : SS ((w6.setCell ⟨w5.heap.size + 1, 0, none⟩ (.int .i64 2)).setCell ⟨w5.heap.size + 1, 1, none⟩ (.int .i64 V)) u2 ⟨d.n, d.zs, d.s, d.q⟩ := (HG5.out.ss (u2, (⟨d.n, d.zs, d.s, d.q⟩ : LD)) (by simp)).below hb7
      have G7 := HG5.out.below hb7
      have HXY : Hid (_ ∧ _ ∧ _ ∧ _ ∧ _ ∧ _) := ⟨hb7, X7, Y7, S7, U7, G7⟩
      obtain ⟨t0, t1, t2⟩ := X6.cells
      obtain ⟨h0, h1, h2⟩ := X6.frees
      have y0 := Y6.c0
      have y1 := Y6.c1
      have z0 := Y6.f 0
      have z1 := Y6.f 1
      have G6 := HG5.out.below b6
      clear bs0 bs1 bs2 bo0 bo1 bo2 bx0 bx1 bx2 br0 br1
      have bx0 := G6.bx (w2.heap.size, [u2.m (⟨d.n, d.zs, d.s, d.q⟩ : LD), u2.s (⟨d.n, d.zs, d.s, d.q⟩ : LD), u2.q (⟨d.n, d.zs, d.s, d.q⟩ : LD)]) (by simp) 0 _ rfl
      have bx1 := G6.bx (w2.heap.size, [u2.m (⟨d.n, d.zs, d.s, d.q⟩ : LD), u2.s (⟨d.n, d.zs, d.s, d.q⟩ : LD), u2.q (⟨d.n, d.zs, d.s, d.q⟩ : LD)]) (by simp) 1 _ rfl
      have bx2 := G6.bx (w2.heap.size, [u2.m (⟨d.n, d.zs, d.s, d.q⟩ : LD), u2.s (⟨d.n, d.zs, d.s, d.q⟩ : LD), u2.q (⟨d.n, d.zs, d.s, d.q⟩ : LD)]) (by simp) 2 _ rfl
      have q1 : w2.heap.size ≠ w5.heap.size := by omega
      have q2 : w2.heap.size ≠ w5.heap.size + 1 := by omega
      have q3 : w5.heap.size ≠ w2.heap.size := by omega
      have q4 : w5.heap.size + 1 ≠ w2.heap.size := by omega
      clear hb7 X7 Y7 S7 U7 G7 X6 Y6 G6 b6 hb6
      go_wp2_with fail
      refine (tgState_yes u2 ⟨v.ma, v.mc, v.sa, v.sc, v.qa, v.qc⟩ ⟨d.n, d.zs, d.s, d.q⟩ _ HXY.out.2.2.2.2.1 HXY.out.2.2.2.1 HFD.out).mono ?_
      rintro e w8 ⟨rfl, hb8⟩
      have G8 := HXY.out.2.2.2.2.2.below hb8
      have Y8 := HXY.out.2.2.1.below hb8
      have c0 := Y8.c0
      have c1 := Y8.c1
      have kr0 := G8.bx (w2.heap.size + 1, [.int .i64 2, .int .i64 V]) (by simp) 0 _ rfl
      have kr1 := G8.bx (w2.heap.size + 1, [.int .i64 2, .int .i64 V]) (by simp) 1 _ rfl
      have HB8 : Hid (Below w.heap.size w w8) := G8.bel
      clear HXY G8 Y8 hb8 t0 t1 t2 h0 h1 h2 y0 y1 z0 z1 q1 q2 q3 q4 bx0 bx1 bx2
      go_wp2
      go_ret
      exact ⟨rfl, HB8.out⟩
    · have e1 : aD 11 x y d = d := by simp only [aD, aN, aZ, aS, aQ, HOK.out, if_true]; rfl
      have e2 : aCd 11 x y d = firstC d.s := by simp only [aCd, aC, HOK.out, if_true]; rfl
      have e3 : aVd 11 x y d = firstV d.s := by simp only [aVd, aV, HOK.out, if_true]; rfl
      obtain ⟨f1, f2, f3⟩ := HD.out
      rw [e1] at f1
      rw [e2] at f2
      rw [e3] at f3
      clear e1 e2 e3 HD
      obtain ⟨N', Z', S', Q'⟩ := D
      rw [LD.mk.injEq] at f1
      obtain ⟨g1, g2, g3, g4⟩ := f1
      subst g1 g2 g3 g4
      have nx : w2.heap.size + 1 < w5.heap.size := World.block_lt_of_cell? w5 ⟨w2.heap.size + 1, 0, none⟩ (HG5.out.bx (w2.heap.size + 1, [.int .i64 C, .int .i64 V]) (by simp) 0 _ rfl)
      have no : w1.heap.size + 1 < w5.heap.size := World.block_lt_of_cell? w5 ⟨w1.heap.size + 1, 0, none⟩ (HG5.out.bx (w1.heap.size + 1, [.int .i64 11, .int .i64 x, .int .i64 y]) (by simp) 0 _ rfl)
      have nx1 : w2.heap.size + 1 < w5.heap.size + 1 := by omega
      have no1 : w1.heap.size + 1 < w5.heap.size + 1 := by omega
      have ny : w2.heap.size < w5.heap.size := by omega
      have ny1 : w2.heap.size < w5.heap.size + 1 := by omega
      have ns : w1.heap.size < w5.heap.size := by omega
      have ns1 : w1.heap.size < w5.heap.size + 1 := by omega
      go_wp2_with fail
      refine (implListFirst_any _ _ _ d.s _ ((g_at HG5.out (v := v) (d := d) (by simp)).below (below_trans' (al1 w5 (.cells #[v.m d, v.s d, v.q d] 35)) (al1 _ (.cells #[.int .i64 2, .int .i64 0] 37)))).s (by have := HR.out.2.2.s; omega)).mono ?_
      rw [f2, f3]
      rintro e w6 ⟨rfl, hb6⟩
      have X6 := (b3_new w5 (v.m d) (v.s d) (v.q d) 35 rfl).below (below_trans' (al1 _ (.cells #[.int .i64 2, .int .i64 0] 37)) hb6)
      have Y6 := (b2_new (w5.alloc (.cells #[v.m d, v.s d, v.q d] 35)) (.int .i64 2) (.int .i64 0) 37 (b := w5.heap.size + 1) (by simp)).below hb6
      have m0 : w5.heap.size + 2 ≤ w6.heap.size := by have := hb6.size; simpa using this
      have b6 : Below w5.heap.size w5 w6 := below_trans' (below_trans' (al1 w5 (.cells #[v.m d, v.s d, v.q d] 35)) (al1 _ (.cells #[.int .i64 2, .int .i64 0] 37))) hb6
      have hb7 : Below w5.heap.size w5 ((w6.setCell ⟨w5.heap.size + 1, 0, none⟩ (.int .i64 C)).setCell ⟨w5.heap.size + 1, 1, none⟩ (.int .i64 V)) := (b6.setCell (p := ⟨w5.heap.size + 1, 0, none⟩) (by show w5.heap.size ≤ w5.heap.size + 1; omega) _).setCell (p := ⟨w5.heap.size + 1, 1, none⟩) (by show w5.heap.size ≤ w5.heap.size + 1; omega) _
      have X7 : B3 ((w6.setCell ⟨w5.heap.size + 1, 0, none⟩ (.int .i64 C)).setCell ⟨w5.heap.size + 1, 1, none⟩ (.int .i64 V)) w5.heap.size (v.m d) (v.s d) (v.q d) := (X6.far (by omega)).far (by omega)
      have Y7 : B2 ((w6.setCell ⟨w5.heap.size + 1, 0, none⟩ (.int .i64 C)).setCell ⟨w5.heap.size + 1, 1, none⟩ (.int .i64 V)) (w5.heap.size + 1) (.int .i64 C) (.int .i64 V) := Y6.set0.set1
      have S7 : SS ((w6.setCell ⟨w5.heap.size + 1, 0, none⟩ (.int .i64 C)).setCell ⟨w5.heap.size + 1, 1, none⟩ (.int .i64 V)) ⟨v.ma, v.mc, v.sa, v.sc, v.qa, v.qc⟩ ⟨d.n, d.zs, d.s, d.q⟩ := (g_at HG5.out (v := v) (d := d) (by simp)).below hb7
      have U7 : SS ((w6.setCell ⟨w5.heap.size + 1, 0, none⟩ (.int .i64 C)).setCell ⟨w5.heap.size + 1, 1, none⟩ (.int .i64 V)) u2 ⟨d.n, d.zs, d.s, d.q⟩ := (HG5.out.ss (u2, (⟨d.n, d.zs, d.s, d.q⟩ : LD)) (by simp)).below hb7
      have G7 := HG5.out.below hb7
      have HXY : Hid (_ ∧ _ ∧ _ ∧ _ ∧ _ ∧ _) := ⟨hb7, X7, Y7, S7, U7, G7⟩
      obtain ⟨t0, t1, t2⟩ := X6.cells
      obtain ⟨h0, h1, h2⟩ := X6.frees
      have y0 := Y6.c0
      have y1 := Y6.c1
      have z0 := Y6.f 0
      have z1 := Y6.f 1
      have G6 := HG5.out.below b6
      clear bs0 bs1 bs2 bo0 bo1 bo2 bx0 bx1 bx2 br0 br1
      have bx0 := G6.bx (w2.heap.size, [u2.m (⟨d.n, d.zs, d.s, d.q⟩ : LD), u2.s (⟨d.n, d.zs, d.s, d.q⟩ : LD), u2.q (⟨d.n, d.zs, d.s, d.q⟩ : LD)]) (by simp) 0 _ rfl
      have bx1 := G6.bx (w2.heap.size, [u2.m (⟨d.n, d.zs, d.s, d.q⟩ : LD), u2.s (⟨d.n, d.zs, d.s, d.q⟩ : LD), u2.q (⟨d.n, d.zs, d.s, d.q⟩ : LD)]) (by simp) 1 _ rfl
      have bx2 := G6.bx (w2.heap.size, [u2.m (⟨d.n, d.zs, d.s, d.q⟩ : LD), u2.s (⟨d.n, d.zs, d.s, d.q⟩ : LD), u2.q (⟨d.n, d.zs, d.s, d.q⟩ : LD)]) (by simp) 2 _ rfl
      have q1 : w2.heap.size ≠ w5.heap.size := by omega
      have q2 : w2.heap.size ≠ w5.heap.size + 1 := by omega
      have q3 : w5.heap.size ≠ w2.heap.size := by omega
      have q4 : w5.heap.size + 1 ≠ w2.heap.size := by omega
      clear hb7 X7 Y7 S7 U7 G7 X6 Y6 G6 b6 hb6
      go_wp2_with fail
      refine (tgState_yes u2 ⟨v.ma, v.mc, v.sa, v.sc, v.qa, v.qc⟩ ⟨d.n, d.zs, d.s, d.q⟩ _ HXY.out.2.2.2.2.1 HXY.out.2.2.2.1 HFD.out).mono ?_
      rintro e w8 ⟨rfl, hb8⟩
      have G8 := HXY.out.2.2.2.2.2.below hb8
      have Y8 := HXY.out.2.2.1.below hb8
      have c0 := Y8.c0
      have c1 := Y8.c1
      have kr0 := G8.bx (w2.heap.size + 1, [.int .i64 C, .int .i64 V]) (by simp) 0 _ rfl
      have kr1 := G8.bx (w2.heap.size + 1, [.int .i64 C, .int .i64 V]) (by simp) 1 _ rfl
      have HB8 : Hid (Below w.heap.size w w8) := G8.bel
      clear HXY G8 Y8 hb8 t0 t1 t2 h0 h1 h2 y0 y1 z0 z1 q1 q2 q3 q4 bx0 bx1 bx2
      go_wp2
      go_ret
      exact ⟨rfl, HB8.out⟩
    · have e1 : aD 12 x y d = d := by simp only [aD, aN, aZ, aS, aQ, HOK.out, if_true]; rfl
      have e2 : aCd 12 x y d = firstC d.q := by simp only [aCd, aC, HOK.out, if_true]; rfl
      have e3 : aVd 12 x y d = firstV d.q := by simp only [aVd, aV, HOK.out, if_true]; rfl
      obtain ⟨f1, f2, f3⟩ := HD.out
      rw [e1] at f1
      rw [e2] at f2
      rw [e3] at f3
      clear e1 e2 e3 HD
      obtain ⟨N', Z', S', Q'⟩ := D
      rw [LD.mk.injEq] at f1
      obtain ⟨g1, g2, g3, g4⟩ := f1
      subst g1 g2 g3 g4
      have nx : w2.heap.size + 1 < w5.heap.size := World.block_lt_of_cell? w5 ⟨w2.heap.size + 1, 0, none⟩ (HG5.out.bx (w2.heap.size + 1, [.int .i64 C, .int .i64 V]) (by simp) 0 _ rfl)
      have no : w1.heap.size + 1 < w5.heap.size := World.block_lt_of_cell? w5 ⟨w1.heap.size + 1, 0, none⟩ (HG5.out.bx (w1.heap.size + 1, [.int .i64 12, .int .i64 x, .int .i64 y]) (by simp) 0 _ rfl)
      have nx1 : w2.heap.size + 1 < w5.heap.size + 1 := by omega
      have no1 : w1.heap.size + 1 < w5.heap.size + 1 := by omega
      have ny : w2.heap.size < w5.heap.size := by omega
      have ny1 : w2.heap.size < w5.heap.size + 1 := by omega
      have ns : w1.heap.size < w5.heap.size := by omega
      have ns1 : w1.heap.size < w5.heap.size + 1 := by omega
      go_wp2_with fail
      refine (implListFirst_any _ _ _ d.q _ ((g_at HG5.out (v := v) (d := d) (by simp)).below (below_trans' (al1 w5 (.cells #[v.m d, v.s d, v.q d] 35)) (al1 _ (.cells #[.int .i64 2, .int .i64 0] 37)))).q (by have := HR.out.2.2.q; omega)).mono ?_
      rw [f2, f3]
      rintro e w6 ⟨rfl, hb6⟩
      have X6 := (b3_new w5 (v.m d) (v.s d) (v.q d) 35 rfl).below (below_trans' (al1 _ (.cells #[.int .i64 2, .int .i64 0] 37)) hb6)
      have Y6 := (b2_new (w5.alloc (.cells #[v.m d, v.s d, v.q d] 35)) (.int .i64 2) (.int .i64 0) 37 (b := w5.heap.size + 1) (by simp)).below hb6
      have m0 : w5.heap.size + 2 ≤ w6.heap.size := by have := hb6.size; simpa using this
      have b6 : Below w5.heap.size w5 w6 := below_trans' (below_trans' (al1 w5 (.cells #[v.m d, v.s d, v.q d] 35)) (al1 _ (.cells #[.int .i64 2, .int .i64 0] 37))) hb6
      have hb7 : Below w5.heap.size w5 ((w6.setCell ⟨w5.heap.size + 1, 0, none⟩ (.int .i64 C)).setCell ⟨w5.heap.size + 1, 1, none⟩ (.int .i64 V)) := (b6.setCell (p := ⟨w5.heap.size + 1, 0, none⟩) (by show w5.heap.size ≤ w5.heap.size + 1; omega) _).setCell (p := ⟨w5.heap.size + 1, 1, none⟩) (by show w5.heap.size ≤ w5.heap.size + 1; omega) _
      have X7 : B3 ((w6.setCell ⟨w5.heap.size + 1, 0, none⟩ (.int .i64 C)).setCell ⟨w5.heap.size + 1, 1, none⟩ (.int .i64 V)) w5.heap.size (v.m d) (v.s d) (v.q d) := (X6.far (by omega)).far (by omega)
      have Y7 : B2 ((w6.setCell ⟨w5.heap.size + 1, 0, none⟩ (.int .i64 C)).setCell ⟨w5.heap.size + 1, 1, none⟩ (.int .i64 V)) (w5.heap.size + 1) (.int .i64 C) (.int .i64 V) := Y6.set0.set1
      have S7 : SS ((w6.setCell ⟨w5.heap.size + 1, 0, none⟩ (.int .i64 C)).setCell ⟨w5.heap.size + 1, 1, none⟩ (.int .i64 V)) ⟨v.ma, v.mc, v.sa, v.sc, v.qa, v.qc⟩ ⟨d.n, d.zs, d.s, d.q⟩ := (g_at HG5.out (v := v) (d := d) (by simp)).below hb7
      have U7 : SS ((w6.setCell ⟨w5.heap.size + 1, 0, none⟩ (.int .i64 C)).setCell ⟨w5.heap.size + 1, 1, none⟩ (.int .i64 V)) u2 ⟨d.n, d.zs, d.s, d.q⟩ := (HG5.out.ss (u2, (⟨d.n, d.zs, d.s, d.q⟩ : LD)) (by simp)).below hb7
      have G7 := HG5.out.below hb7
      have HXY : Hid (_ ∧ _ ∧ _ ∧ _ ∧ _ ∧ _) := ⟨hb7, X7, Y7, S7, U7, G7⟩
      obtain ⟨t0, t1, t2⟩ := X6.cells
      obtain ⟨h0, h1, h2⟩ := X6.frees
      have y0 := Y6.c0
      have y1 := Y6.c1
      have z0 := Y6.f 0
      have z1 := Y6.f 1
      have G6 := HG5.out.below b6
      clear bs0 bs1 bs2 bo0 bo1 bo2 bx0 bx1 bx2 br0 br1
      have bx0 := G6.bx (w2.heap.size, [u2.m (⟨d.n, d.zs, d.s, d.q⟩ : LD), u2.s (⟨d.n, d.zs, d.s, d.q⟩ : LD), u2.q (⟨d.n, d.zs, d.s, d.q⟩ : LD)]) (by simp) 0 _ rfl
      have bx1 := G6.bx (w2.heap.size, [u2.m (⟨d.n, d.zs, d.s, d.q⟩ : LD), u2.s (⟨d.n, d.zs, d.s, d.q⟩ : LD), u2.q (⟨d.n, d.zs, d.s, d.q⟩ : LD)]) (by simp) 1 _ rfl
      have bx2 := G6.bx (w2.heap.size, [u2.m (⟨d.n, d.zs, d.s, d.q⟩ : LD), u2.s (⟨d.n, d.zs, d.s, d.q⟩ : LD), u2.q (⟨d.n, d.zs, d.s, d.q⟩ : LD)]) (by simp) 2 _ rfl
      have q1 : w2.heap.size ≠ w5.heap.size := by omega
      have q2 : w2.heap.size ≠ w5.heap.size + 1 := by omega
      have q3 : w5.heap.size ≠ w2.heap.size := by omega
      have q4 : w5.heap.size + 1 ≠ w2.heap.size := by omega
      clear hb7 X7 Y7 S7 U7 G7 X6 Y6 G6 b6 hb6
      go_wp2_with fail
      refine (tgState_yes u2 ⟨v.ma, v.mc, v.sa, v.sc, v.qa, v.qc⟩ ⟨d.n, d.zs, d.s, d.q⟩ _ HXY.out.2.2.2.2.1 HXY.out.2.2.2.1 HFD.out).mono ?_
      rintro e w8 ⟨rfl, hb8⟩
      have G8 := HXY.out.2.2.2.2.2.below hb8
      have Y8 := HXY.out.2.2.1.below hb8
      have c0 := Y8.c0
      have c1 := Y8.c1
      have kr0 := G8.bx (w2.heap.size + 1, [.int .i64 C, .int .i64 V]) (by simp) 0 _ rfl
      have kr1 := G8.bx (w2.heap.size + 1, [.int .i64 C, .int .i64 V]) (by simp) 1 _ rfl
      have HB8 : Hid (Below w.heap.size w w8) := G8.bel
      clear HXY G8 Y8 hb8 t0 t1 t2 h0 h1 h2 y0 y1 z0 z1 q1 q2 q3 q4 bx0 bx1 bx2
      go_wp2
      go_ret
      exact ⟨rfl, HB8.out⟩
  · clear hs ht
    go_enter Tryd.func4, Tryd.ntmps4
    go_wp2
    go_ret
    exact ⟨rfl, Below.refl _ _⟩

end Go.Proofs.YtklpdpdjblakgaaDoor
