/- The program's ArnOk. -/
import Derived.Test.YtcffoehldohooaaConcat2
import Derived.Test.YtcffoehldohooaaPathI
import Derived.Deep.RegionHeldLaw
namespace Go.Proofs.Ytcffoehldohooaa
open Go.RowKit
set_option linter.unusedVariables false

theorem placesB_mem {zs : List Int} (h : placesB zs) {z : Int} (hz : z ∈ zs) : 1 ≤ z ∧ z ≤ 9 := by
  obtain ⟨i, hi, rfl⟩ := List.mem_iff_getElem.1 hz
  have := h i hi
  simpa [List.getD, hi] using this

theorem concat3_any (g : Nat) (a1 a2 a3 : Option Addr) (n1 n2 n3 c1 c2 c3 : Nat) (l1 l2 l3 : List Int) (w : World) (h1 : w.cell? ⟨g, 0, none⟩ = some (.slice a1 n1 c1)) (h2 : w.cell? ⟨g, 1, none⟩ = some (.slice a2 n2 c2)) (h3 : w.cell? ⟨g, 2, none⟩ = some (.slice a3 n3 c3))
    (s1 : SInts w a1 n1 l1) (s2 : SInts w a2 n2 l2) (s3 : SInts w a3 n3 l3) (b1 : n1 ≤ 9) (b2 : n2 ≤ 9) (b3 : n3 ≤ 9) :
    Calls Try.prog 39 #[.slice (some ⟨g, 0, none⟩) 3 3] w fun e w' => ∃ a' c', e = .returned (.slice a' (n1 + n2 + n3) c') ∧ SInts w' a' (n1 + n2 + n3) (l1 ++ l2 ++ l3) ∧ Below w.heap.size w w' := by
  refine (concat_any g (fun k => match k with | 0 => a1 | 1 => a2 | _ => a3) (fun k => match k with | 0 => n1 | 1 => n2 | _ => n3) (fun k => match k with | 0 => c1 | 1 => c2 | _ => c3) (fun k => match k with | 0 => l1 | 1 => l2 | _ => l3) w ?_ ?_ ?_).mono ?_
  · intro k hk
    match k, hk with
    | 0, _ => exact h1
    | 1, _ => exact h2
    | 2, _ => exact h3
  · intro k hk
    match k, hk with
    | 0, _ => exact s1
    | 1, _ => exact s2
    | 2, _ => exact s3
  · intro k hk
    match k, hk with
    | 0, _ => exact b1
    | 1, _ => exact b2
    | 2, _ => exact b3
  · rintro e w' ⟨a', c', rfl, ho, hb⟩
    simp only [sumTo, catTo, Nat.zero_add, List.nil_append] at ho ⊢
    exact ⟨a', c', rfl, own_sints ho, hb⟩

set_option maxRecDepth 20000 in
set_option maxHeartbeats 4000000 in
theorem implArnOk_ok (b off cap : Nat) (ns : List Nd) (t f l : Int) (w : World) (hs : SNodes w (some ⟨b, off, none⟩) 10 ns) (hsh : shapeB ns t f l = true) (C S Q : List Int) (eC : pathOf begC ns t f l = C) (eS : pathOf begS ns t f l = S) (eQ : pathOf begQ ns t f l = Q) :
    Calls Try.prog 20 #[.agg #[.slice (some ⟨b, off, none⟩) 10 cap, .int .i64 t, .int .i64 f, .int .i64 l]] w fun e w' => e = .returned (.bool (okI3 ns l C S Q)) ∧ Below w.heap.size w w' := by
  obtain ⟨_, _, _, h4, h5, _⟩ := shapeB_parts hsh
  have HP : Hid ((placesB C ∧ C.length ≤ 9) ∧ (placesB S ∧ S.length ≤ 9) ∧ (placesB Q ∧ Q.length ≤ 9)) := ⟨eC ▸ path_places (begC_in ns t f l), eS ▸ path_places (p := begS) h4, eQ ▸ path_places (p := begQ) (inP_inB h5)⟩
  have hc0 := implArnChain_any (some ⟨b, off, none⟩) 10 cap ns t f l
  have hst0 := implArnStacked_any (some ⟨b, off, none⟩) 10 cap ns t f l
  have hq0 := implArnQueued_any (some ⟨b, off, none⟩) 10 cap ns t f l
  rw [eC] at hc0
  rw [eS] at hst0
  rw [eQ] at hq0
  obtain ⟨nC, lC⟩ : ∃ n, C.length = n := ⟨_, rfl⟩
  obtain ⟨nS, lS⟩ : ∃ n, S.length = n := ⟨_, rfl⟩
  obtain ⟨nQ, lQ⟩ : ∃ n, Q.length = n := ⟨_, rfl⟩
  have HL : Hid ((C.length = nC ∧ S.length = nS ∧ Q.length = nQ) ∧ nC ≤ 9 ∧ nS ≤ 9 ∧ nQ ≤ 9) := ⟨⟨lC, lS, lQ⟩, lC ▸ HP.out.1.2, lS ▸ HP.out.2.1.2, lQ ▸ HP.out.2.2.2⟩
  have HPA : Hid (placesB (C ++ S ++ Q)) := placesB_of (fun z hz => by
    rcases List.mem_append.1 hz with hz | hz
    · rcases List.mem_append.1 hz with hz | hz
      · exact placesB_mem HP.out.1.1 hz
      · exact placesB_mem HP.out.2.1.1 hz
    · exact placesB_mem HP.out.2.2.1 hz)
  have hc : Hid (∀ W, SNodes W (some ⟨b, off, none⟩) 10 ns → Calls Try.prog 21 #[.agg #[.slice (some ⟨b, off, none⟩) 10 cap, .int .i64 t, .int .i64 f, .int .i64 l]] W fun e w' => ∃ a c, e = .returned (.slice a nC c) ∧ SInts w' a nC C ∧ Below W.heap.size W w') := fun W h => (hc0 W h (by omega)).mono (by rintro e w' ⟨a, c, rfl, ho, hb⟩; rw [lC] at ho ⊢; exact ⟨a, c, rfl, own_sints ho, hb⟩)
  have hst : Hid (∀ W, SNodes W (some ⟨b, off, none⟩) 10 ns → Calls Try.prog 36 #[.agg #[.slice (some ⟨b, off, none⟩) 10 cap, .int .i64 t, .int .i64 f, .int .i64 l]] W fun e w' => ∃ a c, e = .returned (.slice a nS c) ∧ SInts w' a nS S ∧ Below W.heap.size W w') := fun W h => (hst0 W h (by omega)).mono (by rintro e w' ⟨a, c, rfl, ho, hb⟩; rw [lS] at ho ⊢; exact ⟨a, c, rfl, own_sints ho, hb⟩)
  have hq : Hid (∀ W, SNodes W (some ⟨b, off, none⟩) 10 ns → Calls Try.prog 37 #[.agg #[.slice (some ⟨b, off, none⟩) 10 cap, .int .i64 t, .int .i64 f, .int .i64 l]] W fun e w' => ∃ a c, e = .returned (.slice a nQ c) ∧ SInts w' a nQ Q ∧ Below W.heap.size W w') := fun W h => (hq0 W h (by omega)).mono (by rintro e w' ⟨a, c, rfl, ho, hb⟩; rw [lQ] at ho ⊢; exact ⟨a, c, rfl, own_sints ho, hb⟩)
  have A := al1 w (.cells #[.slice (some ⟨b, off, none⟩) 10 cap, .int .i64 t, .int .i64 f, .int .i64 l] 33)
  have bx := boxA_new w (some ⟨b, off, none⟩) 10 cap t f l 33 rfl
  clear hc0 hst0 hq0 h4 h5 eC eS eQ lC lS lQ
  go_enter Try.func20, Try.ntmps20
  go_wp2_with fail
  refine (shaped_any _ _ _ ns t f l _ (hs.below A) (by omega)).mono ?_
  rintro e w1 ⟨rfl, hb1⟩
  rw [hsh]
  have HX : Hid (BoxA w1 w.heap.size (some ⟨b, off, none⟩) 10 cap t f l ∧ SNodes w1 (some ⟨b, off, none⟩) 10 ns ∧ Below w.heap.size w w1) := ⟨bx.below hb1, hs.below (below_trans' A hb1), below_trans' A hb1⟩
  clear hb1 bx A hsh hs
  obtain ⟨p0, p1, p2, p3⟩ := HX.out.1.cells
  go_wp2
  have HB0 : Hid (Below w1.heap.size w1 w1.drew) := (Below.refl _ _).drew
  go_region_held_law (fun w' => w'.cell? ⟨w.heap.size, 0, none⟩ = some (.slice (some ⟨b, off, none⟩) 10 cap) ∧ w'.cell? ⟨w.heap.size, 1, none⟩ = some (.int .i64 t) ∧ w'.cell? ⟨w.heap.size, 2, none⟩ = some (.int .i64 f) ∧ w'.cell? ⟨w.heap.size, 3, none⟩ = some (.int .i64 l)) (first | (go_keep; done) | exact KP.out)
    ((first
      | (go_at_call 21; refine (hc.out _ (HX.out.2.1.below HB0.out)).mono ?_; rintro e w2 ⟨aC, cC, rfl, sC, hb2⟩; have HC : Hid (SInts w2 aC nC C) := sC; have HB2 : Hid (Below w1.heap.size w1 w2) := below_trans' HB0.out hb2; have KP : Hid (w2.cell? ⟨w.heap.size, 0, none⟩ = some (.slice (some ⟨b, off, none⟩) 10 cap) ∧ w2.cell? ⟨w.heap.size, 1, none⟩ = some (.int .i64 t) ∧ w2.cell? ⟨w.heap.size, 2, none⟩ = some (.int .i64 f) ∧ w2.cell? ⟨w.heap.size, 3, none⟩ = some (.int .i64 l)) := (HX.out.1.below HB2.out).cells; clear sC hb2)
      | (go_at_call 36; refine (hst.out _ (HX.out.2.1.below HB2.out)).mono ?_; rintro e w3 ⟨aS, cS, rfl, sS, hb3⟩; have HS3 : Hid (SInts w3 aS nS S ∧ SInts w3 aC nC C) := ⟨sS, HC.out.below hb3⟩; have HB3 : Hid (Below w1.heap.size w1 w3) := below_trans' HB2.out hb3; have KP : Hid (w3.cell? ⟨w.heap.size, 0, none⟩ = some (.slice (some ⟨b, off, none⟩) 10 cap) ∧ w3.cell? ⟨w.heap.size, 1, none⟩ = some (.int .i64 t) ∧ w3.cell? ⟨w.heap.size, 2, none⟩ = some (.int .i64 f) ∧ w3.cell? ⟨w.heap.size, 3, none⟩ = some (.int .i64 l)) := (HX.out.1.below HB3.out).cells; clear sS hb3)
      | (go_at_call 37; refine (hq.out _ (HX.out.2.1.below HB3.out)).mono ?_; rintro e W ⟨aQ, cQ, rfl, sQ, hb4⟩; have HQ4 : Hid (SInts W aQ nQ Q ∧ SInts W aS nS S ∧ SInts W aC nC C) := ⟨sQ, HS3.out.1.below hb4, HS3.out.2.below hb4⟩; have HB4 : Hid (Below w1.heap.size w1 W) := below_trans' HB3.out hb4; have KP : Hid (W.cell? ⟨w.heap.size, 0, none⟩ = some (.slice (some ⟨b, off, none⟩) 10 cap) ∧ W.cell? ⟨w.heap.size, 1, none⟩ = some (.int .i64 t) ∧ W.cell? ⟨w.heap.size, 2, none⟩ = some (.int .i64 f) ∧ W.cell? ⟨w.heap.size, 3, none⟩ = some (.int .i64 l)) := (HX.out.1.below HB4.out).cells; clear sQ hb4)))
  have HY : Hid (BoxA W w.heap.size (some ⟨b, off, none⟩) 10 cap t f l ∧ SNodes W (some ⟨b, off, none⟩) 10 ns ∧ SInts W aC nC C ∧ SInts W aS nS S ∧ SInts W aQ nQ Q ∧ Below w.heap.size w W) := ⟨HX.out.1.below HB4.out, HX.out.2.1.below HB4.out, HQ4.out.2.2, HQ4.out.2.1, HQ4.out.1, below_trans' HX.out.2.2 HB4.out⟩
  clear HX HB0 HB2 HB3 HB4 HC HS3 HQ4 hc hst hq p0 p1 p2 p3
  obtain ⟨p0, p1, p2, p3⟩ := HY.out.1.cells
  have HB : Hid (Below W.heap.size W W) := Below.refl _ _
  go_wp2_with fail
  refine (endI_any b off cap ns t f l aC nC cC C _ (HY.out.2.1.below HB.out) (HY.out.2.2.1.below HB.out) (by have := HL.out; omega) HP.out.1.1).mono ?_
  rintro e v10 ⟨rfl, hb⟩
  have HB' : Hid (Below W.heap.size W v10) := below_trans' HB.out hb
  clear HB hb p0 p1 p2 p3
  have HB := HB'
  clear HB'
  obtain ⟨p0, p1, p2, p3⟩ := (HY.out.1.below HB.out).cells
  cases e1 : endB ns C
  · go_wp2
    go_ret
    exact ⟨ret_bool (by simp [okI3, e1]), below_trans' HY.out.2.2.2.2.2 HB.out⟩
  have E1 : Hid (endB ns C = true) := e1
  clear e1
  go_wp2_with fail
  refine (endI_any b off cap ns t f l aS nS cS S _ (HY.out.2.1.below HB.out) (HY.out.2.2.2.1.below HB.out) (by have := HL.out; omega) HP.out.2.1.1).mono ?_
  rintro e v11 ⟨rfl, hb⟩
  have HB' : Hid (Below W.heap.size W v11) := below_trans' HB.out hb
  clear HB hb p0 p1 p2 p3
  have HB := HB'
  clear HB'
  obtain ⟨p0, p1, p2, p3⟩ := (HY.out.1.below HB.out).cells
  cases e2 : endB ns S
  · go_wp2
    go_ret
    exact ⟨ret_bool (by simp [okI3, E1.out, e2]), below_trans' HY.out.2.2.2.2.2 HB.out⟩
  have E2 : Hid (endB ns S = true) := e2
  clear e2
  go_wp2_with fail
  refine (endI_any b off cap ns t f l aQ nQ cQ Q _ (HY.out.2.1.below HB.out) (HY.out.2.2.2.2.1.below HB.out) (by have := HL.out; omega) HP.out.2.2.1).mono ?_
  rintro e v12 ⟨rfl, hb⟩
  have HB' : Hid (Below W.heap.size W v12) := below_trans' HB.out hb
  clear HB hb p0 p1 p2 p3
  have HB := HB'
  clear HB'
  obtain ⟨p0, p1, p2, p3⟩ := (HY.out.1.below HB.out).cells
  cases e3 : endB ns Q
  · go_wp2
    go_ret
    exact ⟨ret_bool (by simp [okI3, E1.out, E2.out, e3]), below_trans' HY.out.2.2.2.2.2 HB.out⟩
  have E3 : Hid (endB ns Q = true) := e3
  clear e3
  have HBA : Hid (Below W.heap.size W (v12.alloc (.cells #[.slice aC nC cC, .slice aS nS cS, .slice aQ nQ cQ] 35))) := below_trans' HB.out (al1 _ _)
  go_wp2_with fail
  refine (concat3_any v12.heap.size aC aS aQ nC nS nQ cC cS cQ C S Q _ (by simp) (by simp) (by simp) (HY.out.2.2.1.below HBA.out) (HY.out.2.2.2.1.below HBA.out) (HY.out.2.2.2.2.1.below HBA.out) (by have := HL.out; omega) (by have := HL.out; omega) (by have := HL.out; omega)).mono ?_
  rintro e u1 ⟨aA, cA, rfl, sA, hb⟩
  have HB' : Hid (Below W.heap.size W u1) := below_trans' HBA.out hb
  have HA : Hid (SInts u1 aA (nC + nS + nQ) (C ++ S ++ Q)) := sA
  clear HB HBA hb sA p0 p1 p2 p3
  have HB := HB'
  clear HB'
  obtain ⟨p0, p1, p2, p3⟩ := (HY.out.1.below HB.out).cells
  go_wp2_with fail
  refine (allUsed_any b off cap ns t f l aA (nC + nS + nQ) cA (C ++ S ++ Q) _ (HY.out.2.1.below HB.out) HA.out (by have := HL.out; omega) HPA.out).mono ?_
  rintro e v13 ⟨rfl, hb⟩
  have HA2 := HA.out.below hb
  have HB' : Hid (Below W.heap.size W v13) := below_trans' HB.out hb
  clear HB hb p0 p1 p2 p3
  have HB := HB'
  clear HB'
  obtain ⟨p0, p1, p2, p3⟩ := (HY.out.1.below HB.out).cells
  clear HA
  have HA : Hid (SInts v13 aA (nC + nS + nQ) (C ++ S ++ Q)) := HA2
  clear HA2
  cases e4 : inUseB ns (C ++ S ++ Q)
  · go_wp2
    go_ret
    exact ⟨ret_bool (by simp only [okI3, E1.out, E2.out, E3.out, e4, Bool.true_and, Bool.false_and]), below_trans' HY.out.2.2.2.2.2 HB.out⟩
  have E4 : Hid (inUseB ns (C ++ S ++ Q) = true) := e4
  clear e4
  go_wp2_with fail
  refine (noneTwice_any aA (nC + nS + nQ) cA (C ++ S ++ Q) _ HA.out (by have := HL.out; omega) HPA.out).mono ?_
  rintro e v14 ⟨rfl, hb⟩
  have HB' : Hid (Below W.heap.size W v14) := below_trans' HB.out hb
  clear HB hb p0 p1 p2 p3
  have HB := HB'
  clear HB'
  obtain ⟨p0, p1, p2, p3⟩ := (HY.out.1.below HB.out).cells
  cases e5 : decide (C ++ S ++ Q).Nodup
  · go_wp2
    go_ret
    exact ⟨ret_bool (by simp only [okI3, E1.out, E2.out, E3.out, E4.out, e5, Bool.true_and, Bool.false_and]), below_trans' HY.out.2.2.2.2.2 HB.out⟩
  have E5 : Hid (decide (C ++ S ++ Q).Nodup = true) := e5
  clear e5
  go_wp2_with fail
  refine (entries_any b off cap ns t f l aC nC cC C _ (HY.out.2.1.below HB.out) (HY.out.2.2.1.below HB.out) (by have := HL.out; omega) HP.out.1.1).mono ?_
  rintro e u2 ⟨aE, cE, rfl, oE, hb⟩
  have HE := own2_sints oE
  have HB' : Hid (Below W.heap.size W u2) := below_trans' HB.out hb
  clear HB hb p0 p1 p2 p3 oE HA
  have HB := HB'
  clear HB'
  obtain ⟨p0, p1, p2, p3⟩ := (HY.out.1.below HB.out).cells
  go_wp2_with fail
  refine (keysRise_places ns C aE nC cE _ HE HL.out.1.1 (by have := HL.out; omega)).mono ?_
  rintro e v15 ⟨rfl, hb⟩
  have HB' : Hid (Below W.heap.size W v15) := below_trans' HB.out hb
  clear HB hb HE p0 p1 p2 p3
  have HB := HB'
  clear HB'
  obtain ⟨p0, p1, p2, p3⟩ := (HY.out.1.below HB.out).cells
  cases e6 : riseB ns C
  · go_wp2
    go_ret
    exact ⟨ret_bool (by simp only [okI3, E1.out, E2.out, E3.out, E4.out, E5.out, e6, Bool.true_and, Bool.false_and]), below_trans' HY.out.2.2.2.2.2 HB.out⟩
  have E6 : Hid (riseB ns C = true) := e6
  clear e6
  go_wp2_with fail
  refine (noneMarked_any b off cap ns t f l aS nS cS S _ (HY.out.2.1.below HB.out) (HY.out.2.2.2.1.below HB.out) (by have := HL.out; omega) HP.out.2.1.1).mono ?_
  rintro e v16 ⟨rfl, hb⟩
  have HB' : Hid (Below W.heap.size W v16) := below_trans' HB.out hb
  clear HB hb p0 p1 p2 p3
  have HB := HB'
  clear HB'
  obtain ⟨p0, p1, p2, p3⟩ := (HY.out.1.below HB.out).cells
  cases e7 : bareB ns S
  · go_wp2
    go_ret
    exact ⟨ret_bool (by simp only [Bool.true_and, Bool.false_and, okI3, E1.out, E2.out, E3.out, E4.out, E5.out, E6.out, e7]), below_trans' HY.out.2.2.2.2.2 HB.out⟩
  have E7 : Hid (bareB ns S = true) := e7
  clear e7
  go_wp2_with fail
  refine (noneMarked_any b off cap ns t f l aQ nQ cQ Q _ (HY.out.2.1.below HB.out) (HY.out.2.2.2.2.1.below HB.out) (by have := HL.out; omega) HP.out.2.2.1).mono ?_
  rintro e v17 ⟨rfl, hb⟩
  have HB' : Hid (Below W.heap.size W v17) := below_trans' HB.out hb
  clear HB hb p0 p1 p2 p3
  have HB := HB'
  clear HB'
  obtain ⟨p0, p1, p2, p3⟩ := (HY.out.1.below HB.out).cells
  cases e8 : bareB ns Q
  · go_wp2
    go_ret
    exact ⟨ret_bool (by simp only [Bool.true_and, Bool.false_and, okI3, E1.out, E2.out, E3.out, E4.out, E5.out, E6.out, E7.out, e8]), below_trans' HY.out.2.2.2.2.2 HB.out⟩
  have E8 : Hid (bareB ns Q = true) := e8
  clear e8
  go_wp2_with fail
  refine (lastIsNear_any aQ nQ cQ Q l _ (HY.out.2.2.2.2.1.below HB.out) (by have := HL.out; omega)).mono ?_
  rintro e v18 ⟨rfl, hb⟩
  have HB' : Hid (Below W.heap.size W v18) := below_trans' HB.out hb
  clear HB hb p0 p1 p2 p3
  have HB := HB'
  clear HB'
  obtain ⟨p0, p1, p2, p3⟩ := (HY.out.1.below HB.out).cells
  go_wp2
  go_ret
  exact ⟨ret_bool (by simp only [okI3, E1.out, E2.out, E3.out, E4.out, E5.out, E6.out, E7.out, E8.out, Bool.true_and]), below_trans' HY.out.2.2.2.2.2 HB.out⟩

end Go.Proofs.Ytcffoehldohooaa
