/- The program's PolOk, whole. -/
import Derived.Test.YtcffoehldohooaaPokI
namespace Go.Proofs.Ytcffoehldohooaa
open Go.RowKit
set_option linter.unusedVariables false

theorem outL_places {E : Int} {oss : List (List Od)} (h : oss.all (fun os => os.all (okOld E)) = true) : placesB (outL oss) := by
  intro i hi
  have hm : (outL oss).getD i 0 ∈ outL oss := by
    have e : (outL oss).getD i 0 = (outL oss)[i] := by simp [List.getD, hi]
    rw [e]
    exact List.getElem_mem hi
  obtain ⟨os, h1, h2⟩ := List.mem_flatMap.1 hm
  obtain ⟨o, h3, h4⟩ := List.mem_map.1 h2
  have h5 := List.all_eq_true.1 (List.all_eq_true.1 h os h1) o h3
  rw [← h4]
  simp [okOld, inR] at h5
  exact ⟨h5.1.1, h5.1.2⟩

set_option maxHeartbeats 1000000 in
theorem implPolOk_bad (E : Int) (pa : Option Addr) (np pc : Nat) (la : Option Addr) (nl lc : Nat) (w : World) (hp : np ≤ 1048576) (hl : nl ≤ 1048576) (h : okP1 E np nl = false) :
    Calls Try.prog 25 #[.agg #[.int .i64 E, .slice pa np pc, .slice la nl lc]] w fun e w' => e = .returned (.bool false) ∧ Below w.heap.size w w' := by
  have A := al1 w (.cells #[.int .i64 E, .slice pa np pc, .slice la nl lc] 38)
  cases hE : inR E 0 100000
  · go_enter Try.func25, Try.ntmps25
    go_wp2_with (go_at_call 29; refine (withinR_any _ _ _).mono ?_; rintro e w' ⟨rfl, rfl⟩; rw [hE])
    go_ret
    exact ⟨rfl, A⟩
  · by_cases h1 : np = 3
    · have h2 : ¬ nl = 3 := fun h2 => by simp [okP1, hE, h1, h2] at h
      have h2' : ¬ (nl : Int) = 3 := by omega
      subst h1
      go_enter Try.func25, Try.ntmps25
      go_wp2_with (go_at_call 29; refine (withinR_any _ _ _).mono ?_; rintro e w' ⟨rfl, rfl⟩; rw [hE])
      go_ret
      exact ⟨rfl, A⟩
    · have h1' : ¬ (np : Int) = 3 := by omega
      go_enter Try.func25, Try.ntmps25
      go_wp2_with (go_at_call 29; refine (withinR_any _ _ _).mono ?_; rintro e w' ⟨rfl, rfl⟩; rw [hE])
      go_ret
      exact ⟨rfl, A⟩

set_option maxHeartbeats 4000000 in
theorem implPolOk_ok (E : Int) (pa : Option Addr) (pc : Nat) (la : Option Addr) (lc : Nat) (ps : List Int) (oss : List (List Od)) (w : World) (hp : SInts w pa 3 ps) (hs : SLimbo w la 3 oss) (hE : inR E 0 100000 = true) (h3 : sumL oss ≤ 1048576) :
    Calls Try.prog 25 #[.agg #[.int .i64 E, .slice pa 3 pc, .slice la 3 lc]] w fun e w' => e = .returned (.bool (okP2 E ps oss)) ∧ Below w.heap.size w w' := by
  have A := al1 w (.cells #[.int .i64 E, .slice pa 3 pc, .slice la 3 lc] 38)
  have bx := boxP_new w E pa 3 pc la 3 lc 38 rfl
  have hEb : 0 ≤ E ∧ E ≤ 100000 := by simpa [inR] using hE
  have HS : Hid (SLimbo w la 3 oss ∧ SInts w pa 3 ps ∧ sumL oss ≤ 1048576) := ⟨hs, hp, h3⟩
  clear hs hp h3
  cases hP : ps.all (fun p => inR p 0 (E + 1))
  · have e : okP2 E ps oss = false := by simp [okP2, hP]
    rw [e]
    go_enter Try.func25, Try.ntmps25
    go_wp2_with (go_at_call 29; refine (withinR_any _ _ _).mono ?_; rintro e w' ⟨rfl, rfl⟩; rw [hE])
    refine (pinsInBounds_any _ _ _ _ _ _ _ ps _ (HS.out.2.1.below A) (by omega) hEb).mono ?_
    rintro e w1 ⟨rfl, hb1⟩
    rw [hP]
    have hB := below_trans' A hb1
    clear A hb1 bx
    go_wp2
    go_ret
    exact ⟨rfl, hB⟩
  cases hO : oss.all (fun os => os.all (okOld E))
  · have e : okP2 E ps oss = false := by simp [okP2, hO]
    rw [e]
    go_enter Try.func25, Try.ntmps25
    go_wp2_with (go_at_call 29; refine (withinR_any _ _ _).mono ?_; rintro e w' ⟨rfl, rfl⟩; rw [hE])
    refine (pinsInBounds_any _ _ _ _ _ _ _ ps _ (HS.out.2.1.below A) (by omega) hEb).mono ?_
    rintro e w1 ⟨rfl, hb1⟩
    rw [hP]
    have hB := below_trans' A hb1
    have bx1 := bx.below hb1
    have p0 := bx1.c0
    have p1 := bx1.c1
    have p2 := bx1.c2
    clear A hb1 bx bx1
    go_wp2_with fail
    refine (outInBounds_any _ _ _ _ _ _ _ oss _ (HS.out.1.below hB) (by omega) HS.out.2.2).mono ?_
    rintro e w2 ⟨rfl, hb2⟩
    rw [hO]
    have hB2 := below_trans' hB hb2
    clear hB hb2 p0 p1 p2
    go_wp2
    go_ret
    exact ⟨rfl, hB2⟩
  · have e : okP2 E ps oss = decide (outL oss).Nodup := by simp [okP2, hP, hO]
    rw [e]
    obtain ⟨m, hm⟩ : ∃ m, (outL oss).length = m := ⟨_, rfl⟩
    have HM : Hid ((outL oss).length = m ∧ m ≤ 1048576 ∧ placesB (outL oss)) := ⟨hm, by rw [← hm, outL_len]; exact HS.out.2.2, outL_places hO⟩
    clear hm
    go_enter Try.func25, Try.ntmps25
    go_wp2_with (go_at_call 29; refine (withinR_any _ _ _).mono ?_; rintro e w' ⟨rfl, rfl⟩; rw [hE])
    refine (pinsInBounds_any _ _ _ _ _ _ _ ps _ (HS.out.2.1.below A) (by omega) hEb).mono ?_
    rintro e w1 ⟨rfl, hb1⟩
    rw [hP]
    have hB := below_trans' A hb1
    have bx1 := bx.below hb1
    have p0 := bx1.c0
    have p1 := bx1.c1
    have p2 := bx1.c2
    clear A hb1 bx
    go_wp2_with fail
    refine (outInBounds_any _ _ _ _ _ _ _ oss _ (HS.out.1.below hB) (by omega) HS.out.2.2).mono ?_
    rintro e w2 ⟨rfl, hb2⟩
    rw [hO]
    have hB2 := below_trans' hB hb2
    have bx2 := bx1.below hb2
    clear hB hb2 p0 p1 p2 bx1
    have p0 := bx2.c0
    have p1 := bx2.c1
    have p2 := bx2.c2
    go_wp2_with fail
    refine (implPolOut_any _ _ _ _ _ _ _ oss _ (HS.out.1.below hB2) (by omega) HS.out.2.2).mono ?_
    rintro e w3 ⟨a3, c3, rfl, ho3, hb3⟩
    rw [HM.out.1] at ho3 ⊢
    have hB3 := below_trans' hB2 hb3
    have HO3 : Hid (SInts w3 a3 m (outL oss)) := own_sints ho3
    clear hB2 hb3 p0 p1 p2 bx2 ho3
    go_wp2_with fail
    refine (noneTwice_any _ _ _ (outL oss) _ HO3.out HM.out.2.1 HM.out.2.2).mono ?_
    rintro e w4 ⟨rfl, hb4⟩
    have hB4 := below_trans' hB3 hb4
    clear hB3 hb4
    obtain ⟨v, hv⟩ : ∃ v, decide (outL oss).Nodup = v := ⟨_, rfl⟩
    rw [hv]
    go_wp2
    go_ret
    exact ⟨ret_bool hv.symm, hB4⟩

theorem implPolOk_any (E : Int) (pa : Option Addr) (np pc : Nat) (la : Option Addr) (nl lc : Nat) (ps : List Int) (oss : List (List Od)) (w : World) (hp : SInts w pa np ps) (hs : SLimbo w la nl oss) (h1 : np ≤ 1048576) (h2 : nl ≤ 1048576) (h3 : sumL oss ≤ 1048576) :
    Calls Try.prog 25 #[.agg #[.int .i64 E, .slice pa np pc, .slice la nl lc]] w fun e w' => e = .returned (.bool (okP E ps oss)) ∧ Below w.heap.size w w' := by
  have e1 := hp.1
  have e2 := hs.1
  cases h : okP1 E np nl
  · have e : okP E ps oss = false := by simp [okP, e1, e2, h]
    rw [e]
    exact implPolOk_bad E pa np pc la nl lc w h1 h2 h
  · have e : okP E ps oss = okP2 E ps oss := by simp [okP, e1, e2, h]
    rw [e]
    simp only [okP1, Bool.and_eq_true, decide_eq_true_eq] at h
    obtain ⟨hE, rfl, rfl⟩ := h
    exact implPolOk_ok E pa pc la lc ps oss w hp hs hE h3

end Go.Proofs.Ytcffoehldohooaa
