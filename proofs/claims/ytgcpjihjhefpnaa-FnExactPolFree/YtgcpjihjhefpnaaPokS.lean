/- The specification's PolOk. -/
import Derived.Test.YtgcpjihjhefpnaaOutS
namespace Go.Proofs.Ytgcpjihjhefpnaa
open Go.RowKit
set_option linter.unusedVariables false

/-- A place that was taken out, no later than in an epoch. -/
def okOld (E : Int) (o : Od) : Bool := inR o.1 1 9 && inR o.2 0 E
/-- The first three conditions of a pool. -/
def okP1 (E : Int) (np nl : Nat) : Bool := inR E 0 100000 && (decide (np = 3) && decide (nl = 3))
/-- The others. -/
def okP2 (E : Int) (ps : List Int) (oss : List (List Od)) : Bool := ps.all (fun p => inR p 0 (E + 1)) && (oss.all (fun os => os.all (okOld E)) && decide (outL oss).Nodup)
/-- A pool is ok. -/
def okP (E : Int) (ps : List Int) (oss : List (List Od)) : Bool := okP1 E ps.length oss.length && okP2 E ps oss

theorem okP2_pin {E : Int} {ps : List Int} {oss : List (List Od)} {i : Nat} (hi : i < ps.length) (h : inR (ps.getD i 0) 0 (E + 1) = false) : okP2 E ps oss = false := by
  have : ps.all (fun p => inR p 0 (E + 1)) = false := all_no hi h
  simp [okP2, this]
theorem okP2_old {E : Int} {ps : List Int} {oss : List (List Od)} {k j : Nat} {os : List Od} {o : Od} (hk : oss[k]? = some os) (hj : os[j]? = some o) (h : okOld E o = false) : okP2 E ps oss = false := by
  have h1 : os.all (okOld E) = false := by
    rw [List.all_eq_false]
    exact ⟨o, List.mem_of_getElem? hj, by simp [h]⟩
  have h2 : oss.all (fun os => os.all (okOld E)) = false := by
    rw [List.all_eq_false]
    exact ⟨os, List.mem_of_getElem? hk, by simp [h1]⟩
  simp [okP2, h2]
theorem outL_sub {oss : List (List Od)} {k j : Nat} {os : List Od} (hk : oss[k]? = some os) : (outL (oss.take k) ++ nodesOf (os.take j)).Sublist (outL oss) := by
  have e : outL oss = outL (oss.take (k + 1)) ++ outL (oss.drop (k + 1)) := by
    unfold outL
    rw [← List.flatMap_append, List.take_append_drop]
  rw [e, outL_next hk]
  refine List.Sublist.trans (List.Sublist.append (List.Sublist.refl _) ?_) (List.sublist_append_left _ _)
  unfold nodesOf
  exact List.Sublist.map _ (List.take_sublist _ _)
theorem okP2_twice {E : Int} {ps : List Int} {oss : List (List Od)} {k j : Nat} {os : List Od} {x y : Int} (hk : oss[k]? = some os) (hj : os[j]? = some (x, y)) (h : hasB (outL (oss.take k) ++ nodesOf (os.take j)) x = true) : okP2 E ps oss = false := by
  have h1 : ¬ (outL oss).Nodup := fun hd => by
    have h2 := (outL_sub (j := j + 1) hk).nodup hd
    rw [nodesOf_next hj, ← List.append_assoc, List.nodup_append] at h2
    exact h2.2.2 _ (hasB_iff.1 h) _ (by simp) rfl
  simp [okP2, h1]

theorem sints_oneB (w : World) (v : Int) {b : Nat} (hb : b = w.heap.size) : SInts (w.alloc (.cells #[.int .i64 v] 3)) (some ⟨b, 0, none⟩) 1 [v] := by
  subst hb
  exact sints_one w v

/-- What was found so far. -/
structure GoodTo (E : Int) (ps : List Int) (oss : List (List Od)) (k : Nat) : Prop where
  pins : ∀ i, i < k → inR (ps.getD i 0) 0 (E + 1) = true
  olds : (oss.take k).all (fun os => os.all (okOld E)) = true
  once : (outL (oss.take k)).Nodup
theorem GoodTo.next {E : Int} {ps : List Int} {oss : List (List Od)} {k : Nat} {os : List Od} (h : GoodTo E ps oss k) (hk : oss[k]? = some os) (hp : inR (ps.getD k 0) 0 (E + 1) = true) (ho : os.all (okOld E) = true) (hd : (outL (oss.take k) ++ nodesOf os).Nodup) : GoodTo E ps oss (k + 1) := by
  refine ⟨fun i hi => ?_, ?_, by rw [outL_next hk]; exact hd⟩
  · by_cases e : i = k
    · subst e; exact hp
    · exact h.pins i (by omega)
  · rw [take_one hk, List.all_append, h.olds]
    simpa using ho
theorem GoodTo.done {E : Int} {ps : List Int} {oss : List (List Od)} {k : Nat} (h : GoodTo E ps oss k) (h1 : ps.length = k) (h2 : oss.length = k) : okP2 E ps oss = true := by
  have e : oss.take k = oss := List.take_of_length_le (by omega)
  have h3 := h.olds
  have h4 := h.once
  rw [e] at h3 h4
  have h5 : ps.all (fun p => inR p 0 (E + 1)) = true := all_yes (fun i hi => h.pins i (by omega))
  simp only [okP2, h5, h3, decide_eq_true h4, Bool.and_self]

set_option maxHeartbeats 1000000 in
theorem specPolOk_bad (E : Int) (pa : Option Addr) (np pc : Nat) (la : Option Addr) (nl lc : Nat) (w : World) (hp : np ≤ 1048576) (hl : nl ≤ 1048576) (h : okP1 E np nl = false) :
    Calls Try.prog 13 #[.agg #[.int .i64 E, .slice pa np pc, .slice la nl lc]] w fun e w' => e = .returned (.bool false) ∧ Below w.heap.size w w' := by
  have A := al1 w (.cells #[.int .i64 E, .slice pa np pc, .slice la nl lc] 25)
  cases hE : inR E 0 100000
  · go_enter Try.func13, Try.ntmps13
    go_wp2_with (go_at_call 28; refine (l1InR_any _ _ _ _).mono ?_; rintro e w' ⟨rfl, rfl⟩; rw [hE])
    go_ret
    exact ⟨rfl, A⟩
  · by_cases h1 : np = 3
    · have h2 : ¬ nl = 3 := fun h2 => by simp [okP1, hE, h1, h2] at h
      have h2' : ¬ (nl : Int) = 3 := by omega
      subst h1
      go_enter Try.func13, Try.ntmps13
      go_wp2_with (go_at_call 28; refine (l1InR_any _ _ _ _).mono ?_; rintro e w' ⟨rfl, rfl⟩; rw [hE])
      go_ret
      exact ⟨rfl, A⟩
    · have h1' : ¬ (np : Int) = 3 := by omega
      go_enter Try.func13, Try.ntmps13
      go_wp2_with (go_at_call 28; refine (l1InR_any _ _ _ _).mono ?_; rintro e w' ⟨rfl, rfl⟩; rw [hE])
      go_ret
      exact ⟨rfl, A⟩

set_option maxRecDepth 20000 in
set_option maxHeartbeats 40000000 in
theorem specPolOk_ok (E : Int) (pa : Option Addr) (pc : Nat) (la : Option Addr) (lc : Nat) (ps : List Int) (oss : List (List Od)) (w : World) (hp : SInts w pa 3 ps) (hs : SLimbo w la 3 oss) (hE : inR E 0 100000 = true) (h3 : sumL oss ≤ 1048576) :
    Calls Try.prog 13 #[.agg #[.int .i64 E, .slice pa 3 pc, .slice la 3 lc]] w fun e w' => e = .returned (.bool (okP2 E ps oss)) ∧ Below w.heap.size w w' := by
  have A := al1 w (.cells #[.int .i64 E, .slice pa 3 pc, .slice la 3 lc] 25)
  have I0 : Hid (OutAt w E pa 3 pc la 3 lc (.slice (some ⟨w.heap.size + 1, 0, none⟩) 0 0) (outL (oss.take 0)) ((w.alloc (.cells #[.int .i64 E, .slice pa 3 pc, .slice la 3 lc] 25)).alloc (.cells #[] 3))) :=
    ⟨below_trans' A (al1 _ _), (boxP_new w E pa 3 pc la 3 lc 25 rfl).below (al1 _ _), _, _, rfl, own_int_lit w _⟩
  have G0 : Hid (GoodTo E ps oss 0) := ⟨fun i hi => by omega, by simp, by simp [outL]⟩
  have HS : Hid (SLimbo w la 3 oss ∧ sumL oss ≤ 1048576 ∧ oss.length = 3 ∧ SInts w pa 3 ps ∧ ps.length = 3) := ⟨hs, h3, hs.1, hp, hp.1⟩
  have hEb : 0 ≤ E ∧ E ≤ 100000 := by simpa [inR] using hE
  have HW : Hid (IntKind.i64.wrap (E + 1) = E + 1) := by
    show _ = _
    exact (IntKind.wrap_i64 _).trans (by omega)
  clear A hs h3 hp
  go_enter Try.func13, Try.ntmps13
  go_wp2_with (go_at_call 28; refine (l1InR_any _ _ _ _).mono ?_; rintro e w' ⟨rfl, rfl⟩; rw [hE])
  clear hE
  go_loopw [3, 4, 5, 6] (fun s i _ _ wr => ∃ k : Nat, k ≤ 3 ∧ i = .int .i64 k ∧ OutAt w E pa 3 pc la 3 lc s (outL (oss.take k)) wr ∧ GoodTo E ps oss k) (fun _ i _ _ _ => 3 - (intOf i).toNat)
  case atStart => exact ⟨0, Nat.zero_le _, rfl, I0.out, G0.out⟩
  case round =>
    obtain ⟨k, hk, rfl, I, G⟩ := hrel
    clear I0 G0
    have HI : Hid (OutAt w E pa 3 pc la 3 lc u3 (outL (oss.take k)) wr ∧ GoodTo E ps oss k) := ⟨I, G⟩
    clear I G
    by_cases hlt : k < 3
    · obtain ⟨b, off, os, ai, ci, rfl, ho, hc, hO⟩ := (HS.out.1.below HI.out.1.bel).at hlt
      obtain ⟨_, h0 | ⟨bp, offp, rfl, hpc⟩⟩ := HS.out.2.2.2.1.below HI.out.1.bel
      · omega
      have c0 := HI.out.1.box.c0
      have c1 := HI.out.1.box.c1
      have c2 := HI.out.1.box.c2
      obtain ⟨p, hpp⟩ : ∃ p, ps.getD k 0 = p := ⟨_, rfl⟩
      have cp : wr.cell? ⟨bp, offp + k, none⟩ = some (.int .i64 p) := by rw [← hpp]; exact hpc k hlt
      have HO : Hid (oss[k]? = some os ∧ ps.getD k 0 = p) := ⟨ho, hpp⟩
      obtain ⟨n, e⟩ : ∃ n, os.length = n := ⟨_, rfl⟩
      have HN : Hid (os.length = n ∧ n ≤ 1048576) := ⟨e, by have := sumL_mem ho; have := HS.out.2.1; omega⟩
      have hn1 := HN.out.2
      clear hO ho e hpc hpp hc
      cases hpin : inR p 0 (E + 1)
      · go_wp2
        go_region_held_law (fun w' => w'.cell? ⟨w.heap.size, 0, none⟩ = some (.int .i64 E) ∧ w'.cell? ⟨w.heap.size, 1, none⟩ = some (.slice (some ⟨bp, offp, none⟩) 3 pc) ∧ w'.cell? ⟨bp, offp + k, none⟩ = some (.int .i64 p)) (first | (go_keep; done) | exact KP.out)
          ((go_at_call 28; refine (l1InR_any _ _ _ _).mono ?_; rintro e w' ⟨rfl, rfl⟩; rw [HW.out, hpin]))
        go_wp2
        go_ret
        exact ⟨ret_bool (okP2_pin (i := k) (by rw [HS.out.2.2.2.2]; exact hlt) (by rw [HO.out.2]; exact hpin)).symm, HI.out.1.bel.drew⟩
      have J0 : Hid (OutAt w E (some ⟨bp, offp, none⟩) 3 pc (some ⟨b, off, none⟩) 3 lc u3 (outL (oss.take k) ++ nodesOf (os.take 0)) wr.drew ∧ (os.take 0).all (okOld E) = true ∧ (outL (oss.take k) ++ nodesOf (os.take 0)).Nodup) := by
        have h1 := HI.out.1.below (Below.refl _ _).drew
        have h2 := HI.out.2.once
        have e : outL (oss.take k) ++ nodesOf (os.take 0) = outL (oss.take k) := by simp [nodesOf]
        rw [e]
        exact ⟨h1, by simp, h2⟩
      have HG : Hid (GoodTo E ps oss k) := HI.out.2
      clear HI
      go_wp2
      go_region_held_law (fun w' => w'.cell? ⟨w.heap.size, 0, none⟩ = some (.int .i64 E) ∧ w'.cell? ⟨w.heap.size, 1, none⟩ = some (.slice (some ⟨bp, offp, none⟩) 3 pc) ∧ w'.cell? ⟨bp, offp + k, none⟩ = some (.int .i64 p)) (first | (go_keep; done) | exact KP.out)
        ((go_at_call 28; refine (l1InR_any _ _ _ _).mono ?_; rintro e w' ⟨rfl, rfl⟩; rw [HW.out, hpin]))
      go_wp2
      clear c0 c1 c2 cp
      go_loopw [3, 5, 6] (fun s i _ wr => ∃ j : Nat, j ≤ n ∧ i = .int .i64 j ∧ OutAt w E (some ⟨bp, offp, none⟩) 3 pc (some ⟨b, off, none⟩) 3 lc s (outL (oss.take k) ++ nodesOf (os.take j)) wr ∧ (os.take j).all (okOld E) = true ∧ (outL (oss.take k) ++ nodesOf (os.take j)).Nodup) (fun _ i _ _ => n - (intOf i).toNat)
      case atStart => exact ⟨0, Nat.zero_le _, rfl, J0.out⟩
      case round =>
        obtain ⟨j, hj, rfl, I, hall, hnd⟩ := hrel
        clear J0
        obtain ⟨b', off', os', ai, ci, eb, ho', hc, hO⟩ := (HS.out.1.below I.bel).at hlt
        cases eb
        obtain rfl : os' = os := by rw [HO.out.1] at ho'; cases ho'; rfl
        rw [HN.out.1] at hc hO
        have c2 := I.box.c2
        have c0 := I.box.c0
        clear ho'
        have HA : Hid ((os'.take j).all (okOld E) = true ∧ (outL (oss.take k) ++ nodesOf (os'.take j)).Nodup) := ⟨hall, hnd⟩
        clear hall hnd
        by_cases hlt2 : j < n
        · obtain ⟨b2, off2, x, y, rfl, hx, x0, x1⟩ := hO.at hlt2
          obtain ⟨a', c', rfl, hown⟩ := I.own
          obtain ⟨ys, hys⟩ : ∃ ys, outL (oss.take k) ++ nodesOf (os'.take j) = ys := ⟨_, rfl⟩
          have HY : Hid (outL (oss.take k) ++ nodesOf (os'.take (j + 1)) = ys ++ [x] ∧ ys.length ≤ 1048576 ∧ outL (oss.take k) ++ nodesOf (os'.take j) = ys ∧ os'[j]? = some (x, y)) := by
            refine ⟨by rw [nodesOf_next hx, ← List.append_assoc, hys], ?_, hys, hx⟩
            rw [← hys]
            exact Nat.le_trans (part_len HO.out.1 (by rw [HN.out.1]; exact hj)) HS.out.2.1
          rw [hys] at I hown ⊢
          have hlt0 := I.box.lt
          have HJ : Hid (OutAt w E (some ⟨bp, offp, none⟩) 3 pc (some ⟨b, off, none⟩) 3 lc (.slice a' ys.length c') ys (wr.alloc (.cells #[.int .i64 x, .int .i64 y] 48)) ∧ (wr.alloc (.cells #[.int .i64 x, .int .i64 y] 48)).ownsRow (w.heap.size + 1) 3 1 (.slice a' ys.length c') ys.length (ys.map (Value.int .i64))) := ⟨I.below (al1 _ _), ownsRow_below hown (al1 _ _)⟩
          clear I hown hO hx hys
          cases hA : inR x 1 9
          · go_wp2_with (go_at_call 28; refine (l1InR_any _ _ _ _).mono ?_; rintro e w' ⟨rfl, rfl⟩; rw [hA])
            go_ret
            exact ⟨ret_bool (okP2_old HO.out.1 HY.out.2.2.2 (by simp [okOld, hA])).symm, HJ.out.1.bel⟩
          cases hB : inR y 0 E
          · go_wp2_with (go_at_call 28; refine (l1InR_any _ _ _ _).mono ?_; rintro e w' ⟨rfl, rfl⟩; first | rw [hA] | rw [hB])
            go_ret
            exact ⟨ret_bool (okP2_old HO.out.1 HY.out.2.2.2 (by simp [okOld, hB])).symm, HJ.out.1.bel⟩
          cases hC : hasB ys x
          · go_wp2_with (first | (go_at_call 28; refine (l1InR_any _ _ _ _).mono ?_; rintro e w' ⟨rfl, rfl⟩; first | rw [hA] | rw [hB]) | (go_at_call 29; refine (l2Has_any _ _ _ ys _ _ (own_sints HJ.out.2) HY.out.2.1).mono ?_; rintro e w' ⟨rfl, rfl⟩; rw [hC]) | (at_builtin; go_must (refine wpList_append_ints rfl (.tmp 74) (.tmp 77) rfl (w.heap.size + 1) _ _ _ ys rfl (ownsRow_below HJ.out.2 (al1 _ _)) _ _ _ [x] rfl (sints_oneB _ x (by simp)) HY.out.2.1 (by omega) (by simp; omega) ?_)))
            intro a2 c2' w2 hown2 hb2
            have HJ2 : Hid (OutAt w E (some ⟨bp, offp, none⟩) 3 pc (some ⟨b, off, none⟩) 3 lc (.slice a2 (ys.length + 1) c2') (ys ++ [x]) w2) := (HJ.out.1.below (al1 _ _)).more hb2 ⟨a2, c2', by simp, by simpa using hown2⟩
            have HA2 : Hid ((os'.take (j + 1)).all (okOld E) = true ∧ (ys ++ [x]).Nodup) := by
              refine ⟨?_, ?_⟩
              · rw [take_one HY.out.2.2.2, List.all_append, HA.out.1]
                simp [okOld, hA, hB]
              · have := HA.out.2
                rw [HY.out.2.2.1] at this
                rw [List.nodup_append]
                refine ⟨this, by simp, fun u hu v hv => ?_⟩
                simp at hv
                subst hv
                intro e
                subst e
                rw [hasB_iff.2 hu] at hC
                cases hC
            clear hown2 hb2 x0 x1 hc c2 c0
            go_wp2
            go_roundw
            case rel => exact ⟨j + 1, by omega, by go_num, by rw [HY.out.1]; exact ⟨HJ2.out, HA2.out.1, HA2.out.2⟩⟩
            case measure => simp [intOf]; omega
          · go_wp2_with (first | (go_at_call 28; refine (l1InR_any _ _ _ _).mono ?_; rintro e w' ⟨rfl, rfl⟩; first | rw [hA] | rw [hB]) | (go_at_call 29; refine (l2Has_any _ _ _ ys _ _ (own_sints HJ.out.2) HY.out.2.1).mono ?_; rintro e w' ⟨rfl, rfl⟩; rw [hC]))
            go_ret
            exact ⟨ret_bool (okP2_twice HO.out.1 HY.out.2.2.2 (by rw [HY.out.2.2.1]; exact hC)).symm, HJ.out.1.bel⟩
        · obtain rfl : j = n := by omega
          have e : os'.take j = os' := List.take_of_length_le (by rw [HN.out.1]; exact Nat.le_refl _)
          have HJ : Hid (OutAt w E (some ⟨bp, offp, none⟩) 3 pc (some ⟨b, off, none⟩) 3 lc u3 (outL (oss.take (k + 1))) wr ∧ GoodTo E ps oss (k + 1)) := by
            have h := HA.out
            rw [e] at h I
            refine ⟨?_, HG.out.next HO.out.1 (by rw [HO.out.2]; exact hpin) h.1 h.2⟩
            rw [outL_next HO.out.1]
            exact I
          clear I hO e
          go_wp2
          go_roundw
          case rel => exact ⟨k + 1, by omega, by go_num, HJ.out⟩
          case measure => simp [intOf]; omega
    · obtain rfl : k = 3 := by omega
      go_wp2
      go_ret
      exact ⟨ret_bool (HI.out.2.done HS.out.2.2.2.2 HS.out.2.2.1).symm, HI.out.1.bel⟩

theorem specPolOk_any (E : Int) (pa : Option Addr) (np pc : Nat) (la : Option Addr) (nl lc : Nat) (ps : List Int) (oss : List (List Od)) (w : World) (hp : SInts w pa np ps) (hs : SLimbo w la nl oss) (h1 : np ≤ 1048576) (h2 : nl ≤ 1048576) (h3 : sumL oss ≤ 1048576) :
    Calls Try.prog 13 #[.agg #[.int .i64 E, .slice pa np pc, .slice la nl lc]] w fun e w' => e = .returned (.bool (okP E ps oss)) ∧ Below w.heap.size w w' := by
  have e1 := hp.1
  have e2 := hs.1
  cases h : okP1 E np nl
  · have e : okP E ps oss = false := by simp [okP, e1, e2, h]
    rw [e]
    exact specPolOk_bad E pa np pc la nl lc w h1 h2 h
  · have e : okP E ps oss = okP2 E ps oss := by simp [okP, e1, e2, h]
    rw [e]
    simp only [okP1, Bool.and_eq_true, decide_eq_true_eq] at h
    obtain ⟨hE, rfl, rfl⟩ := h
    exact specPolOk_ok E pa pc la lc ps oss w hp hs hE h3

end Go.Proofs.Ytgcpjihjhefpnaa
