/- The specification's PolOut. -/
import Derived.Test.YtgcpjihjhefpnaaPB
namespace Go.Proofs.Ytgcpjihjhefpnaa
open Go.RowKit
set_option linter.unusedVariables false

/-- The places of what was taken out. -/
def nodesOf (os : List Od) : List Int := os.map Prod.fst
/-- All places that were taken out, hand by hand. -/
def outL (oss : List (List Od)) : List Int := oss.flatMap nodesOf
theorem nodesOf_len (os : List Od) : (nodesOf os).length = os.length := by simp [nodesOf]
theorem nodesOf_next {os : List Od} {j : Nat} {x y : Int} (h : os[j]? = some (x, y)) : nodesOf (os.take (j + 1)) = nodesOf (os.take j) ++ [x] := by
  rw [take_one h]; simp [nodesOf]
theorem outL_next {oss : List (List Od)} {k : Nat} {os : List Od} (h : oss[k]? = some os) : outL (oss.take (k + 1)) = outL (oss.take k) ++ nodesOf os := by
  rw [take_one h]; simp [outL]
theorem outL_len (oss : List (List Od)) : (outL oss).length = sumL oss := by
  induction oss with
  | nil => rfl
  | cons os r ih =>
    have e : outL (os :: r) = nodesOf os ++ outL r := rfl
    rw [e, List.length_append, ih, nodesOf_len]
    rfl
theorem part_len {oss : List (List Od)} {k : Nat} {os : List Od} (h : oss[k]? = some os) {j : Nat} (hj : j ≤ os.length) : (outL (oss.take k) ++ nodesOf (os.take j)).length ≤ sumL oss := by
  rw [List.length_append, outL_len, nodesOf_len]
  have := sumL_next h
  have := sumL_take oss (k + 1)
  simp
  omega

/-- What stands in the loops. -/
structure OutAt (w : World) (E : Int) (pa : Option Addr) (np pc : Nat) (la : Option Addr) (nl lc : Nat) (s : Value) (L : List Int) (W : World) : Prop where
  bel : Below w.heap.size w W
  box : BoxP W w.heap.size E pa np pc la nl lc
  own : ∃ a' c', s = .slice a' L.length c' ∧ W.ownsRow (w.heap.size + 1) 3 1 (.slice a' L.length c') L.length (L.map (Value.int .i64))
theorem OutAt.below {w : World} {E : Int} {pa : Option Addr} {np pc : Nat} {la : Option Addr} {nl lc : Nat} {s : Value} {L : List Int} {W W' : World} (h : OutAt w E pa np pc la nl lc s L W) (hb : Below W.heap.size W W') : OutAt w E pa np pc la nl lc s L W' := by
  obtain ⟨a', c', e, ho⟩ := h.own
  exact ⟨below_trans' h.bel hb, h.box.below hb, a', c', e, ownsRow_below ho hb⟩
theorem OutAt.more {w : World} {E : Int} {pa : Option Addr} {np pc : Nat} {la : Option Addr} {nl lc : Nat} {s s' : Value} {L L' : List Int} {W W' : World} (h : OutAt w E pa np pc la nl lc s L W) (hb : Below (w.heap.size + 1) W W') (ho : ∃ a' c', s' = .slice a' L'.length c' ∧ W'.ownsRow (w.heap.size + 1) 3 1 (.slice a' L'.length c') L'.length (L'.map (Value.int .i64))) : OutAt w E pa np pc la nl lc s' L' W' :=
  ⟨h.bel.trans (hb.mono (by omega)), ⟨(hb.cell (p := ⟨w.heap.size, 0, none⟩) (Nat.lt_succ_self _)).trans h.box.c0, (hb.cell (p := ⟨w.heap.size, 1, none⟩) (Nat.lt_succ_self _)).trans h.box.c1, (hb.cell (p := ⟨w.heap.size, 2, none⟩) (Nat.lt_succ_self _)).trans h.box.c2⟩, ho⟩

set_option maxRecDepth 20000 in
set_option maxHeartbeats 2000000 in
theorem specPolOut_any (E : Int) (pa : Option Addr) (np pc : Nat) (la : Option Addr) (nl lc : Nat) (oss : List (List Od)) (w : World) (hs : SLimbo w la nl oss) (h2 : nl ≤ 1048576) (h3 : sumL oss ≤ 1048576) :
    Calls Try.prog 16 #[.agg #[.int .i64 E, .slice pa np pc, .slice la nl lc]] w fun e w' => ListI (outL oss) e w w' := by
  have A := al1 w (.cells #[.int .i64 E, .slice pa np pc, .slice la nl lc] 25)
  have I0 : Hid (OutAt w E pa np pc la nl lc (.slice (some ⟨w.heap.size + 1, 0, none⟩) 0 0) (outL (oss.take 0)) ((w.alloc (.cells #[.int .i64 E, .slice pa np pc, .slice la nl lc] 25)).alloc (.cells #[] 3))) :=
    ⟨below_trans' A (al1 _ _), (boxP_new w E pa np pc la nl lc 25 rfl).below (al1 _ _), _, _, rfl, own_int_lit w _⟩
  have HS : Hid (SLimbo w la nl oss ∧ sumL oss ≤ 1048576 ∧ oss.length = nl) := ⟨hs, h3, hs.1⟩
  clear A hs h3
  go_enter Try.func16, Try.ntmps16
  go_wp2
  go_loopw [3, 4, 5] (fun s i _ wr => ∃ k : Nat, k ≤ nl ∧ i = .int .i64 k ∧ OutAt w E pa np pc la nl lc s (outL (oss.take k)) wr) (fun _ i _ _ => nl - (intOf i).toNat)
  case atStart => exact ⟨0, Nat.zero_le _, rfl, I0.out⟩
  case round =>
    obtain ⟨k, hk, rfl, I⟩ := hrel
    clear I0
    have HI : Hid (OutAt w E pa np pc la nl lc u3 (outL (oss.take k)) wr) := I
    have c2 := I.box.c2
    clear I
    by_cases hlt : k < nl
    · obtain ⟨b, off, os, ai, ci, rfl, ho, hc, hO⟩ := (HS.out.1.below HI.out.bel).at hlt
      have HO : Hid (oss[k]? = some os) := ho
      obtain ⟨n, e⟩ : ∃ n, os.length = n := ⟨_, rfl⟩
      have HN : Hid (os.length = n ∧ n ≤ 1048576) := ⟨e, by have := sumL_mem ho; have := HS.out.2.1; omega⟩
      have J0 : Hid (OutAt w E pa np pc (some ⟨b, off, none⟩) nl lc u3 (outL (oss.take k) ++ nodesOf (os.take 0)) wr) := by
        have := HI.out
        show OutAt _ _ _ _ _ _ _ _ _ _ _
        simpa [nodesOf] using this
      have hn1 := HN.out.2
      clear hO ho hc e HI
      go_wp2
      go_loopw [3, 5] (fun s i wr => ∃ j : Nat, j ≤ n ∧ i = .int .i64 j ∧ OutAt w E pa np pc (some ⟨b, off, none⟩) nl lc s (outL (oss.take k) ++ nodesOf (os.take j)) wr) (fun _ i _ => n - (intOf i).toNat)
      case atStart => exact ⟨0, Nat.zero_le _, rfl, J0.out⟩
      case round =>
        obtain ⟨j, hj, rfl, I⟩ := hrel
        clear J0 c2
        obtain ⟨b', off', os', ai, ci, eb, ho', hc, hO⟩ := (HS.out.1.below I.bel).at hlt
        cases eb
        obtain rfl : os' = os := by rw [HO.out] at ho'; cases ho'; rfl
        rw [HN.out.1] at hc hO
        have c2 := I.box.c2
        clear ho'
        by_cases hlt2 : j < n
        · obtain ⟨b2, off2, x, y, rfl, hx, x0, x1⟩ := hO.at hlt2
          obtain ⟨a', c', rfl, hown⟩ := I.own
          obtain ⟨ys, hys⟩ : ∃ ys, outL (oss.take k) ++ nodesOf (os'.take j) = ys := ⟨_, rfl⟩
          have HY : Hid (outL (oss.take k) ++ nodesOf (os'.take (j + 1)) = ys ++ [x] ∧ ys.length ≤ 1048576) := by
            refine ⟨by rw [nodesOf_next hx, ← List.append_assoc, hys], ?_⟩
            rw [← hys]
            exact Nat.le_trans (part_len HO.out (by rw [HN.out.1]; exact hj)) HS.out.2.1
          rw [hys] at I hown ⊢
          have hlt0 := I.box.lt
          have HJ : Hid (OutAt w E pa np pc (some ⟨b, off, none⟩) nl lc (.slice a' ys.length c') ys (wr.alloc (.cells #[.int .i64 x] 3)) ∧ (wr.alloc (.cells #[.int .i64 x] 3)).ownsRow (w.heap.size + 1) 3 1 (.slice a' ys.length c') ys.length (ys.map (Value.int .i64))) := ⟨I.below (al1 _ _), ownsRow_below hown (al1 _ _)⟩
          clear I hown hO hx hys x1
          go_wp2_with (at_builtin; go_must (refine wpList_append_ints rfl (.tmp 24) (.tmp 34) rfl (w.heap.size + 1) _ _ _ ys rfl HJ.out.2 _ _ _ [x] rfl (sints_one wr x) HY.out.2 (by omega) (by simp; omega) ?_))
          intro a2 c2' w2 hown2 hb2
          have HJ2 : Hid (OutAt w E pa np pc (some ⟨b, off, none⟩) nl lc (.slice a2 (ys.length + 1) c2') (ys ++ [x]) w2) := HJ.out.1.more hb2 ⟨a2, c2', by simp, by simpa using hown2⟩
          clear hown2 hb2 x0 hc c2
          go_wp2
          go_roundw
          case rel => exact ⟨j + 1, by omega, by go_num, by rw [HY.out.1]; exact HJ2.out⟩
          case measure => simp [intOf]; omega
        · obtain rfl : j = n := by omega
          have HJ : Hid (OutAt w E pa np pc (some ⟨b, off, none⟩) nl lc u3 (outL (oss.take (k + 1))) wr) := by
            show OutAt _ _ _ _ _ _ _ _ _ _ _
            rw [outL_next HO.out]
            have e : os'.take j = os' := List.take_of_length_le (by rw [HN.out.1]; exact Nat.le_refl _)
            rw [e] at I
            exact I
          clear I hO
          go_wp2
          go_roundw
          case rel => exact ⟨k + 1, by omega, by go_num, HJ.out⟩
          case measure => simp [intOf]; omega
    · obtain rfl : k = nl := by omega
      go_wp2
      go_ret
      have e : oss.take k = oss := List.take_of_length_le (by rw [HS.out.2.2]; exact Nat.le_refl _)
      have h := HI.out
      rw [e] at h
      obtain ⟨a', c', es, ho⟩ := h.own
      subst es
      exact ⟨a', c', rfl, own_mono ho (by omega), h.bel⟩

end Go.Proofs.Ytgcpjihjhefpnaa
