/- Contracts of the specification's StkPush and QuePut. -/
import Derived.Test.YtleajkacfhhemagPush
namespace Go.Proofs.Ytleajkacfhhemag
open Go.RowKit
set_option linter.unusedVariables false

theorem own_lit2 (w : World) (o : Obj) (cs : Array Value) (n : Nat) (hs : cs.size = n) (hn : n ≤ maxLen) :
    ((w.alloc o).alloc (.cells cs 3)).ownsRow (w.heap.size + 1) 3 1 (.slice (some ⟨w.heap.size + 1, 0, none⟩) n n) n cs.toList := by
  have := World.ownsRow_lit (base := w.heap.size + 1) (e := 3) (size := 1) (w.alloc o) cs n (by simp) hn (by simpa using hs)
  simpa using this

/-- What stays behind an append onto the second of two new blocks: the first one, and all that was there. -/
theorem behind_append {w w1 : World} {c0 c1 : Value} {cs : Array Value} (hg : ((w.alloc (.cells #[c0, c1] 27)).alloc (.cells cs 3)).grownBy w1 (some (w.heap.size + 1))) :
    w1.cell? ⟨w.heap.size, 0, none⟩ = some c0 ∧ w1.cell? ⟨w.heap.size, 1, none⟩ = some c1 ∧ w1.frozen? ⟨w.heap.size, 0, none⟩ = false ∧ w1.frozen? ⟨w.heap.size, 1, none⟩ = false ∧ Below w.heap.size w w1 := by
  have hblk := hg.block w.heap.size (by simp; omega) (by simp)
  refine ⟨?_, ?_, ?_, ?_, ?_⟩
  · rw [World.cell?_of_block (a := ⟨w.heap.size, 0, none⟩) hblk]; simp
  · rw [World.cell?_of_block (a := ⟨w.heap.size, 1, none⟩) hblk]; simp
  · rw [World.frozen?_of_block (a := ⟨w.heap.size, 0, none⟩) hblk]; simp
  · rw [World.frozen?_of_block (a := ⟨w.heap.size, 1, none⟩) hblk]; simp
  · exact (((Below.refl _ _).alloc (Nat.le_refl _) _).alloc (by simp) _).grown hg (by simp; omega) (fun k h => by cases h; omega)

/-- The cells of all the numbers, for an append. -/
theorem SInts.src_all {w : World} {b off n : Nat} {zs : List Int} (hs : SInts w (some ⟨b, off, none⟩) n zs) :
    ∀ j u, (zs.map (Value.int .i64))[j]? = some u → w.cell? ((⟨b, off, none⟩ : Addr).add j) = some u := by
  intro j u hj
  obtain ⟨hz, h0 | ⟨b', off', e, hc⟩⟩ := hs
  · rw [List.eq_nil_of_length_eq_zero (l := zs) (by omega)] at hj
    simp at hj
  · cases e
    have hjn : j < n := by
      have := (List.getElem?_eq_some_iff.1 hj).1
      simp at this
      omega
    rw [Addr.add_lit, hc j hjn]
    simpa [List.getD, show j < zs.length by omega] using hj

set_option maxHeartbeats 400000 in
theorem specStkPush_bad (a : Option Addr) (n cap : Nat) (zs : List Int) (x : Int) (w : World) (hs : SInts w a n zs) (hn : n ≤ 9223372036854775807) (hok : okL zs = false) :
    Calls Try.prog 8 #[.slice a n cap, .int .i64 x] w fun e w' => ListRes [] 0 0 e w w' := by
  have hb0 : ∀ o, Below w.heap.size w (w.alloc o) := fun o => (Below.refl _ _).alloc (Nat.le_refl _) o
  go_enter Try.func8, Try.ntmps8
  go_wp2_with fail
  refine (specListOk_any _ _ _ zs _ (hs.below (hb0 _)) hn).mono ?_
  rintro e w1 ⟨rfl, rfl⟩
  go_wp2
  exact bodyPost_ret (v := .tuple #[.slice (some ⟨w.heap.size + 1, 0, none⟩) 0 0, .agg #[.int .i64 0, .int .i64 0]]) (by simp [results, Try.results8, go_sem]) rfl ⟨0, _, 0, rfl, own_mono (own_lit2 w _ #[] 0 rfl (by decide)) (by omega), (hb0 _).alloc (by simp) _⟩

set_option maxHeartbeats 400000 in
theorem specStkPush_beyond (a : Option Addr) (n cap : Nat) (zs : List Int) (x : Int) (w : World) (hs : SInts w a n zs) (hn : n ≤ 9223372036854775807) (hok : okL zs = true) (hx : inB x 999 = false) :
    Calls Try.prog 8 #[.slice a n cap, .int .i64 x] w fun e w' => ListRes [] 0 0 e w w' := by
  have hb0 : ∀ o, Below w.heap.size w (w.alloc o) := fun o => (Below.refl _ _).alloc (Nat.le_refl _) o
  go_enter Try.func8, Try.ntmps8
  go_wp2_with fail
  refine (specListOk_any _ _ _ zs _ (hs.below (hb0 _)) hn).mono ?_
  rintro e w1 ⟨rfl, rfl⟩
  go_wp2_with fail
  refine (l1In_any _ _ _).mono ?_
  rintro e w1 ⟨rfl, rfl⟩
  go_wp2
  exact bodyPost_ret (v := .tuple #[.slice (some ⟨w.heap.size + 1, 0, none⟩) 0 0, .agg #[.int .i64 0, .int .i64 0]]) (by simp [results, Try.results8, go_sem]) rfl ⟨0, _, 0, rfl, own_mono (own_lit2 w _ #[] 0 rfl (by decide)) (by omega), (hb0 _).alloc (by simp) _⟩

set_option maxHeartbeats 400000 in
theorem specStkPush_full (b off : Nat) (cap : Nat) (zs : List Int) (x : Int) (w : World) (hs : SInts w (some ⟨b, off, none⟩) 8 zs) (hok : okL zs = true) (hx : inB x 999 = true) :
    Calls Try.prog 8 #[.slice (some ⟨b, off, none⟩) 8 cap, .int .i64 x] w fun e w' => ListRes zs 3 0 e w w' := by
  have hb0 : ∀ o, Below w.heap.size w (w.alloc o) := fun o => (Below.refl _ _).alloc (Nat.le_refl _) o
  obtain ⟨i0, hi, hz0, hz1, hz2⟩ := info_parts Try.info3
  have hzl := hs.1
  go_enter Try.func8, Try.ntmps8
  go_wp2_with fail
  refine (specListOk_any _ _ _ zs _ (hs.below (hb0 _)) (by omega)).mono ?_
  rintro e w1 ⟨rfl, rfl⟩
  go_wp2_with fail
  refine (l1In_any _ _ _).mono ?_
  rintro e w1 ⟨rfl, rfl⟩
  have src := (hs.below ((hb0 (.cells #[.int .i64 0, .int .i64 0] 27)).alloc (by simp) (.cells #[] 3))).src_all
  have own0 := own_lit2 w (.cells #[.int .i64 0, .int .i64 0] 27) #[] 0 rfl (by decide)
  go_wp2_with (at_builtin; go_must (refine wpList_append_own _ rfl (.tmp 19) (.tmp 20) 23 rfl (w.heap.size + 1) 3 i0 (.int .i64 0) 1 8 Try.underlying23 hi hz0 hz1 hz2 rfl (by decide) _ _ _ rfl own0 ⟨b, off, none⟩ 8 _ (zs.map (Value.int .i64)) rfl (by simp [hzl]) src (ints_oneCell _ _) (by decide) (by decide) (by simp) ?_))
  intro v' w1 hown hgrow _
  obtain ⟨a', c', hv, _⟩ := own_shape hown
  obtain ⟨hc0, hc1, hf0, hf1, hb'⟩ := behind_append hgrow
  rw [hv] at hown ⊢
  have HO : Hid (w1.ownsRow (w.heap.size + 1) 3 1 (.slice a' 8 c') 8 (zs.map (Value.int .i64))) := hown
  clear hown hgrow own0 hs hb0 hv
  go_wp2
  refine bodyPost_ret (v := .tuple #[.slice a' 8 c', .agg #[.int .i64 3, .int .i64 0]]) (by simp [results, Try.results8, go_sem, hc0, hc1]) rfl ⟨8, a', c', rfl, own_mono (own_setCell (own_setCell HO.out (by omega) _) (by omega) _) (by omega), (hb'.setCell (Nat.le_refl _) _).setCell (Nat.le_refl _) _⟩

set_option maxHeartbeats 400000 in
theorem specStkPush_room (b off : Nat) (n cap : Nat) (zs : List Int) (x : Int) (w : World) (hs : SInts w (some ⟨b, off, none⟩) n zs) (hn : n ≤ 8) (hok : okL zs = true) (hx : inB x 999 = true) (h8 : ((n : Int) == 8) = false) :
    Calls Try.prog 8 #[.slice (some ⟨b, off, none⟩) n cap, .int .i64 x] w fun e w' => ListRes (x :: zs) 2 0 e w w' := by
  have hb0 : ∀ o, Below w.heap.size w (w.alloc o) := fun o => (Below.refl _ _).alloc (Nat.le_refl _) o
  obtain ⟨i0, hi, hz0, hz1, hz2⟩ := info_parts Try.info3
  have hzl := hs.1
  go_enter Try.func8, Try.ntmps8
  go_wp2_with fail
  refine (specListOk_any _ _ _ zs _ (hs.below (hb0 _)) (by omega)).mono ?_
  rintro e w1 ⟨rfl, rfl⟩
  go_wp2_with fail
  refine (l1In_any _ _ _).mono ?_
  rintro e w1 ⟨rfl, rfl⟩
  have src := (hs.below ((hb0 (.cells #[.int .i64 0, .int .i64 0] 27)).alloc (by simp) (.cells #[.int .i64 x] 3))).src_all
  have own0 := own_lit2 w (.cells #[.int .i64 0, .int .i64 0] 27) #[.int .i64 x] 1 rfl (by decide)
  go_wp2_with (at_builtin; go_must (refine wpList_append_own _ rfl (.tmp 24) (.tmp 25) 23 rfl (w.heap.size + 1) 3 i0 (.int .i64 0) 1 8 Try.underlying23 hi hz0 hz1 hz2 rfl (by decide) _ _ _ rfl own0 ⟨b, off, none⟩ n _ (zs.map (Value.int .i64)) rfl (by simp [hzl]) src (ints_oneCell _ _) (by unfold maxLen; omega) (by omega) (by simp) ?_))
  intro v' w1 hown hgrow _
  have hown' : w1.ownsRow (w.heap.size + 1) 3 1 v' (1 + n) ((x :: zs).map (Value.int .i64)) := by simpa using hown
  obtain ⟨a', c', hv, _⟩ := own_shape hown'
  obtain ⟨hc0, hc1, hf0, hf1, hb'⟩ := behind_append hgrow
  rw [hv] at hown' ⊢
  have HO : Hid (w1.ownsRow (w.heap.size + 1) 3 1 (.slice a' (1 + n) c') (1 + n) ((x :: zs).map (Value.int .i64))) := hown'
  clear hown hgrow own0 hs hb0 hv hown'
  go_wp2
  refine bodyPost_ret (v := .tuple #[.slice a' (1 + n) c', .agg #[.int .i64 2, .int .i64 0]]) (by simp [results, Try.results8, go_sem, hc0, hc1]) rfl ⟨1 + n, a', c', rfl, own_mono (own_setCell (own_setCell HO.out (by omega) _) (by omega) _) (by omega), (hb'.setCell (Nat.le_refl _) _).setCell (Nat.le_refl _) _⟩

theorem putL_len (zs : List Int) (i : Nat) (x : Int) : (putL zs i x).length ≤ zs.length + 1 := by
  unfold putL
  split
  · split
    · omega
    · simp only [List.length_append, List.length_take, List.length_drop, List.length_cons, List.length_nil]; omega
  · simp

theorem okL_len {zs : List Int} (h : okL zs = true) : zs.length ≤ 8 := by simp [okL] at h; exact h.1

theorem specStkPush_any (b off : Nat) (n cap : Nat) (zs : List Int) (x : Int) (w : World) (hs : SInts w (some ⟨b, off, none⟩) n zs) (hn : n ≤ 9223372036854775807) :
    Calls Try.prog 8 #[.slice (some ⟨b, off, none⟩) n cap, .int .i64 x] w fun e w' => ListRes (putL zs 0 x) (putC zs x) 0 e w w' := by
  have hzl := hs.1
  cases hok : okL zs
  · have e1 : putL zs 0 x = [] := by simp [putL, hok]
    have e2 : putC zs x = 0 := by simp [putC, hok]
    rw [e1, e2]
    exact specStkPush_bad _ n cap zs x w hs hn hok
  · have h8l := okL_len hok
    cases hx : inB x 999
    · have e1 : putL zs 0 x = [] := by simp [putL, hx]
      have e2 : putC zs x = 0 := by simp [putC, hx]
      rw [e1, e2]
      exact specStkPush_beyond _ n cap zs x w hs hn hok hx
    · by_cases h8 : n = 8
      · subst h8
        have e1 : putL zs 0 x = zs := by simp [putL, hok, hx, hzl]
        have e2 : putC zs x = 3 := by simp [putC, hok, hx, hzl]
        rw [e1, e2]
        exact specStkPush_full b off cap zs x w hs hok hx
      · have e1 : putL zs 0 x = x :: zs := by simp [putL, hok, hx, hzl, h8]
        have e2 : putC zs x = 2 := by simp [putC, hok, hx, hzl, h8]
        rw [e1, e2]
        exact specStkPush_room b off n cap zs x w hs (by omega) hok hx (by simp; omega)

end Go.Proofs.Ytleajkacfhhemag
