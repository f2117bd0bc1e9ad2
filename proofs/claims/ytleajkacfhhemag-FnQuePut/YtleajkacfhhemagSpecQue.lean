/- Contracts of the specification's QuePut. -/
import Derived.Test.YtleajkacfhhemagSpecPush
import Derived.Test.YtleajkacfhhemagInv
namespace Go.Proofs.Ytleajkacfhhemag
open Go.RowKit
set_option linter.unusedVariables false

set_option maxHeartbeats 400000 in
theorem specQuePut_bad (a : Option Addr) (n cap : Nat) (zs : List Int) (x : Int) (w : World) (hs : SInts w a n zs) (hn : n ≤ 9223372036854775807) (hok : okL zs = false) :
    Calls Try.prog 16 #[.slice a n cap, .int .i64 x] w fun e w' => ListRes [] 0 0 e w w' := by
  have hb0 : ∀ o, Below w.heap.size w (w.alloc o) := fun o => (Below.refl _ _).alloc (Nat.le_refl _) o
  go_enter Try.func16, Try.ntmps16
  go_wp2_with fail
  refine (specListOk_any _ _ _ zs _ (hs.below (hb0 _)) hn).mono ?_
  rintro e w1 ⟨rfl, rfl⟩
  go_wp2
  exact bodyPost_ret (v := .tuple #[.slice (some ⟨w.heap.size + 1, 0, none⟩) 0 0, .agg #[.int .i64 0, .int .i64 0]]) (by simp [results, Try.results16, go_sem]) rfl ⟨0, _, 0, rfl, own_mono (own_lit2 w _ #[] 0 rfl (by decide)) (by omega), (hb0 _).alloc (by simp) _⟩

set_option maxHeartbeats 400000 in
theorem specQuePut_beyond (a : Option Addr) (n cap : Nat) (zs : List Int) (x : Int) (w : World) (hs : SInts w a n zs) (hn : n ≤ 9223372036854775807) (hok : okL zs = true) (hx : inB x 999 = false) :
    Calls Try.prog 16 #[.slice a n cap, .int .i64 x] w fun e w' => ListRes [] 0 0 e w w' := by
  have hb0 : ∀ o, Below w.heap.size w (w.alloc o) := fun o => (Below.refl _ _).alloc (Nat.le_refl _) o
  go_enter Try.func16, Try.ntmps16
  go_wp2_with fail
  refine (specListOk_any _ _ _ zs _ (hs.below (hb0 _)) hn).mono ?_
  rintro e w1 ⟨rfl, rfl⟩
  go_wp2_with fail
  refine (l1In_any _ _ _).mono ?_
  rintro e w1 ⟨rfl, rfl⟩
  go_wp2
  exact bodyPost_ret (v := .tuple #[.slice (some ⟨w.heap.size + 1, 0, none⟩) 0 0, .agg #[.int .i64 0, .int .i64 0]]) (by simp [results, Try.results16, go_sem]) rfl ⟨0, _, 0, rfl, own_mono (own_lit2 w _ #[] 0 rfl (by decide)) (by omega), (hb0 _).alloc (by simp) _⟩

set_option maxHeartbeats 400000 in
theorem specQuePut_full (b off : Nat) (cap : Nat) (zs : List Int) (x : Int) (w : World) (hs : SInts w (some ⟨b, off, none⟩) 8 zs) (hok : okL zs = true) (hx : inB x 999 = true) :
    Calls Try.prog 16 #[.slice (some ⟨b, off, none⟩) 8 cap, .int .i64 x] w fun e w' => ListRes zs 3 0 e w w' := by
  have hb0 : ∀ o, Below w.heap.size w (w.alloc o) := fun o => (Below.refl _ _).alloc (Nat.le_refl _) o
  obtain ⟨i0, hi, hz0, hz1, hz2⟩ := info_parts Try.info3
  have hzl := hs.1
  go_enter Try.func16, Try.ntmps16
  go_wp2_with fail
  refine (specListOk_any _ _ _ zs _ (hs.below (hb0 _)) (by omega)).mono ?_
  rintro e w1 ⟨rfl, rfl⟩
  go_wp2_with fail
  refine (l1In_any _ _ _).mono ?_
  rintro e w1 ⟨rfl, rfl⟩
  have src := (hs.below ((hb0 (.cells #[.int .i64 0, .int .i64 0] 27)).alloc (by simp) (.cells #[] 3))).src_all
  have own0 := own_lit2 w (.cells #[.int .i64 0, .int .i64 0] 27) #[] 0 rfl (by decide)
  go_wp2_with (at_builtin; go_must (refine wpList_append_own _ rfl (.tmp 19) (.tmp 20) 23 rfl (w.heap.size + 1) 3 i0 (.int .i64 0) 1 8 Try.underlying23 hi hz0 hz1 hz2 rfl (by decide) _ _ _ rfl own0 ⟨b, off, none⟩ 8 _ (zs.map (Value.int .i64)) rfl (by simp [hzl]) src (ints_oneCell _ _) (by decide) (by decide) (by simp) ?_))
  intro v' w1 hown hgrow _
  obtain ⟨a', c', hv, _⟩ := own_shape hown
  obtain ⟨hc0, hc1, hf0, hf1, hb'⟩ := behind_append hgrow
  rw [hv] at hown ⊢
  have HO : Hid (w1.ownsRow (w.heap.size + 1) 3 1 (.slice a' 8 c') 8 (zs.map (Value.int .i64))) := hown
  clear hown hgrow own0 hs hb0 hv
  go_wp2
  refine bodyPost_ret (v := .tuple #[.slice a' 8 c', .agg #[.int .i64 3, .int .i64 0]]) (by simp [results, Try.results16, go_sem, hc0, hc1]) rfl ⟨8, a', c', rfl, own_mono (own_setCell (own_setCell HO.out (by omega) _) (by omega) _) (by omega), (hb'.setCell (Nat.le_refl _) _).setCell (Nat.le_refl _) _⟩

set_option maxHeartbeats 400000 in
theorem specQuePut_room (b off : Nat) (n cap : Nat) (zs : List Int) (x : Int) (w : World) (hs : SInts w (some ⟨b, off, none⟩) n zs) (hn : n ≤ 8) (hok : okL zs = true) (hx : inB x 999 = true) (h8 : ((n : Int) == 8) = false) :
    Calls Try.prog 16 #[.slice (some ⟨b, off, none⟩) n cap, .int .i64 x] w fun e w' => ListRes (zs ++ [x]) 2 0 e w w' := by
  have hb0 : ∀ o, Below w.heap.size w (w.alloc o) := fun o => (Below.refl _ _).alloc (Nat.le_refl _) o
  obtain ⟨i0, hi, hz0, hz1, hz2⟩ := info_parts Try.info3
  have hzl := hs.1
  go_enter Try.func16, Try.ntmps16
  go_wp2_with fail
  refine (specListOk_any _ _ _ zs _ (hs.below (hb0 _)) (by omega)).mono ?_
  rintro e w1 ⟨rfl, rfl⟩
  go_wp2_with fail
  refine (l1In_any _ _ _).mono ?_
  rintro e w1 ⟨rfl, rfl⟩
  have src := (hs.below ((hb0 (.cells #[.int .i64 0, .int .i64 0] 27)).alloc (by simp) (.cells #[] 3))).src_all
  have own0 := own_lit2 w (.cells #[.int .i64 0, .int .i64 0] 27) #[] 0 rfl (by decide)
  go_wp2_with (at_builtin; go_must (refine wpList_append_own _ rfl (.tmp 23) (.tmp 24) 23 rfl (w.heap.size + 1) 3 i0 (.int .i64 0) 1 8 Try.underlying23 hi hz0 hz1 hz2 rfl (by decide) _ _ _ rfl own0 ⟨b, off, none⟩ n _ (zs.map (Value.int .i64)) rfl (by simp [hzl]) src (ints_oneCell _ _) (by unfold maxLen; omega) (by omega) (by simp) ?_))
  intro v' w1 hown hgrow _
  have hown' : w1.ownsRow (w.heap.size + 1) 3 1 v' n (zs.map (Value.int .i64)) := by simpa using hown
  obtain ⟨a', c', hv, _⟩ := own_shape hown'
  obtain ⟨hc0, hc1, hf0, hf1, hb'⟩ := behind_append hgrow
  have hsz := hgrow.size
  simp at hsz
  rw [hv] at hown' ⊢
  have hownA := hown'.alloc (.cells #[.int .i64 x] 3)
  clear hown hgrow own0 hs hb0 hv src
  go_wp2_with (at_builtin; go_must (refine wpList_append_own _ rfl (.tmp 25) (.tmp 27) 23 rfl (w.heap.size + 1) 3 i0 (.int .i64 0) 1 8 Try.underlying23 hi hz0 hz1 hz2 rfl (by decide) _ _ _ rfl hownA ⟨w1.heap.size, 0, none⟩ 1 _ [.int .i64 x] rfl rfl (cell_one_new _ _ _) (by intro u hu; simp at hu; subst hu; rfl) (by unfold maxLen; omega) (by omega) (by simp; omega) ?_))
  intro v2 w2 hown2 hgrow2 _
  have hne : some w.heap.size ≠ (Value.slice a' n c').ownBlock := fun e => by have := (hownA.lt _ e.symm).1; omega
  have hal : Below w1.heap.size w1 (w1.alloc (.cells #[.int .i64 x] 3)) := (Below.refl _ _).alloc (Nat.le_refl _) _
  have d0 := hgrow2.cell (cell_kept hal hc0) hne
  have d1 := hgrow2.cell (cell_kept hal hc1) hne
  have hblk := hgrow2.block w.heap.size (by simp; omega) hne
  have f0 : w2.frozen? ⟨w.heap.size, 0, none⟩ = false := (World.frozen?_of_block (a := ⟨w.heap.size, 0, none⟩) hblk).trans ((hal.frozen (p := ⟨w.heap.size, 0, none⟩) (by show w.heap.size < w1.heap.size; omega)).trans hf0)
  have f1 : w2.frozen? ⟨w.heap.size, 1, none⟩ = false := (World.frozen?_of_block (a := ⟨w.heap.size, 1, none⟩) hblk).trans ((hal.frozen (p := ⟨w.heap.size, 1, none⟩) (by show w.heap.size < w1.heap.size; omega)).trans hf1)
  have hb2 : Below w.heap.size w w2 := (hb'.alloc (by omega) _).grown hgrow2 (by simp; omega) (fun k e => by have := (hownA.lt _ e).1; omega)
  have hown3 : w2.ownsRow (w.heap.size + 1) 3 1 v2 (n + 1) ((zs ++ [x]).map (Value.int .i64)) := by simpa using hown2
  obtain ⟨a3, c3, hv3, _⟩ := own_shape hown3
  rw [hv3] at hown3 ⊢
  have HO : Hid (w2.ownsRow (w.heap.size + 1) 3 1 (.slice a3 (n + 1) c3) (n + 1) ((zs ++ [x]).map (Value.int .i64))) := hown3
  clear hown2 hgrow2 hownA hown' hv3 hown3 hne hal hblk hb' hc0 hc1 hf0 hf1
  go_wp2
  refine bodyPost_ret (v := .tuple #[.slice a3 (n + 1) c3, .agg #[.int .i64 2, .int .i64 0]]) (by simp [results, Try.results16, go_sem, d0, d1]) rfl ⟨n + 1, a3, c3, rfl, own_mono (own_setCell (own_setCell HO.out (by omega) _) (by omega) _) (by omega), (hb2.setCell (Nat.le_refl _) _).setCell (Nat.le_refl _) _⟩

theorem specQuePut_any (b off : Nat) (n cap : Nat) (zs : List Int) (x : Int) (w : World) (hs : SInts w (some ⟨b, off, none⟩) n zs) (hn : n ≤ 9223372036854775807) :
    Calls Try.prog 16 #[.slice (some ⟨b, off, none⟩) n cap, .int .i64 x] w fun e w' => ListRes (putL zs n x) (putC zs x) 0 e w w' := by
  have hzl := hs.1
  cases hok : okL zs
  · have e1 : putL zs n x = [] := by simp [putL, hok]
    have e2 : putC zs x = 0 := by simp [putC, hok]
    rw [e1, e2]
    exact specQuePut_bad _ n cap zs x w hs hn hok
  · have h8l := okL_len hok
    cases hx : inB x 999
    · have e1 : putL zs n x = [] := by simp [putL, hx]
      have e2 : putC zs x = 0 := by simp [putC, hx]
      rw [e1, e2]
      exact specQuePut_beyond _ n cap zs x w hs hn hok hx
    · by_cases h8 : n = 8
      · subst h8
        have e1 : putL zs 8 x = zs := by simp [putL, hok, hx, hzl]
        have e2 : putC zs x = 3 := by simp [putC, hok, hx, hzl]
        rw [e1, e2]
        exact specQuePut_full b off cap zs x w hs hok hx
      · have e1 : putL zs n x = zs ++ [x] := by
          have h8' : ¬ zs.length = 8 := by omega
          simp only [putL, hok, hx, Bool.and_self, if_true, h8', if_false]
          rw [List.take_of_length_le (by omega), List.drop_of_length_le (by omega), List.append_nil]
        have e2 : putC zs x = 2 := by simp [putC, hok, hx, hzl, h8]
        rw [e1, e2]
        exact specQuePut_room b off n cap zs x w hs (by omega) hok hx (by simp; omega)

end Go.Proofs.Ytleajkacfhhemag
