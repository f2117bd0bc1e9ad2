/- Several texts in one: First, SpecPush, SpecQue, Take, LinM, InvM, Draw, RegInv, KB. -/
import Derived.Test.YtklpdpdjblakgaaDoorGr1
import Derived.Deep.RegionLawGrows
import Derived.Test.YtklpdpdjblakgaaDoorGr2
import Derived.Orders
import Derived.Test.YtklpdpdjblakgaaDoorRows
import Derived.Lib.SmallJoins
/- First -/
namespace Go.Proofs.YtklpdpdjblakgaaDoor
open Go.RowKit
set_option linter.unusedVariables false

/-- What ListFirst answers. -/
def firstC (zs : List Int) : Int := if zs.length = 0 then 1 else 2
def firstV (zs : List Int) : Int := zs.headD 0

set_option maxHeartbeats 400000 in
theorem specListFirst_any (a : Option Addr) (n cap : Nat) (zs : List Int) (w : World) (hs : SInts w a n zs) (hn : n ≤ 9223372036854775807) :
    Calls Tryd.prog 44 #[.slice a n cap] w fun e w' => e = .returned (.agg #[.int .i64 (firstC zs), .int .i64 (firstV zs)]) ∧ Below w.heap.size w w' := by
  have hz := hs.1
  match zs, hz with
  | [], hz =>
    have h0 : n = 0 := by simpa using hz.symm
    subst h0
    have e1 : firstC [] = 1 := rfl
    have e2 : firstV [] = 0 := rfl
    rw [e1, e2]
    clear hs
    go_enter Tryd.func44, Tryd.ntmps44
    go_wp2
    exact bodyPost_ret (v := .agg #[.int .i64 1, .int .i64 0]) (by simp [results, Tryd.results44, go_sem]) rfl ⟨rfl, (Below.refl _ _).alloc (Nat.le_refl _) _⟩
  | x :: r, hz =>
    have e1 : firstC (x :: r) = 2 := by simp [firstC]
    have e2 : firstV (x :: r) = x := rfl
    rw [e1, e2]
    obtain ⟨b, off, rfl, hc⟩ : ∃ b off, a = some ⟨b, off, none⟩ ∧ w.cell? ⟨b, off, none⟩ = some (.int .i64 x) := by
      obtain ⟨_, h0 | ⟨b, off, rfl, hc⟩⟩ := hs
      · simp at hz; omega
      · exact ⟨b, off, rfl, by simpa using hc 0 (by simp at hz; omega)⟩
    have hn0 : ((n : Int) == 0) = false := by simp at hz; simp; omega
    have hn3 : 0 < n := by simp at hz; omega
    have hcA := cell_kept ((Below.refl w.heap.size w).alloc (Nat.le_refl _) (.cells #[.int .i64 0, .int .i64 0] 37)) hc
    clear hs hz e1 e2
    go_enter Tryd.func44, Tryd.ntmps44
    go_wp2
    exact bodyPost_ret (v := .agg #[.int .i64 2, .int .i64 x]) (by simp [results, Tryd.results44, go_sem]) rfl ⟨rfl, (Below.refl _ _).alloc (Nat.le_refl _) _⟩

set_option maxHeartbeats 400000 in
theorem implListFirst_any (a : Option Addr) (n cap : Nat) (zs : List Int) (w : World) (hs : SInts w a n zs) (hn : n ≤ 9223372036854775807) :
    Calls Tryd.prog 31 #[.slice a n cap] w fun e w' => e = .returned (.agg #[.int .i64 (firstC zs), .int .i64 (firstV zs)]) ∧ Below w.heap.size w w' := by
  have hz := hs.1
  match zs, hz with
  | [], hz =>
    have h0 : n = 0 := by simpa using hz.symm
    subst h0
    have e1 : firstC [] = 1 := rfl
    have e2 : firstV [] = 0 := rfl
    rw [e1, e2]
    clear hs
    go_enter Tryd.func31, Tryd.ntmps31
    go_wp2
    exact bodyPost_ret (v := .agg #[.int .i64 1, .int .i64 0]) (by simp [results, Tryd.results31, go_sem]) rfl ⟨rfl, (Below.refl _ _).alloc (Nat.le_refl _) _⟩
  | x :: r, hz =>
    have e1 : firstC (x :: r) = 2 := by simp [firstC]
    have e2 : firstV (x :: r) = x := rfl
    rw [e1, e2]
    obtain ⟨b, off, rfl, hc⟩ : ∃ b off, a = some ⟨b, off, none⟩ ∧ w.cell? ⟨b, off, none⟩ = some (.int .i64 x) := by
      obtain ⟨_, h0 | ⟨b, off, rfl, hc⟩⟩ := hs
      · simp at hz; omega
      · exact ⟨b, off, rfl, by simpa using hc 0 (by simp at hz; omega)⟩
    have hn0 : ((n : Int) == 0) = false := by simp at hz; simp; omega
    have hn3 : 0 < n := by simp at hz; omega
    have hcA := cell_kept ((Below.refl w.heap.size w).alloc (Nat.le_refl _) (.cells #[.int .i64 0, .int .i64 0] 37)) hc
    clear hs hz e1 e2
    go_enter Tryd.func31, Tryd.ntmps31
    go_wp2
    exact bodyPost_ret (v := .agg #[.int .i64 2, .int .i64 x]) (by simp [results, Tryd.results31, go_sem]) rfl ⟨rfl, (Below.refl _ _).alloc (Nat.le_refl _) _⟩

end Go.Proofs.YtklpdpdjblakgaaDoor

/- SpecPush -/
namespace Go.Proofs.YtklpdpdjblakgaaDoor
open Go.RowKit
set_option linter.unusedVariables false

theorem own_lit2 (w : World) (o : Obj) (cs : Array Value) (n : Nat) (hs : cs.size = n) (hn : n ≤ maxLen) :
    ((w.alloc o).alloc (.cells cs 3)).ownsRow (w.heap.size + 1) 3 1 (.slice (some ⟨w.heap.size + 1, 0, none⟩) n n) n cs.toList := by
  have := World.ownsRow_lit (base := w.heap.size + 1) (e := 3) (size := 1) (w.alloc o) cs n (by simp) hn (by simpa using hs)
  simpa using this

/-- What stays behind an append onto the second of two new blocks: the first one, and all that was there. -/
theorem behind_append {w w1 : World} {c0 c1 : Value} {cs : Array Value} (hg : ((w.alloc (.cells #[c0, c1] 37)).alloc (.cells cs 3)).grownBy w1 (some (w.heap.size + 1))) :
    w1.cell? ⟨w.heap.size, 0, none⟩ = some c0 ∧ w1.cell? ⟨w.heap.size, 1, none⟩ = some c1 ∧ w1.frozen? ⟨w.heap.size, 0, none⟩ = false ∧ w1.frozen? ⟨w.heap.size, 1, none⟩ = false ∧ Below w.heap.size w w1 := by
  have hblk := hg.block w.heap.size (by simp; omega) (by simp)
  refine ⟨?_, ?_, ?_, ?_, ?_⟩
  · rw [World.cell?_of_block (a := ⟨w.heap.size, 0, none⟩) hblk]; simp
  · rw [World.cell?_of_block (a := ⟨w.heap.size, 1, none⟩) hblk]; simp
  · rw [World.frozen?_of_block (a := ⟨w.heap.size, 0, none⟩) hblk]; simp
  · rw [World.frozen?_of_block (a := ⟨w.heap.size, 1, none⟩) hblk]; simp
  · exact (((Below.refl _ _).alloc (Nat.le_refl _) _).alloc (by simp) _).grown hg (by simp; omega) (fun k h => by cases h; omega)

/-- The cells of all the numbers, for an append. -/
theorem SInts.src_all {w : World} {b off n : Nat} {zs : List Int} (hs : SInts w (some ⟨b, off, none⟩) n zs) :
    ∀ j u, (zs.map (Value.int .i64))[j]? = some u → w.cell? ((⟨b, off, none⟩ : Addr).add j) = some u := by
  intro j u hj
  obtain ⟨hz, h0 | ⟨b', off', e, hc⟩⟩ := hs
  · rw [List.eq_nil_of_length_eq_zero (l := zs) (by omega)] at hj
    simp at hj
  · cases e
    have hjn : j < n := by
      have := (List.getElem?_eq_some_iff.1 hj).1
      simp at this
      omega
    rw [Addr.add_lit, hc j hjn]
    simpa [List.getD, show j < zs.length by omega] using hj

set_option maxHeartbeats 400000 in
theorem specStkPush_bad (a : Option Addr) (n cap : Nat) (zs : List Int) (x : Int) (w : World) (hs : SInts w a n zs) (hn : n ≤ 9223372036854775807) (hok : okL zs = false) :
    Calls Tryd.prog 39 #[.slice a n cap, .int .i64 x] w fun e w' => ListRes [] 0 0 e w w' := by
  have hb0 : ∀ o, Below w.heap.size w (w.alloc o) := fun o => (Below.refl _ _).alloc (Nat.le_refl _) o
  go_enter Tryd.func39, Tryd.ntmps39
  go_wp2_with fail
  refine (specListOk_any _ _ _ zs _ (hs.below (hb0 _)) hn).mono ?_
  rintro e w1 ⟨rfl, rfl⟩
  go_wp2
  exact bodyPost_ret (v := .tuple #[.slice (some ⟨w.heap.size + 1, 0, none⟩) 0 0, .agg #[.int .i64 0, .int .i64 0]]) (by simp [results, Tryd.results39, go_sem]) rfl ⟨0, _, 0, rfl, own_mono (own_lit2 w _ #[] 0 rfl (by decide)) (by omega), (hb0 _).alloc (by simp) _⟩

set_option maxHeartbeats 400000 in
theorem specStkPush_beyond (a : Option Addr) (n cap : Nat) (zs : List Int) (x : Int) (w : World) (hs : SInts w a n zs) (hn : n ≤ 9223372036854775807) (hok : okL zs = true) (hx : inB x 999 = false) :
    Calls Tryd.prog 39 #[.slice a n cap, .int .i64 x] w fun e w' => ListRes [] 0 0 e w w' := by
  have hb0 : ∀ o, Below w.heap.size w (w.alloc o) := fun o => (Below.refl _ _).alloc (Nat.le_refl _) o
  go_enter Tryd.func39, Tryd.ntmps39
  go_wp2_with fail
  refine (specListOk_any _ _ _ zs _ (hs.below (hb0 _)) hn).mono ?_
  rintro e w1 ⟨rfl, rfl⟩
  go_wp2_with fail
  refine (l1In_any _ _ _).mono ?_
  rintro e w1 ⟨rfl, rfl⟩
  go_wp2
  exact bodyPost_ret (v := .tuple #[.slice (some ⟨w.heap.size + 1, 0, none⟩) 0 0, .agg #[.int .i64 0, .int .i64 0]]) (by simp [results, Tryd.results39, go_sem]) rfl ⟨0, _, 0, rfl, own_mono (own_lit2 w _ #[] 0 rfl (by decide)) (by omega), (hb0 _).alloc (by simp) _⟩

set_option maxHeartbeats 400000 in
theorem specStkPush_full (b off : Nat) (cap : Nat) (zs : List Int) (x : Int) (w : World) (hs : SInts w (some ⟨b, off, none⟩) 8 zs) (hok : okL zs = true) (hx : inB x 999 = true) :
    Calls Tryd.prog 39 #[.slice (some ⟨b, off, none⟩) 8 cap, .int .i64 x] w fun e w' => ListRes zs 3 0 e w w' := by
  have hb0 : ∀ o, Below w.heap.size w (w.alloc o) := fun o => (Below.refl _ _).alloc (Nat.le_refl _) o
  obtain ⟨i0, hi, hz0, hz1, hz2⟩ := info_parts Tryd.info3
  have hzl := hs.1
  go_enter Tryd.func39, Tryd.ntmps39
  go_wp2_with fail
  refine (specListOk_any _ _ _ zs _ (hs.below (hb0 _)) (by omega)).mono ?_
  rintro e w1 ⟨rfl, rfl⟩
  go_wp2_with fail
  refine (l1In_any _ _ _).mono ?_
  rintro e w1 ⟨rfl, rfl⟩
  have src := (hs.below ((hb0 (.cells #[.int .i64 0, .int .i64 0] 37)).alloc (by simp) (.cells #[] 3))).src_all
  have own0 := own_lit2 w (.cells #[.int .i64 0, .int .i64 0] 37) #[] 0 rfl (by decide)
  go_wp2_with (at_builtin; go_must (refine wpList_append_own _ rfl (.tmp 19) (.tmp 20) 25 rfl (w.heap.size + 1) 3 i0 (.int .i64 0) 1 8 Tryd.underlying25 hi hz0 hz1 hz2 rfl (by decide) _ _ _ rfl own0 ⟨b, off, none⟩ 8 _ (zs.map (Value.int .i64)) rfl (by simp [hzl]) src (ints_oneCell _ _) (by decide) (by decide) (by simp) ?_))
  intro v' w1 hown hgrow _
  obtain ⟨a', c', hv, _⟩ := own_shape hown
  obtain ⟨hc0, hc1, hf0, hf1, hb'⟩ := behind_append hgrow
  rw [hv] at hown ⊢
  have HO : Hid (w1.ownsRow (w.heap.size + 1) 3 1 (.slice a' 8 c') 8 (zs.map (Value.int .i64))) := hown
  clear hown hgrow own0 hs hb0 hv
  go_wp2
  refine bodyPost_ret (v := .tuple #[.slice a' 8 c', .agg #[.int .i64 3, .int .i64 0]]) (by simp [results, Tryd.results39, go_sem, hc0, hc1]) rfl ⟨8, a', c', rfl, own_mono (own_setCell (own_setCell HO.out (by omega) _) (by omega) _) (by omega), (hb'.setCell (Nat.le_refl _) _).setCell (Nat.le_refl _) _⟩

set_option maxHeartbeats 400000 in
theorem specStkPush_room (b off : Nat) (n cap : Nat) (zs : List Int) (x : Int) (w : World) (hs : SInts w (some ⟨b, off, none⟩) n zs) (hn : n ≤ 8) (hok : okL zs = true) (hx : inB x 999 = true) (h8 : ((n : Int) == 8) = false) :
    Calls Tryd.prog 39 #[.slice (some ⟨b, off, none⟩) n cap, .int .i64 x] w fun e w' => ListRes (x :: zs) 2 0 e w w' := by
  have hb0 : ∀ o, Below w.heap.size w (w.alloc o) := fun o => (Below.refl _ _).alloc (Nat.le_refl _) o
  obtain ⟨i0, hi, hz0, hz1, hz2⟩ := info_parts Tryd.info3
  have hzl := hs.1
  go_enter Tryd.func39, Tryd.ntmps39
  go_wp2_with fail
  refine (specListOk_any _ _ _ zs _ (hs.below (hb0 _)) (by omega)).mono ?_
  rintro e w1 ⟨rfl, rfl⟩
  go_wp2_with fail
  refine (l1In_any _ _ _).mono ?_
  rintro e w1 ⟨rfl, rfl⟩
  have src := (hs.below ((hb0 (.cells #[.int .i64 0, .int .i64 0] 37)).alloc (by simp) (.cells #[.int .i64 x] 3))).src_all
  have own0 := own_lit2 w (.cells #[.int .i64 0, .int .i64 0] 37) #[.int .i64 x] 1 rfl (by decide)
  go_wp2_with (at_builtin; go_must (refine wpList_append_own _ rfl (.tmp 24) (.tmp 25) 25 rfl (w.heap.size + 1) 3 i0 (.int .i64 0) 1 8 Tryd.underlying25 hi hz0 hz1 hz2 rfl (by decide) _ _ _ rfl own0 ⟨b, off, none⟩ n _ (zs.map (Value.int .i64)) rfl (by simp [hzl]) src (ints_oneCell _ _) (by unfold maxLen; omega) (by omega) (by simp) ?_))
  intro v' w1 hown hgrow _
  have hown' : w1.ownsRow (w.heap.size + 1) 3 1 v' (1 + n) ((x :: zs).map (Value.int .i64)) := by simpa using hown
  obtain ⟨a', c', hv, _⟩ := own_shape hown'
  obtain ⟨hc0, hc1, hf0, hf1, hb'⟩ := behind_append hgrow
  rw [hv] at hown' ⊢
  have HO : Hid (w1.ownsRow (w.heap.size + 1) 3 1 (.slice a' (1 + n) c') (1 + n) ((x :: zs).map (Value.int .i64))) := hown'
  clear hown hgrow own0 hs hb0 hv hown'
  go_wp2
  refine bodyPost_ret (v := .tuple #[.slice a' (1 + n) c', .agg #[.int .i64 2, .int .i64 0]]) (by simp [results, Tryd.results39, go_sem, hc0, hc1]) rfl ⟨1 + n, a', c', rfl, own_mono (own_setCell (own_setCell HO.out (by omega) _) (by omega) _) (by omega), (hb'.setCell (Nat.le_refl _) _).setCell (Nat.le_refl _) _⟩

theorem putL_len (zs : List Int) (i : Nat) (x : Int) : (putL zs i x).length ≤ zs.length + 1 := by
  unfold putL
  split
  · split
    · omega
    · simp only [List.length_append, List.length_take, List.length_drop, List.length_cons, List.length_nil]; omega
  · simp

theorem okL_len {zs : List Int} (h : okL zs = true) : zs.length ≤ 8 := by simp [okL] at h; exact h.1

theorem specStkPush_any (b off : Nat) (n cap : Nat) (zs : List Int) (x : Int) (w : World) (hs : SInts w (some ⟨b, off, none⟩) n zs) (hn : n ≤ 9223372036854775807) :
    Calls Tryd.prog 39 #[.slice (some ⟨b, off, none⟩) n cap, .int .i64 x] w fun e w' => ListRes (putL zs 0 x) (putC zs x) 0 e w w' := by
  have hzl := hs.1
  cases hok : okL zs
  · have e1 : putL zs 0 x = [] := by simp [putL, hok]
    have e2 : putC zs x = 0 := by simp [putC, hok]
    rw [e1, e2]
    exact specStkPush_bad _ n cap zs x w hs hn hok
  · have h8l := okL_len hok
    cases hx : inB x 999
    · have e1 : putL zs 0 x = [] := by simp [putL, hx]
      have e2 : putC zs x = 0 := by simp [putC, hx]
      rw [e1, e2]
      exact specStkPush_beyond _ n cap zs x w hs hn hok hx
    · by_cases h8 : n = 8
      · subst h8
        have e1 : putL zs 0 x = zs := by simp [putL, hok, hx, hzl]
        have e2 : putC zs x = 3 := by simp [putC, hok, hx, hzl]
        rw [e1, e2]
        exact specStkPush_full b off cap zs x w hs hok hx
      · have e1 : putL zs 0 x = x :: zs := by simp [putL, hok, hx, hzl, h8]
        have e2 : putC zs x = 2 := by simp [putC, hok, hx, hzl, h8]
        rw [e1, e2]
        exact specStkPush_room b off n cap zs x w hs (by omega) hok hx (by simp; omega)

end Go.Proofs.YtklpdpdjblakgaaDoor

/- SpecQue -/
namespace Go.Proofs.YtklpdpdjblakgaaDoor
open Go.RowKit
set_option linter.unusedVariables false

set_option maxHeartbeats 400000 in
theorem specQuePut_bad (a : Option Addr) (n cap : Nat) (zs : List Int) (x : Int) (w : World) (hs : SInts w a n zs) (hn : n ≤ 9223372036854775807) (hok : okL zs = false) :
    Calls Tryd.prog 41 #[.slice a n cap, .int .i64 x] w fun e w' => ListRes [] 0 0 e w w' := by
  have hb0 : ∀ o, Below w.heap.size w (w.alloc o) := fun o => (Below.refl _ _).alloc (Nat.le_refl _) o
  go_enter Tryd.func41, Tryd.ntmps41
  go_wp2_with fail
  refine (specListOk_any _ _ _ zs _ (hs.below (hb0 _)) hn).mono ?_
  rintro e w1 ⟨rfl, rfl⟩
  go_wp2
  exact bodyPost_ret (v := .tuple #[.slice (some ⟨w.heap.size + 1, 0, none⟩) 0 0, .agg #[.int .i64 0, .int .i64 0]]) (by simp [results, Tryd.results41, go_sem]) rfl ⟨0, _, 0, rfl, own_mono (own_lit2 w _ #[] 0 rfl (by decide)) (by omega), (hb0 _).alloc (by simp) _⟩

set_option maxHeartbeats 400000 in
theorem specQuePut_beyond (a : Option Addr) (n cap : Nat) (zs : List Int) (x : Int) (w : World) (hs : SInts w a n zs) (hn : n ≤ 9223372036854775807) (hok : okL zs = true) (hx : inB x 999 = false) :
    Calls Tryd.prog 41 #[.slice a n cap, .int .i64 x] w fun e w' => ListRes [] 0 0 e w w' := by
  have hb0 : ∀ o, Below w.heap.size w (w.alloc o) := fun o => (Below.refl _ _).alloc (Nat.le_refl _) o
  go_enter Tryd.func41, Tryd.ntmps41
  go_wp2_with fail
  refine (specListOk_any _ _ _ zs _ (hs.below (hb0 _)) hn).mono ?_
  rintro e w1 ⟨rfl, rfl⟩
  go_wp2_with fail
  refine (l1In_any _ _ _).mono ?_
  rintro e w1 ⟨rfl, rfl⟩
  go_wp2
  exact bodyPost_ret (v := .tuple #[.slice (some ⟨w.heap.size + 1, 0, none⟩) 0 0, .agg #[.int .i64 0, .int .i64 0]]) (by simp [results, Tryd.results41, go_sem]) rfl ⟨0, _, 0, rfl, own_mono (own_lit2 w _ #[] 0 rfl (by decide)) (by omega), (hb0 _).alloc (by simp) _⟩

set_option maxHeartbeats 400000 in
theorem specQuePut_full (b off : Nat) (cap : Nat) (zs : List Int) (x : Int) (w : World) (hs : SInts w (some ⟨b, off, none⟩) 8 zs) (hok : okL zs = true) (hx : inB x 999 = true) :
    Calls Tryd.prog 41 #[.slice (some ⟨b, off, none⟩) 8 cap, .int .i64 x] w fun e w' => ListRes zs 3 0 e w w' := by
  have hb0 : ∀ o, Below w.heap.size w (w.alloc o) := fun o => (Below.refl _ _).alloc (Nat.le_refl _) o
  obtain ⟨i0, hi, hz0, hz1, hz2⟩ := info_parts Tryd.info3
  have hzl := hs.1
  go_enter Tryd.func41, Tryd.ntmps41
  go_wp2_with fail
  refine (specListOk_any _ _ _ zs _ (hs.below (hb0 _)) (by omega)).mono ?_
  rintro e w1 ⟨rfl, rfl⟩
  go_wp2_with fail
  refine (l1In_any _ _ _).mono ?_
  rintro e w1 ⟨rfl, rfl⟩
  have src := (hs.below ((hb0 (.cells #[.int .i64 0, .int .i64 0] 37)).alloc (by simp) (.cells #[] 3))).src_all
  have own0 := own_lit2 w (.cells #[.int .i64 0, .int .i64 0] 37) #[] 0 rfl (by decide)
  go_wp2_with (at_builtin; go_must (refine wpList_append_own _ rfl (.tmp 19) (.tmp 20) 25 rfl (w.heap.size + 1) 3 i0 (.int .i64 0) 1 8 Tryd.underlying25 hi hz0 hz1 hz2 rfl (by decide) _ _ _ rfl own0 ⟨b, off, none⟩ 8 _ (zs.map (Value.int .i64)) rfl (by simp [hzl]) src (ints_oneCell _ _) (by decide) (by decide) (by simp) ?_))
  intro v' w1 hown hgrow _
  obtain ⟨a', c', hv, _⟩ := own_shape hown
  obtain ⟨hc0, hc1, hf0, hf1, hb'⟩ := behind_append hgrow
  rw [hv] at hown ⊢
  have HO : Hid (w1.ownsRow (w.heap.size + 1) 3 1 (.slice a' 8 c') 8 (zs.map (Value.int .i64))) := hown
  clear hown hgrow own0 hs hb0 hv
  go_wp2
  refine bodyPost_ret (v := .tuple #[.slice a' 8 c', .agg #[.int .i64 3, .int .i64 0]]) (by simp [results, Tryd.results41, go_sem, hc0, hc1]) rfl ⟨8, a', c', rfl, own_mono (own_setCell (own_setCell HO.out (by omega) _) (by omega) _) (by omega), (hb'.setCell (Nat.le_refl _) _).setCell (Nat.le_refl _) _⟩

set_option maxHeartbeats 400000 in
theorem specQuePut_room (b off : Nat) (n cap : Nat) (zs : List Int) (x : Int) (w : World) (hs : SInts w (some ⟨b, off, none⟩) n zs) (hn : n ≤ 8) (hok : okL zs = true) (hx : inB x 999 = true) (h8 : ((n : Int) == 8) = false) :
    Calls Tryd.prog 41 #[.slice (some ⟨b, off, none⟩) n cap, .int .i64 x] w fun e w' => ListRes (zs ++ [x]) 2 0 e w w' := by
  have hb0 : ∀ o, Below w.heap.size w (w.alloc o) := fun o => (Below.refl _ _).alloc (Nat.le_refl _) o
  obtain ⟨i0, hi, hz0, hz1, hz2⟩ := info_parts Tryd.info3
  have hzl := hs.1
  go_enter Tryd.func41, Tryd.ntmps41
  go_wp2_with fail
  refine (specListOk_any _ _ _ zs _ (hs.below (hb0 _)) (by omega)).mono ?_
  rintro e w1 ⟨rfl, rfl⟩
  go_wp2_with fail
  refine (l1In_any _ _ _).mono ?_
  rintro e w1 ⟨rfl, rfl⟩
  have src := (hs.below ((hb0 (.cells #[.int .i64 0, .int .i64 0] 37)).alloc (by simp) (.cells #[] 3))).src_all
  have own0 := own_lit2 w (.cells #[.int .i64 0, .int .i64 0] 37) #[] 0 rfl (by decide)
  go_wp2_with (at_builtin; go_must (refine wpList_append_own _ rfl (.tmp 23) (.tmp 24) 25 rfl (w.heap.size + 1) 3 i0 (.int .i64 0) 1 8 Tryd.underlying25 hi hz0 hz1 hz2 rfl (by decide) _ _ _ rfl own0 ⟨b, off, none⟩ n _ (zs.map (Value.int .i64)) rfl (by simp [hzl]) src (ints_oneCell _ _) (by unfold maxLen; omega) (by omega) (by simp) ?_))
  intro v' w1 hown hgrow _
  have hown' : w1.ownsRow (w.heap.size + 1) 3 1 v' n (zs.map (Value.int .i64)) := by simpa using hown
  obtain ⟨a', c', hv, _⟩ := own_shape hown'
  obtain ⟨hc0, hc1, hf0, hf1, hb'⟩ := behind_append hgrow
  have hsz := hgrow.size
  simp at hsz
  rw [hv] at hown' ⊢
  have hownA := hown'.alloc (.cells #[.int .i64 x] 3)
  clear hown hgrow own0 hs hb0 hv src
  go_wp2_with (at_builtin; go_must (refine wpList_append_own _ rfl (.tmp 25) (.tmp 27) 25 rfl (w.heap.size + 1) 3 i0 (.int .i64 0) 1 8 Tryd.underlying25 hi hz0 hz1 hz2 rfl (by decide) _ _ _ rfl hownA ⟨w1.heap.size, 0, none⟩ 1 _ [.int .i64 x] rfl rfl (cell_one_new _ _ _) (by intro u hu; simp at hu; subst hu; rfl) (by unfold maxLen; omega) (by omega) (by simp; omega) ?_))
  intro v2 w2 hown2 hgrow2 _
  have hne : some w.heap.size ≠ (Value.slice a' n c').ownBlock := fun e => by have := (hownA.lt _ e.symm).1; omega
  have hal : Below w1.heap.size w1 (w1.alloc (.cells #[.int .i64 x] 3)) := (Below.refl _ _).alloc (Nat.le_refl _) _
  have d0 := hgrow2.cell (cell_kept hal hc0) hne
  have d1 := hgrow2.cell (cell_kept hal hc1) hne
  have hblk := hgrow2.block w.heap.size (by simp; omega) hne
  have f0 : w2.frozen? ⟨w.heap.size, 0, none⟩ = false := (World.frozen?_of_block (a := ⟨w.heap.size, 0, none⟩) hblk).trans ((hal.frozen (p := ⟨w.heap.size, 0, none⟩) (by show w.heap.size < w1.heap.size; omega)).trans hf0)
  have f1 : w2.frozen? ⟨w.heap.size, 1, none⟩ = false := (World.frozen?_of_block (a := ⟨w.heap.size, 1, none⟩) hblk).trans ((hal.frozen (p := ⟨w.heap.size, 1, none⟩) (by show w.heap.size < w1.heap.size; omega)).trans hf1)
  have hb2 : Below w.heap.size w w2 := (hb'.alloc (by omega) _).grown hgrow2 (by simp; omega) (fun k e => by have := (hownA.lt _ e).1; omega)
  have hown3 : w2.ownsRow (w.heap.size + 1) 3 1 v2 (n + 1) ((zs ++ [x]).map (Value.int .i64)) := by simpa using hown2
  obtain ⟨a3, c3, hv3, _⟩ := own_shape hown3
  rw [hv3] at hown3 ⊢
  have HO : Hid (w2.ownsRow (w.heap.size + 1) 3 1 (.slice a3 (n + 1) c3) (n + 1) ((zs ++ [x]).map (Value.int .i64))) := hown3
  clear hown2 hgrow2 hownA hown' hv3 hown3 hne hal hblk hb' hc0 hc1 hf0 hf1
  go_wp2
  refine bodyPost_ret (v := .tuple #[.slice a3 (n + 1) c3, .agg #[.int .i64 2, .int .i64 0]]) (by simp [results, Tryd.results41, go_sem, d0, d1]) rfl ⟨n + 1, a3, c3, rfl, own_mono (own_setCell (own_setCell HO.out (by omega) _) (by omega) _) (by omega), (hb2.setCell (Nat.le_refl _) _).setCell (Nat.le_refl _) _⟩

theorem specQuePut_any (b off : Nat) (n cap : Nat) (zs : List Int) (x : Int) (w : World) (hs : SInts w (some ⟨b, off, none⟩) n zs) (hn : n ≤ 9223372036854775807) :
    Calls Tryd.prog 41 #[.slice (some ⟨b, off, none⟩) n cap, .int .i64 x] w fun e w' => ListRes (putL zs n x) (putC zs x) 0 e w w' := by
  have hzl := hs.1
  cases hok : okL zs
  · have e1 : putL zs n x = [] := by simp [putL, hok]
    have e2 : putC zs x = 0 := by simp [putC, hok]
    rw [e1, e2]
    exact specQuePut_bad _ n cap zs x w hs hn hok
  · have h8l := okL_len hok
    cases hx : inB x 999
    · have e1 : putL zs n x = [] := by simp [putL, hx]
      have e2 : putC zs x = 0 := by simp [putC, hx]
      rw [e1, e2]
      exact specQuePut_beyond _ n cap zs x w hs hn hok hx
    · by_cases h8 : n = 8
      · subst h8
        have e1 : putL zs 8 x = zs := by simp [putL, hok, hx, hzl]
        have e2 : putC zs x = 3 := by simp [putC, hok, hx, hzl]
        rw [e1, e2]
        exact specQuePut_full b off cap zs x w hs hok hx
      · have e1 : putL zs n x = zs ++ [x] := by
          have h8' : ¬ zs.length = 8 := by omega
          simp only [putL, hok, hx, Bool.and_self, if_true, h8', if_false]
          rw [List.take_of_length_le (by omega), List.drop_of_length_le (by omega), List.append_nil]
        have e2 : putC zs x = 2 := by simp [putC, hok, hx, hzl, h8]
        rw [e1, e2]
        exact specQuePut_room b off n cap zs x w hs (by omega) hok hx (by simp; omega)

end Go.Proofs.YtklpdpdjblakgaaDoor

/- Take -/
namespace Go.Proofs.YtklpdpdjblakgaaDoor
open Go.RowKit
set_option linter.unusedVariables false

theorem behind_none {w w1 : World} {c0 c1 : Value} {o : Obj} {row : Option Nat} (hg : ((w.alloc (.cells #[c0, c1] 37)).alloc o).drew.grownBy w1 row) (hr : ∀ k, row = some k → w.heap.size + 1 ≤ k) :
    w1.cell? ⟨w.heap.size, 0, none⟩ = some c0 ∧ w1.cell? ⟨w.heap.size, 1, none⟩ = some c1 ∧ w1.frozen? ⟨w.heap.size, 0, none⟩ = false ∧ w1.frozen? ⟨w.heap.size, 1, none⟩ = false ∧ Below w.heap.size w w1 := by
  have hblk := hg.block w.heap.size (by simp; omega) (fun e => by have := hr _ e.symm; omega)
  refine ⟨?_, ?_, ?_, ?_, ?_⟩
  · rw [World.cell?_of_block (a := ⟨w.heap.size, 0, none⟩) hblk]; simp
  · rw [World.cell?_of_block (a := ⟨w.heap.size, 1, none⟩) hblk]; simp
  · rw [World.frozen?_of_block (a := ⟨w.heap.size, 0, none⟩) hblk]; simp
  · rw [World.frozen?_of_block (a := ⟨w.heap.size, 1, none⟩) hblk]; simp
  · exact ((((Below.refl _ _).alloc (Nat.le_refl _) _).alloc (by simp) _).drew).grown hg (by simp; omega) (fun k h => by have := hr _ h; omega)

set_option maxHeartbeats 1000000 in
theorem specListTake_more (b off : Nat) (n : Nat) (x : Int) (ys : List Int) (w : World) (hs : SInts w (some ⟨b, off, none⟩) n (x :: ys)) (h2 : 2 ≤ n) (h8 : n ≤ 8) (hok : okL (x :: ys) = true) :
    Calls Tryd.prog 40 #[.slice (some ⟨b, off, none⟩) n n] w fun e w' => ListRes ys 2 x e w w' := by
  have hb0 : ∀ o, Below w.heap.size w (w.alloc o) := fun o => (Below.refl _ _).alloc (Nat.le_refl _) o
  obtain ⟨i0, hi, hz0, hz1, hz2⟩ := info_parts Tryd.info3
  have hzl : Hid (ys.length = n - 1) := by have := hs.1; simp at this; show _ = _; omega
  have hcx : ∀ W, Below w.heap.size w W → W.cell? ⟨b, off, none⟩ = some (.int .i64 x) ∧ ∀ j u, (ys.map (Value.int .i64))[j]? = some u → W.cell? ((⟨b, off + 1, none⟩ : Addr).add j) = some u := by
    intro W hW
    obtain ⟨hz, h0 | ⟨b', off', e, hc⟩⟩ := hs.below hW
    · omega
    · cases e
      refine ⟨by simpa using hc 0 (by omega), fun j u hj => ?_⟩
      have hjn : j < n - 1 := by
        have := (List.getElem?_eq_some_iff.1 hj).1
        simp at this hz
        omega
      rw [Addr.add_lit, show off + 1 + j = off + (j + 1) by omega, hc (j + 1) (by omega)]
      simp at hz
      simpa [List.getD, show j < ys.length by omega] using hj
  have hn0 : ((n : Int) == 0) = false := by simp; omega
  have hn1 : ¬ n = 1 := by omega
  have hn2 : (1 : Int) ≤ (n : Int) := by omega
  have hn3 : 0 < n := by omega
  go_enter Tryd.func40, Tryd.ntmps40
  go_wp2_with fail
  refine (specListOk_any _ _ _ (x :: ys) _ (hs.below (hb0 _)) (by omega)).mono ?_
  rintro e w1 ⟨rfl, rfl⟩
  have HC : Hid (∀ W, Below w.heap.size w W → W.cell? ⟨b, off, none⟩ = some (.int .i64 x) ∧ ∀ j u, (ys.map (Value.int .i64))[j]? = some u → W.cell? ((⟨b, off + 1, none⟩ : Addr).add j) = some u) := hcx
  clear hcx
  have q1 := (HC.out _ (hb0 (.cells #[.int .i64 0, .int .i64 0] 37))).1
  have q2 := (HC.out _ ((hb0 (.cells #[.int .i64 0, .int .i64 0] 37)).alloc (by simp) (.cells #[] 3))).1
  have S2 : Hid (∀ j u, (ys.map (Value.int .i64))[j]? = some u → ((w.alloc (.cells #[.int .i64 0, .int .i64 0] 37)).alloc (.cells #[] 3)).drew.cell? ((⟨b, off + 1, none⟩ : Addr).add j) = some u) := (HC.out _ ((hb0 (.cells #[.int .i64 0, .int .i64 0] 37)).alloc (by simp) (.cells #[] 3)).drew).2
  clear hs hb0
  go_wp2
  go_region_law (refine step_append_grows rfl (.tmp 14) (.tmp 16) 25 rfl 3 i0 (.int .i64 0) 1 8 Tryd.underlying25 hi hz0 hz1 hz2 rfl (by decide) (some ⟨w.heap.size + 1, 0, none⟩) 0 0 [] rfl (by intro h; cases h) rfl (by intro _ _ j u h; simp at h) ⟨b, off + 1, none⟩ (n - 1) (n - 1) (ys.map (Value.int .i64)) rfl (by simp [hzl.out]) S2.out (ints_oneCell _ _) (by omega) (by unfold maxLen; omega) (by omega) ?_; intro v' w1 hown hgrow; obtain ⟨d0, d1, f0, f1, hbB⟩ := behind_none hgrow (fun k h => by cases h); have q3 := (HC.out _ hbB).1; obtain ⟨a', c', hv, _⟩ := own_shape (zs := ys) (by simpa using hown); rw [hv] at hown ⊢)
  all_goals
    have HO : Hid (w1.ownsRow (w.heap.size + 1) 3 1 (.slice a' (n - 1) c') (n - 1) (ys.map (Value.int .i64))) := by
      have h := own_mono hown (show w.heap.size + 1 ≤ _ by simp)
      show w1.ownsRow (w.heap.size + 1) 3 1 (.slice a' (n - 1) c') (n - 1) (ys.map (Value.int .i64))
      simpa using h
    clear hown hgrow S2 HC
    go_wp2
    refine bodyPost_ret (v := .tuple #[.slice a' (n - 1) c', .agg #[.int .i64 2, .int .i64 x]]) (by simp [results, Tryd.results40, go_sem, d0, d1]) rfl ⟨n - 1, a', c', rfl, own_mono (own_setCell (own_setCell HO.out (by omega) _) (by omega) _) (by omega), (hbB.setCell (Nat.le_refl _) _).setCell (Nat.le_refl _) _⟩

set_option maxHeartbeats 1000000 in
theorem specListTake_one (b off : Nat) (x : Int) (w : World) (hs : SInts w (some ⟨b, off, none⟩) 1 [x]) (hok : okL [x] = true) :
    Calls Tryd.prog 40 #[.slice (some ⟨b, off, none⟩) 1 1] w fun e w' => ListRes [] 2 x e w w' := by
  have hb0 : ∀ o, Below w.heap.size w (w.alloc o) := fun o => (Below.refl _ _).alloc (Nat.le_refl _) o
  obtain ⟨i0, hi, hz0, hz1, hz2⟩ := info_parts Tryd.info3
  have HC : Hid (∀ W, Below w.heap.size w W → W.cell? ⟨b, off, none⟩ = some (.int .i64 x)) := by
    intro W hW
    obtain ⟨hz, h0 | ⟨b', off', e, hc⟩⟩ := hs.below hW
    · omega
    · cases e
      simpa using hc 0 (by omega)
  go_enter Tryd.func40, Tryd.ntmps40
  go_wp2_with fail
  refine (specListOk_any _ _ _ [x] _ (hs.below (hb0 _)) (by omega)).mono ?_
  rintro e w1 ⟨rfl, rfl⟩
  have e0 : Hid (∀ (W : World) (b o : Nat), W.setCells b o [] = W) := fun W b o => rfl
  have q1 := HC.out _ (hb0 (.cells #[.int .i64 0, .int .i64 0] 37))
  have q2 := HC.out _ ((hb0 (.cells #[.int .i64 0, .int .i64 0] 37)).alloc (by simp) (.cells #[] 3))
  have hbB := ((hb0 (.cells #[.int .i64 2, .int .i64 x] 37)).alloc (by simp) (.cells #[] 3)).drew
  have HO : Hid (((w.alloc (.cells #[.int .i64 2, .int .i64 x] 37)).alloc (.cells #[] 3)).drew.ownsRow (w.heap.size + 1) 3 1 (.slice (some ⟨w.heap.size + 1, 0, none⟩) 0 0) 0 []) := (own_lit2 w (.cells #[.int .i64 2, .int .i64 x] 37) #[] 0 rfl (by decide)).drew
  clear hs hb0 HC
  go_wp2
  go_region_law (refine step_append_room rfl (.tmp 14) (.tmp 16) 25 rfl 3 i0 1 Tryd.underlying25 hi hz1 (w.heap.size + 1) 0 0 0 rfl ⟨b, off, none⟩ 0 0 [] rfl rfl (by intro j u h; simp at h) (by simp) (by omega) (by intro j h; simp at h) ?_; rw [e0.out])
  all_goals go_wp2
  all_goals exact bodyPost_ret (v := .tuple #[.slice (some ⟨w.heap.size + 1, 0, none⟩) 0 0, .agg #[.int .i64 2, .int .i64 x]]) (by simp [results, Tryd.results40, go_sem]) rfl ⟨0, _, 0, rfl, own_mono HO.out (by omega), hbB⟩

set_option maxHeartbeats 400000 in
theorem specListTake_bad (a : Option Addr) (n cap : Nat) (zs : List Int) (w : World) (hs : SInts w a n zs) (hn : n ≤ 9223372036854775807) (hok : okL zs = false) :
    Calls Tryd.prog 40 #[.slice a n cap] w fun e w' => ListRes [] 0 0 e w w' := by
  have hb0 : ∀ o, Below w.heap.size w (w.alloc o) := fun o => (Below.refl _ _).alloc (Nat.le_refl _) o
  go_enter Tryd.func40, Tryd.ntmps40
  go_wp2_with fail
  refine (specListOk_any _ _ _ zs _ (hs.below (hb0 _)) hn).mono ?_
  rintro e w1 ⟨rfl, rfl⟩
  go_wp2
  exact bodyPost_ret (v := .tuple #[.slice (some ⟨w.heap.size + 1, 0, none⟩) 0 0, .agg #[.int .i64 0, .int .i64 0]]) (by simp [results, Tryd.results40, go_sem]) rfl ⟨0, _, 0, rfl, own_mono (own_lit2 w _ #[] 0 rfl (by decide)) (by omega), (hb0 _).alloc (by simp) _⟩

set_option maxHeartbeats 400000 in
theorem specListTake_none (a : Option Addr) (cap : Nat) (w : World) :
    Calls Tryd.prog 40 #[.slice a 0 cap] w fun e w' => ListRes [] 1 0 e w w' := by
  have hb0 : ∀ o, Below w.heap.size w (w.alloc o) := fun o => (Below.refl _ _).alloc (Nat.le_refl _) o
  have hok : okL [] = true := by decide
  go_enter Tryd.func40, Tryd.ntmps40
  go_wp2_with fail
  refine (specListOk_any _ 0 _ [] _ ⟨rfl, .inl rfl⟩ (by omega)).mono ?_
  rintro e w1 ⟨rfl, rfl⟩
  go_wp2
  exact bodyPost_ret (v := .tuple #[.slice (some ⟨w.heap.size + 1, 0, none⟩) 0 0, .agg #[.int .i64 1, .int .i64 0]]) (by simp [results, Tryd.results40, go_sem]) rfl ⟨0, _, 0, rfl, own_mono (own_lit2 w _ #[] 0 rfl (by decide)) (by omega), (hb0 _).alloc (by simp) _⟩

/-- What is left, the code and the value of ListTake. -/
def takeL (zs : List Int) : List Int := if okL zs then zs.drop 1 else []
def takeC (zs : List Int) : Int := if okL zs then (if zs.length = 0 then 1 else 2) else 0
def takeV (zs : List Int) : Int := if okL zs then zs.headD 0 else 0

theorem specListTake_any (b off : Nat) (n : Nat) (zs : List Int) (w : World) (hs : SInts w (some ⟨b, off, none⟩) n zs) (hn : n ≤ 9223372036854775807) :
    Calls Tryd.prog 40 #[.slice (some ⟨b, off, none⟩) n n] w fun e w' => ListRes (takeL zs) (takeC zs) (takeV zs) e w w' := by
  have hzl := hs.1
  cases hok : okL zs
  · have e1 : takeL zs = [] := by simp [takeL, hok]
    have e2 : takeC zs = 0 := by simp [takeC, hok]
    have e3 : takeV zs = 0 := by simp [takeV, hok]
    rw [e1, e2, e3]
    exact specListTake_bad _ n n zs w hs hn hok
  · have h8l := okL_len hok
    match zs, hzl with
    | [], hzl =>
      have h0 : n = 0 := by simpa using hzl.symm
      subst h0
      exact specListTake_none _ 0 w
    | [x], hzl =>
      have h0 : n = 1 := by simpa using hzl.symm
      subst h0
      have e1 : takeL [x] = [] := by simp [takeL]
      have e2 : takeC [x] = 2 := by simp [takeC, hok]
      have e3 : takeV [x] = x := by simp [takeV, hok]
      rw [e1, e2, e3]
      exact specListTake_one b off x w hs hok
    | x :: y :: r, hzl =>
      have e1 : takeL (x :: y :: r) = y :: r := by simp [takeL, hok]
      have e2 : takeC (x :: y :: r) = 2 := by simp [takeC, hok]
      have e3 : takeV (x :: y :: r) = x := by simp [takeV, hok]
      rw [e1, e2, e3]
      simp only [List.length_cons] at hzl h8l
      exact specListTake_more b off n x (y :: r) w hs (by omega) (by omega) hok

set_option maxHeartbeats 400000 in
theorem implListFirst_some (a : Option Addr) (n cap : Nat) (x : Int) (ys : List Int) (w : World) (hs : SInts w a n (x :: ys)) (hn : n ≤ 9223372036854775807) :
    Calls Tryd.prog 31 #[.slice a n cap] w fun e w' => e = .returned (.agg #[.int .i64 2, .int .i64 x]) ∧ Below w.heap.size w w' := by
  have hz := hs.1
  obtain ⟨b, off, rfl, hc⟩ : ∃ b off, a = some ⟨b, off, none⟩ ∧ w.cell? ⟨b, off, none⟩ = some (.int .i64 x) := by
    obtain ⟨_, h0 | ⟨b, off, rfl, hc⟩⟩ := hs
    · simp at hz; omega
    · exact ⟨b, off, rfl, by simpa using hc 0 (by simp at hz; omega)⟩
  have hn0 : ((n : Int) == 0) = false := by simp at hz; simp; omega
  have hn3 : 0 < n := by simp at hz; omega
  have hcA := cell_kept ((Below.refl w.heap.size w).alloc (Nat.le_refl _) (.cells #[.int .i64 0, .int .i64 0] 37)) hc
  clear hs hz
  go_enter Tryd.func31, Tryd.ntmps31
  go_wp2
  exact bodyPost_ret (v := .agg #[.int .i64 2, .int .i64 x]) (by simp [results, Tryd.results31, go_sem]) rfl ⟨rfl, (Below.refl _ _).alloc (Nat.le_refl _) _⟩

set_option maxHeartbeats 400000 in
theorem implListTake_bad (a : Option Addr) (n cap : Nat) (zs : List Int) (w : World) (hs : SInts w a n zs) (hn : n ≤ 9223372036854775807) (hok : okL zs = false) :
    Calls Tryd.prog 27 #[.slice a n cap] w fun e w' => ListRes [] 0 0 e w w' := by
  have hb0 : ∀ o, Below w.heap.size w (w.alloc o) := fun o => (Below.refl _ _).alloc (Nat.le_refl _) o
  go_enter Tryd.func27, Tryd.ntmps27
  go_wp2_with fail
  refine (implListOk_any _ _ _ zs _ (hs.below (hb0 _)) hn).mono ?_
  rintro e w1 ⟨rfl, rfl⟩
  go_wp2
  exact bodyPost_ret (v := .tuple #[.slice none 0 0, .agg #[.int .i64 0, .int .i64 0]]) (by simp [results, Tryd.results27, go_sem]) rfl ⟨0, none, 0, rfl, World.ownsRow_nil _ _ _ _, hb0 _⟩

set_option maxHeartbeats 400000 in
theorem implListTake_none (a : Option Addr) (cap : Nat) (w : World) :
    Calls Tryd.prog 27 #[.slice a 0 cap] w fun e w' => ListRes [] 1 0 e w w' := by
  have hb0 : ∀ o, Below w.heap.size w (w.alloc o) := fun o => (Below.refl _ _).alloc (Nat.le_refl _) o
  have hok : okL [] = true := by decide
  go_enter Tryd.func27, Tryd.ntmps27
  go_wp2_with fail
  refine (implListOk_any _ 0 _ [] _ ⟨rfl, .inl rfl⟩ (by omega)).mono ?_
  rintro e w1 ⟨rfl, rfl⟩
  go_wp2
  exact bodyPost_ret (v := .tuple #[.slice none 0 0, .agg #[.int .i64 1, .int .i64 0]]) (by simp [results, Tryd.results27, go_sem]) rfl ⟨0, none, 0, rfl, World.ownsRow_nil _ _ _ _, hb0 _⟩

set_option maxHeartbeats 400000 in
theorem implListTake_some (a : Option Addr) (n cap : Nat) (x : Int) (ys : List Int) (w : World) (hs : SInts w a n (x :: ys)) (hnc : n ≤ cap) (hcap : cap ≤ 9223372036854775807 ∧ n ≤ 1099511627776) (hok : okL (x :: ys) = true) :
    Calls Tryd.prog 27 #[.slice a n cap] w fun e w' => ListRes ys 2 x e w w' := by
  have hb0 : ∀ o, Below w.heap.size w (w.alloc o) := fun o => (Below.refl _ _).alloc (Nat.le_refl _) o
  have hz := hs.1
  have hn0 : ((n : Int) == 0) = false := by simp at hz; simp; omega
  have hn3 : 0 < n := by simp at hz; omega
  clear hz
  go_enter Tryd.func27, Tryd.ntmps27
  go_wp2_with fail
  refine (implListOk_any _ _ _ (x :: ys) _ (hs.below (hb0 _)) (by omega)).mono ?_
  rintro e w1 ⟨rfl, rfl⟩
  go_wp2_with fail
  refine (without_any _ _ _ (x :: ys) 0 _ (hs.below (hb0 _)) hn3 hnc hcap).mono ?_
  rintro e w1 ⟨a', c', rfl, ho, hb⟩
  have hb1 := below_trans' (hb0 _) hb
  have hc0 := hb.cell (p := ⟨w.heap.size, 0, none⟩) (by simp)
  have hc1 := hb.cell (p := ⟨w.heap.size, 1, none⟩) (by simp)
  have hf0 := hb.frozen (p := ⟨w.heap.size, 0, none⟩) (by simp)
  have hf1 := hb.frozen (p := ⟨w.heap.size, 1, none⟩) (by simp)
  simp at hc0 hc1 hf0 hf1
  have hs1 := hs.below hb1
  have hlt : w.heap.size < w1.heap.size := World.block_lt_of_cell? w1 ⟨w.heap.size, 0, none⟩ hc0
  have HO : Hid (w1.ownsRow (w.heap.size + 1) 3 1 (.slice a' (n - 1) c') (n - 1) (ys.map (Value.int .i64))) := by
    have := ho
    simp only [World.size_alloc, List.take_zero, List.nil_append, Nat.zero_add, List.drop_succ_cons, List.drop_zero] at this
    exact this
  clear ho hb hs hb0
  go_wp2_with fail
  refine (implListFirst_some _ _ _ x ys _ hs1 (by omega)).mono ?_
  rintro e w2 ⟨rfl, hb2⟩
  have d0 := cell_kept hb2 hc0
  have d1 := cell_kept hb2 hc1
  have f0 : w2.frozen? ⟨w.heap.size, 0, none⟩ = false := (hb2.frozen (p := ⟨w.heap.size, 0, none⟩) hlt).trans hf0
  have f1 : w2.frozen? ⟨w.heap.size, 1, none⟩ = false := (hb2.frozen (p := ⟨w.heap.size, 1, none⟩) hlt).trans hf1
  have HO2 : Hid (w2.ownsRow (w.heap.size + 1) 3 1 (.slice a' (n - 1) c') (n - 1) (ys.map (Value.int .i64))) := ownsRow_below HO.out hb2
  have hb' := below_trans' hb1 hb2
  clear HO hb2 hb1 hs1 hc0 hc1 hf0 hf1 hlt
  go_wp2
  refine bodyPost_ret (v := .tuple #[.slice a' (n - 1) c', .agg #[.int .i64 2, .int .i64 x]]) (by simp [results, Tryd.results27, go_sem, d0, d1]) rfl ⟨n - 1, a', c', rfl, own_mono (own_setCell (own_setCell HO2.out (by omega) _) (by omega) _) (by omega), (hb'.setCell (Nat.le_refl _) _).setCell (Nat.le_refl _) _⟩

theorem implListTake_any (a : Option Addr) (n : Nat) (zs : List Int) (w : World) (hs : SInts w a n zs) (hn : n ≤ 1099511627776) :
    Calls Tryd.prog 27 #[.slice a n n] w fun e w' => ListRes (takeL zs) (takeC zs) (takeV zs) e w w' := by
  have hzl := hs.1
  cases hok : okL zs
  · have e1 : takeL zs = [] := by simp [takeL, hok]
    have e2 : takeC zs = 0 := by simp [takeC, hok]
    have e3 : takeV zs = 0 := by simp [takeV, hok]
    rw [e1, e2, e3]
    exact implListTake_bad _ n n zs w hs (by omega) hok
  · match zs, hzl with
    | [], hzl =>
      have h0 : n = 0 := by simpa using hzl.symm
      subst h0
      exact implListTake_none _ 0 w
    | x :: r, hzl =>
      have e1 : takeL (x :: r) = r := by simp [takeL, hok]
      have e2 : takeC (x :: r) = 2 := by simp [takeC, hok]
      have e3 : takeV (x :: r) = x := by simp [takeV, hok]
      rw [e1, e2, e3]
      exact implListTake_some a n n x r w hs (Nat.le_refl _) ⟨by omega, hn⟩ hok

theorem takeL_len (zs : List Int) : (takeL zs).length ≤ zs.length := by
  unfold takeL
  split
  · simp
  · simp

end Go.Proofs.YtklpdpdjblakgaaDoor

/- LinM -/
namespace Go.Proofs.YtklpdpdjblakgaaDoor
open Go.RowKit
set_option linter.unusedVariables false

/-- How many entries there are behind what is asked. -/
def fN (k x y : Int) (n : Nat) (zs : List Int) : Nat := if k = 2 then ptN zs n x y else if k = 3 then delN zs n x else n
/-- The entries behind what is asked. -/
def fZ (k x y : Int) (n : Nat) (zs : List Int) : List Int := if k = 2 then ptL zs n x y else if k = 3 then delL zs n x else zs
/-- The stack behind what is asked. -/
def fS (k y : Int) (s : List Int) : List Int := if k = 5 then putL s 0 y else if k = 6 then takeL s else s
/-- The queue behind what is asked. -/
def fQ (k y : Int) (q : List Int) : List Int := if k = 7 then putL q q.length y else if k = 8 then takeL q else q
/-- The code of the answer. -/
def rC (k x y : Int) (n : Nat) (zs s q : List Int) : Int :=
  if k = 1 then getC zs n x else if k = 2 then ptC zs n x y else if k = 3 then delC zs n x else if k = 5 then putC s y else if k = 6 then takeC s else if k = 7 then putC q y else if k = 8 then takeC q
  else if k = 9 then nextC zs n x else if k = 11 then firstC s else if k = 12 then firstC q else 2
/-- The value of the answer. -/
def rV (k x y : Int) (n : Nat) (zs s q : List Int) : Int :=
  if k = 1 then getV zs n x else if k = 3 then delV zs n x else if k = 6 then takeV s else if k = 8 then takeV q
  else if k = 9 then nextV zs n x else if k = 10 then cntV zs n x else if k = 11 then firstV s else if k = 12 then firstV q else 0

def stOk (n : Nat) (zs s q : List Int) : Bool := okM zs n && (okL s && okL q)
def apOk (k x y : Int) (n : Nat) (zs s q : List Int) : Bool := stOk n zs s q && opB k x y
def aN (k x y : Int) (n : Nat) (zs s q : List Int) : Nat := if apOk k x y n zs s q then fN k x y n zs else 0
def aZ (k x y : Int) (n : Nat) (zs s q : List Int) : List Int := if apOk k x y n zs s q then fZ k x y n zs else []
def aS (k x y : Int) (n : Nat) (zs s q : List Int) : List Int := if apOk k x y n zs s q then fS k y s else []
def aQ (k x y : Int) (n : Nat) (zs s q : List Int) : List Int := if apOk k x y n zs s q then fQ k y q else []
def aC (k x y : Int) (n : Nat) (zs s q : List Int) : Int := if apOk k x y n zs s q then rC k x y n zs s q else 0
def aV (k x y : Int) (n : Nat) (zs s q : List Int) : Int := if apOk k x y n zs s q then rV k x y n zs s q else 0

theorem apOk_parts {k x y : Int} {n : Nat} {zs s q : List Int} (h : apOk k x y n zs s q = true) : okM zs n = true ∧ okL s = true ∧ okL q = true ∧ opB k x y = true := by
  simp only [apOk, stOk, Bool.and_eq_true] at h
  exact ⟨h.1.1, h.1.2.1, h.1.2.2, h.2⟩
theorem apOk_mk {k x y : Int} {n : Nat} {zs s q : List Int} (h1 : okM zs n = true) (h2 : okL s = true) (h3 : okL q = true) (h4 : opB k x y = true) : apOk k x y n zs s q = true := by
  simp only [apOk, stOk, Bool.and_eq_true]
  exact ⟨⟨h1, h2, h3⟩, h4⟩
theorem opB_parts {k x y : Int} (h : opB k x y = true) : 1 ≤ k ∧ k ≤ 12 ∧ inB x (kMost k) = true ∧ inB y (vMost k) = true := by
  simp only [opB, Bool.and_eq_true, decide_eq_true_eq] at h
  exact ⟨h.1.1.1, h.1.1.2, h.1.2, h.2⟩
theorem opB_put {k x y : Int} (h : opB k x y = true) (hk : k = 2) : (inB x 99 && inB y 999) = true := by
  subst hk
  have := opB_parts h
  simp [kMost, vMost] at this
  simp [this]
theorem opB_val {k x y : Int} (h : opB k x y = true) (hk : k = 5 ∨ k = 7) : inB y 999 = true := by
  have := (opB_parts h).2.2.2
  rcases hk with rfl | rfl <;> simpa [vMost] using this

theorem okL_cons {s : List Int} {y : Int} (h : okL s = true) (hy : inB y 999 = true) (hl : s.length ≠ 8) : okL (y :: s) = true ∧ okL (s ++ [y]) = true := by
  simp only [okL, Bool.and_eq_true, decide_eq_true_eq, List.all_eq_true] at h ⊢
  refine ⟨⟨by simp; omega, fun z hz => ?_⟩, ⟨by simp; omega, fun z hz => ?_⟩⟩
  · rcases List.mem_cons.1 hz with rfl | hz
    · exact hy
    · exact h.2 z hz
  · rcases List.mem_append.1 hz with hz | hz
    · exact h.2 z hz
    · rw [List.mem_singleton.1 hz]; exact hy
theorem okL_drop {s : List Int} (h : okL s = true) (i : Nat) : okL (s.drop i) = true := by
  simp only [okL, Bool.and_eq_true, decide_eq_true_eq, List.all_eq_true] at h ⊢
  exact ⟨by simp; omega, fun z hz => h.2 z (List.mem_of_mem_drop hz)⟩

theorem fS_ok {k x y : Int} {s : List Int} (h : okL s = true) (ho : opB k x y = true) : okL (fS k y s) = true := by
  unfold fS
  split
  · rename_i e
    unfold putL
    rw [h, opB_val ho (.inl e)]
    by_cases h8 : s.length = 8
    · simp [h8, h]
    · simp only [Bool.and_self, if_true, if_neg h8, List.take_zero, List.nil_append, List.drop_zero]
      exact (okL_cons h (opB_val ho (.inl e)) h8).1
  · split
    · unfold takeL
      rw [h, if_pos rfl]
      exact okL_drop h 1
    · exact h
theorem fQ_ok {k x y : Int} {q : List Int} (h : okL q = true) (ho : opB k x y = true) : okL (fQ k y q) = true := by
  unfold fQ
  split
  · rename_i e
    unfold putL
    rw [h, opB_val ho (.inr e)]
    by_cases h8 : q.length = 8
    · simp [h8, h]
    · simp only [Bool.and_self, if_true, if_neg h8, List.take_length, List.drop_length, List.append_nil]
      exact (okL_cons h (opB_val ho (.inr e)) h8).2
  · split
    · unfold takeL
      rw [h, if_pos rfl]
      exact okL_drop h 1
    · exact h
theorem ptL_len {x y : Int} {n : Nat} {zs : List Int} (hl : zs.length = n * 2) : (ptL zs n x y).length = ptN zs n x y * 2 := by
  unfold ptL ptN
  split
  · split
    · exact hl
    · split
      · exact hl
      · simp only [List.length_append, List.length_take, List.length_drop, List.length_cons, List.length_nil]; omega
  · rfl
theorem delL_len {x : Int} {n : Nat} {zs : List Int} (hl : zs.length = n * 2) : (delL zs n x).length = delN zs n x * 2 := by
  cases h : okM zs n
  · simp [delL, delN, h]
  · rcases ent_cases x h with ⟨hB, hi, hk⟩ | ⟨hB, hno⟩
    · have e1 : delL zs n x = zs.take (entI zs n x * 2) ++ zs.drop ((entI zs n x + 1) * 2) := by simp [delL, h, hB]
      have e2 : delN zs n x = n - 1 := by simp [delN, h, hB]
      rw [e1, e2]
      simp only [List.length_append, List.length_take, List.length_drop]; omega
    · have e1 : delL zs n x = zs := by simp [delL, h, hB]
      have e2 : delN zs n x = n := by simp [delN, h, hB]
      rw [e1, e2]
      exact hl
theorem fZ_len {k x y : Int} {n : Nat} {zs : List Int} (hl : zs.length = n * 2) : (fZ k x y n zs).length = fN k x y n zs * 2 := by
  unfold fZ fN
  split
  · exact ptL_len hl
  · split
    · exact delL_len hl
    · exact hl
theorem fZ_ok {k x y : Int} {n : Nat} {zs : List Int} (hl : zs.length = n * 2) (h : okM zs n = true) (ho : opB k x y = true) : okM (fZ k x y n zs) (fN k x y n zs) = true := by
  unfold fZ fN
  split
  · rename_i e
    exact (put_all hl (by unfold ptOk; rw [h]; exact opB_put ho e)).1
  · split
    · rename_i e
      rcases ent_cases x h with ⟨hB, hi, hk⟩ | ⟨hB, hno⟩
      · have e1 : delL zs n x = zs.take (entI zs n x * 2) ++ zs.drop ((entI zs n x + 1) * 2) := by simp [delL, h, hB]
        have e2 : delN zs n x = n - 1 := by simp [delN, h, hB]
        rw [e1, e2]
        exact cut_ok hl h hi
      · have e1 : delL zs n x = zs := by simp [delL, h, hB]
        have e2 : delN zs n x = n := by simp [delN, h, hB]
        rw [e1, e2]
        exact h
    · exact h

/-- Of what is asked: the map, the stack, the queue, or nothing. -/
def thing (k : Int) : Int := if k = 1 ∨ k = 2 ∨ k = 3 ∨ k = 9 ∨ k = 10 then 1 else if k = 5 ∨ k = 6 ∨ k = 11 then 2 else if k = 7 ∨ k = 8 ∨ k = 12 then 3 else 0
theorem fS_else {k y : Int} {s : List Int} (h : thing k ≠ 2) : fS k y s = s := by
  unfold fS
  split
  · rename_i e; subst e; exact absurd rfl h
  · split
    · rename_i e; subst e; exact absurd rfl h
    · rfl
theorem fQ_else {k y : Int} {q : List Int} (h : thing k ≠ 3) : fQ k y q = q := by
  unfold fQ
  split
  · rename_i e; subst e; exact absurd rfl h
  · split
    · rename_i e; subst e; exact absurd rfl h
    · rfl
theorem fZ_else {k x y : Int} {n : Nat} {zs : List Int} (h : thing k ≠ 1) : fZ k x y n zs = zs ∧ fN k x y n zs = n := by
  unfold fZ fN
  have h2 : k ≠ 2 := fun e => by subst e; exact h rfl
  have h3 : k ≠ 3 := fun e => by subst e; exact h rfl
  simp [h2, h3]
/-- An answer hangs on that alone of which it is asked. -/
theorem rC_of {k x y : Int} {n n' : Nat} {zs zs' s s' q q' : List Int} (hk : 1 ≤ k ∧ k ≤ 12) (h1 : thing k = 1 → n = n' ∧ zs = zs') (h2 : thing k = 2 → s = s') (h3 : thing k = 3 → q = q') :
    rC k x y n zs s q = rC k x y n' zs' s' q' ∧ rV k x y n zs s q = rV k x y n' zs' s' q' := by
  obtain ⟨ha, hb⟩ := hk
  rcases (show k = 1 ∨ k = 2 ∨ k = 3 ∨ k = 4 ∨ k = 5 ∨ k = 6 ∨ k = 7 ∨ k = 8 ∨ k = 9 ∨ k = 10 ∨ k = 11 ∨ k = 12 by omega) with rfl | rfl | rfl | rfl | rfl | rfl | rfl | rfl | rfl | rfl | rfl | rfl
  all_goals first
    | (obtain ⟨rfl, rfl⟩ := h1 rfl; exact ⟨rfl, rfl⟩)
    | (obtain rfl := h2 rfl; exact ⟨rfl, rfl⟩)
    | (obtain rfl := h3 rfl; exact ⟨rfl, rfl⟩)
    | exact ⟨rfl, rfl⟩
/-- Two asks of two things, in either order. -/
theorem ap_swap {k x y k' x' y' : Int} {n : Nat} {zs s q : List Int} (hl : zs.length = n * 2) (h : apOk k x y n zs s q = true) (h' : opB k' x' y' = true) (ht : thing k ≠ thing k') :
    let N := aN k x y n zs s q; let Z := aZ k x y n zs s q; let S := aS k x y n zs s q; let Q := aQ k x y n zs s q
    let N' := aN k' x' y' n zs s q; let Z' := aZ k' x' y' n zs s q; let S' := aS k' x' y' n zs s q; let Q' := aQ k' x' y' n zs s q
    aN k' x' y' N Z S Q = aN k x y N' Z' S' Q' ∧ aZ k' x' y' N Z S Q = aZ k x y N' Z' S' Q' ∧ aS k' x' y' N Z S Q = aS k x y N' Z' S' Q' ∧ aQ k' x' y' N Z S Q = aQ k x y N' Z' S' Q' ∧
    aC k' x' y' N Z S Q = aC k' x' y' n zs s q ∧ aV k' x' y' N Z S Q = aV k' x' y' n zs s q ∧ aC k x y N' Z' S' Q' = aC k x y n zs s q ∧ aV k x y N' Z' S' Q' = aV k x y n zs s q := by
  obtain ⟨h1, h2, h3, h4⟩ := apOk_parts h
  have hb := apOk_mk (k := k') (x := x') (y := y') (n := n) (zs := zs) (s := s) (q := q) h1 h2 h3 h'
  have eN : aN k x y n zs s q = fN k x y n zs := by simp [aN, h]
  have eZ : aZ k x y n zs s q = fZ k x y n zs := by simp [aZ, h]
  have eS : aS k x y n zs s q = fS k y s := by simp [aS, h]
  have eQ : aQ k x y n zs s q = fQ k y q := by simp [aQ, h]
  have eN' : aN k' x' y' n zs s q = fN k' x' y' n zs := by simp [aN, hb]
  have eZ' : aZ k' x' y' n zs s q = fZ k' x' y' n zs := by simp [aZ, hb]
  have eS' : aS k' x' y' n zs s q = fS k' y' s := by simp [aS, hb]
  have eQ' : aQ k' x' y' n zs s q = fQ k' y' q := by simp [aQ, hb]
  have g : apOk k' x' y' (fN k x y n zs) (fZ k x y n zs) (fS k y s) (fQ k y q) = true := apOk_mk (fZ_ok hl h1 h4) (fS_ok (x := x) h2 h4) (fQ_ok (x := x) h3 h4) h'
  have g' : apOk k x y (fN k' x' y' n zs) (fZ k' x' y' n zs) (fS k' y' s) (fQ k' y' q) = true := apOk_mk (fZ_ok hl h1 h') (fS_ok (x := x') h2 h') (fQ_ok (x := x') h3 h') h4
  simp only [eN, eZ, eS, eQ, eN', eZ', eS', eQ']
  have u : aN k' x' y' (fN k x y n zs) (fZ k x y n zs) (fS k y s) (fQ k y q) = fN k' x' y' (fN k x y n zs) (fZ k x y n zs) := by simp [aN, g]
  have u1 : aZ k' x' y' (fN k x y n zs) (fZ k x y n zs) (fS k y s) (fQ k y q) = fZ k' x' y' (fN k x y n zs) (fZ k x y n zs) := by simp [aZ, g]
  have u2 : aS k' x' y' (fN k x y n zs) (fZ k x y n zs) (fS k y s) (fQ k y q) = fS k' y' (fS k y s) := by simp [aS, g]
  have u3 : aQ k' x' y' (fN k x y n zs) (fZ k x y n zs) (fS k y s) (fQ k y q) = fQ k' y' (fQ k y q) := by simp [aQ, g]
  have v : aN k x y (fN k' x' y' n zs) (fZ k' x' y' n zs) (fS k' y' s) (fQ k' y' q) = fN k x y (fN k' x' y' n zs) (fZ k' x' y' n zs) := by simp [aN, g']
  have v1 : aZ k x y (fN k' x' y' n zs) (fZ k' x' y' n zs) (fS k' y' s) (fQ k' y' q) = fZ k x y (fN k' x' y' n zs) (fZ k' x' y' n zs) := by simp [aZ, g']
  have v2 : aS k x y (fN k' x' y' n zs) (fZ k' x' y' n zs) (fS k' y' s) (fQ k' y' q) = fS k y (fS k' y' s) := by simp [aS, g']
  have v3 : aQ k x y (fN k' x' y' n zs) (fZ k' x' y' n zs) (fS k' y' s) (fQ k' y' q) = fQ k y (fQ k' y' q) := by simp [aQ, g']
  rw [u, u1, u2, u3, v, v1, v2, v3]
  have c1 : aC k' x' y' (fN k x y n zs) (fZ k x y n zs) (fS k y s) (fQ k y q) = rC k' x' y' (fN k x y n zs) (fZ k x y n zs) (fS k y s) (fQ k y q) := by simp [aC, g]
  have c2 : aV k' x' y' (fN k x y n zs) (fZ k x y n zs) (fS k y s) (fQ k y q) = rV k' x' y' (fN k x y n zs) (fZ k x y n zs) (fS k y s) (fQ k y q) := by simp [aV, g]
  have c3 : aC k' x' y' n zs s q = rC k' x' y' n zs s q := by simp [aC, hb]
  have c4 : aV k' x' y' n zs s q = rV k' x' y' n zs s q := by simp [aV, hb]
  have d1 : aC k x y (fN k' x' y' n zs) (fZ k' x' y' n zs) (fS k' y' s) (fQ k' y' q) = rC k x y (fN k' x' y' n zs) (fZ k' x' y' n zs) (fS k' y' s) (fQ k' y' q) := by simp [aC, g']
  have d2 : aV k x y (fN k' x' y' n zs) (fZ k' x' y' n zs) (fS k' y' s) (fQ k' y' q) = rV k x y (fN k' x' y' n zs) (fZ k' x' y' n zs) (fS k' y' s) (fQ k' y' q) := by simp [aV, g']
  have d3 : aC k x y n zs s q = rC k x y n zs s q := by simp [aC, h]
  have d4 : aV k x y n zs s q = rV k x y n zs s q := by simp [aV, h]
  rw [c1, c2, c3, c4, d1, d2, d3, d4]
  have hr := rC_of (k := k') (x := x') (y := y') (n := fN k x y n zs) (n' := n) (zs := fZ k x y n zs) (zs' := zs) (s := fS k y s) (s' := s) (q := fQ k y q) (q' := q) ⟨(opB_parts h').1, (opB_parts h').2.1⟩ (fun e => ⟨(fZ_else (by omega)).2, (fZ_else (by omega)).1⟩) (fun e => fS_else (by omega)) (fun e => fQ_else (by omega))
  have hr' := rC_of (k := k) (x := x) (y := y) (n := fN k' x' y' n zs) (n' := n) (zs := fZ k' x' y' n zs) (zs' := zs) (s := fS k' y' s) (s' := s) (q := fQ k' y' q) (q' := q) ⟨(opB_parts h4).1, (opB_parts h4).2.1⟩ (fun e => ⟨(fZ_else (by omega)).2, (fZ_else (by omega)).1⟩) (fun e => fS_else (by omega)) (fun e => fQ_else (by omega))
  refine ⟨?_, ?_, ?_, ?_, hr.1, hr.2, hr'.1, hr'.2⟩
  · by_cases e : thing k = 1
    · have z := fZ_else (k := k') (x := x') (y := y') (n := n) (zs := zs) (by omega)
      rw [z.1, z.2, (fZ_else (by omega)).2]
    · have z := fZ_else (k := k) (x := x) (y := y) (n := n) (zs := zs) e
      rw [z.1, z.2, (fZ_else e).2]
  · by_cases e : thing k = 1
    · have z := fZ_else (k := k') (x := x') (y := y') (n := n) (zs := zs) (by omega)
      rw [z.1, z.2, (fZ_else (by omega)).1]
    · have z := fZ_else (k := k) (x := x) (y := y) (n := n) (zs := zs) e
      rw [z.1, z.2, (fZ_else e).1]
  · by_cases e : thing k = 2
    · rw [fS_else (k := k') (by omega), fS_else (k := k') (by omega)]
    · rw [fS_else e, fS_else e]
  · by_cases e : thing k = 3
    · rw [fQ_else (k := k') (by omega), fQ_else (k := k') (by omega)]
    · rw [fQ_else e, fQ_else e]

/-- An answer that is none has code 0, and no other has. -/
theorem aC_zero {k x y : Int} {n : Nat} {zs s q : List Int} (h : apOk k x y n zs s q = false) : aC k x y n zs s q = 0 := by simp [aC, h]
theorem aC_one {k x y : Int} {n : Nat} {zs s q : List Int} (h : apOk k x y n zs s q = true) : aC k x y n zs s q ≠ 0 := by
  obtain ⟨h1, h2, h3, h4⟩ := apOk_parts h
  obtain ⟨ha, hb, _, _⟩ := opB_parts h4
  have e : aC k x y n zs s q = rC k x y n zs s q := by simp [aC, h]
  rw [e]
  rcases (show k = 1 ∨ k = 2 ∨ k = 3 ∨ k = 4 ∨ k = 5 ∨ k = 6 ∨ k = 7 ∨ k = 8 ∨ k = 9 ∨ k = 10 ∨ k = 11 ∨ k = 12 by omega) with rfl | rfl | rfl | rfl | rfl | rfl | rfl | rfl | rfl | rfl | rfl | rfl
  · show getC zs n x ≠ 0
    unfold getC; split <;> decide
  · show ptC zs n x y ≠ 0
    unfold ptC
    rw [if_pos (by unfold ptOk; rw [h1]; exact opB_put h4 rfl)]
    split
    · decide
    · split <;> decide
  · show delC zs n x ≠ 0
    unfold delC
    rw [if_pos h1]
    split <;> decide
  · show (2 : Int) ≠ 0
    decide
  · show putC s y ≠ 0
    unfold putC
    rw [h2, opB_val h4 (.inl rfl)]
    show (if s.length = 8 then (3 : Int) else 2) ≠ 0
    split <;> decide
  · show takeC s ≠ 0
    unfold takeC
    rw [h2, if_pos rfl]
    split <;> decide
  · show putC q y ≠ 0
    unfold putC
    rw [h3, opB_val h4 (.inr rfl)]
    show (if q.length = 8 then (3 : Int) else 2) ≠ 0
    split <;> decide
  · show takeC q ≠ 0
    unfold takeC
    rw [h3, if_pos rfl]
    split <;> decide
  · show nextC zs n x ≠ 0
    unfold nextC; split <;> decide
  · show (2 : Int) ≠ 0
    decide
  · show firstC s ≠ 0
    unfold firstC; split <;> decide
  · show firstC q ≠ 0
    unfold firstC; split <;> decide

/-- Who looks leaves all as it was. -/
theorem ap_look {k x y : Int} {n : Nat} {zs s q : List Int} (h : apOk k x y n zs s q = true) (hk : k ≠ 2 ∧ k ≠ 3 ∧ k ≠ 5 ∧ k ≠ 6 ∧ k ≠ 7 ∧ k ≠ 8) :
    aN k x y n zs s q = n ∧ aZ k x y n zs s q = zs ∧ aS k x y n zs s q = s ∧ aQ k x y n zs s q = q := by
  obtain ⟨a, b, c, d, e, f⟩ := hk
  simp [aN, aZ, aS, aQ, h, fN, fZ, fS, fQ, a, b, c, d, e, f]

/-- A pop behind a push. -/
theorem ap_pop {x y : Int} {n : Nat} {zs s q : List Int} (hl : zs.length = n * 2) (h : apOk 5 x y n zs s q = true) (hc : aC 5 x y n zs s q = 2) :
    let N := aN 5 x y n zs s q; let Z := aZ 5 x y n zs s q; let S := aS 5 x y n zs s q; let Q := aQ 5 x y n zs s q
    aN 6 0 0 N Z S Q = n ∧ aZ 6 0 0 N Z S Q = zs ∧ aS 6 0 0 N Z S Q = s ∧ aQ 6 0 0 N Z S Q = q ∧ aC 6 0 0 N Z S Q = 2 ∧ aV 6 0 0 N Z S Q = y := by
  obtain ⟨h1, h2, h3, h4⟩ := apOk_parts h
  have hy := opB_val h4 (.inl rfl)
  have h8 : s.length ≠ 8 := fun e => by
    have : aC 5 x y n zs s q = 3 := by simp [aC, h, rC, putC, h2, hy, e]
    omega
  have eN : aN 5 x y n zs s q = n := by simp [aN, h, fN]
  have eZ : aZ 5 x y n zs s q = zs := by simp [aZ, h, fZ]
  have eS : aS 5 x y n zs s q = y :: s := by simp [aS, h, fS, putL, h2, hy, h8]
  have eQ : aQ 5 x y n zs s q = q := by simp [aQ, h, fQ]
  simp only [eN, eZ, eS, eQ]
  have hok := (okL_cons h2 hy h8).1
  have g : apOk 6 0 0 n zs (y :: s) q = true := apOk_mk h1 hok h3 (by decide)
  refine ⟨by simp [aN, g, fN], by simp [aZ, g, fZ], by simp [aS, g, fS, takeL, hok], by simp [aQ, g, fQ], by simp [aC, g, rC, takeC, hok], by simp [aV, g, rV, takeV, hok]⟩

/-- A delete behind a put. -/
theorem ap_del {x y : Int} {n : Nat} {zs s q : List Int} (hl : zs.length = n * 2) (h : apOk 2 x y n zs s q = true) (hc : aC 2 x y n zs s q = 2) :
    let N := aN 2 x y n zs s q; let Z := aZ 2 x y n zs s q; let S := aS 2 x y n zs s q; let Q := aQ 2 x y n zs s q
    aN 3 x 0 N Z S Q = n ∧ aZ 3 x 0 N Z S Q = zs ∧ aS 3 x 0 N Z S Q = s ∧ aQ 3 x 0 N Z S Q = q ∧ aC 3 x 0 N Z S Q = 2 ∧ aV 3 x 0 N Z S Q = y := by
  obtain ⟨h1, h2, h3, h4⟩ := apOk_parts h
  have hp : ptOk zs n x y = true := by unfold ptOk; rw [h1]; exact opB_put h4 rfl
  have hpc : ptC zs n x y = 2 := by simpa [aC, h, rC] using hc
  have hB : entB zs n x = false := by
    cases e : entB zs n x
    · rfl
    · simp [ptC, hp, e] at hpc
  have h8 : n ≠ 8 := fun e => by
    unfold ptC at hpc
    rw [if_pos hp, hB, if_pos e] at hpc
    simp at hpc
  have e1 : ptL zs n x y = zs.take (entI zs n x * 2) ++ [x, y] ++ zs.drop (entI zs n x * 2) := by simp [ptL, hp, hB, h8]
  have e2 : ptN zs n x y = n + 1 := by simp [ptN, hp, hB, h8]
  have eN : aN 2 x y n zs s q = n + 1 := by simp [aN, h, fN, e2]
  have eZ : aZ 2 x y n zs s q = ptL zs n x y := by simp [aZ, h, fZ]
  have eS : aS 2 x y n zs s q = s := by simp [aS, h, fS]
  have eQ : aQ 2 x y n zs s q = q := by simp [aQ, h, fQ]
  simp only [eN, eZ, eS, eQ]
  have hok := (put_all hl hp).1
  rw [e2] at hok
  have hle : entI zs n x ≤ n := by
    have hI : entI zs n x = fIdx (fun i => geK x (keyAt zs i)) n := by simp [entI, upM_yes (okM_parts h1).2.2]
    rw [hI]; exact fIdx_le _ _
  have hil : entI zs n x * 2 ≤ zs.length := by omega
  have hki : keyAt (ptL zs n x y) (entI zs n x) = x := by rw [e1, ins_key hil, if_neg (by omega), if_pos rfl]
  have hvi : valAt (ptL zs n x y) (entI zs n x) = y := by rw [e1, ins_val hil, if_neg (by omega), if_pos rfl]
  have hat := ent_at hok (show entI zs n x < n + 1 by omega)
  rw [hki] at hat
  have hcut : (ptL zs n x y).take (entI zs n x * 2) ++ (ptL zs n x y).drop ((entI zs n x + 1) * 2) = zs := by rw [e1]; exact ins_cut hil
  have hx := (opB_parts h4).2.2.1
  have g : apOk 3 x 0 (n + 1) (ptL zs n x y) s q = true := apOk_mk hok h2 h3 (by simp only [opB, Bool.and_eq_true]; exact ⟨⟨⟨by decide, by decide⟩, by simpa [kMost] using hx⟩, by decide⟩)
  refine ⟨?_, ?_, by simp [aS, g, fS], by simp [aQ, g, fQ], ?_, ?_⟩
  · simp [aN, g, fN, delN, hok, hat.2]
  · have : aZ 3 x 0 (n + 1) (ptL zs n x y) s q = delL (ptL zs n x y) (n + 1) x := by simp [aZ, g, fZ]
    rw [this]
    unfold delL
    rw [if_pos hok, if_pos hat.2, hat.1]
    exact hcut
  · simp [aC, g, rC, delC, hok, hat.2]
  · have : aV 3 x 0 (n + 1) (ptL zs n x y) s q = delV (ptL zs n x y) (n + 1) x := by simp [aV, g, rV]
    rw [this]
    unfold delV
    rw [if_pos hok, if_pos hat.2, hat.1]
    exact hvi
end Go.Proofs.YtklpdpdjblakgaaDoor

/- InvM -/
namespace Go.Proofs.YtklpdpdjblakgaaDoor
open Go.RowKit
set_option linter.unusedVariables false

theorem grown_trans {w w1 w2 : World} {row : Option Nat} (h : w.grownBy w1 row) (k : w1.grownBy w2 row) : w.grownBy w2 row :=
  ⟨k.os.trans h.os, k.tape.trans h.tape, k.output.trans h.output, Nat.le_trans h.size k.size, fun b hb hne => (k.block b (Nat.lt_of_lt_of_le hb h.size) hne).trans (h.block b hb hne)⟩

set_option maxHeartbeats 400000 in
theorem markMapMap_any (a : Option Addr) (n cap base : Nat) (zs : List Int) (k : Int) (w : World) (ho : w.ownsRow base 84 2 (.slice a n cap) n (zs.map (Value.int .i64))) (hk0 : 0 ≤ k) (hk : k + n ≤ 1000000000000) (hn : n ≤ 1000000000000) :
    Calls Tryd.prog 53 #[.agg #[.slice a n cap], .int .i64 k] w fun e w' => e = .returned (.int .i64 (k + 2 * n)) ∧ w'.ownsRow base 84 2 (.slice a n cap) n ((marks k (n * 2)).map (Value.int .i64)) ∧ w.grownBy w' (Value.ownBlock (.slice a n cap)) := by
  go_enter Tryd.func53, Tryd.ntmps53
  go_wp2_with fail
  refine (markMapEntryS_any _ _ _ _ zs _ _ (ho.alloc _) hk0 hk hn).mono ?_
  rintro e w1 ⟨rfl, ho1, hg1, _⟩
  have hg := grown_trans (World.grownBy_alloc w _ _) hg1
  have HO : Hid (w1.ownsRow base 84 2 (.slice a n cap) n ((marks k (n * 2)).map (Value.int .i64))) := ho1
  clear ho ho1 hg1
  go_wp2
  go_ret
  exact ⟨rfl, HO.out, hg⟩

set_option maxHeartbeats 400000 in
theorem heldMapMap_any (a : Option Addr) (n cap : Nat) (k : Int) (w : World) (hs : SInts w a (n * 2) (marks k (n * 2))) (hk0 : 0 ≤ k) (hk : k + n ≤ 1000000000000) :
    Calls Tryd.prog 55 #[.agg #[.slice a n cap], .int .i64 k] w fun e w' => e = .returned (.int .i64 (k + 2 * n)) ∧ Below w.heap.size w w' := by
  have hb0 : ∀ o, Below w.heap.size w (w.alloc o) := fun o => (Below.refl _ _).alloc (Nat.le_refl _) o
  go_enter Tryd.func55, Tryd.ntmps55
  go_wp2_with fail
  refine (heldMapEntryS_any _ _ _ _ _ (hs.below (hb0 _)) hk0 hk).mono ?_
  rintro e w1 ⟨rfl, rfl⟩
  clear hs
  go_wp2
  go_ret
  exact ⟨rfl, hb0 _⟩

structure MInv (w : World) (a : Option Addr) (n cap : Nat) (aw : Option Addr) (Nw cw : Nat) (L : List Int) (B1 : Nat) (C V : Int) (gx B2 : Nat) (X : List Int) (ag : Option Addr) (Ng cg : Nat) (G : List Int) (B3 : Nat) (W : World) : Prop where
  bel : Below w.heap.size w W
  p : W.cell? ⟨w.heap.size, 0, none⟩ = some (.slice a n cap)
  lt0 : w.heap.size < B1
  ow : W.ownsRow (w.heap.size + 1) 84 2 (.slice aw Nw cw) Nw (L.map (Value.int .i64))
  owlt : ∀ k, (Value.slice aw Nw cw).ownBlock = some k → k < B1
  mw : W.cell? ⟨B1, 0, none⟩ = some (.slice aw Nw cw)
  r0 : W.cell? ⟨B1 + 1, 0, none⟩ = some (.int .i64 C)
  r1 : W.cell? ⟨B1 + 1, 1, none⟩ = some (.int .i64 V)
  lt1 : B1 + 1 < gx
  ox : W.ownsRow (w.heap.size + 1) 84 2 (.slice (some ⟨gx, 0, none⟩) n n) n (X.map (Value.int .i64))
  lt2 : gx < B2
  mx : W.cell? ⟨B2, 0, none⟩ = some (.slice (some ⟨gx, 0, none⟩) n n)
  og : W.ownsRow (B2 + 1) 84 2 (.slice ag Ng cg) Ng (G.map (Value.int .i64))
  oglt : ∀ k, (Value.slice ag Ng cg).ownBlock = some k → k < B3
  lt3 : B2 < B3
  mg : W.cell? ⟨B3, 0, none⟩ = some (.slice ag Ng cg)
  s0 : W.cell? ⟨B3 + 1, 0, none⟩ = some (.int .i64 C)
  s1 : W.cell? ⟨B3 + 1, 1, none⟩ = some (.int .i64 V)

section
variable {w : World} {a : Option Addr} {n cap : Nat} {aw : Option Addr} {Nw cw : Nat} {L : List Int} {B1 : Nat} {C V : Int} {gx B2 : Nat} {X : List Int} {ag : Option Addr} {Ng cg : Nat} {G : List Int} {B3 : Nat} {W W' : World}

theorem MInv.below (h : MInv w a n cap aw Nw cw L B1 C V gx B2 X ag Ng cg G B3 W) (hb : Below W.heap.size W W') : MInv w a n cap aw Nw cw L B1 C V gx B2 X ag Ng cg G B3 W' :=
  { bel := below_trans' h.bel hb, p := cell_kept hb h.p, lt0 := h.lt0, ow := ownsRow_below h.ow hb, owlt := h.owlt, mw := cell_kept hb h.mw, r0 := cell_kept hb h.r0, r1 := cell_kept hb h.r1, lt1 := h.lt1,
    ox := ownsRow_below h.ox hb, lt2 := h.lt2, mx := cell_kept hb h.mx, og := ownsRow_below h.og hb, oglt := h.oglt, lt3 := h.lt3, mg := cell_kept hb h.mg, s0 := cell_kept hb h.s0, s1 := cell_kept hb h.s1 }

theorem cell_grown {row : Option Nat} {b o : Nat} {v : Value} (hg : W.grownBy W' row) (h : W.cell? ⟨b, o, none⟩ = some v) (hne : ∀ k, row = some k → k ≠ b) : W'.cell? ⟨b, o, none⟩ = some v :=
  hg.cell h (fun e => hne b e.symm rfl)
theorem own_grown {row : Option Nat} {base : Nat} {e : TypeId} {size : Nat} {v : Value} {m : Nat} {xs : List Value} (hg : W.grownBy W' row) (h : W.ownsRow base e size v m xs) (hne : ∀ k j, row = some k → v.ownBlock = some j → k ≠ j) : W'.ownsRow base e size v m xs :=
  h.kept hg (by
    cases e : v.ownBlock with
    | none => exact .inl rfl
    | some j => exact .inr (fun e' => hne j j e'.symm e rfl))

theorem MInv.markX (h : MInv w a n cap aw Nw cw L B1 C V gx B2 X ag Ng cg G B3 W) {X' : List Int} (hg : W.grownBy W' (some gx)) (ho : W'.ownsRow (w.heap.size + 1) 84 2 (.slice (some ⟨gx, 0, none⟩) n n) n (X'.map (Value.int .i64))) :
    MInv w a n cap aw Nw cw L B1 C V gx B2 X' ag Ng cg G B3 W' := by
  have l0 := h.lt0
  have l1 := h.lt1
  have l2 := h.lt2
  have l3 := h.lt3
  exact
  { bel := h.bel.grown hg h.bel.size (fun k e => by cases e; omega), p := cell_grown hg h.p (fun k e => by cases e; omega), lt0 := h.lt0,
    ow := own_grown hg h.ow (fun k j e e' => by cases e; have := h.owlt _ e'; omega), owlt := h.owlt, mw := cell_grown hg h.mw (fun k e => by cases e; omega), r0 := cell_grown hg h.r0 (fun k e => by cases e; omega), r1 := cell_grown hg h.r1 (fun k e => by cases e; omega), lt1 := h.lt1,
    ox := ho, lt2 := h.lt2, mx := cell_grown hg h.mx (fun k e => by cases e; omega), og := own_grown hg h.og (fun k j e e' => by cases e; have := (h.og.lt _ e').1; omega), oglt := h.oglt, lt3 := h.lt3,
    mg := cell_grown hg h.mg (fun k e => by cases e; omega), s0 := cell_grown hg h.s0 (fun k e => by cases e; omega), s1 := cell_grown hg h.s1 (fun k e => by cases e; omega) }

theorem MInv.markG (h : MInv w a n cap aw Nw cw L B1 C V gx B2 X ag Ng cg G B3 W) {G' : List Int} (hg : W.grownBy W' (Value.slice ag Ng cg).ownBlock) (ho : W'.ownsRow (B2 + 1) 84 2 (.slice ag Ng cg) Ng (G'.map (Value.int .i64))) :
    MInv w a n cap aw Nw cw L B1 C V gx B2 X ag Ng cg G' B3 W' := by
  have l0 := h.lt0
  have l1 := h.lt1
  have l2 := h.lt2
  have l3 := h.lt3
  have lo : ∀ k, (Value.slice ag Ng cg).ownBlock = some k → B2 + 1 ≤ k ∧ k < B3 := fun k e => ⟨(h.og.lt _ e).1, h.oglt k e⟩
  exact
  { bel := h.bel.grown hg h.bel.size (fun k e => by have := lo k e; omega), p := cell_grown hg h.p (fun k e => by have := lo k e; omega), lt0 := h.lt0,
    ow := own_grown hg h.ow (fun k j e e' => by have := lo k e; have := h.owlt _ e'; omega), owlt := h.owlt, mw := cell_grown hg h.mw (fun k e => by have := lo k e; omega), r0 := cell_grown hg h.r0 (fun k e => by have := lo k e; omega), r1 := cell_grown hg h.r1 (fun k e => by have := lo k e; omega), lt1 := h.lt1,
    ox := own_grown hg h.ox (fun k j e e' => by have := lo k e; have e2 : gx = j := (by cases e'; rfl); omega), lt2 := h.lt2, mx := cell_grown hg h.mx (fun k e => by have := lo k e; omega), og := ho, oglt := h.oglt, lt3 := h.lt3,
    mg := cell_grown hg h.mg (fun k e => by have := lo k e; omega), s0 := cell_grown hg h.s0 (fun k e => by have := lo k e; omega), s1 := cell_grown hg h.s1 (fun k e => by have := lo k e; omega) }

end

/-- The facts behind the program's first call: all stands. -/
theorem minv_start {w w2 w4 w6 : World} {a : Option Addr} {n cap : Nat} {aw : Option Addr} {Nw cw : Nat} {L : List Int} {C V : Int} {X : List Int} {gx : Nat} {ag : Option Addr} {Ng cg : Nat} {b : Nat}
    (hb2 : Below w.heap.size w w2) (hp : w2.cell? ⟨w.heap.size, 0, none⟩ = some (.slice a n cap)) (hb : w.heap.size + 1 ≤ b) (ow : w2.ownsRow b 84 2 (.slice aw Nw cw) Nw (L.map (Value.int .i64)))
    (hb4 : Below ((w2.alloc (.cells #[.slice aw Nw cw] 33)).alloc (.cells #[.int .i64 C, .int .i64 V] 37)).heap.size ((w2.alloc (.cells #[.slice aw Nw cw] 33)).alloc (.cells #[.int .i64 C, .int .i64 V] 37)) w4)
    (hgx : ((w2.alloc (.cells #[.slice aw Nw cw] 33)).alloc (.cells #[.int .i64 C, .int .i64 V] 37)).heap.size ≤ gx)
    (ox : w4.ownsRow ((w2.alloc (.cells #[.slice aw Nw cw] 33)).alloc (.cells #[.int .i64 C, .int .i64 V] 37)).heap.size 84 2 (.slice (some ⟨gx, 0, none⟩) n n) n (X.map (Value.int .i64)))
    (og : w6.ownsRow (w4.alloc (.cells #[.slice (some ⟨gx, 0, none⟩) n n] 33)).heap.size 84 2 (.slice ag Ng cg) Ng (L.map (Value.int .i64)))
    (hb6 : Below (w4.alloc (.cells #[.slice (some ⟨gx, 0, none⟩) n n] 33)).heap.size (w4.alloc (.cells #[.slice (some ⟨gx, 0, none⟩) n n] 33)) w6) :
    MInv w a n cap aw Nw cw L w2.heap.size C V gx w4.heap.size X ag Ng cg L w6.heap.size ((w6.alloc (.cells #[.slice ag Ng cg] 33)).alloc (.cells #[.int .i64 C, .int .i64 V] 37)) := by
  have al : ∀ (W : World) (o : Obj), Below W.heap.size W (W.alloc o) := fun W o => (Below.refl _ _).alloc (Nat.le_refl _) o
  have T3 := below_trans' (al w6 (.cells #[.slice ag Ng cg] 33)) (al _ (.cells #[.int .i64 C, .int .i64 V] 37))
  have T2 := below_trans' (below_trans' (al w4 (.cells #[.slice (some ⟨gx, 0, none⟩) n n] 33)) hb6) T3
  have T1 := below_trans' hb4 T2
  have T0 := below_trans' (below_trans' (al w2 (.cells #[.slice aw Nw cw] 33)) (al _ (.cells #[.int .i64 C, .int .i64 V] 37))) T1
  have hplt := World.block_lt_of_cell? w2 ⟨w.heap.size, 0, none⟩ hp
  have s4 := hb4.size
  have s6 := hb6.size
  have hx := ox.lt _ rfl
  simp at s4 s6 hgx hx hplt
  exact
    { bel := below_trans' hb2 T0, p := cell_kept T0 hp, lt0 := hplt, ow := own_mono (ownsRow_below ow T0) hb, owlt := fun k e => (ow.lt k e).2,
      mw := cell_kept T1 (cell_kept (al _ _) (cell_at w2 _ _ 0 rfl rfl)), r0 := cell_kept T1 (cell_at (w2.alloc _) _ _ 0 (by simp) rfl), r1 := cell_kept T1 (cell_at (w2.alloc _) _ _ 1 (by simp) rfl),
      lt1 := by omega, ox := own_mono (ownsRow_below ox T2) (by simp; omega), lt2 := by omega, mx := cell_kept (below_trans' hb6 T3) (cell_at w4 _ _ 0 rfl rfl),
      og := own_mono (ownsRow_below og T3) (by simp), oglt := fun k e => (og.lt k e).2, lt3 := by omega,
      mg := cell_kept (al _ _) (cell_at w6 _ _ 0 rfl rfl), s0 := cell_at (w6.alloc _) _ _ 0 (by simp) rfl, s1 := cell_at (w6.alloc _) _ _ 1 (by simp) rfl }

end Go.Proofs.YtklpdpdjblakgaaDoor

/- Draw -/
namespace Go.Proofs.YtklpdpdjblakgaaDoor
open Go.RowKit
set_option linter.unusedVariables false

/-- The slice of length n at a reads as some bytes. -/
def SBytes (w : World) (a : Option Addr) (n : Nat) : Prop :=
  n = 0 ∨ ∃ b off, a = some ⟨b, off, none⟩ ∧ ∀ i, i < n → ∃ x : Int, 0 ≤ x ∧ x ≤ 255 ∧ w.cell? ⟨b, off + i, none⟩ = some (.int .u8 x)

/-- What l20Open does. -/
def Opened (a : Option Addr) (n : Nat) (w : World) (e : Ending) (w' : World) : Prop :=
  ∃ m c, (m ≤ n ∧ m ≤ 3000) ∧ e = .returned (.pointer (some ⟨w.heap.size, 0, none⟩)) ∧ w' = w.alloc (.cells #[.slice a m c, .int .i64 0] 122)

set_option maxHeartbeats 400000 in
theorem open_any (a : Option Addr) (n cap : Nat) (w : World) (hc : n ≤ cap) (hn : n ≤ 1048576) :
    Calls Tryd.prog 57 #[.slice a n cap] w (Opened a n w) := by
  by_cases h : 3000 < n
  · have hi : (3000 : Int) < (n : Int) := by omega
    have hc' : 3000 ≤ cap := by omega
    clear hc
    go_enter Tryd.func57, Tryd.ntmps57
    go_wp2
    go_ret
    exact ⟨3000, cap, ⟨by omega, by omega⟩, rfl, rfl⟩
  · have hi : ¬ (3000 : Int) < (n : Int) := by omega
    go_enter Tryd.func57, Tryd.ntmps57
    go_wp2
    go_ret
    exact ⟨n, cap, ⟨Nat.le_refl _, by omega⟩, rfl, rfl⟩

/-- What pick does to the world. -/
def Picked (R : Nat) (q : Nat) (w w' : World) : Prop := w'.heap = (w.setCell ⟨R, 1, none⟩ (.int .i64 q)).heap ∧ Below R w w'

theorem picked_mk (R q : Nat) (w : World) : Picked R q w (w.setCell ⟨R, 1, none⟩ (.int .i64 q)) := ⟨rfl, (Below.refl R w).setCell (p := ⟨R, 1, none⟩) (Nat.le_refl _) _⟩

theorem Picked.drewN {R q : Nat} {w w' : World} (h : Picked R q w w') (n : Nat) : Picked R q w (w'.drewN n) := by
  obtain ⟨h1, h2⟩ := h
  exact ⟨h1, ⟨h2.os, h2.tape, h2.output, h2.size, h2.block⟩⟩

set_option maxHeartbeats 400000 in
theorem pick_none (R : Nat) (a : Option Addr) (c : Nat) (p : Nat) (n : Int) (w : World) (hr : w.heap[R]? = some (.cells #[.slice a 0 c, .int .i64 p] 122)) (hp : p ≤ 1000000) (hn : ¬ n < 1) :
    Calls Tryd.prog 82 #[.pointer (some ⟨R, 0, none⟩), .int .i64 n] w fun e w' => e = .returned (.int .i64 0) ∧ Picked R (p + 1) w w' := by
  have hfz := frozen_of_row w R 1 _ _ hr
  have hc1 : w.cell? ⟨R, 1, none⟩ = some (.int .i64 p) := by simp [World.cell?, hr]
  have hc0 : (w.setCell ⟨R, 1, none⟩ (.int .i64 (↑p + 1))).cell? ⟨R, 0, none⟩ = some (.slice a 0 c) := by
    exact (World.cell?_setCell_other w _ _ _ (by simp)).trans (by simp [World.cell?, hr])
  go_enter Tryd.func82, Tryd.ntmps82
  go_wp2
  exact bodyPost_ret (v := .int .i64 0) (by simp [results, Tryd.results82, go_sem]) rfl ⟨rfl, picked_mk _ _ _⟩

set_option maxHeartbeats 400000 in
theorem pick_near (R : Nat) (b off m c : Nat) (p : Nat) (n x : Int) (w : World) (hr : w.heap[R]? = some (.cells #[.slice (some ⟨b, off, none⟩) m c, .int .i64 p] 122)) (hp : p ≤ 1000000) (hn : ¬ n < 1)
    (hm : p < m) (hm2 : m ≤ 3000) (hbR : b ≠ R) (hx0 : 0 ≤ x) (hx1 : x ≤ 255) (hx : w.cell? ⟨b, off + p, none⟩ = some (.int .u8 x)) :
    Calls Tryd.prog 82 #[.pointer (some ⟨R, 0, none⟩), .int .i64 n] w fun e w' => e = .returned (.int .i64 (x % n)) ∧ Picked R (p + 1) w w' := by
  have hfz := frozen_of_row w R 1 _ _ hr
  have hc1 : w.cell? ⟨R, 1, none⟩ = some (.int .i64 p) := by simp [World.cell?, hr]
  have hc0 : (w.setCell ⟨R, 1, none⟩ (.int .i64 (↑p + 1))).cell? ⟨R, 0, none⟩ = some (.slice (some ⟨b, off, none⟩) m c) := by
    exact (World.cell?_setCell_other w _ _ _ (by simp)).trans (by simp [World.cell?, hr])
  have hcx : (w.setCell ⟨R, 1, none⟩ (.int .i64 (↑p + 1))).cell? ⟨b, off + p, none⟩ = some (.int .u8 x) := by
    exact (World.cell?_setCell_other w _ _ _ (by simp)).trans hx
  have hm0 : ((m : Int) == 0) = false := by simp; omega
  have hmi : (p : Int) < (m : Int) := by omega
  clear hx hr
  go_enter Tryd.func82, Tryd.ntmps82
  go_wp2
  exact bodyPost_ret (v := .int .i64 (x % n)) (by simp [results, Tryd.results82, go_sem]) rfl ⟨rfl, picked_mk _ _ _⟩

theorem wrap_i64_small (n : Int) (h0 : 0 ≤ n) (h1 : n < 9223372036854775808) : IntKind.i64.wrap n = n := by
  simp [IntKind.wrap, IntKind.bits, IntKind.signed]
  omega

theorem xor_i64_pos (X Y : Int) (h0 : 0 ≤ X) (h1 : X < 9223372036854775808) (h2 : 0 ≤ Y) (h3 : Y < 9223372036854775808) : 0 ≤ bits .xor .i64 X Y := by
  obtain ⟨a, rfl⟩ := Int.eq_ofNat_of_zero_le h0
  obtain ⟨b, rfl⟩ := Int.eq_ofNat_of_zero_le h2
  have hx : a ^^^ b < 2 ^ 63 := Nat.xor_lt_two_pow (by omega) (by omega)
  have e1 : (BitVec.ofInt 64 (a : Int)).toNat = a := by
    rw [BitVec.ofInt_natCast, BitVec.toNat_ofNat]; exact Nat.mod_eq_of_lt (by omega)
  have e2 : (BitVec.ofInt 64 (b : Int)).toNat = b := by
    rw [BitVec.ofInt_natCast, BitVec.toNat_ofNat]; exact Nat.mod_eq_of_lt (by omega)
  show 0 ≤ IntKind.i64.wrap ((BitVec.ofInt 64 (a : Int) ^^^ BitVec.ofInt 64 (b : Int)).toNat : Int)
  rw [BitVec.toNat_xor, e1, e2, wrap_i64_small _ (by omega) (by omega)]
  omega

theorem tmod_in {x n : Int} (h0 : 0 ≤ x) (hn : 1 ≤ n) : 0 ≤ x.tmod n ∧ x.tmod n < n :=
  ⟨Int.tmod_nonneg _ h0, Int.tmod_lt_of_pos _ (by omega)⟩

set_option maxHeartbeats 1000000 in
theorem pick_far (R : Nat) (b off m c : Nat) (p : Nat) (n x y : Int) (w : World) (hr : w.heap[R]? = some (.cells #[.slice (some ⟨b, off, none⟩) m c, .int .i64 p] 122)) (hp : p ≤ 1000000) (hn : ¬ n < 1) (hn2 : n ≤ 1000)
    (hm : ¬ p < m) (hm2 : m ≤ 3000) (hm3 : 0 < m) (hbR : b ≠ R) (hx0 : 0 ≤ x) (hx1 : x ≤ 255) (hx : w.cell? ⟨b, off + p % m, none⟩ = some (.int .u8 x)) (hy0 : 0 ≤ y) (hy1 : y ≤ 255) (hy : w.cell? ⟨b, off + (p * 7 + 3) % m, none⟩ = some (.int .u8 y)) :
    Calls Tryd.prog 82 #[.pointer (some ⟨R, 0, none⟩), .int .i64 n] w fun e w' => ∃ k : Int, 0 ≤ k ∧ k < n ∧ e = .returned (.int .i64 k) ∧ Picked R (p + 1) w w' := by
  have hfz := frozen_of_row w R 1 _ _ hr
  have hc1 : w.cell? ⟨R, 1, none⟩ = some (.int .i64 p) := by simp [World.cell?, hr]
  have hc0 : (w.setCell ⟨R, 1, none⟩ (.int .i64 (↑p + 1))).cell? ⟨R, 0, none⟩ = some (.slice (some ⟨b, off, none⟩) m c) := by
    exact (World.cell?_setCell_other w _ _ _ (by simp)).trans (by simp [World.cell?, hr])
  have hcx : (w.setCell ⟨R, 1, none⟩ (.int .i64 (↑p + 1))).cell? ⟨b, off + p % m, none⟩ = some (.int .u8 x) := by
    exact (World.cell?_setCell_other w _ _ _ (by simp)).trans hx
  have hcy : (w.setCell ⟨R, 1, none⟩ (.int .i64 (↑p + 1))).cell? ⟨b, off + (p * 7 + 3) % m, none⟩ = some (.int .u8 y) := by
    exact (World.cell?_setCell_other w _ _ _ (by simp)).trans hy
  have hm0 : ((m : Int) == 0) = false := by simp; omega
  have hmi : ¬ (p : Int) < (m : Int) := by omega
  have l1 : p % m < m := Nat.mod_lt _ hm3
  have l2 : (p * 7 + 3) % m < m := Nat.mod_lt _ hm3
  have e2 : ((p : Int) * 7 + 3) % (m : Int) = ((((p * 7 + 3) % m : Nat)) : Int) := by simp
  generalize (p * 7 + 3) % m = j at hcy l2 e2 hy
  have e3 : (p : Int) / (m : Int) = ((p / m : Nat) : Int) := by simp
  have l3 : p / m ≤ p := Nat.div_le_self _ _
  generalize p / m = q at e3 l3
  clear hx hy hr
  go_enter Tryd.func82, Tryd.ntmps82
  go_wp2
  go_quiet (fail)
  go_wp2
  have hX0 : 0 ≤ x * 131 + y * 1117 + (p : Int) * 29 + (q : Int) * 53 := by omega
  have hX1 : x * 131 + y * 1117 + (p : Int) * 29 + (q : Int) * 53 < 9223372036854775808 := by omega
  have ht := tmod_in (n := n) (xor_i64_pos _ ((x * 131 + y * 1117 + (p : Int) * 29 + (q : Int) * 53) / 64) hX0 hX1 (by omega) (by omega)) (by omega)
  exact bodyPost_ret (by simp [results, Tryd.results82, go_sem]) rfl ⟨_, ht.1, ht.2, rfl, (picked_mk R (p + 1) w).drewN nq⟩

/-- The reader at R, that has read p times. -/
def Rd (w : World) (R p : Nat) : Prop := ∃ a m c, w.heap[R]? = some (.cells #[.slice a m c, .int .i64 p] 122) ∧ m ≤ 3000 ∧
  (m = 0 ∨ ∃ b off, a = some ⟨b, off, none⟩ ∧ b < R ∧ ∀ i, i < m → ∃ x : Int, 0 ≤ x ∧ x ≤ 255 ∧ w.cell? ⟨b, off + i, none⟩ = some (.int .u8 x))

/-- What pick answers. -/
def Picks (R p : Nat) (n : Int) (w : World) (e : Ending) (w' : World) : Prop := ∃ k : Int, (0 ≤ k ∧ k < n) ∧ e = .returned (.int .i64 k) ∧ Picked R (p + 1) w w'

theorem pick_any (R p : Nat) (n : Int) (w : World) (hr : Rd w R p) (hp : p ≤ 1000000) (hn : 1 ≤ n) (hn2 : n ≤ 1000) :
    Calls Tryd.prog 82 #[.pointer (some ⟨R, 0, none⟩), .int .i64 n] w (Picks R p n w) := by
  obtain ⟨a, m, c, hb, hm, h0 | ⟨b, off, rfl, hbR, hc⟩⟩ := hr
  · subst h0
    exact (pick_none R a c p n w hb hp (by omega)).mono fun e w' ⟨he, hw⟩ => ⟨0, ⟨by omega, by omega⟩, he, hw⟩
  · by_cases h0 : m = 0
    · subst h0
      exact (pick_none R _ c p n w hb hp (by omega)).mono fun e w' ⟨he, hw⟩ => ⟨0, ⟨by omega, by omega⟩, he, hw⟩
    · by_cases h : p < m
      · obtain ⟨x, x0, x1, hx⟩ := hc p h
        exact (pick_near R b off m c p n x w hb hp (by omega) h hm (by omega) x0 x1 hx).mono fun e w' ⟨he, hw⟩ => ⟨_, ⟨Int.emod_nonneg _ (by omega), Int.emod_lt_of_pos _ (by omega)⟩, he, hw⟩
      · obtain ⟨x, x0, x1, hx⟩ := hc (p % m) (Nat.mod_lt _ (by omega))
        obtain ⟨y, y0, y1, hy⟩ := hc ((p * 7 + 3) % m) (Nat.mod_lt _ (by omega))
        exact (pick_far R b off m c p n x y w hb hp (by omega) hn2 h hm (by omega) (by omega) x0 x1 hx y0 y1 hy).mono fun e w' ⟨k, k0, k1, he, hw⟩ => ⟨k, ⟨k0, k1⟩, he, hw⟩

theorem rd_picked {w w' : World} {R p q : Nat} (hr : Rd w R p) (h : Picked R q w w') : Rd w' R q := by
  obtain ⟨a, m, c, hb, hm, hc⟩ := hr
  obtain ⟨he, hbl⟩ := h
  refine ⟨a, m, c, ?_, hm, ?_⟩
  · rw [he]
    simp [World.setCell, Array.getElem?_modify, hb]
  · rcases hc with h0 | ⟨b, off, ha, hbR, hc⟩
    · exact .inl h0
    · refine .inr ⟨b, off, ha, hbR, fun i hi => ?_⟩
      obtain ⟨x, x0, x1, hx⟩ := hc i hi
      exact ⟨x, x0, x1, (hbl.cell hbR).trans hx⟩

theorem heap_picked {w w' : World} {R q g : Nat} (h : Picked R q w w') (hg : g ≠ R) : w'.heap[g]? = w.heap[g]? := by
  rw [h.1]
  simp [World.setCell, Array.getElem?_modify, Ne.symm hg]

/-- What odd answers. -/
def Odds (R p : Nat) (w : World) (e : Ending) (w' : World) : Prop := ∃ k : Bool, e = .returned (.bool k) ∧ Picked R (p + 1) w w'

set_option maxHeartbeats 400000 in
theorem odd_any (R p : Nat) (n : Int) (w : World) (hr : Rd w R p) (hp : p ≤ 1000000) (hn : 1 ≤ n) (hn2 : n ≤ 1000) :
    Calls Tryd.prog 83 #[.pointer (some ⟨R, 0, none⟩), .int .i64 n] w (Odds R p w) := by
  go_enter Tryd.func83, Tryd.ntmps83
  go_wp2_with (go_at_call 82; refine (pick_any R p n _ hr hp hn hn2).mono ?_; rintro e w' ⟨k, ⟨hk0, hk1⟩, rfl, hpk⟩)
  go_ret
  exact ⟨_, rfl, hpk⟩

end Go.Proofs.YtklpdpdjblakgaaDoor

/- RegInv -/
namespace Go.Proofs.YtklpdpdjblakgaaDoor
set_option linter.unusedVariables false

section
variable {P : Program} {ops : Array Oper} {Q : Exit → Act → World → Prop} {md : Region.Mode}

/-- What those that have come up leave, in the operations' order. -/
def putsF (vs : Nat → Option Value) : Nat → List Oper → Act → Act
  | _, [], a => a
  | i, o :: os, a => putsF vs (i + 1) os (match vs i with | some v => a.put o.dst v | none => a)
/-- One more has come up. -/
def updF (vs : Nat → Option Value) (i : Nat) (v : Value) : Nat → Option Value := fun j => if j = i then some v else vs j

theorem updF_same (vs : Nat → Option Value) (i : Nat) (v : Value) : updF vs i v i = some v := by simp [updF]
theorem updF_other (vs : Nat → Option Value) {i j : Nat} (v : Value) (h : j ≠ i) : updF vs i v j = vs j := by simp [updF, h]

theorem putsF_congr {vs us : Nat → Option Value} : ∀ (os : List Oper) (n : Nat) (a : Act), (∀ j, n ≤ j → vs j = us j) → putsF vs n os a = putsF us n os a
  | [], _, _, _ => rfl
  | o :: os, n, a, h => by
    unfold putsF
    rw [h n (Nat.le_refl _)]
    exact putsF_congr os (n + 1) _ (fun j hj => h j (by omega))

theorem putsF_put {vs : Nat → Option Value} {x : Option Tmp} {v : Value} : ∀ (os : List Oper) (n : Nat) (a : Act), (∀ o ∈ os, ∀ d, x = some d → o.dst ≠ some d) → putsF vs n os (a.put x v) = (putsF vs n os a).put x v
  | [], _, _, _ => rfl
  | o :: os, n, a, h => by
    unfold putsF
    have ih := fun b => putsF_put (vs := vs) (v := v) os (n + 1) b (fun o' ho' => h o' (List.mem_cons_of_mem _ ho'))
    cases vs n with
    | none => exact ih a
    | some u =>
      show putsF vs (n + 1) os ((a.put x v).put o.dst u) = _
      rw [Act.put_comm a v u (h o (List.mem_cons_self ..))]
      exact ih _

theorem putsF_upd {vs : Nat → Option Value} {v : Value} : ∀ (os : List Oper) (n i : Nat) (o : Oper) (a : Act), os[i]? = some o → vs (n + i) = none →
    (∀ (k : Nat) (o' : Oper), os[k]? = some o' → k ≠ i → ∀ d, o.dst = some d → o'.dst ≠ some d) → putsF (updF vs (n + i) v) n os a = (putsF vs n os a).put o.dst v
  | [], _, _, _, _, h, _, _ => by simp at h
  | o' :: os, n, 0, o, a, h, hn, hd => by
    obtain rfl : o' = o := by simpa using h
    unfold putsF
    rw [Nat.add_zero, updF_same]
    rw [Nat.add_zero] at hn
    rw [hn]
    show putsF _ (n + 1) os (a.put o'.dst v) = _
    rw [putsF_congr (us := vs) os (n + 1) _ (fun j hj => updF_other vs v (by omega))]
    exact putsF_put os (n + 1) a (fun x hx d e => by
      obtain ⟨k, hk, rfl⟩ := List.mem_iff_getElem.1 hx
      exact hd (k + 1) os[k] (by simp [hk]) (by omega) d e)
  | o' :: os, n, i + 1, o, a, h, hn, hd => by
    unfold putsF
    rw [updF_other vs v (show n ≠ n + (i + 1) by omega), show n + (i + 1) = n + 1 + i by omega]
    exact putsF_upd os (n + 1) i o _ (by simpa using h) (by rw [show n + 1 + i = n + (i + 1) by omega]; exact hn) (fun k o'' hk hne => hd (k + 1) o'' (by simpa using hk) (by omega))

theorem putsF_size {vs : Nat → Option Value} : ∀ (os : List Oper) (n : Nat) (a : Act), (putsF vs n os a).tmps.size = a.tmps.size
  | [], _, _ => rfl
  | o :: os, n, a => by
    unfold putsF
    rw [putsF_size os (n + 1)]
    cases vs n with
    | none => rfl
    | some u => cases o.dst <;> simp [Act.put]

theorem putsF_other {vs : Nat → Option Value} {d : Tmp} : ∀ (os : List Oper) (n : Nat) (a : Act), (∀ o ∈ os, o.dst ≠ some d) → (putsF vs n os a).eval (.tmp d) = a.eval (.tmp d)
  | [], _, _, _ => rfl
  | o :: os, n, a, h => by
    unfold putsF
    rw [putsF_other os (n + 1) _ (fun o' ho' => h o' (List.mem_cons_of_mem _ ho'))]
    cases vs n with
    | none => rfl
    | some u => exact Act.eval_put (fun x hx e => by cases e; exact h o (List.mem_cons_self ..) hx)

theorem putsF_at {vs : Nat → Option Value} {v : Value} {d : Tmp} : ∀ (os : List Oper) (n j : Nat) (o : Oper) (a : Act), os[j]? = some o → o.dst = some d → vs (n + j) = some v → d < a.tmps.size →
    (∀ (k : Nat) (o' : Oper), os[k]? = some o' → k ≠ j → o'.dst ≠ some d) → (putsF vs n os a).eval (.tmp d) = v
  | [], _, _, _, _, h, _, _, _, _ => by simp at h
  | o' :: os, n, 0, o, a, h, hd, hv, hs, hne => by
    obtain rfl : o' = o := by simpa using h
    unfold putsF
    rw [Nat.add_zero] at hv
    rw [hv, putsF_other os (n + 1) _ (fun x hx => by
      obtain ⟨k, hk, rfl⟩ := List.mem_iff_getElem.1 hx
      exact hne (k + 1) os[k] (by simp [hk]) (by omega))]
    simp [Act.put, Act.eval, hd, hs]
  | o' :: os, n, j + 1, o, a, h, hd, hv, hs, hne => by
    unfold putsF
    refine putsF_at os (n + 1) j o _ (by simpa using h) hd (by rw [show n + 1 + j = n + (j + 1) by omega]; exact hv) ?_ (fun k o'' hk hkj => hne (k + 1) o'' (by simpa using hk) (by omega))
    cases vs n with
    | none => exact hs
    | some u => cases hx : o'.dst <;> simp [Act.put, hs]

/-- How many of the first m have not come up. -/
def leftF (vs : Nat → Option Value) : Nat → Nat
  | 0 => 0
  | m + 1 => leftF vs m + (if (vs m).isSome then 0 else 1)
theorem leftF_upd {vs : Nat → Option Value} {i : Nat} {v : Value} (hn : vs i = none) : ∀ m, leftF (updF vs i v) m + (if i < m then 1 else 0) = leftF vs m
  | 0 => by simp [leftF]
  | m + 1 => by
    unfold leftF
    have ih := leftF_upd (v := v) hn m
    by_cases e : m = i
    · subst e
      rw [updF_same, hn]
      simp at ih ⊢
      omega
    · rw [updF_other vs v e]
      by_cases h : i < m
      · rw [if_pos h] at ih
        rw [if_pos (show i < m + 1 by omega)]
        omega
      · rw [if_neg h] at ih
        rw [if_neg (show ¬ i < m + 1 by omega)]
        omega
theorem leftF_zero {vs : Nat → Option Value} : ∀ m, leftF vs m = 0 → ∀ i, i < m → (vs i).isSome = true
  | 0, _, i, hi => by omega
  | m + 1, h, i, hi => by
    unfold leftF at h
    by_cases e : i = m
    · subst e
      by_cases hs : (vs i).isSome = true
      · exact hs
      · rw [if_neg hs] at h; omega
    · exact leftF_zero m (by omega) i (by omega)
theorem leftF_some {vs : Nat → Option Value} : ∀ m, (∀ i, i < m → (vs i).isSome = true) → leftF vs m = 0
  | 0, _ => rfl
  | m + 1, h => by
    unfold leftF
    rw [leftF_some m (fun i hi => h i (by omega)), if_pos (h m (by omega))]
/-- Of those that have not come up there is a first one. -/
theorem leftF_first {vs : Nat → Option Value} : ∀ m, leftF vs m ≠ 0 → ∃ i, i < m ∧ vs i = none ∧ ∀ j, j < i → (vs j).isSome = true
  | 0, h => absurd rfl h
  | m + 1, h => by
    by_cases h0 : leftF vs m = 0
    · refine ⟨m, by omega, ?_, leftF_zero m h0⟩
      unfold leftF at h
      cases hv : vs m with
      | none => rfl
      | some v => rw [hv] at h; simp at h; omega
    · obtain ⟨i, hi, hn, hj⟩ := leftF_first m h0
      exact ⟨i, by omega, hn, hj⟩

/-- No two leave what they leave in one temporary; all have room. -/
def dstsOk (n : Nat) : List Oper → Bool
  | [] => true
  | o :: os => (match o.dst with | none => true | some d => decide (d < n) && os.all (fun x => x.dst != some d)) && dstsOk n os
theorem dstsOk_ne {n : Nat} : ∀ {os : List Oper}, dstsOk n os = true → ∀ (i j : Nat) (o o' : Oper) (d : Tmp), os[i]? = some o → os[j]? = some o' → i < j → o.dst = some d → o'.dst ≠ some d
  | [], _, _, _, _, _, _, h, _, _, _ => by simp at h
  | x :: os, h, 0, j + 1, o, o', d, hi, hj, _, hd => by
    obtain rfl : x = o := by simpa using hi
    unfold dstsOk at h
    rw [hd] at h
    simp only [Bool.and_eq_true, List.all_eq_true] at h
    have := h.1.2 o' (List.mem_of_getElem? (i := j) (by simpa using hj))
    simpa using this
  | x :: os, h, i + 1, j + 1, o, o', d, hi, hj, hij, hd => by
    unfold dstsOk at h
    simp only [Bool.and_eq_true] at h
    exact dstsOk_ne h.2 i j o o' d (by simpa using hi) (by simpa using hj) (by omega) hd
  | x :: os, h, i, 0, o, o', d, hi, hj, hij, hd => by omega
theorem dstsOk_lt {n : Nat} : ∀ {os : List Oper}, dstsOk n os = true → ∀ (i : Nat) (o : Oper) (d : Tmp), os[i]? = some o → o.dst = some d → d < n
  | [], _, _, _, _, h, _ => by simp at h
  | x :: os, h, 0, o, d, hi, hd => by
    obtain rfl : x = o := by simpa using hi
    unfold dstsOk at h
    rw [hd] at h
    simp only [Bool.and_eq_true, decide_eq_true_eq] at h
    exact h.1.1
  | x :: os, h, i + 1, o, d, hi, hd => by
    unfold dstsOk at h
    simp only [Bool.and_eq_true] at h
    exact dstsOk_lt h.2 i o d (by simpa using hi) hd

/-- The first m: no guard, each waits for earlier ones alone; all others wait for all of these. -/
def frontOk (md : Region.Mode) (m : Nat) (ops : Array Oper) : Bool :=
  (List.range ops.size).all fun i => match ops[i]? with
    | none => true
    | some o => if i < m then o.guard.isNone && o.after.toList.all (fun e => !(Region.binds md e) || decide (e.on < i)) else (List.range m).all (fun j => o.after.toList.any (fun e => e.on == j && Region.binds md e))

theorem frontOk_near {m : Nat} (h : frontOk md m ops = true) {i : Nat} {o : Oper} (ho : ops[i]? = some o) (hi : i < m) : o.guard = none ∧ ∀ e ∈ o.after, Region.binds md e = true → e.on < i := by
  have := List.all_eq_true.1 h i (List.mem_range.2 (Array.getElem?_eq_some_iff.1 ho).1)
  rw [ho] at this
  simp only [hi, if_true, Bool.and_eq_true, Option.isNone_iff_eq_none, List.all_eq_true, Bool.or_eq_true, Bool.not_eq_true', decide_eq_true_eq] at this
  exact ⟨this.1, fun e he hb => (this.2 e (by simpa using he)).resolve_left (by simp [hb])⟩
theorem frontOk_far {m : Nat} (h : frontOk md m ops = true) {i : Nat} {o : Oper} (ho : ops[i]? = some o) (hi : ¬ i < m) {j : Nat} (hj : j < m) : ∃ e ∈ o.after, e.on = j ∧ Region.binds md e = true := by
  have := List.all_eq_true.1 h i (List.mem_range.2 (Array.getElem?_eq_some_iff.1 ho).1)
  rw [ho] at this
  simp only [hi, if_false, List.all_eq_true, List.any_eq_true, Bool.and_eq_true, beq_iff_eq] at this
  obtain ⟨e, he, h1, h2⟩ := this j (List.mem_range.2 hj)
  exact ⟨e, by simpa using he, h1, h2⟩

theorem wanted_plain {o : Oper} (h : o.guard = none) (f : Nat → Option Bool) : Region.wanted o f = true := by
  unfold Region.wanted
  rw [h]

theorem wpAny_front {a0 : Act} {m : Nat} {I : Nat → World → Prop} {V : Nat → Value → World → Prop} {T : World → World → Prop}
    (hm : m ≤ ops.size) (hf : frontOk md m ops = true) (hd : dstsOk a0.tmps.size ops.toList = true) (hT : ∀ i v w w', V i v w → T w w' → V i v w')
    (hop : ∀ (i : Nat) (o : Oper) (f : Nat) (a : Act) (w : World), i < m → ops[i]? = some o → I (f + 1) w →
      (∀ e ∈ o.after, Region.binds md e = true → ∀ oj, ops[e.on]? = some oj → ∃ v, V e.on v w ∧ ∀ d, oj.dst = some d → a.eval (.tmp d) = v) →
      (∀ d, (∀ oj ∈ ops.toList, oj.dst ≠ some d) → a.eval (.tmp d) = a0.eval (.tmp d)) → Oper.wp P o a w (fun a' w' => ∃ v, a' = a.put o.dst v ∧ V i v w' ∧ I f w' ∧ T w w') Q)
    (hend : ∀ (vs : Nat → Option Value) (w : World), (∀ i, i < m → ∃ v, vs i = some v ∧ V i v w) → (∀ i, m ≤ i → vs i = none) → I 0 w →
      wpAny P md ops Q (ops.size - m) ((List.replicate m true ++ List.replicate (ops.size - m) false).toArray) (putsF vs 0 ops.toList a0) w) :
    ∀ (r : Nat) (vs : Nat → Option Value) (listed : Array Bool) (w : World), leftF vs m = r → listed.size = ops.size → (∀ i, i < ops.size → listed[i]? = some (vs i).isSome) → (∀ i v, vs i = some v → V i v w) → (∀ i, m ≤ i → vs i = none) → I r w →
      wpAny P md ops Q (r + (ops.size - m)) listed (putsF vs 0 ops.toList a0) w := by
  intro r
  induction r with
  | zero =>
    intro vs listed w hr hsz hl hV hlate hI
    have hall := leftF_zero m hr
    have el : listed = (List.replicate m true ++ List.replicate (ops.size - m) false).toArray := by
      refine Array.ext_getElem? (fun i => ?_)
      by_cases hi : i < ops.size
      · rw [hl i hi]
        rw [List.getElem?_toArray]
        by_cases him : i < m
        · rw [hall i him, List.getElem?_append_left (by simp; exact him), List.getElem?_replicate, if_pos him]
        · rw [hlate i (by omega), List.getElem?_append_right (by simp; omega), List.getElem?_replicate, if_pos (by simp; omega)]
          rfl
      · rw [Array.getElem?_eq_none (by omega), Array.getElem?_eq_none (by simp; omega)]
    rw [el, Nat.zero_add]
    refine hend vs w (fun i hi => ?_) hlate hI
    cases hv : vs i with
    | none => have := hall i hi; rw [hv] at this; simp at this
    | some v => exact ⟨v, rfl, hV i v hv⟩
  | succ r ih =>
    intro vs listed w hr hsz hl hV hlate hI
    have hg : ∀ i, i < ops.size → ∀ b, listed.getD i b = (vs i).isSome := fun i hi b => by simp [Array.getD_eq_getD_getElem?, hl i hi]
    have hup : ∀ i b, ¬ i < ops.size → listed.getD i b = b := fun i b hi => by simp [Array.getD_eq_getD_getElem?, Array.getElem?_eq_none (show listed.size ≤ i by omega)]
    rw [show r + 1 + (ops.size - m) = (r + (ops.size - m)) + 1 by omega]
    refine ⟨fun h0 => ?_, fun i hi => ?_⟩
    · exfalso
      obtain ⟨i, him, hn, hj⟩ := leftF_first (vs := vs) m (by omega)
      have hlt : i < ops.size := by omega
      have hmem : i ∈ Region.ready md ops listed := by
        refine mem_ready.2 ⟨by rw [hg i hlt, hn]; rfl, ops[i], Array.getElem?_eq_getElem hlt, fun e he hb => ?_⟩
        have hlt2 := (frontOk_near hf (Array.getElem?_eq_getElem hlt) him).2 e he hb
        rw [hg e.on (by omega)]
        exact hj e.on hlt2
      rw [h0] at hmem
      cases hmem
    · obtain ⟨hun, o, ho, hall⟩ := mem_ready.1 hi
      have hlt : i < ops.size := (Array.getElem?_eq_some_iff.1 ho).1
      have hn : vs i = none := by
        rw [hg i hlt] at hun
        cases hv : vs i with
        | none => rfl
        | some v => rw [hv] at hun; simp at hun
      have him : i < m := by
        refine Decidable.byContradiction fun hnm => ?_
        have : leftF vs m = 0 := leftF_some m (fun j hj => by
          obtain ⟨e, he, rfl, hb⟩ := frontOk_far hf ho hnm hj
          have := hall e he hb
          rwa [hg e.on (by omega)] at this)
        omega
      have hne : ∀ (k : Nat) (o' : Oper), ops.toList[k]? = some o' → k ≠ i → ∀ d, o.dst = some d → o'.dst ≠ some d := fun k o' hk hki d hdd hdk => by
        have ho' : ops.toList[i]? = some o := by rw [Array.getElem?_toList]; exact ho
        rcases Nat.lt_or_gt_of_ne hki with h | h
        · exact dstsOk_ne hd k i o' o d hk ho' h hdk hdd
        · exact dstsOk_ne hd i k o o' d ho' hk h hdd hdk
      have hstep := hop i o r (putsF vs 0 ops.toList a0) w him ho hI (fun e he hb oj hoj => ?_) (fun d hdd => putsF_other _ 0 a0 hdd)
      · have hlu := leftF_upd (v := undef) hn m
        rw [if_pos him] at hlu
        have go : ∀ a' w', (∃ v, a' = (putsF vs 0 ops.toList a0).put o.dst v ∧ V i v w' ∧ I r w' ∧ T w w') → wpAny P md ops Q (r + (ops.size - m)) (listed.setIfInBounds i true) a' w' := by
          rintro a' w' ⟨v, rfl, hv, hI', hTw⟩
          have e := putsF_upd (vs := vs) (v := v) ops.toList 0 i o a0 (by rw [Array.getElem?_toList]; exact ho) (by rw [Nat.zero_add]; exact hn) hne
          rw [Nat.zero_add] at e
          rw [← e]
          refine ih (updF vs i v) _ w' ?_ (by simp [hsz]) (fun j hj => ?_) (fun j u hu => ?_) (fun j hj => ?_) hI'
          · have := leftF_upd (v := v) hn m
            rw [if_pos him] at this
            omega
          · by_cases hji : j = i
            · subst hji
              rw [updF_same, Array.getElem?_setIfInBounds_self_of_lt (by omega)]
              rfl
            · rw [updF_other vs v hji, Array.getElem?_setIfInBounds_ne (by omega)]
              exact hl j hj
          · by_cases hji : j = i
            · subst hji
              rw [updF_same] at hu
              cases hu
              exact hv
            · rw [updF_other vs v hji] at hu
              exact hT j u w w' (hV j u hu) hTw
          · rw [updF_other vs v (by omega)]
            exact hlate j hj
        have hw : wpOp P ops Q i (fun a' w' => ∃ v, a' = (putsF vs 0 ops.toList a0).put o.dst v ∧ V i v w' ∧ I r w' ∧ T w w') (putsF vs 0 ops.toList a0) w := by
          unfold wpOp
          rw [ho]
          simp only [wanted_plain (frontOk_near hf ho him).1, if_true]
          exact .inl hstep
        exact wpOp_mono go hw
      · have hlt2 : e.on < ops.size := (Array.getElem?_eq_some_iff.1 hoj).1
        have hs := hall e he hb
        rw [hg e.on hlt2] at hs
        cases hv : vs e.on with
        | none => rw [hv] at hs; simp at hs
        | some v =>
          refine ⟨v, hV e.on v hv, fun d hdd => ?_⟩
          have hoj' : ops.toList[e.on]? = some oj := by rw [Array.getElem?_toList]; exact hoj
          exact putsF_at ops.toList 0 e.on oj a0 hoj' hdd (by rw [Nat.zero_add]; exact hv) (dstsOk_lt hd e.on oj d hoj' hdd) (fun k o' hk hkj hdk => by
            rcases Nat.lt_or_gt_of_ne hkj with h | h
            · exact dstsOk_ne hd k e.on o' oj d hk hoj' h hdk hdd
            · exact dstsOk_ne hd e.on k oj o' d hoj' hk h hdd hdk)

theorem region_inv {a0 : Act} {m id : Nat} {I : Nat → World → Prop} {V : Nat → Value → World → Prop} {T : World → World → Prop} {w : World} (hmo : P.follows .mixedOrders = true)
    (hm : m ≤ ops.size) (hf : frontOk .any m ops = true) (hd : dstsOk a0.tmps.size ops.toList = true) (hT : ∀ i v w w', V i v w → T w w' → V i v w') (hI : I m w.drew)
    (hop : ∀ (i : Nat) (o : Oper) (f : Nat) (a : Act) (w : World), i < m → ops[i]? = some o → I (f + 1) w →
      (∀ e ∈ o.after, Region.binds .any e = true → ∀ oj, ops[e.on]? = some oj → ∃ v, V e.on v w ∧ ∀ d, oj.dst = some d → a.eval (.tmp d) = v) →
      (∀ d, (∀ oj ∈ ops.toList, oj.dst ≠ some d) → a.eval (.tmp d) = a0.eval (.tmp d)) → Oper.wp P o a w (fun a' w' => ∃ v, a' = a.put o.dst v ∧ V i v w' ∧ I f w' ∧ T w w') Q)
    (hend : ∀ (vs : Nat → Option Value) (w : World), (∀ i, i < m → ∃ v, vs i = some v ∧ V i v w) → (∀ i, m ≤ i → vs i = none) → I 0 w →
      wpAny P .any ops Q (ops.size - m) ((List.replicate m true ++ List.replicate (ops.size - m) false).toArray) (putsF vs 0 ops.toList a0) w) :
    (Code.region id ops true).wp P Q a0 w := by
  have none_left : ∀ k, leftF (fun _ => none) k = k := fun k => by
    induction k with
    | zero => rfl
    | succ k ih => unfold leftF; rw [ih]; rfl
  have none_put : ∀ (os : List Oper) (n : Nat), putsF (fun _ => none) n os a0 = a0 := fun os => by
    induction os with
    | nil => intro n; rfl
    | cons o os ih => intro n; exact ih (n + 1)
  have := wpAny_front (P := P) (Q := Q) hm hf hd hT hop hend m (fun _ => none) (Array.replicate ops.size false) w.drew (none_left m) (by simp) (fun i hi => by simp [hi]) (fun i v h => by cases h) (fun _ _ => rfl) hI
  rw [none_put, show m + (ops.size - m) = ops.size by omega] at this
  exact wp_region_any hmo this

end

end Go.Proofs.YtklpdpdjblakgaaDoor

/- KB -/
namespace Go.Proofs.YtklpdpdjblakgaaDoor
open Go.RowKit
set_option linter.unusedVariables false
set_option linter.unusedSimpArgs false

theorem al1 (W : World) (o : Obj) : Below W.heap.size W (W.alloc o) := (Below.refl _ _).alloc (Nat.le_refl _) o

theorem picked_size' {R q : Nat} {w w' : World} (h : Picked R q w w') : w'.heap.size = w.heap.size := by
  rw [h.1]
  simp

/-- All as it was but for the reader. -/
structure KB (R : Nat) (w w' : World) : Prop where
  bel : Below R w w'
  size : w.heap.size ≤ w'.heap.size
  block : ∀ c, c < w.heap.size → c ≠ R → w'.heap[c]? = w.heap[c]?
theorem KB.refl (R : Nat) (w : World) : KB R w w := ⟨Below.refl _ _, Nat.le_refl _, fun _ _ _ => rfl⟩
theorem KB.trans {R : Nat} {w w1 w2 : World} (h : KB R w w1) (k : KB R w1 w2) : KB R w w2 :=
  ⟨h.bel.trans k.bel, Nat.le_trans h.size k.size, fun c hc hn => (k.block c (Nat.lt_of_lt_of_le hc h.size) hn).trans (h.block c hc hn)⟩
theorem KB.of_below {R : Nat} {w w' : World} (h : Below w.heap.size w w') (hR : R ≤ w.heap.size) : KB R w w' := ⟨h.mono hR, h.size, fun c hc _ => h.block c hc⟩
theorem KB.of_picked {R q : Nat} {w w' : World} (h : Picked R q w w') : KB R w w' := ⟨h.2, by rw [picked_size' h]; exact Nat.le_refl _, fun c _ hn => heap_picked h hn⟩
theorem KB.drew {R : Nat} {w w' : World} (h : KB R w w') : KB R w w'.drew := ⟨h.bel.drew, h.size, h.block⟩
theorem KB.cell {R : Nat} {w w' : World} (h : KB R w w') {b o : Nat} {v : Value} (hc : w.cell? ⟨b, o, none⟩ = some v) (hn : b ≠ R) : w'.cell? ⟨b, o, none⟩ = some v :=
  (World.cell?_of_block (w := w) (a := ⟨b, o, none⟩) (h.block b (World.block_lt_of_cell? w ⟨b, o, none⟩ hc) hn)).trans hc
theorem KB.frozen {R : Nat} {w w' : World} (h : KB R w w') {b o : Nat} (hb : b < w.heap.size) (hn : b ≠ R) : w'.frozen? ⟨b, o, none⟩ = w.frozen? ⟨b, o, none⟩ :=
  World.frozen?_of_block (w := w) (a := ⟨b, o, none⟩) (h.block b hb hn)
theorem KB.rd {R q : Nat} {w w' : World} (hr : Rd w R q) (h : KB R w w') (hR : w'.heap[R]? = w.heap[R]?) : Rd w' R q := by
  obtain ⟨a, m, c, hb, hm, hc⟩ := hr
  refine ⟨a, m, c, hR.trans hb, hm, ?_⟩
  rcases hc with h0 | ⟨b, off, ha, hbR, hc⟩
  · exact .inl h0
  · refine .inr ⟨b, off, ha, hbR, fun i hi => ?_⟩
    obtain ⟨x, x0, x1, hx⟩ := hc i hi
    exact ⟨x, x0, x1, h.cell hx (by omega)⟩
theorem rd_below {R q : Nat} {w w' : World} (hr : Rd w R q) (hb : Below w.heap.size w w') : Rd w' R q := by
  obtain ⟨a, m, c, h0, _⟩ := id hr
  have hR : R < w.heap.size := (Array.getElem?_eq_some_iff.1 h0).1
  exact KB.rd hr (KB.of_below hb (by omega)) (hb.block R hR)

/-- A row stays where its block does. -/
theorem own_block {W W' : World} {b n : Nat} {e : TypeId} {sz : Nat} {v : Value} {xs : List Value} (h : W.ownsRow b e sz v n xs) (hb : ∀ g, v.ownBlock = some g → W'.heap[g]? = W.heap[g]?) : W'.ownsRow b e sz v n xs := by
  refine ⟨h.1, ?_⟩
  rcases h.2 with h2 | ⟨g, cap, cur, hv, hg, hh, r⟩
  · exact .inl h2
  · exact .inr ⟨g, cap, cur, hv, hg, (hb g (by subst hv; rfl)).trans hh, r⟩

theorem own_typed {W : World} {b n : Nat} {e : TypeId} {sz : Nat} {v : Value} {xs : List Value} (h : W.ownsRow b e sz v n xs) {g : Nat} (hg : v.ownBlock = some g) : b ≤ g ∧ g < W.heap.size ∧ ∃ cur, W.heap[g]? = some (.cells cur e) := by
  have hl := h.lt g hg
  rcases h.2 with ⟨rfl, _⟩ | ⟨g', cap, cur, rfl, _, hh, _⟩
  · cases hg
  · obtain rfl : g' = g := Option.some.inj hg
    exact ⟨hl.1, hl.2, cur, hh⟩

theorem cells_type {a b : Array Value} {s t : TypeId} {o : Option Obj} (h1 : o = some (.cells a s)) (h2 : o = some (.cells b t)) : s = t := by
  rw [h1] at h2
  injection h2 with h
  injection h

def Lit (B : Nat) (W : World) (g n : Nat) : Prop := B ≤ g ∧ ∃ xs : List Int, xs.length = n ∧ W.heap[g]? = some (.cells (xs.map (Value.int .i64)).toArray 3)

theorem Lit.cell {B : Nat} {W : World} {g n : Nat} (h : Lit B W g n) {k : Nat} (hk : k < n) : ∃ x : Int, W.cell? ⟨g, k, none⟩ = some (.int .i64 x) := by
  obtain ⟨hb, xs, hx, hh⟩ := h
  refine ⟨xs.getD k 0, ?_⟩
  have : k < xs.length := by omega
  simp [World.cell?, hh, List.getD, this]

theorem Lit.kb {R B : Nat} {W W' : World} {g n : Nat} (h : Lit B W g n) (hR : R < B) (t : KB R W W') : Lit B W' g n := by
  obtain ⟨hb, xs, hx, hh⟩ := h
  exact ⟨hb, xs, hx, (t.block g (Array.getElem?_eq_some_iff.1 hh).1 (by omega)).trans hh⟩

theorem dst_none {ops : List Oper} {d : Tmp} (h : ops.all (fun o => o.dst != some d) = true) : ∀ o ∈ ops, o.dst ≠ some d := fun o ho e => by
  have := List.all_eq_true.1 h o ho
  simp [e] at this
theorem lt25 {i : Nat} (h : i < 25) : i = 0 ∨ i = 1 ∨ i = 2 ∨ i = 3 ∨ i = 4 ∨ i = 5 ∨ i = 6 ∨ i = 7 ∨ i = 8 ∨ i = 9 ∨ i = 10 ∨ i = 11 ∨ i = 12 ∨ i = 13 ∨ i = 14 ∨ i = 15 ∨ i = 16 ∨ i = 17 ∨ i = 18 ∨ i = 19 ∨ i = 20 ∨ i = 21 ∨ i = 22 ∨ i = 23 ∨ i = 24 := by omega
theorem cell_block0 {W : World} {g : Nat} {x : Value} {xs : List Value} {t : TypeId} (h : W.heap[g]? = some (.cells ⟨x :: xs⟩ t)) : W.cell? ⟨g, 0, none⟩ = some x := by simp [World.cell?, h]
theorem cell_block1 {W : World} {g : Nat} {x y : Value} {xs : List Value} {t : TypeId} (h : W.heap[g]? = some (.cells ⟨x :: y :: xs⟩ t)) : W.cell? ⟨g, 1, none⟩ = some y := by simp [World.cell?, h]
theorem frozen_block {W : World} {g : Nat} {xs : Array Value} {t : TypeId} (h : W.heap[g]? = some (.cells xs t)) (j : Nat) : W.frozen? ⟨g, j, none⟩ = false := by simp [World.frozen?, h]

/-- A store into what the region has made itself. -/
theorem kb_setCell {R B : Nat} {w W : World} (h : KB R w W) (hB : w.heap.size ≤ B) {g j : Nat} (hg : B ≤ g) (hR : R < B) (u : Value) : KB R w (W.setCell ⟨g, j, none⟩ u) :=
  ⟨h.bel.setCell (p := ⟨g, j, none⟩) (by show R ≤ g; omega) u, by simpa using h.size, fun c hc hn => (Below.heap_setCell W ⟨g, j, none⟩ u c (by show c ≠ g; omega)).trans (h.block c hc hn)⟩
theorem rd_setCell {R q : Nat} {W : World} (hr : Rd W R q) {g j : Nat} (hg : R < g) (u : Value) : Rd (W.setCell ⟨g, j, none⟩ u) R q := by
  obtain ⟨a, m, c, hb, hm, hc⟩ := hr
  refine ⟨a, m, c, (Below.heap_setCell W ⟨g, j, none⟩ u R (by show R ≠ g; omega)).trans hb, hm, ?_⟩
  rcases hc with h0 | ⟨b, off, ha, hbR, hc⟩
  · exact .inl h0
  · refine .inr ⟨b, off, ha, hbR, fun i hi => ?_⟩
    obtain ⟨x, x0, x1, hx⟩ := hc i hi
    exact ⟨x, x0, x1, (World.cell?_setCell_other _ _ _ _ (fun e => by cases e; omega)).trans hx⟩

theorem new_block (W : World) (o : Obj) : (W.alloc o).heap[W.heap.size]? = some o := by
  show (W.heap.push _)[W.heap.size]? = _
  simp

theorem eval_tmp {a : Act} {d : Tmp} {v : Value} (h : a.eval (.tmp d) = v) : a.tmps[d]?.getD undef = v := by
  rw [← h]
  simp [Act.eval]

theorem lit_new (W : World) (xs : List Int) {k : Nat} (hk : k < xs.length) : ∃ x : Int, (W.alloc (.cells (xs.map (Value.int .i64)).toArray 3)).cell? ⟨W.heap.size, k, none⟩ = some (.int .i64 x) :=
  ⟨xs.getD k 0, by rw [World.cell?_alloc_new]; simp [hk, List.getD]⟩

/-- The reader behind l20Open. -/
theorem rd_open (w : World) (a : Option Addr) (n m c : Nat) (hs : SBytes w a n) (hm : m ≤ n) (h3 : m ≤ 3000) : Rd (w.alloc (.cells #[.slice a m c, .int .i64 0] 122)) w.heap.size 0 := by
  refine ⟨a, m, c, by show (w.heap.push _)[w.heap.size]? = _; simp, h3, ?_⟩
  rcases hs with h0 | ⟨b, off, ha, hc⟩
  · exact .inl (by omega)
  · by_cases h0 : m = 0
    · exact .inl h0
    · obtain ⟨x, _, _, hx⟩ := hc 0 (by omega)
      have hl := World.block_lt_of_cell? w ⟨b, off + 0, none⟩ hx
      refine .inr ⟨b, off, ha, hl, fun i hi => ?_⟩
      obtain ⟨x, x0, x1, hx⟩ := hc i (by omega)
      exact ⟨x, x0, x1, (World.cell?_alloc_lt w _ ⟨b, off + i, none⟩ hl).trans hx⟩

theorem sbytes_below {w w' : World} {a : Option Addr} {n : Nat} (h : SBytes w a n) (hb : Below w.heap.size w w') : SBytes w' a n := by
  rcases h with h0 | ⟨b, off, ha, hc⟩
  · exact .inl h0
  · refine .inr ⟨b, off, ha, fun i hi => ?_⟩
    obtain ⟨x, x0, x1, hx⟩ := hc i hi
    exact ⟨x, x0, x1, cell_kept hb hx⟩


end Go.Proofs.YtklpdpdjblakgaaDoor
