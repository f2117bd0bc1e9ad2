/- Contracts of ListTake, of the specification's and of the program's, and of the program's ListFirst. -/
import Derived.Test.YtleajkacfhhemagSpecQue
import Derived.Deep.RegionLawGrows
namespace Go.Proofs.Ytleajkacfhhemag
open Go.RowKit
set_option linter.unusedVariables false

theorem behind_none {w w1 : World} {c0 c1 : Value} {o : Obj} {row : Option Nat} (hg : ((w.alloc (.cells #[c0, c1] 27)).alloc o).drew.grownBy w1 row) (hr : ∀ k, row = some k → w.heap.size + 1 ≤ k) :
    w1.cell? ⟨w.heap.size, 0, none⟩ = some c0 ∧ w1.cell? ⟨w.heap.size, 1, none⟩ = some c1 ∧ w1.frozen? ⟨w.heap.size, 0, none⟩ = false ∧ w1.frozen? ⟨w.heap.size, 1, none⟩ = false ∧ Below w.heap.size w w1 := by
  have hblk := hg.block w.heap.size (by simp; omega) (fun e => by have := hr _ e.symm; omega)
  refine ⟨?_, ?_, ?_, ?_, ?_⟩
  · rw [World.cell?_of_block (a := ⟨w.heap.size, 0, none⟩) hblk]; simp
  · rw [World.cell?_of_block (a := ⟨w.heap.size, 1, none⟩) hblk]; simp
  · rw [World.frozen?_of_block (a := ⟨w.heap.size, 0, none⟩) hblk]; simp
  · rw [World.frozen?_of_block (a := ⟨w.heap.size, 1, none⟩) hblk]; simp
  · exact ((((Below.refl _ _).alloc (Nat.le_refl _) _).alloc (by simp) _).drew).grown hg (by simp; omega) (fun k h => by have := hr _ h; omega)

set_option maxHeartbeats 1000000 in
theorem specListTake_more (b off : Nat) (n : Nat) (x : Int) (ys : List Int) (w : World) (hs : SInts w (some ⟨b, off, none⟩) n (x :: ys)) (h2 : 2 ≤ n) (h8 : n ≤ 8) (hok : okL (x :: ys) = true) :
    Calls Try.prog 18 #[.slice (some ⟨b, off, none⟩) n n] w fun e w' => ListRes ys 2 x e w w' := by
  have hb0 : ∀ o, Below w.heap.size w (w.alloc o) := fun o => (Below.refl _ _).alloc (Nat.le_refl _) o
  obtain ⟨i0, hi, hz0, hz1, hz2⟩ := info_parts Try.info3
  have hzl : Hid (ys.length = n - 1) := by have := hs.1; simp at this; show _ = _; omega
  have hcx : ∀ W, Below w.heap.size w W → W.cell? ⟨b, off, none⟩ = some (.int .i64 x) ∧ ∀ j u, (ys.map (Value.int .i64))[j]? = some u → W.cell? ((⟨b, off + 1, none⟩ : Addr).add j) = some u := by
    intro W hW
    obtain ⟨hz, h0 | ⟨b', off', e, hc⟩⟩ := hs.below hW
    · omega
    · cases e
      refine ⟨by simpa using hc 0 (by omega), fun j u hj => ?_⟩
      have hjn : j < n - 1 := by
        have := (List.getElem?_eq_some_iff.1 hj).1
        simp at this hz
        omega
      rw [Addr.add_lit, show off + 1 + j = off + (j + 1) by omega, hc (j + 1) (by omega)]
      simp at hz
      simpa [List.getD, show j < ys.length by omega] using hj
  have hn0 : ((n : Int) == 0) = false := by simp; omega
  have hn1 : ¬ n = 1 := by omega
  have hn2 : (1 : Int) ≤ (n : Int) := by omega
  have hn3 : 0 < n := by omega
  go_enter Try.func18, Try.ntmps18
  go_wp2_with fail
  refine (specListOk_any _ _ _ (x :: ys) _ (hs.below (hb0 _)) (by omega)).mono ?_
  rintro e w1 ⟨rfl, rfl⟩
  have HC : Hid (∀ W, Below w.heap.size w W → W.cell? ⟨b, off, none⟩ = some (.int .i64 x) ∧ ∀ j u, (ys.map (Value.int .i64))[j]? = some u → W.cell? ((⟨b, off + 1, none⟩ : Addr).add j) = some u) := hcx
  clear hcx
  have q1 := (HC.out _ (hb0 (.cells #[.int .i64 0, .int .i64 0] 27))).1
  have q2 := (HC.out _ ((hb0 (.cells #[.int .i64 0, .int .i64 0] 27)).alloc (by simp) (.cells #[] 3))).1
  have S2 : Hid (∀ j u, (ys.map (Value.int .i64))[j]? = some u → ((w.alloc (.cells #[.int .i64 0, .int .i64 0] 27)).alloc (.cells #[] 3)).drew.cell? ((⟨b, off + 1, none⟩ : Addr).add j) = some u) := (HC.out _ ((hb0 (.cells #[.int .i64 0, .int .i64 0] 27)).alloc (by simp) (.cells #[] 3)).drew).2
  clear hs hb0
  go_wp2
  go_region_law (refine step_append_grows rfl (.tmp 14) (.tmp 16) 23 rfl 3 i0 (.int .i64 0) 1 8 Try.underlying23 hi hz0 hz1 hz2 rfl (by decide) (some ⟨w.heap.size + 1, 0, none⟩) 0 0 [] rfl (by intro h; cases h) rfl (by intro _ _ j u h; simp at h) ⟨b, off + 1, none⟩ (n - 1) (n - 1) (ys.map (Value.int .i64)) rfl (by simp [hzl.out]) S2.out (ints_oneCell _ _) (by omega) (by unfold maxLen; omega) (by omega) ?_; intro v' w1 hown hgrow; obtain ⟨d0, d1, f0, f1, hbB⟩ := behind_none hgrow (fun k h => by cases h); have q3 := (HC.out _ hbB).1; obtain ⟨a', c', hv, _⟩ := own_shape (zs := ys) (by simpa using hown); rw [hv] at hown ⊢)
  all_goals
    have HO : Hid (w1.ownsRow (w.heap.size + 1) 3 1 (.slice a' (n - 1) c') (n - 1) (ys.map (Value.int .i64))) := by
      have h := own_mono hown (show w.heap.size + 1 ≤ _ by simp)
      show w1.ownsRow (w.heap.size + 1) 3 1 (.slice a' (n - 1) c') (n - 1) (ys.map (Value.int .i64))
      simpa using h
    clear hown hgrow S2 HC
    go_wp2
    refine bodyPost_ret (v := .tuple #[.slice a' (n - 1) c', .agg #[.int .i64 2, .int .i64 x]]) (by simp [results, Try.results18, go_sem, d0, d1]) rfl ⟨n - 1, a', c', rfl, own_mono (own_setCell (own_setCell HO.out (by omega) _) (by omega) _) (by omega), (hbB.setCell (Nat.le_refl _) _).setCell (Nat.le_refl _) _⟩

set_option maxHeartbeats 1000000 in
theorem specListTake_one (b off : Nat) (x : Int) (w : World) (hs : SInts w (some ⟨b, off, none⟩) 1 [x]) (hok : okL [x] = true) :
    Calls Try.prog 18 #[.slice (some ⟨b, off, none⟩) 1 1] w fun e w' => ListRes [] 2 x e w w' := by
  have hb0 : ∀ o, Below w.heap.size w (w.alloc o) := fun o => (Below.refl _ _).alloc (Nat.le_refl _) o
  obtain ⟨i0, hi, hz0, hz1, hz2⟩ := info_parts Try.info3
  have HC : Hid (∀ W, Below w.heap.size w W → W.cell? ⟨b, off, none⟩ = some (.int .i64 x)) := by
    intro W hW
    obtain ⟨hz, h0 | ⟨b', off', e, hc⟩⟩ := hs.below hW
    · omega
    · cases e
      simpa using hc 0 (by omega)
  go_enter Try.func18, Try.ntmps18
  go_wp2_with fail
  refine (specListOk_any _ _ _ [x] _ (hs.below (hb0 _)) (by omega)).mono ?_
  rintro e w1 ⟨rfl, rfl⟩
  have e0 : Hid (∀ (W : World) (b o : Nat), W.setCells b o [] = W) := fun W b o => rfl
  have q1 := HC.out _ (hb0 (.cells #[.int .i64 0, .int .i64 0] 27))
  have q2 := HC.out _ ((hb0 (.cells #[.int .i64 0, .int .i64 0] 27)).alloc (by simp) (.cells #[] 3))
  have hbB := ((hb0 (.cells #[.int .i64 2, .int .i64 x] 27)).alloc (by simp) (.cells #[] 3)).drew
  have HO : Hid (((w.alloc (.cells #[.int .i64 2, .int .i64 x] 27)).alloc (.cells #[] 3)).drew.ownsRow (w.heap.size + 1) 3 1 (.slice (some ⟨w.heap.size + 1, 0, none⟩) 0 0) 0 []) := (own_lit2 w (.cells #[.int .i64 2, .int .i64 x] 27) #[] 0 rfl (by decide)).drew
  clear hs hb0 HC
  go_wp2
  go_region_law (refine step_append_room rfl (.tmp 14) (.tmp 16) 23 rfl 3 i0 1 Try.underlying23 hi hz1 (w.heap.size + 1) 0 0 0 rfl ⟨b, off, none⟩ 0 0 [] rfl rfl (by intro j u h; simp at h) (by simp) (by omega) (by intro j h; simp at h) ?_; rw [e0.out])
  all_goals go_wp2
  all_goals exact bodyPost_ret (v := .tuple #[.slice (some ⟨w.heap.size + 1, 0, none⟩) 0 0, .agg #[.int .i64 2, .int .i64 x]]) (by simp [results, Try.results18, go_sem]) rfl ⟨0, _, 0, rfl, own_mono HO.out (by omega), hbB⟩

set_option maxHeartbeats 400000 in
theorem specListTake_bad (a : Option Addr) (n cap : Nat) (zs : List Int) (w : World) (hs : SInts w a n zs) (hn : n ≤ 9223372036854775807) (hok : okL zs = false) :
    Calls Try.prog 18 #[.slice a n cap] w fun e w' => ListRes [] 0 0 e w w' := by
  have hb0 : ∀ o, Below w.heap.size w (w.alloc o) := fun o => (Below.refl _ _).alloc (Nat.le_refl _) o
  go_enter Try.func18, Try.ntmps18
  go_wp2_with fail
  refine (specListOk_any _ _ _ zs _ (hs.below (hb0 _)) hn).mono ?_
  rintro e w1 ⟨rfl, rfl⟩
  go_wp2
  exact bodyPost_ret (v := .tuple #[.slice (some ⟨w.heap.size + 1, 0, none⟩) 0 0, .agg #[.int .i64 0, .int .i64 0]]) (by simp [results, Try.results18, go_sem]) rfl ⟨0, _, 0, rfl, own_mono (own_lit2 w _ #[] 0 rfl (by decide)) (by omega), (hb0 _).alloc (by simp) _⟩

set_option maxHeartbeats 400000 in
theorem specListTake_none (a : Option Addr) (cap : Nat) (w : World) :
    Calls Try.prog 18 #[.slice a 0 cap] w fun e w' => ListRes [] 1 0 e w w' := by
  have hb0 : ∀ o, Below w.heap.size w (w.alloc o) := fun o => (Below.refl _ _).alloc (Nat.le_refl _) o
  have hok : okL [] = true := by decide
  go_enter Try.func18, Try.ntmps18
  go_wp2_with fail
  refine (specListOk_any _ 0 _ [] _ ⟨rfl, .inl rfl⟩ (by omega)).mono ?_
  rintro e w1 ⟨rfl, rfl⟩
  go_wp2
  exact bodyPost_ret (v := .tuple #[.slice (some ⟨w.heap.size + 1, 0, none⟩) 0 0, .agg #[.int .i64 1, .int .i64 0]]) (by simp [results, Try.results18, go_sem]) rfl ⟨0, _, 0, rfl, own_mono (own_lit2 w _ #[] 0 rfl (by decide)) (by omega), (hb0 _).alloc (by simp) _⟩

/-- What is left, the code and the value of ListTake. -/
def takeL (zs : List Int) : List Int := if okL zs then zs.drop 1 else []
def takeC (zs : List Int) : Int := if okL zs then (if zs.length = 0 then 1 else 2) else 0
def takeV (zs : List Int) : Int := if okL zs then zs.headD 0 else 0

theorem specListTake_any (b off : Nat) (n : Nat) (zs : List Int) (w : World) (hs : SInts w (some ⟨b, off, none⟩) n zs) (hn : n ≤ 9223372036854775807) :
    Calls Try.prog 18 #[.slice (some ⟨b, off, none⟩) n n] w fun e w' => ListRes (takeL zs) (takeC zs) (takeV zs) e w w' := by
  have hzl := hs.1
  cases hok : okL zs
  · have e1 : takeL zs = [] := by simp [takeL, hok]
    have e2 : takeC zs = 0 := by simp [takeC, hok]
    have e3 : takeV zs = 0 := by simp [takeV, hok]
    rw [e1, e2, e3]
    exact specListTake_bad _ n n zs w hs hn hok
  · have h8l := okL_len hok
    match zs, hzl with
    | [], hzl =>
      have h0 : n = 0 := by simpa using hzl.symm
      subst h0
      exact specListTake_none _ 0 w
    | [x], hzl =>
      have h0 : n = 1 := by simpa using hzl.symm
      subst h0
      have e1 : takeL [x] = [] := by simp [takeL]
      have e2 : takeC [x] = 2 := by simp [takeC, hok]
      have e3 : takeV [x] = x := by simp [takeV, hok]
      rw [e1, e2, e3]
      exact specListTake_one b off x w hs hok
    | x :: y :: r, hzl =>
      have e1 : takeL (x :: y :: r) = y :: r := by simp [takeL, hok]
      have e2 : takeC (x :: y :: r) = 2 := by simp [takeC, hok]
      have e3 : takeV (x :: y :: r) = x := by simp [takeV, hok]
      rw [e1, e2, e3]
      simp only [List.length_cons] at hzl h8l
      exact specListTake_more b off n x (y :: r) w hs (by omega) (by omega) hok

set_option maxHeartbeats 400000 in
theorem implListFirst_some (a : Option Addr) (n cap : Nat) (x : Int) (ys : List Int) (w : World) (hs : SInts w a n (x :: ys)) (hn : n ≤ 9223372036854775807) :
    Calls Try.prog 27 #[.slice a n cap] w fun e w' => e = .returned (.agg #[.int .i64 2, .int .i64 x]) ∧ Below w.heap.size w w' := by
  have hz := hs.1
  obtain ⟨b, off, rfl, hc⟩ : ∃ b off, a = some ⟨b, off, none⟩ ∧ w.cell? ⟨b, off, none⟩ = some (.int .i64 x) := by
    obtain ⟨_, h0 | ⟨b, off, rfl, hc⟩⟩ := hs
    · simp at hz; omega
    · exact ⟨b, off, rfl, by simpa using hc 0 (by simp at hz; omega)⟩
  have hn0 : ((n : Int) == 0) = false := by simp at hz; simp; omega
  have hn3 : 0 < n := by simp at hz; omega
  have hcA := cell_kept ((Below.refl w.heap.size w).alloc (Nat.le_refl _) (.cells #[.int .i64 0, .int .i64 0] 27)) hc
  clear hs hz
  go_enter Try.func27, Try.ntmps27
  go_wp2
  exact bodyPost_ret (v := .agg #[.int .i64 2, .int .i64 x]) (by simp [results, Try.results27, go_sem]) rfl ⟨rfl, (Below.refl _ _).alloc (Nat.le_refl _) _⟩

set_option maxHeartbeats 400000 in
theorem implListTake_bad (a : Option Addr) (n cap : Nat) (zs : List Int) (w : World) (hs : SInts w a n zs) (hn : n ≤ 9223372036854775807) (hok : okL zs = false) :
    Calls Try.prog 13 #[.slice a n cap] w fun e w' => ListRes [] 0 0 e w w' := by
  have hb0 : ∀ o, Below w.heap.size w (w.alloc o) := fun o => (Below.refl _ _).alloc (Nat.le_refl _) o
  go_enter Try.func13, Try.ntmps13
  go_wp2_with fail
  refine (implListOk_any _ _ _ zs _ (hs.below (hb0 _)) hn).mono ?_
  rintro e w1 ⟨rfl, rfl⟩
  go_wp2
  exact bodyPost_ret (v := .tuple #[.slice none 0 0, .agg #[.int .i64 0, .int .i64 0]]) (by simp [results, Try.results13, go_sem]) rfl ⟨0, none, 0, rfl, World.ownsRow_nil _ _ _ _, hb0 _⟩

set_option maxHeartbeats 400000 in
theorem implListTake_none (a : Option Addr) (cap : Nat) (w : World) :
    Calls Try.prog 13 #[.slice a 0 cap] w fun e w' => ListRes [] 1 0 e w w' := by
  have hb0 : ∀ o, Below w.heap.size w (w.alloc o) := fun o => (Below.refl _ _).alloc (Nat.le_refl _) o
  have hok : okL [] = true := by decide
  go_enter Try.func13, Try.ntmps13
  go_wp2_with fail
  refine (implListOk_any _ 0 _ [] _ ⟨rfl, .inl rfl⟩ (by omega)).mono ?_
  rintro e w1 ⟨rfl, rfl⟩
  go_wp2
  exact bodyPost_ret (v := .tuple #[.slice none 0 0, .agg #[.int .i64 1, .int .i64 0]]) (by simp [results, Try.results13, go_sem]) rfl ⟨0, none, 0, rfl, World.ownsRow_nil _ _ _ _, hb0 _⟩

set_option maxHeartbeats 400000 in
theorem implListTake_some (a : Option Addr) (n cap : Nat) (x : Int) (ys : List Int) (w : World) (hs : SInts w a n (x :: ys)) (hnc : n ≤ cap) (hcap : cap ≤ 9223372036854775807 ∧ n ≤ 1099511627776) (hok : okL (x :: ys) = true) :
    Calls Try.prog 13 #[.slice a n cap] w fun e w' => ListRes ys 2 x e w w' := by
  have hb0 : ∀ o, Below w.heap.size w (w.alloc o) := fun o => (Below.refl _ _).alloc (Nat.le_refl _) o
  have hz := hs.1
  have hn0 : ((n : Int) == 0) = false := by simp at hz; simp; omega
  have hn3 : 0 < n := by simp at hz; omega
  clear hz
  go_enter Try.func13, Try.ntmps13
  go_wp2_with fail
  refine (implListOk_any _ _ _ (x :: ys) _ (hs.below (hb0 _)) (by omega)).mono ?_
  rintro e w1 ⟨rfl, rfl⟩
  go_wp2_with fail
  refine (without_any _ _ _ (x :: ys) 0 _ (hs.below (hb0 _)) hn3 hnc hcap).mono ?_
  rintro e w1 ⟨a', c', rfl, ho, hb⟩
  have hb1 := below_trans' (hb0 _) hb
  have hc0 := hb.cell (p := ⟨w.heap.size, 0, none⟩) (by simp)
  have hc1 := hb.cell (p := ⟨w.heap.size, 1, none⟩) (by simp)
  have hf0 := hb.frozen (p := ⟨w.heap.size, 0, none⟩) (by simp)
  have hf1 := hb.frozen (p := ⟨w.heap.size, 1, none⟩) (by simp)
  simp at hc0 hc1 hf0 hf1
  have hs1 := hs.below hb1
  have hlt : w.heap.size < w1.heap.size := World.block_lt_of_cell? w1 ⟨w.heap.size, 0, none⟩ hc0
  have HO : Hid (w1.ownsRow (w.heap.size + 1) 3 1 (.slice a' (n - 1) c') (n - 1) (ys.map (Value.int .i64))) := by
    have := ho
    simp only [World.size_alloc, List.take_zero, List.nil_append, Nat.zero_add, List.drop_succ_cons, List.drop_zero] at this
    exact this
  clear ho hb hs hb0
  go_wp2_with fail
  refine (implListFirst_some _ _ _ x ys _ hs1 (by omega)).mono ?_
  rintro e w2 ⟨rfl, hb2⟩
  have d0 := cell_kept hb2 hc0
  have d1 := cell_kept hb2 hc1
  have f0 : w2.frozen? ⟨w.heap.size, 0, none⟩ = false := (hb2.frozen (p := ⟨w.heap.size, 0, none⟩) hlt).trans hf0
  have f1 : w2.frozen? ⟨w.heap.size, 1, none⟩ = false := (hb2.frozen (p := ⟨w.heap.size, 1, none⟩) hlt).trans hf1
  have HO2 : Hid (w2.ownsRow (w.heap.size + 1) 3 1 (.slice a' (n - 1) c') (n - 1) (ys.map (Value.int .i64))) := ownsRow_below HO.out hb2
  have hb' := below_trans' hb1 hb2
  clear HO hb2 hb1 hs1 hc0 hc1 hf0 hf1 hlt
  go_wp2
  refine bodyPost_ret (v := .tuple #[.slice a' (n - 1) c', .agg #[.int .i64 2, .int .i64 x]]) (by simp [results, Try.results13, go_sem, d0, d1]) rfl ⟨n - 1, a', c', rfl, own_mono (own_setCell (own_setCell HO2.out (by omega) _) (by omega) _) (by omega), (hb'.setCell (Nat.le_refl _) _).setCell (Nat.le_refl _) _⟩

theorem implListTake_any (a : Option Addr) (n : Nat) (zs : List Int) (w : World) (hs : SInts w a n zs) (hn : n ≤ 1099511627776) :
    Calls Try.prog 13 #[.slice a n n] w fun e w' => ListRes (takeL zs) (takeC zs) (takeV zs) e w w' := by
  have hzl := hs.1
  cases hok : okL zs
  · have e1 : takeL zs = [] := by simp [takeL, hok]
    have e2 : takeC zs = 0 := by simp [takeC, hok]
    have e3 : takeV zs = 0 := by simp [takeV, hok]
    rw [e1, e2, e3]
    exact implListTake_bad _ n n zs w hs (by omega) hok
  · match zs, hzl with
    | [], hzl =>
      have h0 : n = 0 := by simpa using hzl.symm
      subst h0
      exact implListTake_none _ 0 w
    | x :: r, hzl =>
      have e1 : takeL (x :: r) = r := by simp [takeL, hok]
      have e2 : takeC (x :: r) = 2 := by simp [takeC, hok]
      have e3 : takeV (x :: r) = x := by simp [takeV, hok]
      rw [e1, e2, e3]
      exact implListTake_some a n n x r w hs (Nat.le_refl _) ⟨by omega, hn⟩ hok

theorem takeL_len (zs : List Int) : (takeL zs).length ≤ zs.length := by
  unfold takeL
  split
  · simp
  · simp

end Go.Proofs.Ytleajkacfhhemag
