/- The specification's ListTake at any capacity. -/
import Derived.Test.YtleajkacfhhemagTake
namespace Go.Proofs.Ytleajkacfhhemag
open Go.RowKit
set_option linter.unusedVariables false

set_option maxHeartbeats 1000000 in
theorem specListTake_capmore (b off : Nat) (n cap : Nat) (x : Int) (ys : List Int) (w : World) (hs : SInts w (some ⟨b, off, none⟩) n (x :: ys)) (h2 : 2 ≤ n) (h8 : n ≤ 8) (hnc : n ≤ cap) (hcap : cap ≤ 9223372036854775807) (hok : okL (x :: ys) = true) :
    Calls Try.prog 18 #[.slice (some ⟨b, off, none⟩) n cap] w fun e w' => ListRes ys 2 x e w w' := by
  have hb0 : ∀ o, Below w.heap.size w (w.alloc o) := fun o => (Below.refl _ _).alloc (Nat.le_refl _) o
  obtain ⟨i0, hi, hz0, hz1, hz2⟩ := info_parts Try.info3
  have hzl : Hid (ys.length = n - 1) := by have := hs.1; simp at this; show _ = _; omega
  have hcx : ∀ W, Below w.heap.size w W → W.cell? ⟨b, off, none⟩ = some (.int .i64 x) ∧ ∀ j u, (ys.map (Value.int .i64))[j]? = some u → W.cell? ((⟨b, off + 1, none⟩ : Addr).add j) = some u := by
    intro W hW
    obtain ⟨hz, h0 | ⟨b', off', e, hc⟩⟩ := hs.below hW
    · omega
    · cases e
      refine ⟨by simpa using hc 0 (by omega), fun j u hj => ?_⟩
      have hjn : j < n - 1 := by
        have := (List.getElem?_eq_some_iff.1 hj).1
        simp at this hz
        omega
      rw [Addr.add_lit, show off + 1 + j = off + (j + 1) by omega, hc (j + 1) (by omega)]
      simp at hz
      simpa [List.getD, show j < ys.length by omega] using hj
  have hn0 : ((n : Int) == 0) = false := by simp; omega
  have hn1 : ¬ cap = 1 := by omega
  have hn2 : (1 : Int) ≤ (n : Int) := by omega
  have hn3 : 0 < n := by omega
  go_enter Try.func18, Try.ntmps18
  go_wp2_with fail
  refine (specListOk_any _ _ _ (x :: ys) _ (hs.below (hb0 _)) (by omega)).mono ?_
  rintro e w1 ⟨rfl, rfl⟩
  have HC : Hid (∀ W, Below w.heap.size w W → W.cell? ⟨b, off, none⟩ = some (.int .i64 x) ∧ ∀ j u, (ys.map (Value.int .i64))[j]? = some u → W.cell? ((⟨b, off + 1, none⟩ : Addr).add j) = some u) := hcx
  clear hcx
  have q1 := (HC.out _ (hb0 (.cells #[.int .i64 0, .int .i64 0] 27))).1
  have q2 := (HC.out _ ((hb0 (.cells #[.int .i64 0, .int .i64 0] 27)).alloc (by simp) (.cells #[] 3))).1
  have S2 : Hid (∀ j u, (ys.map (Value.int .i64))[j]? = some u → ((w.alloc (.cells #[.int .i64 0, .int .i64 0] 27)).alloc (.cells #[] 3)).drew.cell? ((⟨b, off + 1, none⟩ : Addr).add j) = some u) := (HC.out _ ((hb0 (.cells #[.int .i64 0, .int .i64 0] 27)).alloc (by simp) (.cells #[] 3)).drew).2
  clear hs hb0
  go_wp2
  go_region_law (refine step_append_grows rfl (.tmp 14) (.tmp 16) 23 rfl 3 i0 (.int .i64 0) 1 8 Try.underlying23 hi hz0 hz1 hz2 rfl (by decide) (some ⟨w.heap.size + 1, 0, none⟩) 0 0 [] rfl (by intro h; cases h) rfl (by intro _ _ j u h; simp at h) ⟨b, off + 1, none⟩ (n - 1) (cap - 1) (ys.map (Value.int .i64)) rfl (by simp [hzl.out]) S2.out (ints_oneCell _ _) (by omega) (by unfold maxLen; omega) (by omega) ?_; intro v' w1 hown hgrow; obtain ⟨d0, d1, f0, f1, hbB⟩ := behind_none hgrow (fun k h => by cases h); have q3 := (HC.out _ hbB).1; obtain ⟨a', c', hv, _⟩ := own_shape (zs := ys) (by simpa using hown); rw [hv] at hown ⊢)
  all_goals
    have HO : Hid (w1.ownsRow (w.heap.size + 1) 3 1 (.slice a' (n - 1) c') (n - 1) (ys.map (Value.int .i64))) := by
      have h := own_mono hown (show w.heap.size + 1 ≤ _ by simp)
      show w1.ownsRow (w.heap.size + 1) 3 1 (.slice a' (n - 1) c') (n - 1) (ys.map (Value.int .i64))
      simpa using h
    clear hown hgrow S2 HC
    go_wp2
    refine bodyPost_ret (v := .tuple #[.slice a' (n - 1) c', .agg #[.int .i64 2, .int .i64 x]]) (by simp [results, Try.results18, go_sem, d0, d1]) rfl ⟨n - 1, a', c', rfl, own_mono (own_setCell (own_setCell HO.out (by omega) _) (by omega) _) (by omega), (hbB.setCell (Nat.le_refl _) _).setCell (Nat.le_refl _) _⟩

set_option maxHeartbeats 1000000 in
theorem specListTake_capone (b off cap : Nat) (x : Int) (w : World) (hs : SInts w (some ⟨b, off, none⟩) 1 [x]) (hok : okL [x] = true) (hc2 : 2 ≤ cap) (hcap : cap ≤ 9223372036854775807) :
    Calls Try.prog 18 #[.slice (some ⟨b, off, none⟩) 1 cap] w fun e w' => ListRes [] 2 x e w w' := by
  have hb0 : ∀ o, Below w.heap.size w (w.alloc o) := fun o => (Below.refl _ _).alloc (Nat.le_refl _) o
  obtain ⟨i0, hi, hz0, hz1, hz2⟩ := info_parts Try.info3
  have HC : Hid (∀ W, Below w.heap.size w W → W.cell? ⟨b, off, none⟩ = some (.int .i64 x)) := by
    intro W hW
    obtain ⟨hz, h0 | ⟨b', off', e, hc⟩⟩ := hs.below hW
    · omega
    · cases e
      simpa using hc 0 (by omega)
  have hn1 : ¬ cap = 1 := by omega
  go_enter Try.func18, Try.ntmps18
  go_wp2_with fail
  refine (specListOk_any _ _ _ [x] _ (hs.below (hb0 _)) (by omega)).mono ?_
  rintro e w1 ⟨rfl, rfl⟩
  have e0 : Hid (∀ (W : World) (b o : Nat), W.setCells b o [] = W) := fun W b o => rfl
  have q1 := HC.out _ (hb0 (.cells #[.int .i64 0, .int .i64 0] 27))
  have q2 := HC.out _ ((hb0 (.cells #[.int .i64 0, .int .i64 0] 27)).alloc (by simp) (.cells #[] 3))
  have hbB := ((hb0 (.cells #[.int .i64 2, .int .i64 x] 27)).alloc (by simp) (.cells #[] 3)).drew
  have HO : Hid (((w.alloc (.cells #[.int .i64 2, .int .i64 x] 27)).alloc (.cells #[] 3)).drew.ownsRow (w.heap.size + 1) 3 1 (.slice (some ⟨w.heap.size + 1, 0, none⟩) 0 0) 0 []) := (own_lit2 w (.cells #[.int .i64 2, .int .i64 x] 27) #[] 0 rfl (by decide)).drew
  clear hs hb0 HC
  go_wp2
  go_region_law (refine step_append_room rfl (.tmp 14) (.tmp 16) 23 rfl 3 i0 1 Try.underlying23 hi hz1 (w.heap.size + 1) 0 0 0 rfl ⟨b, off + 1, none⟩ 0 (cap - 1) [] rfl rfl (by intro j u h; simp at h) (by simp) (by omega) (by intro j h; simp at h) ?_; rw [e0.out])
  all_goals go_wp2
  all_goals exact bodyPost_ret (v := .tuple #[.slice (some ⟨w.heap.size + 1, 0, none⟩) 0 0, .agg #[.int .i64 2, .int .i64 x]]) (by simp [results, Try.results18, go_sem]) rfl ⟨0, _, 0, rfl, own_mono HO.out (by omega), hbB⟩

theorem specListTake_cap (b off : Nat) (n cap : Nat) (zs : List Int) (w : World) (hs : SInts w (some ⟨b, off, none⟩) n zs) (hnc : n ≤ cap) (hcap : cap ≤ 9223372036854775807) :
    Calls Try.prog 18 #[.slice (some ⟨b, off, none⟩) n cap] w fun e w' => ListRes (takeL zs) (takeC zs) (takeV zs) e w w' := by
  have hzl := hs.1
  cases hok : okL zs
  · have e1 : takeL zs = [] := by simp [takeL, hok]
    have e2 : takeC zs = 0 := by simp [takeC, hok]
    have e3 : takeV zs = 0 := by simp [takeV, hok]
    rw [e1, e2, e3]
    exact specListTake_bad _ n cap zs w hs (by omega) hok
  · have h8l := okL_len hok
    match zs, hzl with
    | [], hzl =>
      have h0 : n = 0 := by simpa using hzl.symm
      subst h0
      exact specListTake_none _ cap w
    | [x], hzl =>
      have h0 : n = 1 := by simpa using hzl.symm
      subst h0
      have e1 : takeL [x] = [] := by simp [takeL]
      have e2 : takeC [x] = 2 := by simp [takeC, hok]
      have e3 : takeV [x] = x := by simp [takeV, hok]
      rw [e1, e2, e3]
      by_cases h1 : cap = 1
      · subst h1
        exact specListTake_one b off x w hs hok
      · exact specListTake_capone b off cap x w hs hok (by omega) hcap
    | x :: y :: r, hzl =>
      have e1 : takeL (x :: y :: r) = y :: r := by simp [takeL, hok]
      have e2 : takeC (x :: y :: r) = 2 := by simp [takeC, hok]
      have e3 : takeV (x :: y :: r) = x := by simp [takeV, hok]
      rw [e1, e2, e3]
      have hl : n = r.length + 2 := by simpa using hzl.symm
      exact specListTake_capmore b off n cap x (y :: r) w hs (by omega) (by simp at h8l; omega) hnc hcap hok

end Go.Proofs.Ytleajkacfhhemag
