/- Contracts of the program's MapPut. -/
import Derived.Test.YtkfamlbalgolmaaGet
namespace Go.Proofs.Ytkfamlbalgolmaa
open Go.RowKit
set_option linter.unusedVariables false

set_option maxHeartbeats 400000 in
theorem withE_any (a : Option Addr) (n cap : Nat) (zs : List Int) (i : Nat) (x y : Int) (w : World) (hs : SInts w a (n * 2) zs) (hi : i ≤ n) (hnc : n ≤ cap) (hcap : cap ≤ 9223372036854775807 ∧ n ≤ 1099511627776) :
    Calls Try.prog 36 #[.slice a n cap, .int .i64 i, .agg #[.int .i64 x, .int .i64 y]] w fun e w' => ∃ a' c', e = .returned (.slice a' (n + 1) c') ∧ w'.ownsRow w.heap.size 41 2 (.slice a' (n + 1) c') (n + 1) ((zs.take (i * 2) ++ [x, y] ++ zs.drop (i * 2)).map (Value.int .i64)) ∧ Below w.heap.size w w' := by
  have hb0 : ∀ o o1, Below w.heap.size w ((w.alloc o).alloc o1) := fun o o1 => ((Below.refl _ _).alloc (Nat.le_refl _) o).alloc (by simp) o1
  go_enter Try.func36, Try.ntmps36
  go_wp2_with fail
  refine (replacedE_any a n cap zs i i _ 1 1 [x, y] _ (hs.below (hb0 _ _)) ⟨rfl, .inr ⟨w.heap.size + 1, 0, rfl, ?hc⟩⟩ (Nat.le_refl _) hi hnc hcap (by omega)).mono ?_
  case hc =>
    intro j hj
    have h01 : j = 0 ∨ j = 1 := by omega
    rcases h01 with rfl | rfl
    · exact cell_at (w.alloc _) _ _ 0 (by simp) rfl
    · exact cell_at (w.alloc _) _ _ 1 (by simp) rfl
  rintro e w1 ⟨N, a', c', hN, rfl, ho, hb⟩
  obtain rfl : N = n + 1 := by omega
  have hb' := below_trans' (hb0 _ _) hb
  have HO : Hid (w1.ownsRow w.heap.size 41 2 (.slice a' (n + 1) c') (n + 1) ((zs.take (i * 2) ++ [x, y] ++ zs.drop (i * 2)).map (Value.int .i64))) := own_mono ho (by simp; omega)
  clear ho hN hs hb0 hb
  go_wp2
  go_ret
  exact ⟨_, _, rfl, HO.out, hb'⟩

/-- What MapPut makes, and answers. -/
def ptOk (zs : List Int) (n : Nat) (key val : Int) : Bool := okM zs n && (inB key 99 && inB val 999)
def ptL (zs : List Int) (n : Nat) (key val : Int) : List Int := if ptOk zs n key val then (if entB zs n key then zs else if n = 8 then zs else zs.take (entI zs n key * 2) ++ [key, val] ++ zs.drop (entI zs n key * 2)) else []
def ptN (zs : List Int) (n : Nat) (key val : Int) : Nat := if ptOk zs n key val then (if entB zs n key then n else if n = 8 then n else n + 1) else 0
def ptC (zs : List Int) (n : Nat) (key val : Int) : Int := if ptOk zs n key val then (if entB zs n key then 1 else if n = 8 then 3 else 2) else 0
theorem ptN_le (zs : List Int) (n : Nat) (key val : Int) : ptN zs n key val ≤ n + 1 := by
  unfold ptN
  split
  · split
    · omega
    · split <;> omega
  · omega

set_option maxHeartbeats 1000000 in
theorem implMapPut_bad (a : Option Addr) (n cap : Nat) (zs : List Int) (key val : Int) (w : World) (hs : SInts w a (n * 2) zs) (hn : n ≤ 9223372036854775807) (hok : ptOk zs n key val = false) :
    Calls Try.prog 10 #[.agg #[.slice a n cap], .int .i64 key, .int .i64 val] w fun e w' => MapRes [] 0 0 0 e w w' := by
  have I0 := loc_start w a n cap
  cases h1 : okM zs n
  · go_enter Try.func10, Try.ntmps10
    go_wp2_with fail
    refine (implMapOk_any _ _ _ zs _ (hs.below I0.bel) hn).mono ?_
    rintro e w1 ⟨rfl, hb1⟩
    have I1 := I0.below hb1
    have m0 := I1.m0
    have r0 := I1.r0
    have r1 := I1.r1
    have fm := I1.fm
    have f0 := I1.f0
    have f1 := I1.f1
    clear hb1 I0 hs hok
    rw [h1]
    go_wp2
    exact bodyPost_ret (v := .tuple #[.agg #[.slice none 0 0], .agg #[.int .i64 0, .int .i64 0]]) (by simp [results, Try.results10, go_sem, m0, r0, r1]) rfl ⟨none, 0, rfl, World.ownsRow_nil _ _ _ _, ((I1.bel.setCell (by show w.heap.size ≤ w.heap.size + 1; omega) _).setCell (by show w.heap.size ≤ w.heap.size + 1 + 1; omega) _).setCell (by show w.heap.size ≤ w.heap.size + 1 + 1; omega) _⟩
  · cases h2 : inB key 99
    · go_enter Try.func10, Try.ntmps10
      go_wp2_with fail
      refine (implMapOk_any _ _ _ zs _ (hs.below I0.bel) hn).mono ?_
      rintro e w1 ⟨rfl, hb1⟩
      have I1 := I0.below hb1
      have m0 := I1.m0
      have r0 := I1.r0
      have r1 := I1.r1
      have fm := I1.fm
      have f0 := I1.f0
      have f1 := I1.f1
      clear hb1 I0 hs hok
      rw [h1]
      go_wp2_with fail
      refine (within_as h2 _).mono ?_
      rintro e w1' ⟨rfl, rfl⟩
      go_wp2
      exact bodyPost_ret (v := .tuple #[.agg #[.slice none 0 0], .agg #[.int .i64 0, .int .i64 0]]) (by simp [results, Try.results10, go_sem, m0, r0, r1]) rfl ⟨none, 0, rfl, World.ownsRow_nil _ _ _ _, ((I1.bel.setCell (by show w.heap.size ≤ w.heap.size + 1; omega) _).setCell (by show w.heap.size ≤ w.heap.size + 1 + 1; omega) _).setCell (by show w.heap.size ≤ w.heap.size + 1 + 1; omega) _⟩
    · have h3 : inB val 999 = false := by simpa [ptOk, h1, h2] using hok
      go_enter Try.func10, Try.ntmps10
      go_wp2_with fail
      refine (implMapOk_any _ _ _ zs _ (hs.below I0.bel) hn).mono ?_
      rintro e w1 ⟨rfl, hb1⟩
      have I1 := I0.below hb1
      have m0 := I1.m0
      have r0 := I1.r0
      have r1 := I1.r1
      have fm := I1.fm
      have f0 := I1.f0
      have f1 := I1.f1
      clear hb1 I0 hs hok
      rw [h1]
      go_wp2_with fail
      refine (within_as h2 _).mono ?_
      rintro e w1' ⟨rfl, rfl⟩
      go_wp2_with fail
      refine (within_as h3 _).mono ?_
      rintro e w1' ⟨rfl, rfl⟩
      go_wp2
      exact bodyPost_ret (v := .tuple #[.agg #[.slice none 0 0], .agg #[.int .i64 0, .int .i64 0]]) (by simp [results, Try.results10, go_sem, m0, r0, r1]) rfl ⟨none, 0, rfl, World.ownsRow_nil _ _ _ _, ((I1.bel.setCell (by show w.heap.size ≤ w.heap.size + 1; omega) _).setCell (by show w.heap.size ≤ w.heap.size + 1 + 1; omega) _).setCell (by show w.heap.size ≤ w.heap.size + 1 + 1; omega) _⟩

set_option maxHeartbeats 1000000 in
theorem implMapPut_there (a : Option Addr) (n cap : Nat) (zs : List Int) (key val : Int) (i : Nat) (w : World) (hs : SInts w a (n * 2) zs) (hnc : n ≤ cap) (hcap : cap ≤ 9223372036854775807 ∧ n ≤ 1048576) (h1 : okM zs n = true) (h2 : inB key 99 = true) (h3 : inB val 999 = true)
    (hent : Hid (∀ W, SInts W a (n * 2) zs → Calls Try.prog 34 #[.slice a n cap, .int .i64 key] W fun e w' => e = .returned (.tuple #[.int .i64 (i : Nat), .bool true]) ∧ Below W.heap.size W w')) :
    Calls Try.prog 10 #[.agg #[.slice a n cap], .int .i64 key, .int .i64 val] w fun e w' => MapRes zs n 1 0 e w w' := by
  have I0 := loc_start w a n cap
  go_enter Try.func10, Try.ntmps10
  go_wp2_with fail
  refine (implMapOk_any _ _ _ zs _ (hs.below I0.bel) (by omega)).mono ?_
  rintro e w1 ⟨rfl, hb1⟩
  have I1 := I0.below hb1
  have box1 := I1.box
  clear hb1 I0
  rw [h1]
  go_wp2_with fail
  refine (within_as h2 _).mono ?_
  rintro e w1' ⟨rfl, rfl⟩
  go_wp2_with fail
  refine (within_as h3 _).mono ?_
  rintro e w1' ⟨rfl, rfl⟩
  go_wp2_with fail
  refine (hent.out _ (hs.below I1.bel)).mono ?_
  rintro e w2 ⟨rfl, hb2⟩
  have I2 := I1.below hb2
  clear hb2 I1 box1 hent
  go_wp2_with fail
  refine (sameE_any _ _ _ zs _ (hs.below I2.bel) hnc (by omega)).mono ?_
  rintro e w3 ⟨a', c', rfl, ho, hb3⟩
  have I3 := I2.below hb3
  have m0 := I3.m0
  have r0 := I3.r0
  have r1 := I3.r1
  have fm := I3.fm
  have f0 := I3.f0
  have f1 := I3.f1
  have HO : Hid (w3.ownsRow (w.heap.size + 1 + 1 + 1) 41 2 (.slice a' n c') n (zs.map (Value.int .i64))) := own_mono ho I2.sz
  clear hb3 I2 hs ho
  go_wp2
  exact bodyPost_ret (v := .tuple #[.agg #[.slice a' n c'], .agg #[.int .i64 1, .int .i64 0]]) (by simp [results, Try.results10, go_sem, m0, r0, r1]) rfl ⟨a', c', rfl, own_mono (own_setCell (own_setCell (own_setCell HO.out (by omega) _) (by omega) _) (by omega) _) (by omega), ((I3.bel.setCell (by show w.heap.size ≤ w.heap.size + 1; omega) _).setCell (by show w.heap.size ≤ w.heap.size + 1 + 1; omega) _).setCell (by show w.heap.size ≤ w.heap.size + 1 + 1; omega) _⟩

set_option maxHeartbeats 1000000 in
theorem implMapPut_full (a : Option Addr) (cap : Nat) (zs : List Int) (key val : Int) (i : Nat) (w : World) (hs : SInts w a (8 * 2) zs) (hnc : 8 ≤ cap) (hcap : cap ≤ 9223372036854775807 ∧ 8 ≤ 1048576) (h1 : okM zs 8 = true) (h2 : inB key 99 = true) (h3 : inB val 999 = true)
    (hent : Hid (∀ W, SInts W a (8 * 2) zs → Calls Try.prog 34 #[.slice a 8 cap, .int .i64 key] W fun e w' => e = .returned (.tuple #[.int .i64 (i : Nat), .bool false]) ∧ Below W.heap.size W w')) :
    Calls Try.prog 10 #[.agg #[.slice a 8 cap], .int .i64 key, .int .i64 val] w fun e w' => MapRes zs 8 3 0 e w w' := by
  have I0 := loc_start w a 8 cap
  go_enter Try.func10, Try.ntmps10
  go_wp2_with fail
  refine (implMapOk_any _ _ _ zs _ (hs.below I0.bel) (by omega)).mono ?_
  rintro e w1 ⟨rfl, hb1⟩
  have I1 := I0.below hb1
  have box1 := I1.box
  clear hb1 I0
  rw [h1]
  go_wp2_with fail
  refine (within_as h2 _).mono ?_
  rintro e w1' ⟨rfl, rfl⟩
  go_wp2_with fail
  refine (within_as h3 _).mono ?_
  rintro e w1' ⟨rfl, rfl⟩
  go_wp2_with fail
  refine (hent.out _ (hs.below I1.bel)).mono ?_
  rintro e w2 ⟨rfl, hb2⟩
  have I2 := I1.below hb2
  clear hb2 I1 box1 hent
  go_wp2_with fail
  refine (sameE_any _ 8 _ zs _ (hs.below I2.bel) hnc (by omega)).mono ?_
  rintro e w3 ⟨a', c', rfl, ho, hb3⟩
  have I3 := I2.below hb3
  have m0 := I3.m0
  have r0 := I3.r0
  have r1 := I3.r1
  have fm := I3.fm
  have f0 := I3.f0
  have f1 := I3.f1
  have HO : Hid (w3.ownsRow (w.heap.size + 1 + 1 + 1) 41 2 (.slice a' 8 c') 8 (zs.map (Value.int .i64))) := own_mono ho I2.sz
  clear hb3 I2 hs ho
  go_wp2
  exact bodyPost_ret (v := .tuple #[.agg #[.slice a' 8 c'], .agg #[.int .i64 3, .int .i64 0]]) (by simp [results, Try.results10, go_sem, m0, r0, r1]) rfl ⟨a', c', rfl, own_mono (own_setCell (own_setCell (own_setCell HO.out (by omega) _) (by omega) _) (by omega) _) (by omega), ((I3.bel.setCell (by show w.heap.size ≤ w.heap.size + 1; omega) _).setCell (by show w.heap.size ≤ w.heap.size + 1 + 1; omega) _).setCell (by show w.heap.size ≤ w.heap.size + 1 + 1; omega) _⟩

set_option maxHeartbeats 1000000 in
theorem implMapPut_room (a : Option Addr) (n cap : Nat) (zs : List Int) (key val : Int) (i : Nat) (hi : i ≤ n) (w : World) (hs : SInts w a (n * 2) zs) (hnc : n ≤ cap) (hcap : cap ≤ 9223372036854775807 ∧ n ≤ 1048576) (h1 : okM zs n = true) (h2 : inB key 99 = true) (h3 : inB val 999 = true) (h8 : ((n : Int) == 8) = false)
    (hent : Hid (∀ W, SInts W a (n * 2) zs → Calls Try.prog 34 #[.slice a n cap, .int .i64 key] W fun e w' => e = .returned (.tuple #[.int .i64 (i : Nat), .bool false]) ∧ Below W.heap.size W w')) :
    Calls Try.prog 10 #[.agg #[.slice a n cap], .int .i64 key, .int .i64 val] w fun e w' => MapRes (zs.take (i * 2) ++ [key, val] ++ zs.drop (i * 2)) (n + 1) 2 0 e w w' := by
  have I0 := loc_start w a n cap
  go_enter Try.func10, Try.ntmps10
  go_wp2_with fail
  refine (implMapOk_any _ _ _ zs _ (hs.below I0.bel) (by omega)).mono ?_
  rintro e w1 ⟨rfl, hb1⟩
  have I1 := I0.below hb1
  have box1 := I1.box
  clear hb1 I0
  rw [h1]
  go_wp2_with fail
  refine (within_as h2 _).mono ?_
  rintro e w1' ⟨rfl, rfl⟩
  go_wp2_with fail
  refine (within_as h3 _).mono ?_
  rintro e w1' ⟨rfl, rfl⟩
  go_wp2_with fail
  refine (hent.out _ (hs.below I1.bel)).mono ?_
  rintro e w2 ⟨rfl, hb2⟩
  have I2 := I1.below hb2
  clear hb2 I1 box1 hent
  go_wp2_with fail
  refine (withE_any _ _ _ zs _ _ _ _ (hs.below I2.bel) hi hnc (by omega)).mono ?_
  rintro e w3 ⟨a', c', rfl, ho, hb3⟩
  have I3 := I2.below hb3
  have m0 := I3.m0
  have r0 := I3.r0
  have r1 := I3.r1
  have fm := I3.fm
  have f0 := I3.f0
  have f1 := I3.f1
  have HO : Hid (w3.ownsRow (w.heap.size + 1 + 1 + 1) 41 2 (.slice a' (n + 1) c') (n + 1) ((zs.take (i * 2) ++ [key, val] ++ zs.drop (i * 2)).map (Value.int .i64))) := own_mono ho I2.sz
  clear hb3 I2 hs ho
  go_wp2
  exact bodyPost_ret (v := .tuple #[.agg #[.slice a' (n + 1) c'], .agg #[.int .i64 2, .int .i64 0]]) (by simp [results, Try.results10, go_sem, m0, r0, r1]) rfl ⟨a', c', rfl, own_mono (own_setCell (own_setCell (own_setCell HO.out (by omega) _) (by omega) _) (by omega) _) (by omega), ((I3.bel.setCell (by show w.heap.size ≤ w.heap.size + 1; omega) _).setCell (by show w.heap.size ≤ w.heap.size + 1 + 1; omega) _).setCell (by show w.heap.size ≤ w.heap.size + 1 + 1; omega) _⟩

theorem ptOk_parts {zs : List Int} {n : Nat} {key val : Int} (h : ptOk zs n key val = true) : okM zs n = true ∧ inB key 99 = true ∧ inB val 999 = true := by
  simp only [ptOk, Bool.and_eq_true] at h
  exact ⟨h.1, h.2.1, h.2.2⟩

theorem implMapPut_cap (a : Option Addr) (n cap : Nat) (zs : List Int) (key val : Int) (w : World) (hs : SInts w a (n * 2) zs) (hn : n ≤ 1048576) (hnc : n ≤ cap) (hcap : cap ≤ 9223372036854775807) :
    Calls Try.prog 10 #[.agg #[.slice a n cap], .int .i64 key, .int .i64 val] w fun e w' => MapRes (ptL zs n key val) (ptN zs n key val) (ptC zs n key val) 0 e w w' := by
  cases hok : ptOk zs n key val
  · have e1 : ptL zs n key val = [] := by simp [ptL, hok]
    have e2 : ptN zs n key val = 0 := by simp [ptN, hok]
    have e3 : ptC zs n key val = 0 := by simp [ptC, hok]
    rw [e1, e2, e3]
    exact implMapPut_bad a n cap zs key val w hs (by omega) hok
  · obtain ⟨h1, h2, h3⟩ := ptOk_parts hok
    have hent : ∀ W, SInts W a (n * 2) zs → Calls Try.prog 34 #[.slice a n cap, .int .i64 key] W fun e w' => e = .returned (.tuple #[.int .i64 (entI zs n key : Nat), .bool (entB zs n key)]) ∧ Below W.heap.size W w' := fun W h => entryOf_tail a n cap zs key W h hn
    cases hE : entB zs n key
    · rw [hE] at hent
      by_cases h8 : n = 8
      · subst h8
        have e1 : ptL zs 8 key val = zs := by simp [ptL, hok, hE]
        have e2 : ptN zs 8 key val = 8 := by simp [ptN, hok, hE]
        have e3 : ptC zs 8 key val = 3 := by simp [ptC, hok, hE]
        rw [e1, e2, e3]
        exact implMapPut_full a cap zs key val _ w hs hnc ⟨hcap, by omega⟩ h1 h2 h3 hent
      · have e1 : ptL zs n key val = zs.take (entI zs n key * 2) ++ [key, val] ++ zs.drop (entI zs n key * 2) := by simp [ptL, hok, hE, h8]
        have e2 : ptN zs n key val = n + 1 := by simp [ptN, hok, hE, h8]
        have e3 : ptC zs n key val = 2 := by simp [ptC, hok, hE, h8]
        rw [e1, e2, e3]
        exact implMapPut_room a n cap zs key val _ (entI_le zs n key) w hs hnc ⟨hcap, by omega⟩ h1 h2 h3 (by simp; omega) hent
    · rw [hE] at hent
      have e1 : ptL zs n key val = zs := by simp [ptL, hok, hE]
      have e2 : ptN zs n key val = n := by simp [ptN, hok, hE]
      have e3 : ptC zs n key val = 1 := by simp [ptC, hok, hE]
      rw [e1, e2, e3]
      exact implMapPut_there a n cap zs key val _ w hs hnc ⟨hcap, hn⟩ h1 h2 h3 hent

theorem implMapPut_any (a : Option Addr) (n : Nat) (zs : List Int) (key val : Int) (w : World) (hs : SInts w a (n * 2) zs) (hn : n ≤ 1048576) :
    Calls Try.prog 10 #[.agg #[.slice a n n], .int .i64 key, .int .i64 val] w fun e w' => MapRes (ptL zs n key val) (ptN zs n key val) (ptC zs n key val) 0 e w w' :=
  implMapPut_cap a n n zs key val w hs hn (Nat.le_refl _) (by omega)

end Go.Proofs.Ytkfamlbalgolmaa
