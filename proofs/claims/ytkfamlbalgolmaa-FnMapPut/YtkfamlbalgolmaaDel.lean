/- Contracts of the program's MapDel. -/
import Derived.Test.YtkfamlbalgolmaaEntry
import Derived.Test.YtkfamlbalgolmaaListsE
namespace Go.Proofs.Ytkfamlbalgolmaa
open Go.RowKit
set_option linter.unusedVariables false

/-- A map and an answer come back, in new memory. -/
def MapRes (zs : List Int) (n : Nat) (c v : Int) (e : Ending) (w w' : World) : Prop :=
  ∃ a' c', e = .returned (.tuple #[.agg #[.slice a' n c'], .agg #[.int .i64 c, .int .i64 v]]) ∧ w'.ownsRow w.heap.size 41 2 (.slice a' n c') n (zs.map (Value.int .i64)) ∧ Below w.heap.size w w'

def delT (zs : List Int) (n : Nat) (key : Int) : Bool := okM zs n && entB zs n key
def delL (zs : List Int) (n : Nat) (key : Int) : List Int := if okM zs n then (if entB zs n key then zs.take (entI zs n key * 2) ++ zs.drop ((entI zs n key + 1) * 2) else zs) else []
def delN (zs : List Int) (n : Nat) (key : Int) : Nat := if okM zs n then (if entB zs n key then n - 1 else n) else 0
def delC (zs : List Int) (n : Nat) (key : Int) : Int := if okM zs n then (if entB zs n key then 2 else 1) else 0
def delV (zs : List Int) (n : Nat) (key : Int) : Int := if okM zs n then (if entB zs n key then valAt zs (entI zs n key) else 0) else 0

theorem delN_le (zs : List Int) (n : Nat) (key : Int) : delN zs n key ≤ n := by
  unfold delN
  split
  · split <;> omega
  · omega

/-- The blocks that MapDel and MapPut lay first: the argument, the map and the answer that they hand back. -/
structure Loc (w : World) (a : Option Addr) (n cap : Nat) (W : World) : Prop where
  bel : Below w.heap.size w W
  sz : w.heap.size + 1 + 1 < W.heap.size
  box : W.cell? ⟨w.heap.size, 0, none⟩ = some (.slice a n cap)
  m0 : W.cell? ⟨w.heap.size + 1, 0, none⟩ = some (.slice none 0 0)
  r0 : W.cell? ⟨w.heap.size + 1 + 1, 0, none⟩ = some (.int .i64 0)
  r1 : W.cell? ⟨w.heap.size + 1 + 1, 1, none⟩ = some (.int .i64 0)
  fm : W.frozen? ⟨w.heap.size + 1, 0, none⟩ = false
  f0 : W.frozen? ⟨w.heap.size + 1 + 1, 0, none⟩ = false
  f1 : W.frozen? ⟨w.heap.size + 1 + 1, 1, none⟩ = false

theorem frozen_kept {W W' : World} {b o : Nat} (hb : Below W.heap.size W W') (hlt : b < W.heap.size) (h : W.frozen? ⟨b, o, none⟩ = false) : W'.frozen? ⟨b, o, none⟩ = false :=
  (hb.frozen (p := ⟨b, o, none⟩) hlt).trans h

theorem Loc.below {w : World} {a : Option Addr} {n cap : Nat} {W W' : World} (h : Loc w a n cap W) (hb : Below W.heap.size W W') : Loc w a n cap W' :=
  { bel := below_trans' h.bel hb, sz := Nat.lt_of_lt_of_le h.sz hb.size, box := cell_kept hb h.box, m0 := cell_kept hb h.m0, r0 := cell_kept hb h.r0, r1 := cell_kept hb h.r1,
    fm := frozen_kept hb (by have := h.sz; omega) h.fm, f0 := frozen_kept hb h.sz h.f0, f1 := frozen_kept hb h.sz h.f1 }

theorem loc_start (w : World) (a : Option Addr) (n cap : Nat) : Loc w a n cap (((w.alloc (.cells #[.slice a n cap] 25)).alloc (.cells #[.slice none 0 0] 25)).alloc (.cells #[.int .i64 0, .int .i64 0] 29)) := by
  have al : ∀ (W : World) (o : Obj), Below W.heap.size W (W.alloc o) := fun W o => (Below.refl _ _).alloc (Nat.le_refl _) o
  exact
    { bel := below_trans' (below_trans' (al _ _) (al _ _)) (al _ _), sz := by simp,
      box := cell_kept (al _ _) (cell_kept (al _ _) (cell_at w _ _ 0 rfl rfl)), m0 := cell_kept (al _ _) (cell_at (w.alloc _) _ _ 0 (by simp) rfl),
      r0 := cell_at ((w.alloc _).alloc _) _ _ 0 (by simp) rfl, r1 := cell_at ((w.alloc _).alloc _) _ _ 1 (by simp) rfl,
      fm := frozen_kept (al _ _) (by simp) (frozen_at (w.alloc _) _ _ 0 (by simp)),
      f0 := frozen_at ((w.alloc _).alloc _) _ _ 0 (by simp), f1 := frozen_at ((w.alloc _).alloc _) _ _ 1 (by simp) }

set_option maxHeartbeats 1000000 in
theorem implMapDel_bad (a : Option Addr) (n cap : Nat) (zs : List Int) (key : Int) (w : World) (hs : SInts w a (n * 2) zs) (hn : n ≤ 9223372036854775807) (hok : okM zs n = false) :
    Calls Try.prog 18 #[.agg #[.slice a n cap], .int .i64 key] w fun e w' => MapRes [] 0 0 0 e w w' := by
  have I0 := loc_start w a n cap
  go_enter Try.func18, Try.ntmps18
  go_wp2_with fail
  refine (implMapOk_any _ _ _ zs _ (hs.below I0.bel) hn).mono ?_
  rintro e w1 ⟨rfl, hb1⟩
  have I1 := I0.below hb1
  have m0 := I1.m0
  have r0 := I1.r0
  have r1 := I1.r1
  have fm := I1.fm
  have f0 := I1.f0
  have f1 := I1.f1
  clear hb1 I0 hs
  rw [hok]
  go_wp2
  exact bodyPost_ret (v := .tuple #[.agg #[.slice none 0 0], .agg #[.int .i64 0, .int .i64 0]]) (by simp [results, Try.results18, go_sem, m0, r0, r1]) rfl ⟨none, 0, rfl, World.ownsRow_nil _ _ _ _, ((I1.bel.setCell (by show w.heap.size ≤ w.heap.size + 1; omega) _).setCell (by show w.heap.size ≤ w.heap.size + 1 + 1; omega) _).setCell (by show w.heap.size ≤ w.heap.size + 1 + 1; omega) _⟩

set_option maxHeartbeats 1000000 in
theorem implMapDel_no (a : Option Addr) (n cap : Nat) (zs : List Int) (key : Int) (w : World) (hs : SInts w a (n * 2) zs) (hnc : n ≤ cap) (hcap : cap ≤ 9223372036854775807 ∧ n ≤ 1048576) (hok : okM zs n = true) (hE : entB zs n key = false) :
    Calls Try.prog 18 #[.agg #[.slice a n cap], .int .i64 key] w fun e w' => MapRes zs n 1 0 e w w' := by
  have I0 := loc_start w a n cap
  go_enter Try.func18, Try.ntmps18
  go_wp2_with fail
  refine (implMapOk_any _ _ _ zs _ (hs.below I0.bel) (by omega)).mono ?_
  rintro e w1 ⟨rfl, hb1⟩
  have I1 := I0.below hb1
  have box1 := I1.box
  clear hb1 I0
  rw [hok]
  go_wp2_with fail
  refine (entryOf_tail _ _ _ zs _ _ (hs.below I1.bel) (by omega)).mono ?_
  rintro e w2 ⟨rfl, hb2⟩
  have I2 := I1.below hb2
  clear hb2 I1 box1
  rw [hE]
  go_wp2_with fail
  refine (sameE_any _ _ _ zs _ (hs.below I2.bel) hnc (by omega)).mono ?_
  rintro e w3 ⟨a', c', rfl, ho, hb3⟩
  have I3 := I2.below hb3
  have m0 := I3.m0
  have r0 := I3.r0
  have r1 := I3.r1
  have fm := I3.fm
  have f0 := I3.f0
  have f1 := I3.f1
  have HO : Hid (w3.ownsRow (w.heap.size + 1 + 1 + 1) 41 2 (.slice a' n c') n (zs.map (Value.int .i64))) := own_mono ho I2.sz
  clear hb3 I2 hs ho
  go_wp2
  exact bodyPost_ret (v := .tuple #[.agg #[.slice a' n c'], .agg #[.int .i64 1, .int .i64 0]]) (by simp [results, Try.results18, go_sem, m0, r0, r1]) rfl ⟨a', c', rfl, own_mono (own_setCell (own_setCell (own_setCell HO.out (by omega) _) (by omega) _) (by omega) _) (by omega), ((I3.bel.setCell (by show w.heap.size ≤ w.heap.size + 1; omega) _).setCell (by show w.heap.size ≤ w.heap.size + 1 + 1; omega) _).setCell (by show w.heap.size ≤ w.heap.size + 1 + 1; omega) _⟩

set_option maxHeartbeats 2000000 in
theorem implMapDel_yes (a : Option Addr) (n cap : Nat) (zs : List Int) (key : Int) (w : World) (hs : SInts w a (n * 2) zs) (hnc : n ≤ cap) (hcap : cap ≤ 9223372036854775807 ∧ n ≤ 1048576) (hok : okM zs n = true) (hE : entB zs n key = true) :
    Calls Try.prog 18 #[.agg #[.slice a n cap], .int .i64 key] w fun e w' => MapRes (zs.take (entI zs n key * 2) ++ zs.drop ((entI zs n key + 1) * 2)) (n - 1) 2 (valAt zs (entI zs n key)) e w w' := by
  have I0 := loc_start w a n cap
  have hlt0 : entI zs n key < n := by simp [entB] at hE; exact hE.1
  have hent : Hid (∀ W, SInts W a (n * 2) zs → Calls Try.prog 34 #[.slice a n cap, .int .i64 key] W fun e w' => e = .returned (.tuple #[.int .i64 (entI zs n key), .bool true]) ∧ Below W.heap.size W w') := by
    intro W h
    have := entryOf_tail a n cap zs key W h (by omega)
    rw [hE] at this
    exact this
  generalize entI zs n key = i at hlt0 hent ⊢
  obtain ⟨y, hy⟩ : ∃ y, valAt zs i = y := ⟨_, rfl⟩
  rw [hy]
  obtain ⟨b, off, rfl⟩ := hs.addr (by omega)
  have HY : Hid (∀ W, Below w.heap.size w W → W.cell? ⟨b, off + i * 2 + 1, none⟩ = some (.int .i64 y)) := fun W h => by rw [← hy]; exact (hs.below h).valCell hlt0
  clear hy hE
  go_enter Try.func18, Try.ntmps18
  go_wp2_with fail
  refine (implMapOk_any _ _ _ zs _ (hs.below I0.bel) (by omega)).mono ?_
  rintro e w1 ⟨rfl, hb1⟩
  have I1 := I0.below hb1
  have box1 := I1.box
  clear hb1 I0
  rw [hok]
  go_wp2_with fail
  refine (hent.out _ (hs.below I1.bel)).mono ?_
  rintro e w2 ⟨rfl, hb2⟩
  have I2 := I1.below hb2
  have HI2 : Hid (Loc w (some ⟨b, off, none⟩) n cap w2) := I2
  have v2 := HY.out _ I2.bel
  clear hb2 I1 box1 hent I2
  go_wp2
  go_region_with (go_at_call 39; refine (withoutE_any _ _ _ zs _ _ (hs.below HI2.out.bel.drew) hlt0 hnc (by omega)).mono ?_; rintro e w3 ⟨a', c', rfl, ho, hb3⟩; have I3 := HI2.out.below (W' := w3) (below_trans' (Below.refl w2.heap.size w2).drew hb3); have m0 := I3.m0; have r0 := I3.r0; have r1 := I3.r1; have fm := I3.fm; have f0 := I3.f0; have f1 := I3.f1; have v3 := HY.out _ I3.bel; have HB3 : Hid (Below w.heap.size w w3) := I3.bel; have HO : Hid (w3.ownsRow (w.heap.size + 1 + 1 + 1) 41 2 (.slice a' (n - 1) c') (n - 1) ((zs.take (i * 2) ++ zs.drop ((i + 1) * 2)).map (Value.int .i64))) := own_mono ho HI2.out.sz; clear ho hb3 I3)
  all_goals
    go_wp2
    exact bodyPost_ret (v := .tuple #[.agg #[.slice a' (n - 1) c'], .agg #[.int .i64 2, .int .i64 y]]) (by simp [results, Try.results18, go_sem, m0, r0, r1]) rfl ⟨a', c', rfl, own_mono (own_setCell (own_setCell (own_setCell HO.out (by omega) _) (by omega) _) (by omega) _) (by omega), ((HB3.out.setCell (by show w.heap.size ≤ w.heap.size + 1; omega) _).setCell (by show w.heap.size ≤ w.heap.size + 1 + 1; omega) _).setCell (by show w.heap.size ≤ w.heap.size + 1 + 1; omega) _⟩

theorem implMapDel_cap (a : Option Addr) (n cap : Nat) (zs : List Int) (key : Int) (w : World) (hs : SInts w a (n * 2) zs) (hn : n ≤ 1048576) (hnc : n ≤ cap) (hcap : cap ≤ 9223372036854775807) :
    Calls Try.prog 18 #[.agg #[.slice a n cap], .int .i64 key] w fun e w' => MapRes (delL zs n key) (delN zs n key) (delC zs n key) (delV zs n key) e w w' := by
  cases hok : okM zs n
  · have e1 : delL zs n key = [] := by simp [delL, hok]
    have e2 : delN zs n key = 0 := by simp [delN, hok]
    have e3 : delC zs n key = 0 := by simp [delC, hok]
    have e4 : delV zs n key = 0 := by simp [delV, hok]
    rw [e1, e2, e3, e4]
    exact implMapDel_bad a n cap zs key w hs (by omega) hok
  · cases hE : entB zs n key
    · have e1 : delL zs n key = zs := by simp [delL, hok, hE]
      have e2 : delN zs n key = n := by simp [delN, hok, hE]
      have e3 : delC zs n key = 1 := by simp [delC, hok, hE]
      have e4 : delV zs n key = 0 := by simp [delV, hE]
      rw [e1, e2, e3, e4]
      exact implMapDel_no a n cap zs key w hs hnc ⟨hcap, hn⟩ hok hE
    · have e1 : delL zs n key = zs.take (entI zs n key * 2) ++ zs.drop ((entI zs n key + 1) * 2) := by simp [delL, hok, hE]
      have e2 : delN zs n key = n - 1 := by simp [delN, hok, hE]
      have e3 : delC zs n key = 2 := by simp [delC, hok, hE]
      have e4 : delV zs n key = valAt zs (entI zs n key) := by simp [delV, hok, hE]
      rw [e1, e2, e3, e4]
      exact implMapDel_yes a n cap zs key w hs hnc ⟨hcap, hn⟩ hok hE

theorem implMapDel_any (a : Option Addr) (n : Nat) (zs : List Int) (key : Int) (w : World) (hs : SInts w a (n * 2) zs) (hn : n ≤ 1048576) :
    Calls Try.prog 18 #[.agg #[.slice a n n], .int .i64 key] w fun e w' => MapRes (delL zs n key) (delN zs n key) (delC zs n key) (delV zs n key) e w w' :=
  implMapDel_cap a n n zs key w hs hn (Nat.le_refl _) (by omega)

end Go.Proofs.Ytkfamlbalgolmaa
