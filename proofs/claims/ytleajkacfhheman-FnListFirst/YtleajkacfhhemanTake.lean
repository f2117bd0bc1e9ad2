/- Contracts of ListTake, of the specification's and of the program's, and of the program's ListFirst. -/
import Derived.Test.YtleajkacfhhemanSpecQue
import Derived.Deep.RegionLawGrows
namespace Go.Proofs.Ytleajkacfhheman
open Go.RowKit
set_option linter.unusedVariables false

theorem behind_none {w w1 : World} {c0 c1 : Value} {o : Obj} {row : Option Nat} (hg : ((w.alloc (.cells #[c0, c1] 26)).alloc o).drew.grownBy w1 row) (hr : ∀ k, row = some k → w.heap.size + 1 ≤ k) :
    w1.cell? ⟨w.heap.size, 0, none⟩ = some c0 ∧ w1.cell? ⟨w.heap.size, 1, none⟩ = some c1 ∧ w1.frozen? ⟨w.heap.size, 0, none⟩ = false ∧ w1.frozen? ⟨w.heap.size, 1, none⟩ = false ∧ Below w.heap.size w w1 := by
  have hblk := hg.block w.heap.size (by simp; omega) (fun e => by have := hr _ e.symm; omega)
  refine ⟨?_, ?_, ?_, ?_, ?_⟩
  · rw [World.cell?_of_block (a := ⟨w.heap.size, 0, none⟩) hblk]; simp
  · rw [World.cell?_of_block (a := ⟨w.heap.size, 1, none⟩) hblk]; simp
  · rw [World.frozen?_of_block (a := ⟨w.heap.size, 0, none⟩) hblk]; simp
  · rw [World.frozen?_of_block (a := ⟨w.heap.size, 1, none⟩) hblk]; simp
  · exact ((((Below.refl _ _).alloc (Nat.le_refl _) _).alloc (by simp) _).drew).grown hg (by simp; omega) (fun k h => by have := hr _ h; omega)

/-- What is left, the code and the value of ListTake. -/
def takeL (zs : List Int) : List Int := if okL zs then zs.drop 1 else []
def takeC (zs : List Int) : Int := if okL zs then (if zs.length = 0 then 1 else 2) else 0
def takeV (zs : List Int) : Int := if okL zs then zs.headD 0 else 0

set_option maxHeartbeats 400000 in
theorem implListFirst_some (a : Option Addr) (n cap : Nat) (x : Int) (ys : List Int) (w : World) (hs : SInts w a n (x :: ys)) (hn : n ≤ 9223372036854775807) :
    Calls Try.prog 5 #[.slice a n cap] w fun e w' => e = .returned (.agg #[.int .i64 2, .int .i64 x]) ∧ Below w.heap.size w w' := by
  have hz := hs.1
  obtain ⟨b, off, rfl, hc⟩ : ∃ b off, a = some ⟨b, off, none⟩ ∧ w.cell? ⟨b, off, none⟩ = some (.int .i64 x) := by
    obtain ⟨_, h0 | ⟨b, off, rfl, hc⟩⟩ := hs
    · simp at hz; omega
    · exact ⟨b, off, rfl, by simpa using hc 0 (by simp at hz; omega)⟩
  have hn0 : ((n : Int) == 0) = false := by simp at hz; simp; omega
  have hn3 : 0 < n := by simp at hz; omega
  have hcA := cell_kept ((Below.refl w.heap.size w).alloc (Nat.le_refl _) (.cells #[.int .i64 0, .int .i64 0] 26)) hc
  clear hs hz
  go_enter Try.func5, Try.ntmps5
  go_wp2
  exact bodyPost_ret (v := .agg #[.int .i64 2, .int .i64 x]) (by simp [results, Try.results5, go_sem]) rfl ⟨rfl, (Below.refl _ _).alloc (Nat.le_refl _) _⟩

set_option maxHeartbeats 400000 in
theorem implListTake_bad (a : Option Addr) (n cap : Nat) (zs : List Int) (w : World) (hs : SInts w a n zs) (hn : n ≤ 9223372036854775807) (hok : okL zs = false) :
    Calls Try.prog 9 #[.slice a n cap] w fun e w' => ListRes [] 0 0 e w w' := by
  have hb0 : ∀ o, Below w.heap.size w (w.alloc o) := fun o => (Below.refl _ _).alloc (Nat.le_refl _) o
  go_enter Try.func9, Try.ntmps9
  go_wp2_with fail
  refine (implListOk_any _ _ _ zs _ (hs.below (hb0 _)) hn).mono ?_
  rintro e w1 ⟨rfl, rfl⟩
  go_wp2
  exact bodyPost_ret (v := .tuple #[.slice none 0 0, .agg #[.int .i64 0, .int .i64 0]]) (by simp [results, Try.results9, go_sem]) rfl ⟨0, none, 0, rfl, World.ownsRow_nil _ _ _ _, hb0 _⟩

set_option maxHeartbeats 400000 in
theorem implListTake_none (a : Option Addr) (cap : Nat) (w : World) :
    Calls Try.prog 9 #[.slice a 0 cap] w fun e w' => ListRes [] 1 0 e w w' := by
  have hb0 : ∀ o, Below w.heap.size w (w.alloc o) := fun o => (Below.refl _ _).alloc (Nat.le_refl _) o
  have hok : okL [] = true := by decide
  go_enter Try.func9, Try.ntmps9
  go_wp2_with fail
  refine (implListOk_any _ 0 _ [] _ ⟨rfl, .inl rfl⟩ (by omega)).mono ?_
  rintro e w1 ⟨rfl, rfl⟩
  go_wp2
  exact bodyPost_ret (v := .tuple #[.slice none 0 0, .agg #[.int .i64 1, .int .i64 0]]) (by simp [results, Try.results9, go_sem]) rfl ⟨0, none, 0, rfl, World.ownsRow_nil _ _ _ _, hb0 _⟩

set_option maxHeartbeats 400000 in
theorem implListTake_some (a : Option Addr) (n cap : Nat) (x : Int) (ys : List Int) (w : World) (hs : SInts w a n (x :: ys)) (hnc : n ≤ cap) (hcap : cap ≤ 9223372036854775807 ∧ n ≤ 1099511627776) (hok : okL (x :: ys) = true) :
    Calls Try.prog 9 #[.slice a n cap] w fun e w' => ListRes ys 2 x e w w' := by
  have hb0 : ∀ o, Below w.heap.size w (w.alloc o) := fun o => (Below.refl _ _).alloc (Nat.le_refl _) o
  have hz := hs.1
  have hn0 : ((n : Int) == 0) = false := by simp at hz; simp; omega
  have hn3 : 0 < n := by simp at hz; omega
  clear hz
  go_enter Try.func9, Try.ntmps9
  go_wp2_with fail
  refine (implListOk_any _ _ _ (x :: ys) _ (hs.below (hb0 _)) (by omega)).mono ?_
  rintro e w1 ⟨rfl, rfl⟩
  go_wp2_with fail
  refine (without_any _ _ _ (x :: ys) 0 _ (hs.below (hb0 _)) hn3 hnc hcap).mono ?_
  rintro e w1 ⟨a', c', rfl, ho, hb⟩
  have hb1 := below_trans' (hb0 _) hb
  have hc0 := hb.cell (p := ⟨w.heap.size, 0, none⟩) (by simp)
  have hc1 := hb.cell (p := ⟨w.heap.size, 1, none⟩) (by simp)
  have hf0 := hb.frozen (p := ⟨w.heap.size, 0, none⟩) (by simp)
  have hf1 := hb.frozen (p := ⟨w.heap.size, 1, none⟩) (by simp)
  simp at hc0 hc1 hf0 hf1
  have hs1 := hs.below hb1
  have hlt : w.heap.size < w1.heap.size := World.block_lt_of_cell? w1 ⟨w.heap.size, 0, none⟩ hc0
  have HO : Hid (w1.ownsRow (w.heap.size + 1) 3 1 (.slice a' (n - 1) c') (n - 1) (ys.map (Value.int .i64))) := by
    have := ho
    simp only [World.size_alloc, List.take_zero, List.nil_append, Nat.zero_add, List.drop_succ_cons, List.drop_zero] at this
    exact this
  clear ho hb hs hb0
  go_wp2_with fail
  refine (implListFirst_some _ _ _ x ys _ hs1 (by omega)).mono ?_
  rintro e w2 ⟨rfl, hb2⟩
  have d0 := cell_kept hb2 hc0
  have d1 := cell_kept hb2 hc1
  have f0 : w2.frozen? ⟨w.heap.size, 0, none⟩ = false := (hb2.frozen (p := ⟨w.heap.size, 0, none⟩) hlt).trans hf0
  have f1 : w2.frozen? ⟨w.heap.size, 1, none⟩ = false := (hb2.frozen (p := ⟨w.heap.size, 1, none⟩) hlt).trans hf1
  have HO2 : Hid (w2.ownsRow (w.heap.size + 1) 3 1 (.slice a' (n - 1) c') (n - 1) (ys.map (Value.int .i64))) := ownsRow_below HO.out hb2
  have hb' := below_trans' hb1 hb2
  clear HO hb2 hb1 hs1 hc0 hc1 hf0 hf1 hlt
  go_wp2
  refine bodyPost_ret (v := .tuple #[.slice a' (n - 1) c', .agg #[.int .i64 2, .int .i64 x]]) (by simp [results, Try.results9, go_sem, d0, d1]) rfl ⟨n - 1, a', c', rfl, own_mono (own_setCell (own_setCell HO2.out (by omega) _) (by omega) _) (by omega), (hb'.setCell (Nat.le_refl _) _).setCell (Nat.le_refl _) _⟩

theorem implListTake_any (a : Option Addr) (n : Nat) (zs : List Int) (w : World) (hs : SInts w a n zs) (hn : n ≤ 1099511627776) :
    Calls Try.prog 9 #[.slice a n n] w fun e w' => ListRes (takeL zs) (takeC zs) (takeV zs) e w w' := by
  have hzl := hs.1
  cases hok : okL zs
  · have e1 : takeL zs = [] := by simp [takeL, hok]
    have e2 : takeC zs = 0 := by simp [takeC, hok]
    have e3 : takeV zs = 0 := by simp [takeV, hok]
    rw [e1, e2, e3]
    exact implListTake_bad _ n n zs w hs (by omega) hok
  · match zs, hzl with
    | [], hzl =>
      have h0 : n = 0 := by simpa using hzl.symm
      subst h0
      exact implListTake_none _ 0 w
    | x :: r, hzl =>
      have e1 : takeL (x :: r) = r := by simp [takeL, hok]
      have e2 : takeC (x :: r) = 2 := by simp [takeC, hok]
      have e3 : takeV (x :: r) = x := by simp [takeV, hok]
      rw [e1, e2, e3]
      exact implListTake_some a n n x r w hs (Nat.le_refl _) ⟨by omega, hn⟩ hok

theorem takeL_len (zs : List Int) : (takeL zs).length ≤ zs.length := by
  unfold takeL
  split
  · simp
  · simp

end Go.Proofs.Ytleajkacfhheman
