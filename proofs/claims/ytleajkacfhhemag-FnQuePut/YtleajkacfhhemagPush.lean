/- Contracts of the program's StkPush and QuePut. -/
import Derived.Test.YtleajkacfhhemagOk
import Derived.Test.YtleajkacfhhemagLists
namespace Go.Proofs.Ytleajkacfhhemag
open Go.RowKit
set_option linter.unusedVariables false

/-- The answer's code of a put at a place. -/
def putC (zs : List Int) (x : Int) : Int := if okL zs && inB x 999 then (if zs.length = 8 then 3 else 2) else 0
/-- The values behind it. -/
def putL (zs : List Int) (i : Nat) (x : Int) : List Int := if okL zs && inB x 999 then (if zs.length = 8 then zs else zs.take i ++ [x] ++ zs.drop i) else []

/-- A list and an answer come back, in new memory. -/
def ListRes (zs : List Int) (c v : Int) (e : Ending) (w w' : World) : Prop :=
  ∃ N a' c', e = .returned (.tuple #[.slice a' N c', .agg #[.int .i64 c, .int .i64 v]]) ∧ w'.ownsRow w.heap.size 3 1 (.slice a' N c') N (zs.map (Value.int .i64)) ∧ Below w.heap.size w w'

theorem own_mono {w : World} {base base' : Nat} {e : TypeId} {size : Nat} {v : Value} {n : Nat} {xs : List Value} (h : w.ownsRow base e size v n xs) (hb : base' ≤ base) : w.ownsRow base' e size v n xs := by
  obtain ⟨h1, h2⟩ := h
  refine ⟨h1, ?_⟩
  rcases h2 with h2 | ⟨g, cap, cur, hv, hg, r⟩
  · exact .inl h2
  · exact .inr ⟨g, cap, cur, hv, by omega, r⟩

theorem own_setCell {w : World} {base : Nat} {e : TypeId} {size : Nat} {v : Value} {n : Nat} {xs : List Value} (h : w.ownsRow base e size v n xs) {b o : Nat} (hb : b < base) (u : Value) : (w.setCell ⟨b, o, none⟩ u).ownsRow base e size v n xs :=
  ownsRow_setCell_below h hb u

set_option maxHeartbeats 400000 in
theorem listPut_bad (a : Option Addr) (n cap : Nat) (zs : List Int) (i : Int) (x : Int) (w : World) (hs : SInts w a n zs) (hn : n ≤ 9223372036854775807) (hok : okL zs = false) :
    Calls Try.prog 22 #[.slice a n cap, .int .i64 i, .int .i64 x] w fun e w' => ListRes [] 0 0 e w w' := by
  have hb0 : ∀ o, Below w.heap.size w (w.alloc o) := fun o => (Below.refl _ _).alloc (Nat.le_refl _) o
  go_enter Try.func22, Try.ntmps22
  go_wp2_with fail
  refine (implListOk_any _ _ _ zs _ (hs.below (hb0 _)) hn).mono ?_
  rintro e w1 ⟨rfl, rfl⟩
  go_wp2
  exact bodyPost_ret (v := .tuple #[.slice none 0 0, .agg #[.int .i64 0, .int .i64 0]]) (by simp [results, Try.results22, go_sem]) rfl ⟨0, none, 0, rfl, World.ownsRow_nil _ _ _ _, hb0 _⟩

set_option maxHeartbeats 400000 in
theorem listPut_beyond (a : Option Addr) (n cap : Nat) (zs : List Int) (i : Int) (x : Int) (w : World) (hs : SInts w a n zs) (hn : n ≤ 9223372036854775807) (hok : okL zs = true) (hx : inB x 999 = false) :
    Calls Try.prog 22 #[.slice a n cap, .int .i64 i, .int .i64 x] w fun e w' => ListRes [] 0 0 e w w' := by
  have hb0 : ∀ o, Below w.heap.size w (w.alloc o) := fun o => (Below.refl _ _).alloc (Nat.le_refl _) o
  go_enter Try.func22, Try.ntmps22
  go_wp2_with fail
  refine (implListOk_any _ _ _ zs _ (hs.below (hb0 _)) hn).mono ?_
  rintro e w1 ⟨rfl, rfl⟩
  go_wp2_with fail
  refine (within_any _ _ _).mono ?_
  rintro e w1 ⟨rfl, rfl⟩
  go_wp2
  exact bodyPost_ret (v := .tuple #[.slice none 0 0, .agg #[.int .i64 0, .int .i64 0]]) (by simp [results, Try.results22, go_sem]) rfl ⟨0, none, 0, rfl, World.ownsRow_nil _ _ _ _, hb0 _⟩

set_option maxHeartbeats 400000 in
theorem listPut_full (a : Option Addr) (cap : Nat) (zs : List Int) (i : Int) (x : Int) (w : World) (hs : SInts w a 8 zs) (hnc : 8 ≤ cap) (hcap : cap ≤ 9223372036854775807) (hok : okL zs = true) (hx : inB x 999 = true) :
    Calls Try.prog 22 #[.slice a 8 cap, .int .i64 i, .int .i64 x] w fun e w' => ListRes zs 3 0 e w w' := by
  have hb0 : ∀ o, Below w.heap.size w (w.alloc o) := fun o => (Below.refl _ _).alloc (Nat.le_refl _) o
  go_enter Try.func22, Try.ntmps22
  go_wp2_with fail
  refine (implListOk_any _ _ _ zs _ (hs.below (hb0 _)) (by omega)).mono ?_
  rintro e w1 ⟨rfl, rfl⟩
  go_wp2_with fail
  refine (within_any _ _ _).mono ?_
  rintro e w1 ⟨rfl, rfl⟩
  go_wp2_with fail
  refine (same_any _ _ _ zs _ (hs.below (hb0 _)) hnc ⟨hcap, by omega⟩).mono ?_
  rintro e w1 ⟨a', c', rfl, ho, hb⟩
  have hb' := below_trans' (hb0 _) hb
  have hc0 := hb.cell (p := ⟨w.heap.size, 0, none⟩) (by simp)
  have hc1 := hb.cell (p := ⟨w.heap.size, 1, none⟩) (by simp)
  have hf0 := hb.frozen (p := ⟨w.heap.size, 0, none⟩) (by simp)
  have hf1 := hb.frozen (p := ⟨w.heap.size, 1, none⟩) (by simp)
  simp at hc0 hc1 hf0 hf1
  have HO : Hid (w1.ownsRow (w.heap.size + 1) 3 1 (.slice a' 8 c') 8 (zs.map (Value.int .i64))) := by
    have := ho
    simp only [World.size_alloc] at this
    exact this
  clear ho hb hs hb0
  go_wp2
  refine bodyPost_ret (v := .tuple #[.slice a' 8 c', .agg #[.int .i64 3, .int .i64 0]]) (by simp [results, Try.results22, go_sem, hc0, hc1]) rfl ⟨8, a', c', rfl, own_mono (own_setCell (own_setCell HO.out (by omega) _) (by omega) _) (by omega), (hb'.setCell (Nat.le_refl _) _).setCell (Nat.le_refl _) _⟩

set_option maxHeartbeats 400000 in
theorem listPut_room (a : Option Addr) (n cap : Nat) (zs : List Int) (i : Nat) (x : Int) (w : World) (hs : SInts w a n zs) (hi : i ≤ n) (hnc : n ≤ cap) (hcap : cap ≤ 9223372036854775807 ∧ n ≤ 1099511627776) (hok : okL zs = true) (hx : inB x 999 = true) (h8 : ((n : Int) == 8) = false) :
    Calls Try.prog 22 #[.slice a n cap, .int .i64 i, .int .i64 x] w fun e w' => ListRes (zs.take i ++ [x] ++ zs.drop i) 2 0 e w w' := by
  have hb0 : ∀ o, Below w.heap.size w (w.alloc o) := fun o => (Below.refl _ _).alloc (Nat.le_refl _) o
  go_enter Try.func22, Try.ntmps22
  go_wp2_with fail
  refine (implListOk_any _ _ _ zs _ (hs.below (hb0 _)) (by omega)).mono ?_
  rintro e w1 ⟨rfl, rfl⟩
  go_wp2_with fail
  refine (within_any _ _ _).mono ?_
  rintro e w1 ⟨rfl, rfl⟩
  go_wp2_with fail
  refine (with_any _ _ _ zs _ _ _ (hs.below (hb0 _)) hi hnc hcap).mono ?_
  rintro e w1 ⟨a', c', rfl, ho, hb⟩
  have hb' := below_trans' (hb0 _) hb
  have hc0 := hb.cell (p := ⟨w.heap.size, 0, none⟩) (by simp)
  have hc1 := hb.cell (p := ⟨w.heap.size, 1, none⟩) (by simp)
  have hf0 := hb.frozen (p := ⟨w.heap.size, 0, none⟩) (by simp)
  have hf1 := hb.frozen (p := ⟨w.heap.size, 1, none⟩) (by simp)
  simp at hc0 hc1 hf0 hf1
  have HO : Hid (w1.ownsRow (w.heap.size + 1) 3 1 (.slice a' (n + 1) c') (n + 1) ((zs.take i ++ [x] ++ zs.drop i).map (Value.int .i64))) := by
    have := ho
    simp only [World.size_alloc] at this
    exact this
  clear ho hb hs hb0
  go_wp2
  refine bodyPost_ret (v := .tuple #[.slice a' (n + 1) c', .agg #[.int .i64 2, .int .i64 0]]) (by simp [results, Try.results22, go_sem, hc0, hc1]) rfl ⟨n + 1, a', c', rfl, own_mono (own_setCell (own_setCell HO.out (by omega) _) (by omega) _) (by omega), (hb'.setCell (Nat.le_refl _) _).setCell (Nat.le_refl _) _⟩

theorem listPut_any (a : Option Addr) (n cap : Nat) (zs : List Int) (i : Nat) (x : Int) (w : World) (hs : SInts w a n zs) (hi : i ≤ n) (hnc : n ≤ cap) (hcap : cap ≤ 9223372036854775807 ∧ n ≤ 1099511627776) :
    Calls Try.prog 22 #[.slice a n cap, .int .i64 i, .int .i64 x] w fun e w' => ListRes (putL zs i x) (putC zs x) 0 e w w' := by
  have hzl := hs.1
  cases hok : okL zs
  · have e1 : putL zs i x = [] := by simp [putL, hok]
    have e2 : putC zs x = 0 := by simp [putC, hok]
    rw [e1, e2]
    exact listPut_bad a n cap zs i x w hs (by omega) hok
  · cases hx : inB x 999
    · have e1 : putL zs i x = [] := by simp [putL, hx]
      have e2 : putC zs x = 0 := by simp [putC, hx]
      rw [e1, e2]
      exact listPut_beyond a n cap zs i x w hs (by omega) hok hx
    · by_cases h8 : n = 8
      · subst h8
        have e1 : putL zs i x = zs := by simp [putL, hok, hx, hzl]
        have e2 : putC zs x = 3 := by simp [putC, hok, hx, hzl]
        rw [e1, e2]
        exact listPut_full a cap zs i x w hs hnc hcap.1 hok hx
      · have e1 : putL zs i x = zs.take i ++ [x] ++ zs.drop i := by simp [putL, hok, hx, hzl, h8]
        have e2 : putC zs x = 2 := by simp [putC, hok, hx, hzl, h8]
        rw [e1, e2]
        exact listPut_room a n cap zs i x w hs hi hnc hcap hok hx (by simp; omega)

set_option maxHeartbeats 400000 in
theorem implStkPush_any (a : Option Addr) (n cap : Nat) (zs : List Int) (x : Int) (w : World) (hs : SInts w a n zs) (hnc : n ≤ cap) (hcap : cap ≤ 9223372036854775807 ∧ n ≤ 1099511627776) :
    Calls Try.prog 7 #[.slice a n cap, .int .i64 x] w fun e w' => ListRes (putL zs 0 x) (putC zs x) 0 e w w' := by
  have hb0 : ∀ o, Below w.heap.size w (w.alloc o) := fun o => (Below.refl _ _).alloc (Nat.le_refl _) o
  have key : Hid (∀ w1 : World, SInts w1 a n zs → Calls Try.prog 22 #[.slice a n cap, .int .i64 (0 : Nat), .int .i64 x] w1 fun e w' => ListRes (putL zs 0 x) (putC zs x) 0 e w1 w') := fun w1 h => listPut_any a n cap zs 0 x w1 h (Nat.zero_le _) hnc hcap
  generalize putL zs 0 x = L at key ⊢
  generalize putC zs x = C at key ⊢
  go_enter Try.func7, Try.ntmps7
  go_wp2_with fail
  refine (key.out _ (hs.below (hb0 _))).mono ?_
  rintro e w1 ⟨N, a', c', rfl, ho, hb⟩
  have hb' := below_trans' (hb0 _) hb
  have hc0 := hb.cell (p := ⟨w.heap.size, 0, none⟩) (by simp)
  have hc1 := hb.cell (p := ⟨w.heap.size, 1, none⟩) (by simp)
  have hf0 := hb.frozen (p := ⟨w.heap.size, 0, none⟩) (by simp)
  have hf1 := hb.frozen (p := ⟨w.heap.size, 1, none⟩) (by simp)
  simp at hc0 hc1 hf0 hf1
  have HO : Hid (w1.ownsRow (w.heap.size + 1) 3 1 (.slice a' N c') N (L.map (Value.int .i64))) := by
    have := ho
    simp only [World.size_alloc] at this
    exact this
  clear ho hb hs hb0 key
  go_wp2
  refine bodyPost_ret (v := .tuple #[.slice a' N c', .agg #[.int .i64 C, .int .i64 0]]) (by simp [results, Try.results7, go_sem, hc0, hc1]) rfl ⟨N, a', c', rfl, own_mono (own_setCell (own_setCell HO.out (by omega) _) (by omega) _) (by omega), (hb'.setCell (Nat.le_refl _) _).setCell (Nat.le_refl _) _⟩

set_option maxHeartbeats 400000 in
theorem implQuePut_any (a : Option Addr) (n cap : Nat) (zs : List Int) (x : Int) (w : World) (hs : SInts w a n zs) (hnc : n ≤ cap) (hcap : cap ≤ 9223372036854775807 ∧ n ≤ 1099511627776) :
    Calls Try.prog 15 #[.slice a n cap, .int .i64 x] w fun e w' => ListRes (putL zs n x) (putC zs x) 0 e w w' := by
  have hb0 : ∀ o, Below w.heap.size w (w.alloc o) := fun o => (Below.refl _ _).alloc (Nat.le_refl _) o
  have key : Hid (∀ w1 : World, SInts w1 a n zs → Calls Try.prog 22 #[.slice a n cap, .int .i64 (n : Nat), .int .i64 x] w1 fun e w' => ListRes (putL zs n x) (putC zs x) 0 e w1 w') := fun w1 h => listPut_any a n cap zs n x w1 h (Nat.le_refl _) hnc hcap
  generalize putL zs n x = L at key ⊢
  generalize putC zs x = C at key ⊢
  go_enter Try.func15, Try.ntmps15
  go_wp2_with fail
  refine (key.out _ (hs.below (hb0 _))).mono ?_
  rintro e w1 ⟨N, a', c', rfl, ho, hb⟩
  have hb' := below_trans' (hb0 _) hb
  have hc0 := hb.cell (p := ⟨w.heap.size, 0, none⟩) (by simp)
  have hc1 := hb.cell (p := ⟨w.heap.size, 1, none⟩) (by simp)
  have hf0 := hb.frozen (p := ⟨w.heap.size, 0, none⟩) (by simp)
  have hf1 := hb.frozen (p := ⟨w.heap.size, 1, none⟩) (by simp)
  simp at hc0 hc1 hf0 hf1
  have HO : Hid (w1.ownsRow (w.heap.size + 1) 3 1 (.slice a' N c') N (L.map (Value.int .i64))) := by
    have := ho
    simp only [World.size_alloc] at this
    exact this
  clear ho hb hs hb0 key
  go_wp2
  refine bodyPost_ret (v := .tuple #[.slice a' N c', .agg #[.int .i64 C, .int .i64 0]]) (by simp [results, Try.results15, go_sem, hc0, hc1]) rfl ⟨N, a', c', rfl, own_mono (own_setCell (own_setCell HO.out (by omega) _) (by omega) _) (by omega), (hb'.setCell (Nat.le_refl _) _).setCell (Nat.le_refl _) _⟩

end Go.Proofs.Ytleajkacfhhemag
