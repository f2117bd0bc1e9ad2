/- Contracts of MapGet, of the specification's and of the program's. -/
import Derived.Test.YtkfamlbalgolmaaEntry
import Derived.Test.YtkfamlbalgolmaaDel
import Derived.Test.YtkfamlbalgolmaaSpecDel
namespace Go.Proofs.Ytkfamlbalgolmaa
open Go.RowKit
set_option linter.unusedVariables false


/-- Under rising keys no other place has the key. -/
theorem ent_only {zs : List Int} {n : Nat} {key : Int} (hup : upM zs n = true) : ∀ j, j < n → j ≠ entI zs n key → (keyAt zs j == key) = false := by
  have hrise := up_lt (upM_parts hup)
  have hI : entI zs n key = fIdx (fun i => geK key (keyAt zs i)) n := by simp [entI, hup]
  obtain ⟨hlow, hat⟩ := fIdx_spec (fun i => geK key (keyAt zs i)) n
  rw [← hI] at hlow hat
  intro j hj hji
  by_cases h : j < entI zs n key
  · have h1 := hlow j h
    simp [geK] at h1
    simp
    omega
  · have h3 := hat (by omega)
    simp [geK] at h3
    have h4 := hrise j (entI zs n key) (by omega) hj
    simp
    omega

theorem ent_get (zs : List Int) (n : Nat) (key : Int) : (entB zs n key = true → fIdx (fun i => eqK key (keyAt zs i)) n = entI zs n key ∧ entI zs n key < n) ∧ (entB zs n key = false → fIdx (fun i => eqK key (keyAt zs i)) n = n) := by
  cases hup : upM zs n
  · have hI : entI zs n key = fIdx (fun i => eqK key (keyAt zs i)) n := by simp [entI, hup]
    obtain ⟨hlow, hat⟩ := fIdx_spec (fun i => eqK key (keyAt zs i)) n
    rw [← hI] at hat ⊢
    refine ⟨fun h => ⟨rfl, ?_⟩, fun h => ?_⟩
    · simp only [entB, Bool.and_eq_true, decide_eq_true_eq] at h
      exact h.1
    · have hle := entI_le zs n key
      by_cases hlt : entI zs n key < n
      · have h2 := hat hlt
        simp only [eqK] at h2
        simp only [entB, hlt, decide_true, Bool.true_and, h2] at h
        exact absurd h (by decide)
      · omega
  · have honly := ent_only (key := key) hup
    refine ⟨fun h => ?_, fun h => ?_⟩
    · simp only [entB, Bool.and_eq_true, decide_eq_true_eq] at h
      exact ⟨fIdx_eq (entI_le zs n key) (fun j hj => honly j (by omega) (by omega)) (.inr h.2), h.1⟩
    · refine fIdx_eq (Nat.le_refl n) (fun j hj => ?_) (.inl rfl)
      by_cases e : j = entI zs n key
      · subst e
        simp only [entB, hj, decide_true, Bool.true_and] at h
        exact h
      · exact honly j hj e

/-- What MapGet answers: a code and a value. -/
def getC (zs : List Int) (n : Nat) (key : Int) : Int := if fIdx (fun i => eqK key (keyAt zs i)) n = n then 1 else 2
def getV (zs : List Int) (n : Nat) (key : Int) : Int := if fIdx (fun i => eqK key (keyAt zs i)) n = n then 0 else valAt zs (fIdx (fun i => eqK key (keyAt zs i)) n)

/-- What l1Find tells. -/
def findI (zs : List Int) (n : Nat) (key : Int) : Int := if fIdx (fun i => eqK key (keyAt zs i)) n = n then -1 else fIdx (fun i => eqK key (keyAt zs i)) n

set_option maxHeartbeats 400000 in
theorem l1Find_any (a : Option Addr) (n cap : Nat) (zs : List Int) (key : Int) (w : World) (hs : SInts w a (n * 2) zs) (hn : n ≤ 1048576) :
    Calls Try.prog 40 #[.agg #[.slice a n cap], .int .i64 key] w fun e w' => e = .returned (.int .i64 (findI zs n key)) ∧ Below w.heap.size w w' := by
  have hb0 : ∀ o, Below w.heap.size w (w.alloc o) := fun o => (Below.refl _ _).alloc (Nat.le_refl _) o
  go_enter Try.func40, Try.ntmps40
  go_wp2
  go_loop [5] (fun i => ∃ k : Nat, k ≤ n ∧ i = .int .i64 k ∧ (∀ j, j < k → eqK key (keyAt zs j) = false)) (fun i => n - (intOf i).toNat)
  case atStart => exact ⟨0, Nat.zero_le _, rfl, fun j hj => by omega⟩
  case round =>
    obtain ⟨k, hk, rfl, hlow0⟩ := hrel
    have hlow : Hid (∀ j, j < k → eqK key (keyAt zs j) = false) := hlow0
    clear hlow0
    by_cases hlt : k < n
    · obtain ⟨b, off, rfl⟩ := hs.addr (by omega)
      obtain ⟨x, hx⟩ : ∃ x, keyAt zs k = x := ⟨_, rfl⟩
      have h1 := (hs.below (hb0 (.cells #[.slice (some ⟨b, off, none⟩) n cap] 25))).keyCell hlt
      rw [hx] at h1
      have HX : Hid (keyAt zs k = x) := hx
      clear hx hs
      cases hp : (x == key)
      · go_wp2
        go_round
        case rel => exact ⟨k + 1, by omega, by go_num, fun j hj => by
          by_cases e : j = k
          · subst e; rw [HX.out]; exact hp
          · exact hlow.out j (by omega)⟩
        case measure => simp [intOf]; omega
      · have HF : Hid (fIdx (fun i => eqK key (keyAt zs i)) n = k) := fIdx_eq hk hlow.out (.inr (by show eqK key (keyAt zs k) = true; rw [HX.out]; exact hp))
        go_wp2
        go_ret
        exact ⟨ret_int (by unfold findI; rw [HF.out, if_neg (by omega)]), hb0 _⟩
    · obtain rfl : k = n := by omega
      have HF : Hid (fIdx (fun i => eqK key (keyAt zs i)) k = k) := fIdx_eq hk hlow.out (.inl rfl)
      clear hs
      go_wp2
      go_ret
      exact ⟨ret_int (by unfold findI; rw [HF.out, if_pos rfl]), hb0 _⟩

/-- The blocks that MapGet lays first: the argument and the answer. -/
structure LocG (w : World) (a : Option Addr) (n cap : Nat) (W : World) : Prop where
  bel : Below w.heap.size w W
  sz : w.heap.size + 1 < W.heap.size
  box : W.cell? ⟨w.heap.size, 0, none⟩ = some (.slice a n cap)
  r0 : W.cell? ⟨w.heap.size + 1, 0, none⟩ = some (.int .i64 0)
  r1 : W.cell? ⟨w.heap.size + 1, 1, none⟩ = some (.int .i64 0)
  f0 : W.frozen? ⟨w.heap.size + 1, 0, none⟩ = false
  f1 : W.frozen? ⟨w.heap.size + 1, 1, none⟩ = false

theorem LocG.below {w : World} {a : Option Addr} {n cap : Nat} {W W' : World} (h : LocG w a n cap W) (hb : Below W.heap.size W W') : LocG w a n cap W' :=
  { bel := below_trans' h.bel hb, sz := Nat.lt_of_lt_of_le h.sz hb.size, box := cell_kept hb h.box, r0 := cell_kept hb h.r0, r1 := cell_kept hb h.r1, f0 := frozen_kept hb h.sz h.f0, f1 := frozen_kept hb h.sz h.f1 }

theorem locG_start (w : World) (a : Option Addr) (n cap : Nat) : LocG w a n cap ((w.alloc (.cells #[.slice a n cap] 25)).alloc (.cells #[.int .i64 0, .int .i64 0] 29)) := by
  have al : ∀ (W : World) (o : Obj), Below W.heap.size W (W.alloc o) := fun W o => (Below.refl _ _).alloc (Nat.le_refl _) o
  exact
    { bel := below_trans' (al _ _) (al _ _), sz := by simp, box := cell_kept (al _ _) (cell_at w _ _ 0 rfl rfl),
      r0 := cell_at (w.alloc _) _ _ 0 (by simp) rfl, r1 := cell_at (w.alloc _) _ _ 1 (by simp) rfl, f0 := frozen_at (w.alloc _) _ _ 0 (by simp), f1 := frozen_at (w.alloc _) _ _ 1 (by simp) }

set_option maxHeartbeats 400000 in
theorem specMapGet_any (a : Option Addr) (n cap : Nat) (zs : List Int) (key : Int) (w : World) (hs : SInts w a (n * 2) zs) (hn : n ≤ 1048576) :
    Calls Try.prog 21 #[.agg #[.slice a n cap], .int .i64 key] w fun e w' => e = .returned (.agg #[.int .i64 (getC zs n key), .int .i64 (getV zs n key)]) ∧ Below w.heap.size w w' := by
  have I0 := locG_start w a n cap
  have hf : Hid (∀ W, SInts W a (n * 2) zs → Calls Try.prog 40 #[.agg #[.slice a n cap], .int .i64 key] W fun e w' => e = .returned (.int .i64 (if fIdx (fun i => eqK key (keyAt zs i)) n = n then -1 else fIdx (fun i => eqK key (keyAt zs i)) n)) ∧ Below W.heap.size W w') := fun W h => l1Find_any a n cap zs key W h hn
  have hle := fIdx_le (fun i => eqK key (keyAt zs i)) n
  unfold getC getV
  generalize fIdx (fun i => eqK key (keyAt zs i)) n = i at hf hle ⊢
  by_cases hin : i = n
  · subst hin
    rw [if_pos rfl] at hf ⊢
    rw [if_pos rfl]
    go_enter Try.func21, Try.ntmps21
    go_wp2_with fail
    refine (hf.out _ (hs.below I0.bel)).mono ?_
    rintro e w1 ⟨rfl, hb1⟩
    have I1 := I0.below hb1
    have r0 := I1.r0
    have r1 := I1.r1
    have f0 := I1.f0
    have f1 := I1.f1
    clear hf hb1 I0 hs
    go_wp2
    exact bodyPost_ret (v := .agg #[.int .i64 1, .int .i64 0]) (by simp [results, Try.results21, go_sem, r0, r1]) rfl ⟨rfl, (I1.bel.setCell (by show w.heap.size ≤ w.heap.size + 1; omega) _).setCell (by show w.heap.size ≤ w.heap.size + 1; omega) _⟩
  · rw [if_neg hin] at hf ⊢
    rw [if_neg hin]
    have hlt : i < n := by omega
    obtain ⟨b, off, rfl⟩ := hs.addr (by omega)
    obtain ⟨y, hy⟩ : ∃ y, valAt zs i = y := ⟨_, rfl⟩
    rw [hy]
    go_enter Try.func21, Try.ntmps21
    go_wp2_with fail
    refine (hf.out _ (hs.below I0.bel)).mono ?_
    rintro e w1 ⟨rfl, hb1⟩
    have I1 := I0.below hb1
    have r0 := I1.r0
    have r1 := I1.r1
    have f0 := I1.f0
    have f1 := I1.f1
    have box := I1.box
    have h1 := (hs.below I1.bel).valCell hlt
    rw [hy] at h1
    clear hf hb1 I0 hs hy hin
    go_wp2
    exact bodyPost_ret (v := .agg #[.int .i64 2, .int .i64 y]) (by simp [results, Try.results21, go_sem, r0, r1]) rfl ⟨rfl, (I1.bel.setCell (by show w.heap.size ≤ w.heap.size + 1; omega) _).setCell (by show w.heap.size ≤ w.heap.size + 1; omega) _⟩

set_option maxHeartbeats 400000 in
theorem implMapGet_any (a : Option Addr) (n cap : Nat) (zs : List Int) (key : Int) (w : World) (hs : SInts w a (n * 2) zs) (hn : n ≤ 1048576) :
    Calls Try.prog 16 #[.agg #[.slice a n cap], .int .i64 key] w fun e w' => e = .returned (.agg #[.int .i64 (getC zs n key), .int .i64 (getV zs n key)]) ∧ Below w.heap.size w w' := by
  have I0 := locG_start w a n cap
  have hf : Hid (∀ W, SInts W a (n * 2) zs → Calls Try.prog 34 #[.slice a n cap, .int .i64 key] W fun e w' => e = .returned (.tuple #[.int .i64 (entI zs n key), .bool (entB zs n key)]) ∧ Below W.heap.size W w') := fun W h => entryOf_tail a n cap zs key W h hn
  obtain ⟨hyes, hno⟩ := ent_get zs n key
  unfold getC getV
  cases hE : entB zs n key
  · rw [hE] at hf
    rw [hno hE, if_pos rfl, if_pos rfl]
    clear hyes hno
    generalize entI zs n key = i at hf
    go_enter Try.func16, Try.ntmps16
    go_wp2_with fail
    refine (hf.out _ (hs.below I0.bel)).mono ?_
    rintro e w1 ⟨rfl, hb1⟩
    have I1 := I0.below hb1
    have r0 := I1.r0
    have r1 := I1.r1
    have f0 := I1.f0
    have f1 := I1.f1
    clear hf hb1 I0 hs hE
    go_wp2
    exact bodyPost_ret (v := .agg #[.int .i64 1, .int .i64 0]) (by simp [results, Try.results16, go_sem, r0, r1]) rfl ⟨rfl, (I1.bel.setCell (by show w.heap.size ≤ w.heap.size + 1; omega) _).setCell (by show w.heap.size ≤ w.heap.size + 1; omega) _⟩
  · rw [hE] at hf
    obtain ⟨e1, hlt⟩ := hyes hE
    rw [e1]
    clear e1 hno hyes hE
    generalize entI zs n key = i at hf hlt ⊢
    rw [if_neg (by omega), if_neg (by omega)]
    obtain ⟨b, off, rfl⟩ := hs.addr (by omega)
    obtain ⟨y, hy⟩ : ∃ y, valAt zs i = y := ⟨_, rfl⟩
    rw [hy]
    go_enter Try.func16, Try.ntmps16
    go_wp2_with fail
    refine (hf.out _ (hs.below I0.bel)).mono ?_
    rintro e w1 ⟨rfl, hb1⟩
    have I1 := I0.below hb1
    have r0 := I1.r0
    have r1 := I1.r1
    have f0 := I1.f0
    have f1 := I1.f1
    have box := I1.box
    have h1 := (hs.below I1.bel).valCell hlt
    rw [hy] at h1
    clear hf hb1 I0 hs hy
    go_wp2
    exact bodyPost_ret (v := .agg #[.int .i64 2, .int .i64 y]) (by simp [results, Try.results16, go_sem, r0, r1]) rfl ⟨rfl, (I1.bel.setCell (by show w.heap.size ≤ w.heap.size + 1; omega) _).setCell (by show w.heap.size ≤ w.heap.size + 1; omega) _⟩

end Go.Proofs.Ytkfamlbalgolmaa
