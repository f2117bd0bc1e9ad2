/- Contracts of the program's entryOf: the search by halves, and the search from the front. -/
import Derived.Test.YtkfamlbalgolmaaMapOk
namespace Go.Proofs.Ytkfamlbalgolmaa
open Go.RowKit
set_option linter.unusedVariables false

/-- Where keys rise a later one is greater. -/
theorem up_lt {zs : List Int} {n : Nat} (h : ∀ i, i < n → entUp zs i = true) : ∀ j i, i < j → j < n → keyAt zs i < keyAt zs j := by
  intro j
  induction j with
  | zero => intro i hi; omega
  | succ j ih =>
    intro i hij hjn
    have h1 := h (j + 1) hjn
    simp [entUp] at h1
    by_cases e : i = j
    · subst e; exact h1
    · have := ih i (by omega) (by omega)
      omega

set_option maxHeartbeats 400000 in
theorem clo51_any (key k v : Int) (c : Nat) (w : World) (hc : w.cell? ⟨c, 0, none⟩ = some (.int .i64 key)) :
    Calls Try.prog 45 #[.agg #[.int .i64 k, .int .i64 v], .pointer (some ⟨c, 0, none⟩)] w fun e w' => e = .returned (.bool (geK key k)) ∧ Below w.heap.size w w' := by
  have hb0 : ∀ o, Below w.heap.size w (w.alloc o) := fun o => (Below.refl _ _).alloc (Nat.le_refl _) o
  have hc' := cell_kept (hb0 (.cells #[.int .i64 k, .int .i64 v] 41)) hc
  by_cases h : key ≤ k
  · rw [geK_yes h]
    go_enter Try.func45, Try.ntmps45
    go_wp2
    go_ret
    exact ⟨rfl, hb0 _⟩
  · rw [geK_no (by omega)]
    go_enter Try.func45, Try.ntmps45
    go_wp2
    go_ret
    exact ⟨rfl, hb0 _⟩

set_option maxHeartbeats 400000 in
theorem clo52_any (key k v : Int) (c : Nat) (w : World) (hc : w.cell? ⟨c, 0, none⟩ = some (.int .i64 key)) :
    Calls Try.prog 46 #[.agg #[.int .i64 k, .int .i64 v], .pointer (some ⟨c, 0, none⟩)] w fun e w' => e = .returned (.bool (eqK key k)) ∧ Below w.heap.size w w' := by
  have hb0 : ∀ o, Below w.heap.size w (w.alloc o) := fun o => (Below.refl _ _).alloc (Nat.le_refl _) o
  have hc' := cell_kept (hb0 (.cells #[.int .i64 k, .int .i64 v] 41)) hc
  cases h : (k == key)
  · rw [eqK_no h]
    go_enter Try.func46, Try.ntmps46
    go_wp2
    go_ret
    exact ⟨rfl, hb0 _⟩
  · rw [eqK_yes h]
    go_enter Try.func46, Try.ntmps46
    go_wp2
    go_ret
    exact ⟨rfl, hb0 _⟩

set_option maxHeartbeats 400000 in
theorem find52_any (a : Option Addr) (n cap : Nat) (zs : List Int) (key : Int) (c : Nat) (w : World) (hs : SInts w a (n * 2) zs) (hn : n ≤ 1048576) (hc : w.cell? ⟨c, 0, none⟩ = some (.int .i64 key)) :
    Calls Try.prog 41 #[.slice a n cap, .func (Fn.func 46) #[] #[.pointer (some ⟨c, 0, none⟩)]] w fun e w' => e = .returned (.int .i64 (fIdx (fun i => eqK key (keyAt zs i)) n)) ∧ Below w.heap.size w w' := by
  go_enter Try.func41, Try.ntmps41
  go_wp2
  go_loopw [9] (fun i wr => ∃ k : Nat, k ≤ n ∧ i = .int .i64 k ∧ (∀ j, j < k → eqK key (keyAt zs j) = false) ∧ Below w.heap.size w wr) (fun i _ => n - (intOf i).toNat)
  case atStart => exact ⟨0, Nat.zero_le _, rfl, fun j hj => by omega, Below.refl _ _⟩
  case round =>
    obtain ⟨k, hk, rfl, hlow0, hbel⟩ := hrel
    have hlow : Hid (∀ j, j < k → eqK key (keyAt zs j) = false) := hlow0
    clear hlow0
    by_cases hlt : k < n
    · obtain ⟨b, off, rfl⟩ := hs.addr (by omega)
      obtain ⟨x, hx⟩ : ∃ x, keyAt zs k = x := ⟨_, rfl⟩
      obtain ⟨y, hy⟩ : ∃ y, valAt zs k = y := ⟨_, rfl⟩
      have h1 : wr.cell? ⟨b, off + k * 2, none⟩ = some (.int .i64 x) := by rw [← hx]; exact (hs.below hbel).keyCell hlt
      have h2 : wr.cell? ⟨b, off + k * 2 + 1, none⟩ = some (.int .i64 y) := by rw [← hy]; exact (hs.below hbel).valCell hlt
      have HX : Hid (keyAt zs k = x) := hx
      have al : Below w.heap.size w (wr.alloc (.cells #[.int .i64 x, .int .i64 y] 41)) := hbel.alloc hbel.size _
      have hcc := cell_kept al hc
      clear hx hy hs
      cases hp : eqK key x
      · go_wp2_with fail
        refine (clo52_any key _ _ _ _ hcc).mono ?_
        rintro e w1 ⟨rfl, hb1⟩
        have hb2 := al.trans (hb1.mono al.size)
        clear hb1 al hbel h1 h2 hcc
        go_wp2
        go_roundw
        case rel => exact ⟨k + 1, by omega, by go_num, fun j hj => by
          by_cases e : j = k
          · subst e; rw [HX.out]; exact hp
          · exact hlow.out j (by omega), hb2⟩
        case measure => simp [intOf]; omega
      · have HF : Hid (fIdx (fun i => eqK key (keyAt zs i)) n = k) := fIdx_eq hk hlow.out (.inr (by show eqK key (keyAt zs k) = true; rw [HX.out]; exact hp))
        go_wp2_with fail
        refine (clo52_any key _ _ _ _ hcc).mono ?_
        rintro e w1 ⟨rfl, hb1⟩
        have hb2 := al.trans (hb1.mono al.size)
        clear hb1 al hbel h1 h2 hcc
        go_wp2
        go_ret
        exact ⟨ret_int (by rw [HF.out]), hb2⟩
    · obtain rfl : k = n := by omega
      have HF : Hid (fIdx (fun i => eqK key (keyAt zs i)) k = k) := fIdx_eq hk hlow.out (.inl rfl)
      clear hs
      go_wp2
      go_ret
      exact ⟨ret_int (by rw [HF.out]), hbel⟩

set_option maxHeartbeats 1000000 in
theorem halves51_any (a : Option Addr) (n cap : Nat) (zs : List Int) (key : Int) (c : Nat) (w : World) (hs : SInts w a (n * 2) zs) (hn : n ≤ 1048576) (hup : upM zs n = true) (hc : w.cell? ⟨c, 0, none⟩ = some (.int .i64 key)) :
    Calls Try.prog 44 #[.slice a n cap, .func (Fn.func 45) #[] #[.pointer (some ⟨c, 0, none⟩)]] w fun e w' => e = .returned (.int .i64 (fIdx (fun i => geK key (keyAt zs i)) n)) ∧ Below w.heap.size w w' := by
  have HUP : Hid (∀ j i, i < j → j < n → keyAt zs i < keyAt zs j) := up_lt (upM_parts hup)
  clear hup
  go_enter Try.func44, Try.ntmps44
  go_wp2
  go_loopw [5, 6] (fun sf st wr => ∃ f t : Nat, f ≤ t ∧ t ≤ n ∧ sf = .int .i64 f ∧ st = .int .i64 t ∧ (∀ j, j < f → geK key (keyAt zs j) = false) ∧ (∀ j, t ≤ j → j < n → geK key (keyAt zs j) = true) ∧ Below w.heap.size w wr)
    (fun sf st _ => (intOf st).toNat - (intOf sf).toNat)
  case atStart => exact ⟨0, n, Nat.zero_le _, Nat.le_refl _, rfl, rfl, fun j hj => by omega, fun j hj hjn => by omega, Below.refl _ _⟩
  case round =>
    obtain ⟨f, t, hft, htn, rfl, rfl, hlow0, hhigh0, hbel⟩ := hrel
    have hlow : Hid (∀ j, j < f → geK key (keyAt zs j) = false) := hlow0
    have hhigh : Hid (∀ j, t ≤ j → j < n → geK key (keyAt zs j) = true) := hhigh0
    clear hlow0 hhigh0
    by_cases hlt : f < t
    · obtain ⟨b, off, rfl⟩ := hs.addr (by omega)
      obtain ⟨x, hx⟩ : ∃ x, keyAt zs (f + (t - f) / 2) = x := ⟨_, rfl⟩
      obtain ⟨y, hy⟩ : ∃ y, valAt zs (f + (t - f) / 2) = y := ⟨_, rfl⟩
      have h1 : wr.cell? ⟨b, off + (f + (t - f) / 2) * 2, none⟩ = some (.int .i64 x) := by rw [← hx]; exact (hs.below hbel).keyCell (by omega)
      have h2 : wr.cell? ⟨b, off + (f + (t - f) / 2) * 2 + 1, none⟩ = some (.int .i64 y) := by rw [← hy]; exact (hs.below hbel).valCell (by omega)
      have HX : Hid (keyAt zs (f + (t - f) / 2) = x) := hx
      have hcc := cell_kept hbel hc
      clear hx hy hs
      cases hp : geK key x
      · go_wp2_with fail
        refine (clo51_any key _ _ _ _ hcc).mono ?_
        rintro e w1 ⟨rfl, hb1⟩
        have hb2 := below_trans' hbel hb1
        clear hb1 hbel h1 h2 hcc
        go_wp2
        go_roundw
        case rel => exact ⟨f + (t - f) / 2 + 1, t, by omega, htn, by go_num, rfl, fun j hj => by
          have hxk : x < key := by simpa [geK] using hp
          by_cases e : j = f + (t - f) / 2
          · subst e; rw [HX.out]; exact hp
          · have := HUP.out (f + (t - f) / 2) j (by omega) (by omega)
            rw [HX.out] at this
            exact geK_no (by omega), hhigh.out, hb2⟩
        case measure => simp [intOf]; omega
      · go_wp2_with fail
        refine (clo51_any key _ _ _ _ hcc).mono ?_
        rintro e w1 ⟨rfl, hb1⟩
        have hb2 := below_trans' hbel hb1
        clear hb1 hbel h1 h2 hcc
        go_wp2
        go_roundw
        case rel => exact ⟨f, f + (t - f) / 2, by omega, by omega, rfl, by go_num, hlow.out, fun j hj hjn => by
          have hxk : key ≤ x := by simpa [geK] using hp
          by_cases e : j = f + (t - f) / 2
          · subst e; rw [HX.out]; exact hp
          · have := HUP.out j (f + (t - f) / 2) (by omega) hjn
            rw [HX.out] at this
            exact geK_yes (by omega), hb2⟩
        case measure => simp [intOf]; omega
    · obtain rfl : f = t := by omega
      have HF : Hid (fIdx (fun i => geK key (keyAt zs i)) n = f) := fIdx_eq htn hlow.out (by
        by_cases e : f = n
        · exact .inl e
        · exact .inr (hhigh.out f (Nat.le_refl _) (by omega)))
      clear hs
      go_wp2
      go_ret
      exact ⟨ret_int (by rw [HF.out]), hbel⟩

/-- The place that entryOf tells, and whether the key is there. -/
def entI (zs : List Int) (n : Nat) (key : Int) : Nat := if upM zs n then fIdx (fun i => geK key (keyAt zs i)) n else fIdx (fun i => eqK key (keyAt zs i)) n
def entB (zs : List Int) (n : Nat) (key : Int) : Bool := decide (entI zs n key < n) && (keyAt zs (entI zs n key) == key)
theorem entI_le (zs : List Int) (n : Nat) (key : Int) : entI zs n key ≤ n := by
  unfold entI
  split <;> exact fIdx_le _ _

theorem ret_pair {k : IntKind} {a b : Int} {p q : Bool} (h : a = b) (h' : p = q) : Ending.returned (.tuple #[.int k a, .bool p]) = .returned (.tuple #[.int k b, .bool q]) := by rw [h, h']

set_option maxHeartbeats 1000000 in
theorem entryOf_tail (a : Option Addr) (n cap : Nat) (zs : List Int) (key : Int) (w : World) (hs : SInts w a (n * 2) zs) (hn : n ≤ 1048576) :
    Calls Try.prog 34 #[.slice a n cap, .int .i64 key] w fun e w' => e = .returned (.tuple #[.int .i64 (entI zs n key), .bool (entB zs n key)]) ∧ Below w.heap.size w w' := by
  have hb0 : ∀ o, Below w.heap.size w (w.alloc o) := fun o => (Below.refl _ _).alloc (Nat.le_refl _) o
  have hk0 : (w.alloc (.cells #[.int .i64 key] 3)).cell? ⟨w.heap.size, 0, none⟩ = some (.int .i64 key) := by simp
  obtain ⟨i, hi⟩ : ∃ i, entI zs n key = i := ⟨_, rfl⟩
  obtain ⟨B, hB⟩ : ∃ B, entB zs n key = B := ⟨_, rfl⟩
  have hile : i ≤ n := by rw [← hi]; exact entI_le zs n key
  have HB : Hid ((decide (i < n) && (keyAt zs i == key)) = B) := by show _ = _; rw [← hB]; unfold entB; rw [hi]
  rw [hi, hB]
  have HI : Hid (entI zs n key = i) := hi
  clear hi hB
  have fin : Hid (∀ w1, Below w.heap.size w w1 → SInts w1 a (n * 2) zs) := fun w1 h => hs.below h
  cases hup : upM zs n
  · have HF : Hid (fIdx (fun i => eqK key (keyAt zs i)) n = i) := by
      show _ = _
      rw [← HI.out]
      simp [entI, hup]
    go_enter Try.func34, Try.ntmps34
    go_wp2_with fail
    refine (keysRise_any _ _ _ zs _ (hs.below (hb0 _)) hn).mono ?_
    rintro e w1 ⟨rfl, hb1⟩
    have hA1 := below_trans' (hb0 _) hb1
    have k1 := cell_kept hb1 hk0
    clear hk0 hb1
    rw [hup]
    go_wp2_with fail
    refine (find52_any _ _ _ zs key _ _ (hs.below hA1) hn k1).mono ?_
    rintro e w2 ⟨rfl, hb2⟩
    rw [HF.out]
    have hA2 := below_trans' hA1 hb2
    have k2 := cell_kept hb2 k1
    clear k1 hb2 hA1
    by_cases hlt : i < n
    · have hlt' : (i : Int) < (n : Int) := by omega
      obtain ⟨b, off, rfl⟩ := hs.addr (by omega)
      obtain ⟨x, hx⟩ : ∃ x, keyAt zs i = x := ⟨_, rfl⟩
      have h1 := (hs.below hA2).keyCell hlt
      rw [hx] at h1
      have HB2 : Hid ((x == key) = B) := by show _ = _; rw [← HB.out, hx]; simp [hlt]
      clear hx hs hb0 fin
      go_wp2
      go_quiet (fail)
      go_wp2
      go_ret2
      exact ⟨ret_pair rfl HB2.out, below_drewN hA2 _⟩
    · have hlt' : decide ((i : Int) < (n : Int)) = false := by simp; omega
      have HB2 : Hid (false = B) := by show _ = _; rw [← HB.out]; simp [hlt]
      clear hs hb0 fin
      go_wp2
      go_quiet (fail)
      go_wp2
      go_ret2
      exact ⟨ret_pair rfl HB2.out, below_drewN hA2 _⟩
  · have HF : Hid (fIdx (fun i => geK key (keyAt zs i)) n = i) := by
      show _ = _
      rw [← HI.out]
      simp [entI, hup]
    go_enter Try.func34, Try.ntmps34
    go_wp2_with fail
    refine (keysRise_any _ _ _ zs _ (hs.below (hb0 _)) hn).mono ?_
    rintro e w1 ⟨rfl, hb1⟩
    have hA1 := below_trans' (hb0 _) hb1
    have k1 := cell_kept hb1 hk0
    clear hk0 hb1
    rw [hup]
    go_wp2_with fail
    refine (halves51_any _ _ _ zs key _ _ (hs.below hA1) hn hup k1).mono ?_
    rintro e w2 ⟨rfl, hb2⟩
    rw [HF.out]
    have hA2 := below_trans' hA1 hb2
    have k2 := cell_kept hb2 k1
    clear k1 hb2 hA1
    by_cases hlt : i < n
    · have hlt' : (i : Int) < (n : Int) := by omega
      obtain ⟨b, off, rfl⟩ := hs.addr (by omega)
      obtain ⟨x, hx⟩ : ∃ x, keyAt zs i = x := ⟨_, rfl⟩
      have h1 := (hs.below hA2).keyCell hlt
      rw [hx] at h1
      have HB2 : Hid ((x == key) = B) := by show _ = _; rw [← HB.out, hx]; simp [hlt]
      clear hx hs hb0 fin
      go_wp2
      go_quiet (fail)
      go_wp2
      go_ret2
      exact ⟨ret_pair rfl HB2.out, below_drewN hA2 _⟩
    · have hlt' : decide ((i : Int) < (n : Int)) = false := by simp; omega
      have HB2 : Hid (false = B) := by show _ = _; rw [← HB.out]; simp [hlt]
      clear hs hb0 fin
      go_wp2
      go_quiet (fail)
      go_wp2
      go_ret2
      exact ⟨ret_pair rfl HB2.out, below_drewN hA2 _⟩

end Go.Proofs.Ytkfamlbalgolmaa
