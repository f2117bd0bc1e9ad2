/- Contracts of MapNext, of the specification's and of the program's, and of the program's find. -/
import Derived.Test.YtkfamlbalgolmaaEnts2
namespace Go.Proofs.Ytkfamlbalgolmaa
open Go.RowKit
set_option linter.unusedVariables false

theorem ret_int {k : IntKind} {a b : Int} (h : a = b) : Ending.returned (.int k a) = .returned (.int k b) := by rw [h]

/-- The first place below n of which p holds, or n. -/
def fIdx (p : Nat → Bool) (n : Nat) : Nat := ((List.range n).find? p).getD n

theorem fIdx_eq {p : Nat → Bool} {n i : Nat} (hi : i ≤ n) (hlow : ∀ j, j < i → p j = false) (hat : i = n ∨ p i = true) : fIdx p n = i := by
  unfold fIdx
  by_cases h : i < n
  · have hp : p i = true := by rcases hat with h' | h'; omega; exact h'
    have : (List.range n).find? p = some i := by
      rw [List.find?_eq_some_iff_getElem]
      refine ⟨hp, i, by simpa using h, by simp, fun j hj => ?_⟩
      simp [hlow j hj]
    rw [this]
    rfl
  · have : (List.range n).find? p = none := by
      rw [List.find?_eq_none]
      intro x hx
      rw [List.mem_range] at hx
      simp [hlow x (by omega)]
    rw [this]
    show n = i
    omega

/-- The key of the i-th entry. -/
def keyAt (zs : List Int) (i : Nat) : Int := zs.getD (i * 2) 0
/-- The value of the i-th entry. -/
def valAt (zs : List Int) (i : Nat) : Int := zs.getD (i * 2 + 1) 0

theorem SInts.keyCell {w : World} {b off n : Nat} {zs : List Int} (hs : SInts w (some ⟨b, off, none⟩) (n * 2) zs) {i : Nat} (hi : i < n) : w.cell? ⟨b, off + i * 2, none⟩ = some (.int .i64 (keyAt zs i)) := by
  obtain ⟨hz, h0 | ⟨b', off', e, hc⟩⟩ := hs
  · omega
  · cases e
    exact hc (i * 2) (by omega)
theorem SInts.valCell {w : World} {b off n : Nat} {zs : List Int} (hs : SInts w (some ⟨b, off, none⟩) (n * 2) zs) {i : Nat} (hi : i < n) : w.cell? ⟨b, off + i * 2 + 1, none⟩ = some (.int .i64 (valAt zs i)) := by
  obtain ⟨hz, h0 | ⟨b', off', e, hc⟩⟩ := hs
  · omega
  · cases e
    exact hc (i * 2 + 1) (by omega)
theorem SInts.addr {w : World} {a : Option Addr} {m : Nat} {zs : List Int} (hs : SInts w a m zs) (hm : 0 < m) : ∃ b off, a = some ⟨b, off, none⟩ := by
  obtain ⟨hz, h0 | ⟨b', off', e, hc⟩⟩ := hs
  · omega
  · exact ⟨b', off', e⟩

/-- keys from a key on; keys that are it. -/
def geK (key k : Int) : Bool := decide (key ≤ k)
def eqK (key k : Int) : Bool := k == key
theorem geK_yes {key k : Int} (h : key ≤ k) : geK key k = true := by simp [geK, h]
theorem geK_no {key k : Int} (h : k < key) : geK key k = false := by simp [geK]; omega
theorem eqK_yes {key k : Int} (h : (k == key) = true) : eqK key k = true := h
theorem eqK_no {key k : Int} (h : (k == key) = false) : eqK key k = false := h

set_option maxHeartbeats 400000 in
theorem clo47_any (key k v : Int) (c : Nat) (w : World) (hc : w.cell? ⟨c, 0, none⟩ = some (.int .i64 key)) :
    Calls Try.prog 42 #[.agg #[.int .i64 k, .int .i64 v], .pointer (some ⟨c, 0, none⟩)] w fun e w' => e = .returned (.bool (geK key k)) ∧ Below w.heap.size w w' := by
  have hb0 : ∀ o, Below w.heap.size w (w.alloc o) := fun o => (Below.refl _ _).alloc (Nat.le_refl _) o
  have hc' := cell_kept (hb0 (.cells #[.int .i64 k, .int .i64 v] 41)) hc
  by_cases h : key ≤ k
  · rw [geK_yes h]
    go_enter Try.func42, Try.ntmps42
    go_wp2
    go_ret
    exact ⟨rfl, hb0 _⟩
  · rw [geK_no (by omega)]
    go_enter Try.func42, Try.ntmps42
    go_wp2
    go_ret
    exact ⟨rfl, hb0 _⟩

set_option maxHeartbeats 400000 in
theorem find47_any (a : Option Addr) (n cap : Nat) (zs : List Int) (key : Int) (c : Nat) (w : World) (hs : SInts w a (n * 2) zs) (hn : n ≤ 1048576) (hc : w.cell? ⟨c, 0, none⟩ = some (.int .i64 key)) :
    Calls Try.prog 41 #[.slice a n cap, .func (Fn.func 42) #[] #[.pointer (some ⟨c, 0, none⟩)]] w fun e w' => e = .returned (.int .i64 (fIdx (fun i => geK key (keyAt zs i)) n)) ∧ Below w.heap.size w w' := by
  go_enter Try.func41, Try.ntmps41
  go_wp2
  go_loopw [9] (fun i wr => ∃ k : Nat, k ≤ n ∧ i = .int .i64 k ∧ (∀ j, j < k → geK key (keyAt zs j) = false) ∧ Below w.heap.size w wr) (fun i _ => n - (intOf i).toNat)
  case atStart => exact ⟨0, Nat.zero_le _, rfl, fun j hj => by omega, Below.refl _ _⟩
  case round =>
    obtain ⟨k, hk, rfl, hlow0, hbel⟩ := hrel
    have hlow : Hid (∀ j, j < k → geK key (keyAt zs j) = false) := hlow0
    clear hlow0
    by_cases hlt : k < n
    · obtain ⟨b, off, rfl⟩ := hs.addr (by omega)
      obtain ⟨x, hx⟩ : ∃ x, keyAt zs k = x := ⟨_, rfl⟩
      obtain ⟨y, hy⟩ : ∃ y, valAt zs k = y := ⟨_, rfl⟩
      have h1 : wr.cell? ⟨b, off + k * 2, none⟩ = some (.int .i64 x) := by rw [← hx]; exact (hs.below hbel).keyCell hlt
      have h2 : wr.cell? ⟨b, off + k * 2 + 1, none⟩ = some (.int .i64 y) := by rw [← hy]; exact (hs.below hbel).valCell hlt
      have HX : Hid (keyAt zs k = x) := hx
      have al : Below w.heap.size w (wr.alloc (.cells #[.int .i64 x, .int .i64 y] 41)) := hbel.alloc hbel.size _
      have hcc := cell_kept al hc
      clear hx hy hs
      cases hp : geK key x
      · go_wp2_with fail
        refine (clo47_any key _ _ _ _ hcc).mono ?_
        rintro e w1 ⟨rfl, hb1⟩
        have hb2 := al.trans (hb1.mono al.size)
        clear hb1 al hbel h1 h2 hcc
        go_wp2
        go_roundw
        case rel => exact ⟨k + 1, by omega, by go_num, fun j hj => by
          by_cases e : j = k
          · subst e; rw [HX.out]; exact hp
          · exact hlow.out j (by omega), hb2⟩
        case measure => simp [intOf]; omega
      · have HF : Hid (fIdx (fun i => geK key (keyAt zs i)) n = k) := fIdx_eq hk hlow.out (.inr (by show geK key (keyAt zs k) = true; rw [HX.out]; exact hp))
        go_wp2_with fail
        refine (clo47_any key _ _ _ _ hcc).mono ?_
        rintro e w1 ⟨rfl, hb1⟩
        have hb2 := al.trans (hb1.mono al.size)
        clear hb1 al hbel h1 h2 hcc
        go_wp2
        go_ret
        exact ⟨ret_int (by rw [HF.out]), hb2⟩
    · obtain rfl : k = n := by omega
      have HF : Hid (fIdx (fun i => geK key (keyAt zs i)) k = k) := fIdx_eq hk hlow.out (.inl rfl)
      clear hs
      go_wp2
      go_ret
      exact ⟨ret_int (by rw [HF.out]), hbel⟩

/-- What MapNext answers: a code and a value. -/
def nextC (zs : List Int) (n : Nat) (key : Int) : Int := if fIdx (fun i => geK key (keyAt zs i)) n = n then 1 else 2
def nextV (zs : List Int) (n : Nat) (key : Int) : Int := if fIdx (fun i => geK key (keyAt zs i)) n = n then 0 else keyAt zs (fIdx (fun i => geK key (keyAt zs i)) n)

set_option maxHeartbeats 400000 in
theorem specMapNext_any (a : Option Addr) (n cap : Nat) (zs : List Int) (key : Int) (w : World) (hs : SInts w a (n * 2) zs) (hn : n ≤ 1048576) :
    Calls Try.prog 25 #[.agg #[.slice a n cap], .int .i64 key] w fun e w' => e = .returned (.agg #[.int .i64 (nextC zs n key), .int .i64 (nextV zs n key)]) ∧ Below w.heap.size w w' := by
  have hb0 : ∀ o o1, Below w.heap.size w ((w.alloc o).alloc o1) := fun o o1 => ((Below.refl _ _).alloc (Nat.le_refl _) o).alloc (by simp) o1
  go_enter Try.func25, Try.ntmps25
  go_wp2
  go_loop [5] (fun i => ∃ k : Nat, k ≤ n ∧ i = .int .i64 k ∧ (∀ j, j < k → geK key (keyAt zs j) = false)) (fun i => n - (intOf i).toNat)
  case atStart => exact ⟨0, Nat.zero_le _, rfl, fun j hj => by omega⟩
  case round =>
    obtain ⟨k, hk, rfl, hlow0⟩ := hrel
    have hlow : Hid (∀ j, j < k → geK key (keyAt zs j) = false) := hlow0
    clear hlow0
    by_cases hlt : k < n
    · obtain ⟨b, off, rfl⟩ := hs.addr (by omega)
      obtain ⟨x, hx⟩ : ∃ x, keyAt zs k = x := ⟨_, rfl⟩
      have h1 := (hs.below (hb0 (.cells #[.slice (some ⟨b, off, none⟩) n cap] 25) (.cells #[.int .i64 0, .int .i64 0] 29))).keyCell hlt
      rw [hx] at h1
      have HX : Hid (keyAt zs k = x) := hx
      clear hx hs
      by_cases hp : key ≤ x
      · have HF : Hid (fIdx (fun i => geK key (keyAt zs i)) n = k) := fIdx_eq hk hlow.out (.inr (by show geK key (keyAt zs k) = true; rw [HX.out]; exact geK_yes hp))
        have e1 : Hid (nextC zs n key = 2) := by show _ = _; unfold nextC; rw [HF.out, if_neg (by omega)]
        have e2 : Hid (nextV zs n key = x) := by show _ = _; unfold nextV; rw [HF.out, if_neg (by omega), HX.out]
        go_wp2
        exact bodyPost_ret (v := .agg #[.int .i64 2, .int .i64 x]) (by simp [results, Try.results25, go_sem]) rfl ⟨by rw [e1.out, e2.out], hb0 _ _⟩
      · go_wp2
        go_round
        case rel => exact ⟨k + 1, by omega, by go_num, fun j hj => by
          by_cases e : j = k
          · subst e; rw [HX.out]; exact geK_no (by omega)
          · exact hlow.out j (by omega)⟩
        case measure => simp [intOf]; omega
    · obtain rfl : k = n := by omega
      have HF : Hid (fIdx (fun i => geK key (keyAt zs i)) k = k) := fIdx_eq hk hlow.out (.inl rfl)
      have e1 : Hid (nextC zs k key = 1) := by show _ = _; unfold nextC; rw [HF.out, if_pos rfl]
      have e2 : Hid (nextV zs k key = 0) := by show _ = _; unfold nextV; rw [HF.out, if_pos rfl]
      clear hs
      go_wp2
      exact bodyPost_ret (v := .agg #[.int .i64 1, .int .i64 0]) (by simp [results, Try.results25, go_sem]) rfl ⟨by rw [e1.out, e2.out], hb0 _ _⟩

theorem fIdx_le (p : Nat → Bool) (n : Nat) : fIdx p n ≤ n := by
  unfold fIdx
  cases h : (List.range n).find? p with
  | none => exact Nat.le_refl _
  | some i =>
    have := List.mem_of_find?_eq_some h
    rw [List.mem_range] at this
    show i ≤ n
    omega

set_option maxHeartbeats 800000 in
theorem implMapNext_any (a : Option Addr) (n cap : Nat) (zs : List Int) (key : Int) (w : World) (hs : SInts w a (n * 2) zs) (hn : n ≤ 1048576) :
    Calls Try.prog 24 #[.agg #[.slice a n cap], .int .i64 key] w fun e w' => e = .returned (.agg #[.int .i64 (nextC zs n key), .int .i64 (nextV zs n key)]) ∧ Below w.heap.size w w' := by
  have hb0 : ∀ o o1 o2, Below w.heap.size w (((w.alloc o).alloc o1).alloc o2) := fun o o1 o2 => (((Below.refl _ _).alloc (Nat.le_refl _) o).alloc (by simp) o1).alloc (by simp; omega) o2
  have al : ∀ (W : World) (o : Obj), Below W.heap.size W (W.alloc o) := fun W o => (Below.refl _ _).alloc (Nat.le_refl _) o
  have hck : (((w.alloc (.cells #[.slice a n cap] 25)).alloc (.cells #[.int .i64 key] 3)).alloc (.cells #[.int .i64 0, .int .i64 0] 29)).cell? ⟨w.heap.size + 1, 0, none⟩ = some (.int .i64 key) := cell_kept (al _ _) (cell_at (w.alloc _) _ _ 0 (by simp) rfl)
  have key46 : Hid (∀ W c, SInts W a (n * 2) zs → W.cell? ⟨c, 0, none⟩ = some (.int .i64 key) → Calls Try.prog 41 #[.slice a n cap, .func (Fn.func 42) #[] #[.pointer (some ⟨c, 0, none⟩)]] W fun e w' => e = .returned (.int .i64 (fIdx (fun i => geK key (keyAt zs i)) n)) ∧ Below W.heap.size W w') := fun W c h hc => find47_any a n cap zs key c W h hn hc
  have hle := fIdx_le (fun i => geK key (keyAt zs i)) n
  obtain ⟨i, hi⟩ : ∃ i, fIdx (fun i => geK key (keyAt zs i)) n = i := ⟨_, rfl⟩
  have e1 : Hid (nextC zs n key = if i = n then 1 else 2) := by show _ = _; unfold nextC; rw [hi]
  have e2 : Hid (nextV zs n key = if i = n then 0 else keyAt zs i) := by show _ = _; unfold nextV; rw [hi]
  rw [hi] at key46 hle
  clear hi
  by_cases hin : i = n
  · subst hin
    rw [if_pos rfl] at e1 e2
    rw [e1.out, e2.out]
    go_enter Try.func24, Try.ntmps24
    go_wp2_with fail
    refine (key46.out _ _ (hs.below (hb0 _ _ _)) hck).mono ?_
    rintro e w1 ⟨rfl, hb1⟩
    have hb2 := below_trans' (hb0 _ _ _) hb1
    have d0 := cell_kept hb1 (cell_at ((w.alloc _).alloc _) #[.int .i64 0, .int .i64 0] 29 0 (b := w.heap.size + 1 + 1) (by simp) rfl)
    have d1 := cell_kept hb1 (cell_at ((w.alloc _).alloc _) #[.int .i64 0, .int .i64 0] 29 1 (b := w.heap.size + 1 + 1) (by simp) rfl)
    have f0 := hb1.frozen (p := ⟨w.heap.size + 1 + 1, 0, none⟩) (by simp)
    rw [frozen_at ((w.alloc _).alloc _) _ _ 0 (by simp)] at f0
    have f1 := hb1.frozen (p := ⟨w.heap.size + 1 + 1, 1, none⟩) (by simp)
    rw [frozen_at ((w.alloc _).alloc _) _ _ 1 (by simp)] at f1
    clear hb1 hb0 al hck key46 hs
    go_wp2
    exact bodyPost_ret (v := .agg #[.int .i64 1, .int .i64 0]) (by simp [results, Try.results24, go_sem, d0, d1]) rfl ⟨rfl, (hb2.setCell (by show w.heap.size ≤ w.heap.size + 1 + 1; omega) _).setCell (by show w.heap.size ≤ w.heap.size + 1 + 1; omega) _⟩
  · rw [if_neg hin] at e1 e2
    rw [e1.out, e2.out]
    have hlt : i < n := by omega
    have hne : ((i : Int) == (n : Int)) = false := by simp; omega
    obtain ⟨b, off, rfl⟩ := hs.addr (by omega)
    obtain ⟨x, hx⟩ : ∃ x, keyAt zs i = x := ⟨_, rfl⟩
    rw [hx]
    go_enter Try.func24, Try.ntmps24
    go_wp2_with fail
    refine (key46.out _ _ (hs.below (hb0 _ _ _)) hck).mono ?_
    rintro e w1 ⟨rfl, hb1⟩
    have hb2 := below_trans' (hb0 _ _ _) hb1
    have h1 := (hs.below hb2).keyCell hlt
    rw [hx] at h1
    have d0 := cell_kept hb1 (cell_at ((w.alloc _).alloc _) #[.int .i64 0, .int .i64 0] 29 0 (b := w.heap.size + 1 + 1) (by simp) rfl)
    have d1 := cell_kept hb1 (cell_at ((w.alloc _).alloc _) #[.int .i64 0, .int .i64 0] 29 1 (b := w.heap.size + 1 + 1) (by simp) rfl)
    have f0 := hb1.frozen (p := ⟨w.heap.size + 1 + 1, 0, none⟩) (by simp)
    rw [frozen_at ((w.alloc _).alloc _) _ _ 0 (by simp)] at f0
    have f1 := hb1.frozen (p := ⟨w.heap.size + 1 + 1, 1, none⟩) (by simp)
    rw [frozen_at ((w.alloc _).alloc _) _ _ 1 (by simp)] at f1
    clear hb1 hb0 al hck key46 hs hx hin
    go_wp2
    exact bodyPost_ret (v := .agg #[.int .i64 2, .int .i64 x]) (by simp [results, Try.results24, go_sem, d0, d1]) rfl ⟨rfl, (hb2.setCell (by show w.heap.size ≤ w.heap.size + 1 + 1; omega) _).setCell (by show w.heap.size ≤ w.heap.size + 1 + 1; omega) _⟩

end Go.Proofs.Ytkfamlbalgolmaa
