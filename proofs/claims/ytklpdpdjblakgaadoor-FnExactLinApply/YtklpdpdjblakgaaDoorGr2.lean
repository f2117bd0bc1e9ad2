/- Several texts in one: Next, MapOk, Entry, ListsE, Del, Get, Put, MapM, PutM, Count. -/
import Derived.Test.YtklpdpdjblakgaaDoorGr1
import Derived.Deep.QuietTactic
import Derived.BigQuiet
/- Next -/
namespace Go.Proofs.YtklpdpdjblakgaaDoor
open Go.RowKit
set_option linter.unusedVariables false

theorem ret_int {k : IntKind} {a b : Int} (h : a = b) : Ending.returned (.int k a) = .returned (.int k b) := by rw [h]

/-- The first place below n of which p holds, or n. -/
def fIdx (p : Nat → Bool) (n : Nat) : Nat := ((List.range n).find? p).getD n

theorem fIdx_eq {p : Nat → Bool} {n i : Nat} (hi : i ≤ n) (hlow : ∀ j, j < i → p j = false) (hat : i = n ∨ p i = true) : fIdx p n = i := by
  unfold fIdx
  by_cases h : i < n
  · have hp : p i = true := by rcases hat with h' | h'; omega; exact h'
    have : (List.range n).find? p = some i := by
      rw [List.find?_eq_some_iff_getElem]
      refine ⟨hp, i, by simpa using h, by simp, fun j hj => ?_⟩
      simp [hlow j hj]
    rw [this]
    rfl
  · have : (List.range n).find? p = none := by
      rw [List.find?_eq_none]
      intro x hx
      rw [List.mem_range] at hx
      simp [hlow x (by omega)]
    rw [this]
    show n = i
    omega

/-- The key of the i-th entry. -/
def keyAt (zs : List Int) (i : Nat) : Int := zs.getD (i * 2) 0
/-- The value of the i-th entry. -/
def valAt (zs : List Int) (i : Nat) : Int := zs.getD (i * 2 + 1) 0

theorem SInts.keyCell {w : World} {b off n : Nat} {zs : List Int} (hs : SInts w (some ⟨b, off, none⟩) (n * 2) zs) {i : Nat} (hi : i < n) : w.cell? ⟨b, off + i * 2, none⟩ = some (.int .i64 (keyAt zs i)) := by
  obtain ⟨hz, h0 | ⟨b', off', e, hc⟩⟩ := hs
  · omega
  · cases e
    exact hc (i * 2) (by omega)
theorem SInts.valCell {w : World} {b off n : Nat} {zs : List Int} (hs : SInts w (some ⟨b, off, none⟩) (n * 2) zs) {i : Nat} (hi : i < n) : w.cell? ⟨b, off + i * 2 + 1, none⟩ = some (.int .i64 (valAt zs i)) := by
  obtain ⟨hz, h0 | ⟨b', off', e, hc⟩⟩ := hs
  · omega
  · cases e
    exact hc (i * 2 + 1) (by omega)
theorem SInts.addr {w : World} {a : Option Addr} {m : Nat} {zs : List Int} (hs : SInts w a m zs) (hm : 0 < m) : ∃ b off, a = some ⟨b, off, none⟩ := by
  obtain ⟨hz, h0 | ⟨b', off', e, hc⟩⟩ := hs
  · omega
  · exact ⟨b', off', e⟩

/-- keys from a key on; keys that are it. -/
def geK (key k : Int) : Bool := decide (key ≤ k)
def eqK (key k : Int) : Bool := k == key
theorem geK_yes {key k : Int} (h : key ≤ k) : geK key k = true := by simp [geK, h]
theorem geK_no {key k : Int} (h : k < key) : geK key k = false := by simp [geK]; omega
theorem eqK_yes {key k : Int} (h : (k == key) = true) : eqK key k = true := h
theorem eqK_no {key k : Int} (h : (k == key) = false) : eqK key k = false := h

set_option maxHeartbeats 400000 in
theorem clo47_any (key k v : Int) (c : Nat) (w : World) (hc : w.cell? ⟨c, 0, none⟩ = some (.int .i64 key)) :
    Calls Tryd.prog 74 #[.agg #[.int .i64 k, .int .i64 v], .pointer (some ⟨c, 0, none⟩)] w fun e w' => e = .returned (.bool (geK key k)) ∧ Below w.heap.size w w' := by
  have hb0 : ∀ o, Below w.heap.size w (w.alloc o) := fun o => (Below.refl _ _).alloc (Nat.le_refl _) o
  have hc' := cell_kept (hb0 (.cells #[.int .i64 k, .int .i64 v] 84)) hc
  by_cases h : key ≤ k
  · rw [geK_yes h]
    go_enter Tryd.func74, Tryd.ntmps74
    go_wp2
    go_ret
    exact ⟨rfl, hb0 _⟩
  · rw [geK_no (by omega)]
    go_enter Tryd.func74, Tryd.ntmps74
    go_wp2
    go_ret
    exact ⟨rfl, hb0 _⟩

set_option maxHeartbeats 400000 in
theorem find47_any (a : Option Addr) (n cap : Nat) (zs : List Int) (key : Int) (c : Nat) (w : World) (hs : SInts w a (n * 2) zs) (hn : n ≤ 1048576) (hc : w.cell? ⟨c, 0, none⟩ = some (.int .i64 key)) :
    Calls Tryd.prog 73 #[.slice a n cap, .func (Fn.func 74) #[] #[.pointer (some ⟨c, 0, none⟩)]] w fun e w' => e = .returned (.int .i64 (fIdx (fun i => geK key (keyAt zs i)) n)) ∧ Below w.heap.size w w' := by
  go_enter Tryd.func73, Tryd.ntmps73
  go_wp2
  go_loopw [9] (fun i wr => ∃ k : Nat, k ≤ n ∧ i = .int .i64 k ∧ (∀ j, j < k → geK key (keyAt zs j) = false) ∧ Below w.heap.size w wr) (fun i _ => n - (intOf i).toNat)
  case atStart => exact ⟨0, Nat.zero_le _, rfl, fun j hj => by omega, Below.refl _ _⟩
  case round =>
    obtain ⟨k, hk, rfl, hlow0, hbel⟩ := hrel
    have hlow : Hid (∀ j, j < k → geK key (keyAt zs j) = false) := hlow0
    clear hlow0
    by_cases hlt : k < n
    · obtain ⟨b, off, rfl⟩ := hs.addr (by omega)
      obtain ⟨x, hx⟩ : ∃ x, keyAt zs k = x := ⟨_, rfl⟩
      obtain ⟨y, hy⟩ : ∃ y, valAt zs k = y := ⟨_, rfl⟩
      have h1 : wr.cell? ⟨b, off + k * 2, none⟩ = some (.int .i64 x) := by rw [← hx]; exact (hs.below hbel).keyCell hlt
      have h2 : wr.cell? ⟨b, off + k * 2 + 1, none⟩ = some (.int .i64 y) := by rw [← hy]; exact (hs.below hbel).valCell hlt
      have HX : Hid (keyAt zs k = x) := hx
      have al : Below w.heap.size w (wr.alloc (.cells #[.int .i64 x, .int .i64 y] 84)) := hbel.alloc hbel.size _
      have hcc := cell_kept al hc
      clear hx hy hs
      cases hp : geK key x
      · go_wp2_with fail
        refine (clo47_any key _ _ _ _ hcc).mono ?_
        rintro e w1 ⟨rfl, hb1⟩
        have hb2 := al.trans (hb1.mono al.size)
        clear hb1 al hbel h1 h2 hcc
        go_wp2
        go_roundw
        case rel => exact ⟨k + 1, by omega, by go_num, fun j hj => by
          by_cases e : j = k
          · subst e; rw [HX.out]; exact hp
          · exact hlow.out j (by omega), hb2⟩
        case measure => simp [intOf]; omega
      · have HF : Hid (fIdx (fun i => geK key (keyAt zs i)) n = k) := fIdx_eq hk hlow.out (.inr (by show geK key (keyAt zs k) = true; rw [HX.out]; exact hp))
        go_wp2_with fail
        refine (clo47_any key _ _ _ _ hcc).mono ?_
        rintro e w1 ⟨rfl, hb1⟩
        have hb2 := al.trans (hb1.mono al.size)
        clear hb1 al hbel h1 h2 hcc
        go_wp2
        go_ret
        exact ⟨ret_int (by rw [HF.out]), hb2⟩
    · obtain rfl : k = n := by omega
      have HF : Hid (fIdx (fun i => geK key (keyAt zs i)) k = k) := fIdx_eq hk hlow.out (.inl rfl)
      clear hs
      go_wp2
      go_ret
      exact ⟨ret_int (by rw [HF.out]), hbel⟩

/-- What MapNext answers: a code and a value. -/
def nextC (zs : List Int) (n : Nat) (key : Int) : Int := if fIdx (fun i => geK key (keyAt zs i)) n = n then 1 else 2
def nextV (zs : List Int) (n : Nat) (key : Int) : Int := if fIdx (fun i => geK key (keyAt zs i)) n = n then 0 else keyAt zs (fIdx (fun i => geK key (keyAt zs i)) n)

set_option maxHeartbeats 400000 in
theorem specMapNext_any (a : Option Addr) (n cap : Nat) (zs : List Int) (key : Int) (w : World) (hs : SInts w a (n * 2) zs) (hn : n ≤ 1048576) :
    Calls Tryd.prog 42 #[.agg #[.slice a n cap], .int .i64 key] w fun e w' => e = .returned (.agg #[.int .i64 (nextC zs n key), .int .i64 (nextV zs n key)]) ∧ Below w.heap.size w w' := by
  have hb0 : ∀ o o1, Below w.heap.size w ((w.alloc o).alloc o1) := fun o o1 => ((Below.refl _ _).alloc (Nat.le_refl _) o).alloc (by simp) o1
  go_enter Tryd.func42, Tryd.ntmps42
  go_wp2
  go_loop [5] (fun i => ∃ k : Nat, k ≤ n ∧ i = .int .i64 k ∧ (∀ j, j < k → geK key (keyAt zs j) = false)) (fun i => n - (intOf i).toNat)
  case atStart => exact ⟨0, Nat.zero_le _, rfl, fun j hj => by omega⟩
  case round =>
    obtain ⟨k, hk, rfl, hlow0⟩ := hrel
    have hlow : Hid (∀ j, j < k → geK key (keyAt zs j) = false) := hlow0
    clear hlow0
    by_cases hlt : k < n
    · obtain ⟨b, off, rfl⟩ := hs.addr (by omega)
      obtain ⟨x, hx⟩ : ∃ x, keyAt zs k = x := ⟨_, rfl⟩
      have h1 := (hs.below (hb0 (.cells #[.slice (some ⟨b, off, none⟩) n cap] 33) (.cells #[.int .i64 0, .int .i64 0] 37))).keyCell hlt
      rw [hx] at h1
      have HX : Hid (keyAt zs k = x) := hx
      clear hx hs
      by_cases hp : key ≤ x
      · have HF : Hid (fIdx (fun i => geK key (keyAt zs i)) n = k) := fIdx_eq hk hlow.out (.inr (by show geK key (keyAt zs k) = true; rw [HX.out]; exact geK_yes hp))
        have e1 : Hid (nextC zs n key = 2) := by show _ = _; unfold nextC; rw [HF.out, if_neg (by omega)]
        have e2 : Hid (nextV zs n key = x) := by show _ = _; unfold nextV; rw [HF.out, if_neg (by omega), HX.out]
        go_wp2
        exact bodyPost_ret (v := .agg #[.int .i64 2, .int .i64 x]) (by simp [results, Tryd.results42, go_sem]) rfl ⟨by rw [e1.out, e2.out], hb0 _ _⟩
      · go_wp2
        go_round
        case rel => exact ⟨k + 1, by omega, by go_num, fun j hj => by
          by_cases e : j = k
          · subst e; rw [HX.out]; exact geK_no (by omega)
          · exact hlow.out j (by omega)⟩
        case measure => simp [intOf]; omega
    · obtain rfl : k = n := by omega
      have HF : Hid (fIdx (fun i => geK key (keyAt zs i)) k = k) := fIdx_eq hk hlow.out (.inl rfl)
      have e1 : Hid (nextC zs k key = 1) := by show _ = _; unfold nextC; rw [HF.out, if_pos rfl]
      have e2 : Hid (nextV zs k key = 0) := by show _ = _; unfold nextV; rw [HF.out, if_pos rfl]
      clear hs
      go_wp2
      exact bodyPost_ret (v := .agg #[.int .i64 1, .int .i64 0]) (by simp [results, Tryd.results42, go_sem]) rfl ⟨by rw [e1.out, e2.out], hb0 _ _⟩

theorem fIdx_le (p : Nat → Bool) (n : Nat) : fIdx p n ≤ n := by
  unfold fIdx
  cases h : (List.range n).find? p with
  | none => exact Nat.le_refl _
  | some i =>
    have := List.mem_of_find?_eq_some h
    rw [List.mem_range] at this
    show i ≤ n
    omega

set_option maxHeartbeats 800000 in
theorem implMapNext_any (a : Option Addr) (n cap : Nat) (zs : List Int) (key : Int) (w : World) (hs : SInts w a (n * 2) zs) (hn : n ≤ 1048576) :
    Calls Tryd.prog 29 #[.agg #[.slice a n cap], .int .i64 key] w fun e w' => e = .returned (.agg #[.int .i64 (nextC zs n key), .int .i64 (nextV zs n key)]) ∧ Below w.heap.size w w' := by
  have hb0 : ∀ o o1 o2, Below w.heap.size w (((w.alloc o).alloc o1).alloc o2) := fun o o1 o2 => (((Below.refl _ _).alloc (Nat.le_refl _) o).alloc (by simp) o1).alloc (by simp; omega) o2
  have al : ∀ (W : World) (o : Obj), Below W.heap.size W (W.alloc o) := fun W o => (Below.refl _ _).alloc (Nat.le_refl _) o
  have hck : (((w.alloc (.cells #[.slice a n cap] 33)).alloc (.cells #[.int .i64 key] 3)).alloc (.cells #[.int .i64 0, .int .i64 0] 37)).cell? ⟨w.heap.size + 1, 0, none⟩ = some (.int .i64 key) := cell_kept (al _ _) (cell_at (w.alloc _) _ _ 0 (by simp) rfl)
  have key46 : Hid (∀ W c, SInts W a (n * 2) zs → W.cell? ⟨c, 0, none⟩ = some (.int .i64 key) → Calls Tryd.prog 73 #[.slice a n cap, .func (Fn.func 74) #[] #[.pointer (some ⟨c, 0, none⟩)]] W fun e w' => e = .returned (.int .i64 (fIdx (fun i => geK key (keyAt zs i)) n)) ∧ Below W.heap.size W w') := fun W c h hc => find47_any a n cap zs key c W h hn hc
  have hle := fIdx_le (fun i => geK key (keyAt zs i)) n
  obtain ⟨i, hi⟩ : ∃ i, fIdx (fun i => geK key (keyAt zs i)) n = i := ⟨_, rfl⟩
  have e1 : Hid (nextC zs n key = if i = n then 1 else 2) := by show _ = _; unfold nextC; rw [hi]
  have e2 : Hid (nextV zs n key = if i = n then 0 else keyAt zs i) := by show _ = _; unfold nextV; rw [hi]
  rw [hi] at key46 hle
  clear hi
  by_cases hin : i = n
  · subst hin
    rw [if_pos rfl] at e1 e2
    rw [e1.out, e2.out]
    go_enter Tryd.func29, Tryd.ntmps29
    go_wp2_with fail
    refine (key46.out _ _ (hs.below (hb0 _ _ _)) hck).mono ?_
    rintro e w1 ⟨rfl, hb1⟩
    have hb2 := below_trans' (hb0 _ _ _) hb1
    have d0 := cell_kept hb1 (cell_at ((w.alloc _).alloc _) #[.int .i64 0, .int .i64 0] 37 0 (b := w.heap.size + 1 + 1) (by simp) rfl)
    have d1 := cell_kept hb1 (cell_at ((w.alloc _).alloc _) #[.int .i64 0, .int .i64 0] 37 1 (b := w.heap.size + 1 + 1) (by simp) rfl)
    have f0 := hb1.frozen (p := ⟨w.heap.size + 1 + 1, 0, none⟩) (by simp)
    rw [frozen_at ((w.alloc _).alloc _) _ _ 0 (by simp)] at f0
    have f1 := hb1.frozen (p := ⟨w.heap.size + 1 + 1, 1, none⟩) (by simp)
    rw [frozen_at ((w.alloc _).alloc _) _ _ 1 (by simp)] at f1
    clear hb1 hb0 al hck key46 hs
    go_wp2
    exact bodyPost_ret (v := .agg #[.int .i64 1, .int .i64 0]) (by simp [results, Tryd.results29, go_sem, d0, d1]) rfl ⟨rfl, (hb2.setCell (by show w.heap.size ≤ w.heap.size + 1 + 1; omega) _).setCell (by show w.heap.size ≤ w.heap.size + 1 + 1; omega) _⟩
  · rw [if_neg hin] at e1 e2
    rw [e1.out, e2.out]
    have hlt : i < n := by omega
    have hne : ((i : Int) == (n : Int)) = false := by simp; omega
    obtain ⟨b, off, rfl⟩ := hs.addr (by omega)
    obtain ⟨x, hx⟩ : ∃ x, keyAt zs i = x := ⟨_, rfl⟩
    rw [hx]
    go_enter Tryd.func29, Tryd.ntmps29
    go_wp2_with fail
    refine (key46.out _ _ (hs.below (hb0 _ _ _)) hck).mono ?_
    rintro e w1 ⟨rfl, hb1⟩
    have hb2 := below_trans' (hb0 _ _ _) hb1
    have h1 := (hs.below hb2).keyCell hlt
    rw [hx] at h1
    have d0 := cell_kept hb1 (cell_at ((w.alloc _).alloc _) #[.int .i64 0, .int .i64 0] 37 0 (b := w.heap.size + 1 + 1) (by simp) rfl)
    have d1 := cell_kept hb1 (cell_at ((w.alloc _).alloc _) #[.int .i64 0, .int .i64 0] 37 1 (b := w.heap.size + 1 + 1) (by simp) rfl)
    have f0 := hb1.frozen (p := ⟨w.heap.size + 1 + 1, 0, none⟩) (by simp)
    rw [frozen_at ((w.alloc _).alloc _) _ _ 0 (by simp)] at f0
    have f1 := hb1.frozen (p := ⟨w.heap.size + 1 + 1, 1, none⟩) (by simp)
    rw [frozen_at ((w.alloc _).alloc _) _ _ 1 (by simp)] at f1
    clear hb1 hb0 al hck key46 hs hx hin
    go_wp2
    exact bodyPost_ret (v := .agg #[.int .i64 2, .int .i64 x]) (by simp [results, Tryd.results29, go_sem, d0, d1]) rfl ⟨rfl, (hb2.setCell (by show w.heap.size ≤ w.heap.size + 1 + 1; omega) _).setCell (by show w.heap.size ≤ w.heap.size + 1 + 1; omega) _⟩

end Go.Proofs.YtklpdpdjblakgaaDoor

/- MapOk -/
namespace Go.Proofs.YtklpdpdjblakgaaDoor
open Go.RowKit
set_option linter.unusedVariables false

/-- The i-th entry is in bounds; it stands behind the one ahead of it. -/
def entIn (zs : List Int) (i : Nat) : Bool := inB (keyAt zs i) 99 && inB (valAt zs i) 999
def entUp (zs : List Int) (i : Nat) : Bool := decide (i = 0) || decide (keyAt zs (i - 1) < keyAt zs i)
/-- The entries are ok. -/
def okM (zs : List Int) (n : Nat) : Bool := decide (n ≤ 8) && ((List.range n).all (entIn zs) && (List.range n).all (entUp zs))

theorem okM_long {zs : List Int} {n : Nat} (h : 8 < n) : okM zs n = false := by simp [okM]; omega
theorem okM_in {zs : List Int} {n k : Nat} (hk : k < n) (h : entIn zs k = false) : okM zs n = false := by
  have : (List.range n).all (entIn zs) = false := by
    rw [List.all_eq_false]
    exact ⟨k, List.mem_range.2 hk, by simp [h]⟩
  simp [okM, this]
theorem okM_up {zs : List Int} {n k : Nat} (hk : k < n) (h : entUp zs k = false) : okM zs n = false := by
  have : (List.range n).all (entUp zs) = false := by
    rw [List.all_eq_false]
    exact ⟨k, List.mem_range.2 hk, by simp [h]⟩
  simp [okM, this]
theorem okM_yes {zs : List Int} {n : Nat} (h8 : n ≤ 8) (h1 : ∀ i, i < n → entIn zs i = true) (h2 : ∀ i, i < n → entUp zs i = true) : okM zs n = true := by
  have e1 : (List.range n).all (entIn zs) = true := by rw [List.all_eq_true]; intro i hi; exact h1 i (List.mem_range.1 hi)
  have e2 : (List.range n).all (entUp zs) = true := by rw [List.all_eq_true]; intro i hi; exact h2 i (List.mem_range.1 hi)
  simp [okM, h8, e1, e2]
theorem okM_parts {zs : List Int} {n : Nat} (h : okM zs n = true) : n ≤ 8 ∧ (∀ i, i < n → entIn zs i = true) ∧ (∀ i, i < n → entUp zs i = true) := by
  simp only [okM, Bool.and_eq_true, decide_eq_true_eq, List.all_eq_true, List.mem_range] at h
  exact ⟨h.1, h.2.1, h.2.2⟩

theorem l1In_as {x hi : Int} {b : Bool} (h : inB x hi = b) (w : World) : Calls Tryd.prog 63 #[.int .i64 x, .int .i64 0, .int .i64 hi] w fun e w' => e = .returned (.bool b) ∧ w' = w := by
  subst h; exact l1In_any x hi w

set_option maxHeartbeats 1000000 in
theorem specMapOk_any (a : Option Addr) (n cap : Nat) (zs : List Int) (w : World) (hs : SInts w a (n * 2) zs) (hn : n ≤ 9223372036854775807) :
    Calls Tryd.prog 19 #[.agg #[.slice a n cap]] w fun e w' => e = .returned (.bool (okM zs n)) ∧ Below w.heap.size w w' := by
  have hb0 : ∀ o, Below w.heap.size w (w.alloc o) := fun o => (Below.refl _ _).alloc (Nat.le_refl _) o
  by_cases h8 : 8 < n
  · have hko := okM_long (zs := zs) h8
    have h8' : (8 : Int) < (n : Int) := by omega
    clear hs
    rw [hko]
    go_enter Tryd.func19, Tryd.ntmps19
    go_wp2
    go_ret
    exact ⟨rfl, hb0 _⟩
  · have h8' : ¬ (8 : Int) < (n : Int) := by omega
    go_enter Tryd.func19, Tryd.ntmps19
    go_wp2
    go_loopw [3] (fun i wr => ∃ k : Nat, k ≤ n ∧ i = .int .i64 k ∧ (∀ j, j < k → entIn zs j = true) ∧ (∀ j, j < k → entUp zs j = true) ∧ wr.cell? ⟨w.heap.size, 0, none⟩ = some (.slice a n cap) ∧ Below w.heap.size w wr) (fun i _ => n - (intOf i).toNat)
    case atStart => exact ⟨0, Nat.zero_le _, rfl, fun j hj => by omega, fun j hj => by omega, by simp, hb0 _⟩
    case round =>
      obtain ⟨k, hk, rfl, hall1, hall2, hbox, hbel⟩ := hrel
      have H1 : Hid (∀ j, j < k → entIn zs j = true) := hall1
      have H2 : Hid (∀ j, j < k → entUp zs j = true) := hall2
      clear hall1 hall2
      by_cases hlt : k < n
      · obtain ⟨b, off, rfl⟩ := hs.addr (by omega)
        obtain ⟨x, hx⟩ : ∃ x, keyAt zs k = x := ⟨_, rfl⟩
        obtain ⟨y, hy⟩ : ∃ y, valAt zs k = y := ⟨_, rfl⟩
        have h1 : wr.cell? ⟨b, off + k * 2, none⟩ = some (.int .i64 x) := by rw [← hx]; exact (hs.below hbel).keyCell hlt
        have h2 : wr.cell? ⟨b, off + k * 2 + 1, none⟩ = some (.int .i64 y) := by rw [← hy]; exact (hs.below hbel).valCell hlt
        have al : Below wr.heap.size wr (wr.alloc (.cells #[.int .i64 x, .int .i64 y] 84)) := (Below.refl _ _).alloc (Nat.le_refl _) _
        have hbox' := cell_kept al hbox
        have hbel' := below_trans' hbel al
        have HI : Hid (entIn zs k = (inB x 99 && inB y 999)) := by show _ = _; unfold entIn; rw [hx, hy]
        cases hi1 : inB x 99
        · have HK : Hid (okM zs n = false) := okM_in hlt (by rw [HI.out, hi1]; rfl)
          clear hx hy hs
          go_wp2
          go_quiet ((go_at_call 63; exact Calls.quiet_of_same (l1In_as hi1 _)))
          go_wp2
          go_ret
          exact ⟨ret_bool HK.out.symm, below_drewN hbel' _⟩
        · cases hi2 : inB y 999
          · have HK : Hid (okM zs n = false) := okM_in hlt (by rw [HI.out, hi1, hi2]; rfl)
            clear hx hy hs
            go_wp2
            go_quiet ((first | (go_at_call_of 63 (Value.int IntKind.i64 99); exact Calls.quiet_of_same (l1In_as hi1 _)) | (go_at_call_of 63 (Value.int IntKind.i64 999); exact Calls.quiet_of_same (l1In_as hi2 _))))
            go_wp2
            go_ret
            exact ⟨ret_bool HK.out.symm, below_drewN hbel' _⟩
          · have HIy : Hid (entIn zs k = true) := by show _ = _; rw [HI.out, hi1, hi2]; rfl
            by_cases hk0 : k = 0
            · subst hk0
              have HU : Hid (entUp zs 0 = true) := by show _ = _; simp [entUp]
              simp only [Nat.zero_mul, Nat.add_zero, Int.natCast_zero] at h1 h2 ⊢
              clear hx hy hs
              go_wp2
              go_quiet ((first | (go_at_call_of 63 (Value.int IntKind.i64 99); exact Calls.quiet_of_same (l1In_as hi1 _)) | (go_at_call_of 63 (Value.int IntKind.i64 999); exact Calls.quiet_of_same (l1In_as hi2 _))))
              have hb2 := below_drewN hbel' nq
              go_wp2
              go_roundw
              case rel => exact ⟨1, by omega, by go_num, fun j hj => by obtain rfl : j = 0 := by omega
                                                                        exact HIy.out, fun j hj => by obtain rfl : j = 0 := by omega
                                                                                                      exact HU.out, hbox', hb2⟩
              case measure => simp [intOf]; omega
            · obtain ⟨z, hz⟩ : ∃ z, keyAt zs (k - 1) = z := ⟨_, rfl⟩
              have h3 : wr.cell? ⟨b, off + (k - 1) * 2, none⟩ = some (.int .i64 z) := by rw [← hz]; exact (hs.below hbel).keyCell (by omega)
              have h3' := cell_kept al h3
              have hkp : (0 : Int) < (k : Int) := by omega
              have hk1 : 0 < k := by omega
              have HU0 : Hid (entUp zs k = decide (z < x)) := by show _ = _; unfold entUp; rw [hx, hz]; simp [hk0]
              clear hx hy hs hz
              by_cases hup : z < x
              · have HU : Hid (entUp zs k = true) := by show _ = _; rw [HU0.out]; simp [hup]
                go_wp2
                go_quiet ((first | (go_at_call_of 63 (Value.int IntKind.i64 99); exact Calls.quiet_of_same (l1In_as hi1 _)) | (go_at_call_of 63 (Value.int IntKind.i64 999); exact Calls.quiet_of_same (l1In_as hi2 _))))
                have hb2 := below_drewN hbel' nq
                go_wp2
                go_roundw
                case rel => exact ⟨k + 1, by omega, by go_num, fun j hj => by
                  by_cases e : j = k
                  · subst e; exact HIy.out
                  · exact H1.out j (by omega), fun j hj => by
                  by_cases e : j = k
                  · subst e; exact HU.out
                  · exact H2.out j (by omega), hbox', hb2⟩
                case measure => simp [intOf]; omega
              · have HK : Hid (okM zs n = false) := okM_up hlt (by rw [HU0.out]; simp; omega)
                go_wp2
                go_quiet ((first | (go_at_call_of 63 (Value.int IntKind.i64 99); exact Calls.quiet_of_same (l1In_as hi1 _)) | (go_at_call_of 63 (Value.int IntKind.i64 999); exact Calls.quiet_of_same (l1In_as hi2 _))))
                go_wp2
                go_ret
                exact ⟨ret_bool HK.out.symm, below_drewN hbel' _⟩
      · obtain rfl : k = n := by omega
        have HK : Hid (okM zs k = true) := okM_yes (by omega) H1.out H2.out
        clear hs
        go_wp2
        go_ret
        exact ⟨ret_bool HK.out.symm, hbel⟩

/-- The keys rise. -/
def upM (zs : List Int) (n : Nat) : Bool := (List.range n).all (entUp zs)
theorem upM_no {zs : List Int} {n k : Nat} (hk : k < n) (h : entUp zs k = false) : upM zs n = false := by
  unfold upM
  rw [List.all_eq_false]
  exact ⟨k, List.mem_range.2 hk, by simp [h]⟩
theorem upM_yes {zs : List Int} {n : Nat} (h : ∀ i, i < n → entUp zs i = true) : upM zs n = true := by
  unfold upM
  rw [List.all_eq_true]; intro i hi; exact h i (List.mem_range.1 hi)
theorem upM_parts {zs : List Int} {n : Nat} (h : upM zs n = true) : ∀ i, i < n → entUp zs i = true := by
  unfold upM at h
  rw [List.all_eq_true] at h
  exact fun i hi => h i (List.mem_range.2 hi)

set_option maxHeartbeats 1000000 in
theorem keysRise_any (a : Option Addr) (n cap : Nat) (zs : List Int) (w : World) (hs : SInts w a (n * 2) zs) (hn : n ≤ 1048576) :
    Calls Tryd.prog 84 #[.slice a n cap] w fun e w' => e = .returned (.bool (upM zs n)) ∧ Below w.heap.size w w' := by
  go_enter Tryd.func84, Tryd.ntmps84
  go_wp2
  go_loopw [3] (fun i wr => ∃ k : Nat, 1 ≤ k ∧ k ≤ n + 1 ∧ i = .int .i64 k ∧ (∀ j, j < k → j < n → entUp zs j = true) ∧ Below w.heap.size w wr) (fun i _ => n + 1 - (intOf i).toNat)
  case atStart => exact ⟨1, by omega, by omega, rfl, fun j hj _ => by obtain rfl : j = 0 := by omega
                                                                      simp [entUp], Below.refl _ _⟩
  case round =>
    obtain ⟨k, hk1, hk, rfl, hall, hbel⟩ := hrel
    have H2 : Hid (∀ j, j < k → j < n → entUp zs j = true) := hall
    clear hall
    by_cases hlt : k < n
    · obtain ⟨b, off, rfl⟩ := hs.addr (by omega)
      obtain ⟨x, hx⟩ : ∃ x, keyAt zs k = x := ⟨_, rfl⟩
      obtain ⟨z, hz⟩ : ∃ z, keyAt zs (k - 1) = z := ⟨_, rfl⟩
      have h1 : wr.cell? ⟨b, off + k * 2, none⟩ = some (.int .i64 x) := by rw [← hx]; exact (hs.below hbel).keyCell hlt
      have h3 : wr.cell? ⟨b, off + (k - 1) * 2, none⟩ = some (.int .i64 z) := by rw [← hz]; exact (hs.below hbel).keyCell (by omega)
      have HU0 : Hid (entUp zs k = decide (z < x)) := by show _ = _; unfold entUp; rw [hx, hz]; simp; omega
      have hkm : k - 1 < n := by omega
      clear hx hz hs
      by_cases hup : z < x
      · have HU : Hid (entUp zs k = true) := by show _ = _; rw [HU0.out]; simp [hup]
        go_wp2
        go_quiet (fail)
        have hb2 := below_drewN hbel nq
        go_wp2
        go_roundw
        case rel => exact ⟨k + 1, by omega, by omega, by go_num, fun j hj hjn => by
          by_cases e : j = k
          · subst e; exact HU.out
          · exact H2.out j (by omega) hjn, hb2⟩
        case measure => simp [intOf]; omega
      · have HK : Hid (upM zs n = false) := upM_no hlt (by rw [HU0.out]; simp; omega)
        go_wp2
        go_quiet (fail)
        go_wp2
        go_ret
        exact ⟨ret_bool HK.out.symm, below_drewN hbel _⟩
    · have HK : Hid (upM zs n = true) := upM_yes (fun i hi => H2.out i (by omega) hi)
      clear hs
      go_wp2
      go_ret
      exact ⟨ret_bool HK.out.symm, hbel⟩

theorem within_as {x hi : Int} {b : Bool} (h : inB x hi = b) (w : World) : Calls Tryd.prog 66 #[.int .i64 x, .int .i64 hi] w fun e w' => e = .returned (.bool b) ∧ w' = w := by
  subst h; exact within_any x hi w

set_option maxHeartbeats 1000000 in
theorem implMapOk_any (a : Option Addr) (n cap : Nat) (zs : List Int) (w : World) (hs : SInts w a (n * 2) zs) (hn : n ≤ 9223372036854775807) :
    Calls Tryd.prog 64 #[.agg #[.slice a n cap]] w fun e w' => e = .returned (.bool (okM zs n)) ∧ Below w.heap.size w w' := by
  have hb0 : ∀ o, Below w.heap.size w (w.alloc o) := fun o => (Below.refl _ _).alloc (Nat.le_refl _) o
  by_cases h8 : 8 < n
  · have hko := okM_long (zs := zs) h8
    have h8' : (8 : Int) < (n : Int) := by omega
    clear hs
    rw [hko]
    go_enter Tryd.func64, Tryd.ntmps64
    go_wp2
    go_ret
    exact ⟨rfl, hb0 _⟩
  · have h8' : ¬ (8 : Int) < (n : Int) := by omega
    go_enter Tryd.func64, Tryd.ntmps64
    go_wp2
    go_loopw [12] (fun i wr => ∃ k : Nat, k ≤ n ∧ i = .int .i64 k ∧ (∀ j, j < k → entIn zs j = true) ∧ wr.cell? ⟨w.heap.size, 0, none⟩ = some (.slice a n cap) ∧ Below w.heap.size w wr) (fun i _ => n - (intOf i).toNat)
    case atStart => exact ⟨0, Nat.zero_le _, rfl, fun j hj => by omega, by simp, hb0 _⟩
    case round =>
      obtain ⟨k, hk, rfl, hall1, hbox, hbel⟩ := hrel
      have H1 : Hid (∀ j, j < k → entIn zs j = true) := hall1
      clear hall1
      by_cases hlt : k < n
      · obtain ⟨b, off, rfl⟩ := hs.addr (by omega)
        obtain ⟨x, hx⟩ : ∃ x, keyAt zs k = x := ⟨_, rfl⟩
        obtain ⟨y, hy⟩ : ∃ y, valAt zs k = y := ⟨_, rfl⟩
        have h1 : wr.cell? ⟨b, off + k * 2, none⟩ = some (.int .i64 x) := by rw [← hx]; exact (hs.below hbel).keyCell hlt
        have h2 : wr.cell? ⟨b, off + k * 2 + 1, none⟩ = some (.int .i64 y) := by rw [← hy]; exact (hs.below hbel).valCell hlt
        have al : Below wr.heap.size wr (wr.alloc (.cells #[.int .i64 x, .int .i64 y] 84)) := (Below.refl _ _).alloc (Nat.le_refl _) _
        have hbox' := cell_kept al hbox
        have hbel' := below_trans' hbel al
        have HI : Hid (entIn zs k = (inB x 99 && inB y 999)) := by show _ = _; unfold entIn; rw [hx, hy]
        cases hi1 : inB x 99
        · have HK : Hid (okM zs n = false) := okM_in hlt (by rw [HI.out, hi1]; rfl)
          clear hx hy hs
          go_wp2_with (go_at_call 66; refine (within_as hi1 _).mono ?_; rintro e w' ⟨rfl, rfl⟩)
          go_ret
          exact ⟨ret_bool HK.out.symm, hbel'⟩
        · cases hi2 : inB y 999
          · have HK : Hid (okM zs n = false) := okM_in hlt (by rw [HI.out, hi1, hi2]; rfl)
            clear hx hy hs
            go_wp2_with fail
            refine (within_as hi1 _).mono ?_
            rintro e w' ⟨rfl, rfl⟩
            go_wp2_with fail
            refine (within_as hi2 _).mono ?_
            rintro e w' ⟨rfl, rfl⟩
            go_wp2
            go_ret
            exact ⟨ret_bool HK.out.symm, hbel'⟩
          · have HIy : Hid (entIn zs k = true) := by show _ = _; rw [HI.out, hi1, hi2]; rfl
            clear hx hy hs
            go_wp2_with fail
            refine (within_as hi1 _).mono ?_
            rintro e w' ⟨rfl, rfl⟩
            go_wp2_with fail
            refine (within_as hi2 _).mono ?_
            rintro e w' ⟨rfl, rfl⟩
            go_wp2
            go_roundw
            case rel => exact ⟨k + 1, by omega, by go_num, fun j hj => by
              by_cases e : j = k
              · subst e; exact HIy.out
              · exact H1.out j (by omega), hbox', hbel'⟩
            case measure => simp [intOf]; omega
      · obtain rfl : k = n := by omega
        have HK : Hid (okM zs k = upM zs k) := by
          show _ = _
          have e1 : (List.range k).all (entIn zs) = true := by rw [List.all_eq_true]; intro i hi; exact H1.out i (List.mem_range.1 hi)
          simp [okM, upM, e1]
          omega
        go_wp2_with fail
        refine (keysRise_any _ _ _ zs _ (hs.below hbel) (by omega)).mono ?_
        rintro e w1 ⟨rfl, hb1⟩
        have hb2 := below_trans' hbel hb1
        clear hb1 hs
        go_wp2
        go_ret
        exact ⟨ret_bool HK.out.symm, hb2⟩

end Go.Proofs.YtklpdpdjblakgaaDoor

/- Entry -/
namespace Go.Proofs.YtklpdpdjblakgaaDoor
open Go.RowKit
set_option linter.unusedVariables false

/-- Where keys rise a later one is greater. -/
theorem up_lt {zs : List Int} {n : Nat} (h : ∀ i, i < n → entUp zs i = true) : ∀ j i, i < j → j < n → keyAt zs i < keyAt zs j := by
  intro j
  induction j with
  | zero => intro i hi; omega
  | succ j ih =>
    intro i hij hjn
    have h1 := h (j + 1) hjn
    simp [entUp] at h1
    by_cases e : i = j
    · subst e; exact h1
    · have := ih i (by omega) (by omega)
      omega

set_option maxHeartbeats 400000 in
theorem clo51_any (key k v : Int) (c : Nat) (w : World) (hc : w.cell? ⟨c, 0, none⟩ = some (.int .i64 key)) :
    Calls Tryd.prog 86 #[.agg #[.int .i64 k, .int .i64 v], .pointer (some ⟨c, 0, none⟩)] w fun e w' => e = .returned (.bool (geK key k)) ∧ Below w.heap.size w w' := by
  have hb0 : ∀ o, Below w.heap.size w (w.alloc o) := fun o => (Below.refl _ _).alloc (Nat.le_refl _) o
  have hc' := cell_kept (hb0 (.cells #[.int .i64 k, .int .i64 v] 84)) hc
  by_cases h : key ≤ k
  · rw [geK_yes h]
    go_enter Tryd.func86, Tryd.ntmps86
    go_wp2
    go_ret
    exact ⟨rfl, hb0 _⟩
  · rw [geK_no (by omega)]
    go_enter Tryd.func86, Tryd.ntmps86
    go_wp2
    go_ret
    exact ⟨rfl, hb0 _⟩

set_option maxHeartbeats 400000 in
theorem clo52_any (key k v : Int) (c : Nat) (w : World) (hc : w.cell? ⟨c, 0, none⟩ = some (.int .i64 key)) :
    Calls Tryd.prog 87 #[.agg #[.int .i64 k, .int .i64 v], .pointer (some ⟨c, 0, none⟩)] w fun e w' => e = .returned (.bool (eqK key k)) ∧ Below w.heap.size w w' := by
  have hb0 : ∀ o, Below w.heap.size w (w.alloc o) := fun o => (Below.refl _ _).alloc (Nat.le_refl _) o
  have hc' := cell_kept (hb0 (.cells #[.int .i64 k, .int .i64 v] 84)) hc
  cases h : (k == key)
  · rw [eqK_no h]
    go_enter Tryd.func87, Tryd.ntmps87
    go_wp2
    go_ret
    exact ⟨rfl, hb0 _⟩
  · rw [eqK_yes h]
    go_enter Tryd.func87, Tryd.ntmps87
    go_wp2
    go_ret
    exact ⟨rfl, hb0 _⟩

set_option maxHeartbeats 400000 in
theorem find52_any (a : Option Addr) (n cap : Nat) (zs : List Int) (key : Int) (c : Nat) (w : World) (hs : SInts w a (n * 2) zs) (hn : n ≤ 1048576) (hc : w.cell? ⟨c, 0, none⟩ = some (.int .i64 key)) :
    Calls Tryd.prog 73 #[.slice a n cap, .func (Fn.func 87) #[] #[.pointer (some ⟨c, 0, none⟩)]] w fun e w' => e = .returned (.int .i64 (fIdx (fun i => eqK key (keyAt zs i)) n)) ∧ Below w.heap.size w w' := by
  go_enter Tryd.func73, Tryd.ntmps73
  go_wp2
  go_loopw [9] (fun i wr => ∃ k : Nat, k ≤ n ∧ i = .int .i64 k ∧ (∀ j, j < k → eqK key (keyAt zs j) = false) ∧ Below w.heap.size w wr) (fun i _ => n - (intOf i).toNat)
  case atStart => exact ⟨0, Nat.zero_le _, rfl, fun j hj => by omega, Below.refl _ _⟩
  case round =>
    obtain ⟨k, hk, rfl, hlow0, hbel⟩ := hrel
    have hlow : Hid (∀ j, j < k → eqK key (keyAt zs j) = false) := hlow0
    clear hlow0
    by_cases hlt : k < n
    · obtain ⟨b, off, rfl⟩ := hs.addr (by omega)
      obtain ⟨x, hx⟩ : ∃ x, keyAt zs k = x := ⟨_, rfl⟩
      obtain ⟨y, hy⟩ : ∃ y, valAt zs k = y := ⟨_, rfl⟩
      have h1 : wr.cell? ⟨b, off + k * 2, none⟩ = some (.int .i64 x) := by rw [← hx]; exact (hs.below hbel).keyCell hlt
      have h2 : wr.cell? ⟨b, off + k * 2 + 1, none⟩ = some (.int .i64 y) := by rw [← hy]; exact (hs.below hbel).valCell hlt
      have HX : Hid (keyAt zs k = x) := hx
      have al : Below w.heap.size w (wr.alloc (.cells #[.int .i64 x, .int .i64 y] 84)) := hbel.alloc hbel.size _
      have hcc := cell_kept al hc
      clear hx hy hs
      cases hp : eqK key x
      · go_wp2_with fail
        refine (clo52_any key _ _ _ _ hcc).mono ?_
        rintro e w1 ⟨rfl, hb1⟩
        have hb2 := al.trans (hb1.mono al.size)
        clear hb1 al hbel h1 h2 hcc
        go_wp2
        go_roundw
        case rel => exact ⟨k + 1, by omega, by go_num, fun j hj => by
          by_cases e : j = k
          · subst e; rw [HX.out]; exact hp
          · exact hlow.out j (by omega), hb2⟩
        case measure => simp [intOf]; omega
      · have HF : Hid (fIdx (fun i => eqK key (keyAt zs i)) n = k) := fIdx_eq hk hlow.out (.inr (by show eqK key (keyAt zs k) = true; rw [HX.out]; exact hp))
        go_wp2_with fail
        refine (clo52_any key _ _ _ _ hcc).mono ?_
        rintro e w1 ⟨rfl, hb1⟩
        have hb2 := al.trans (hb1.mono al.size)
        clear hb1 al hbel h1 h2 hcc
        go_wp2
        go_ret
        exact ⟨ret_int (by rw [HF.out]), hb2⟩
    · obtain rfl : k = n := by omega
      have HF : Hid (fIdx (fun i => eqK key (keyAt zs i)) k = k) := fIdx_eq hk hlow.out (.inl rfl)
      clear hs
      go_wp2
      go_ret
      exact ⟨ret_int (by rw [HF.out]), hbel⟩

set_option maxHeartbeats 1000000 in
theorem halves51_any (a : Option Addr) (n cap : Nat) (zs : List Int) (key : Int) (c : Nat) (w : World) (hs : SInts w a (n * 2) zs) (hn : n ≤ 1048576) (hup : upM zs n = true) (hc : w.cell? ⟨c, 0, none⟩ = some (.int .i64 key)) :
    Calls Tryd.prog 85 #[.slice a n cap, .func (Fn.func 86) #[] #[.pointer (some ⟨c, 0, none⟩)]] w fun e w' => e = .returned (.int .i64 (fIdx (fun i => geK key (keyAt zs i)) n)) ∧ Below w.heap.size w w' := by
  have HUP : Hid (∀ j i, i < j → j < n → keyAt zs i < keyAt zs j) := up_lt (upM_parts hup)
  clear hup
  go_enter Tryd.func85, Tryd.ntmps85
  go_wp2
  go_loopw [5, 6] (fun sf st wr => ∃ f t : Nat, f ≤ t ∧ t ≤ n ∧ sf = .int .i64 f ∧ st = .int .i64 t ∧ (∀ j, j < f → geK key (keyAt zs j) = false) ∧ (∀ j, t ≤ j → j < n → geK key (keyAt zs j) = true) ∧ Below w.heap.size w wr)
    (fun sf st _ => (intOf st).toNat - (intOf sf).toNat)
  case atStart => exact ⟨0, n, Nat.zero_le _, Nat.le_refl _, rfl, rfl, fun j hj => by omega, fun j hj hjn => by omega, Below.refl _ _⟩
  case round =>
    obtain ⟨f, t, hft, htn, rfl, rfl, hlow0, hhigh0, hbel⟩ := hrel
    have hlow : Hid (∀ j, j < f → geK key (keyAt zs j) = false) := hlow0
    have hhigh : Hid (∀ j, t ≤ j → j < n → geK key (keyAt zs j) = true) := hhigh0
    clear hlow0 hhigh0
    by_cases hlt : f < t
    · obtain ⟨b, off, rfl⟩ := hs.addr (by omega)
      obtain ⟨x, hx⟩ : ∃ x, keyAt zs (f + (t - f) / 2) = x := ⟨_, rfl⟩
      obtain ⟨y, hy⟩ : ∃ y, valAt zs (f + (t - f) / 2) = y := ⟨_, rfl⟩
      have h1 : wr.cell? ⟨b, off + (f + (t - f) / 2) * 2, none⟩ = some (.int .i64 x) := by rw [← hx]; exact (hs.below hbel).keyCell (by omega)
      have h2 : wr.cell? ⟨b, off + (f + (t - f) / 2) * 2 + 1, none⟩ = some (.int .i64 y) := by rw [← hy]; exact (hs.below hbel).valCell (by omega)
      have HX : Hid (keyAt zs (f + (t - f) / 2) = x) := hx
      have hcc := cell_kept hbel hc
      clear hx hy hs
      cases hp : geK key x
      · go_wp2_with fail
        refine (clo51_any key _ _ _ _ hcc).mono ?_
        rintro e w1 ⟨rfl, hb1⟩
        have hb2 := below_trans' hbel hb1
        clear hb1 hbel h1 h2 hcc
        go_wp2
        go_roundw
        case rel => exact ⟨f + (t - f) / 2 + 1, t, by omega, htn, by go_num, rfl, fun j hj => by
          have hxk : x < key := by simpa [geK] using hp
          by_cases e : j = f + (t - f) / 2
          · subst e; rw [HX.out]; exact hp
          · have := HUP.out (f + (t - f) / 2) j (by omega) (by omega)
            rw [HX.out] at this
            exact geK_no (by omega), hhigh.out, hb2⟩
        case measure => simp [intOf]; omega
      · go_wp2_with fail
        refine (clo51_any key _ _ _ _ hcc).mono ?_
        rintro e w1 ⟨rfl, hb1⟩
        have hb2 := below_trans' hbel hb1
        clear hb1 hbel h1 h2 hcc
        go_wp2
        go_roundw
        case rel => exact ⟨f, f + (t - f) / 2, by omega, by omega, rfl, by go_num, hlow.out, fun j hj hjn => by
          have hxk : key ≤ x := by simpa [geK] using hp
          by_cases e : j = f + (t - f) / 2
          · subst e; rw [HX.out]; exact hp
          · have := HUP.out j (f + (t - f) / 2) (by omega) hjn
            rw [HX.out] at this
            exact geK_yes (by omega), hb2⟩
        case measure => simp [intOf]; omega
    · obtain rfl : f = t := by omega
      have HF : Hid (fIdx (fun i => geK key (keyAt zs i)) n = f) := fIdx_eq htn hlow.out (by
        by_cases e : f = n
        · exact .inl e
        · exact .inr (hhigh.out f (Nat.le_refl _) (by omega)))
      clear hs
      go_wp2
      go_ret
      exact ⟨ret_int (by rw [HF.out]), hbel⟩

/-- The place that entryOf tells, and whether the key is there. -/
def entI (zs : List Int) (n : Nat) (key : Int) : Nat := if upM zs n then fIdx (fun i => geK key (keyAt zs i)) n else fIdx (fun i => eqK key (keyAt zs i)) n
def entB (zs : List Int) (n : Nat) (key : Int) : Bool := decide (entI zs n key < n) && (keyAt zs (entI zs n key) == key)
theorem entI_le (zs : List Int) (n : Nat) (key : Int) : entI zs n key ≤ n := by
  unfold entI
  split <;> exact fIdx_le _ _

theorem ret_pair {k : IntKind} {a b : Int} {p q : Bool} (h : a = b) (h' : p = q) : Ending.returned (.tuple #[.int k a, .bool p]) = .returned (.tuple #[.int k b, .bool q]) := by rw [h, h']

set_option maxHeartbeats 1000000 in
theorem entryOf_tail (a : Option Addr) (n cap : Nat) (zs : List Int) (key : Int) (w : World) (hs : SInts w a (n * 2) zs) (hn : n ≤ 1048576) :
    Calls Tryd.prog 65 #[.slice a n cap, .int .i64 key] w fun e w' => e = .returned (.tuple #[.int .i64 (entI zs n key), .bool (entB zs n key)]) ∧ Below w.heap.size w w' := by
  have hb0 : ∀ o, Below w.heap.size w (w.alloc o) := fun o => (Below.refl _ _).alloc (Nat.le_refl _) o
  have hk0 : (w.alloc (.cells #[.int .i64 key] 3)).cell? ⟨w.heap.size, 0, none⟩ = some (.int .i64 key) := by simp
  obtain ⟨i, hi⟩ : ∃ i, entI zs n key = i := ⟨_, rfl⟩
  obtain ⟨B, hB⟩ : ∃ B, entB zs n key = B := ⟨_, rfl⟩
  have hile : i ≤ n := by rw [← hi]; exact entI_le zs n key
  have HB : Hid ((decide (i < n) && (keyAt zs i == key)) = B) := by show _ = _; rw [← hB]; unfold entB; rw [hi]
  rw [hi, hB]
  have HI : Hid (entI zs n key = i) := hi
  clear hi hB
  have fin : Hid (∀ w1, Below w.heap.size w w1 → SInts w1 a (n * 2) zs) := fun w1 h => hs.below h
  cases hup : upM zs n
  · have HF : Hid (fIdx (fun i => eqK key (keyAt zs i)) n = i) := by
      show _ = _
      rw [← HI.out]
      simp [entI, hup]
    go_enter Tryd.func65, Tryd.ntmps65
    go_wp2_with fail
    refine (keysRise_any _ _ _ zs _ (hs.below (hb0 _)) hn).mono ?_
    rintro e w1 ⟨rfl, hb1⟩
    have hA1 := below_trans' (hb0 _) hb1
    have k1 := cell_kept hb1 hk0
    clear hk0 hb1
    rw [hup]
    go_wp2_with fail
    refine (find52_any _ _ _ zs key _ _ (hs.below hA1) hn k1).mono ?_
    rintro e w2 ⟨rfl, hb2⟩
    rw [HF.out]
    have hA2 := below_trans' hA1 hb2
    have k2 := cell_kept hb2 k1
    clear k1 hb2 hA1
    by_cases hlt : i < n
    · have hlt' : (i : Int) < (n : Int) := by omega
      obtain ⟨b, off, rfl⟩ := hs.addr (by omega)
      obtain ⟨x, hx⟩ : ∃ x, keyAt zs i = x := ⟨_, rfl⟩
      have h1 := (hs.below hA2).keyCell hlt
      rw [hx] at h1
      have HB2 : Hid ((x == key) = B) := by show _ = _; rw [← HB.out, hx]; simp [hlt]
      clear hx hs hb0 fin
      go_wp2
      go_quiet (fail)
      go_wp2
      go_ret2
      exact ⟨ret_pair rfl HB2.out, below_drewN hA2 _⟩
    · have hlt' : decide ((i : Int) < (n : Int)) = false := by simp; omega
      have HB2 : Hid (false = B) := by show _ = _; rw [← HB.out]; simp [hlt]
      clear hs hb0 fin
      go_wp2
      go_quiet (fail)
      go_wp2
      go_ret2
      exact ⟨ret_pair rfl HB2.out, below_drewN hA2 _⟩
  · have HF : Hid (fIdx (fun i => geK key (keyAt zs i)) n = i) := by
      show _ = _
      rw [← HI.out]
      simp [entI, hup]
    go_enter Tryd.func65, Tryd.ntmps65
    go_wp2_with fail
    refine (keysRise_any _ _ _ zs _ (hs.below (hb0 _)) hn).mono ?_
    rintro e w1 ⟨rfl, hb1⟩
    have hA1 := below_trans' (hb0 _) hb1
    have k1 := cell_kept hb1 hk0
    clear hk0 hb1
    rw [hup]
    go_wp2_with fail
    refine (halves51_any _ _ _ zs key _ _ (hs.below hA1) hn hup k1).mono ?_
    rintro e w2 ⟨rfl, hb2⟩
    rw [HF.out]
    have hA2 := below_trans' hA1 hb2
    have k2 := cell_kept hb2 k1
    clear k1 hb2 hA1
    by_cases hlt : i < n
    · have hlt' : (i : Int) < (n : Int) := by omega
      obtain ⟨b, off, rfl⟩ := hs.addr (by omega)
      obtain ⟨x, hx⟩ : ∃ x, keyAt zs i = x := ⟨_, rfl⟩
      have h1 := (hs.below hA2).keyCell hlt
      rw [hx] at h1
      have HB2 : Hid ((x == key) = B) := by show _ = _; rw [← HB.out, hx]; simp [hlt]
      clear hx hs hb0 fin
      go_wp2
      go_quiet (fail)
      go_wp2
      go_ret2
      exact ⟨ret_pair rfl HB2.out, below_drewN hA2 _⟩
    · have hlt' : decide ((i : Int) < (n : Int)) = false := by simp; omega
      have HB2 : Hid (false = B) := by show _ = _; rw [← HB.out]; simp [hlt]
      clear hs hb0 fin
      go_wp2
      go_quiet (fail)
      go_wp2
      go_ret2
      exact ⟨ret_pair rfl HB2.out, below_drewN hA2 _⟩

end Go.Proofs.YtklpdpdjblakgaaDoor

/- ListsE -/
namespace Go.Proofs.YtklpdpdjblakgaaDoor
open Go.RowKit
set_option linter.unusedVariables false

set_option maxRecDepth 20000 in
set_option maxHeartbeats 800000 in
theorem replacedE_some (b off n cap : Nat) (zs : List Int) (f t : Nat) (a2 : Option Addr) (m cap2 : Nat) (ys : List Int) (w : World) (hs : SInts w (some ⟨b, off, none⟩) (n * 2) zs) (hn0 : ¬ n = 0) (hys : SInts w a2 (m * 2) ys)
    (hft : f ≤ t) (htn : t ≤ n) (hnc : n ≤ cap) (hcap : cap ≤ 9223372036854775807 ∧ n ≤ 1099511627776) (hm : m ≤ 1099511627776) (hz : ¬ n - (t - f) + m = 0) :
    Calls Tryd.prog 88 #[.slice (some ⟨b, off, none⟩) n cap, .int .i64 f, .int .i64 t, .slice a2 m cap2] w fun e w' => ∃ N a' c', N = n - (t - f) + m ∧ e = .returned (.slice a' N c') ∧
      w'.ownsRow w.heap.size 84 2 (.slice a' N c') N ((zs.take (f * 2) ++ ys ++ zs.drop (t * 2)).map (Value.int .i64)) ∧ Below w.heap.size w w' := by
  obtain ⟨i0, hi, hz0, hz1, hz2⟩ := info_parts Tryd.info84
  have hz' : ((n : Int) - (t - f) + m == 0) = false := by simp; omega
  have hzl := hs.1
  have hyl := hys.1
  go_enter Tryd.func88, Tryd.ntmps88
  go_wp2_with (at_make; refine wpList_make_own _ rfl _ _ 89 rfl w.heap.size 84 i0 (.agg #[.int .i64 0, .int .i64 0]) 2 Tryd.underlying89 hi hz0 hz1 _ _ _ (n - (t - f) + m) rfl rfl (by omega) ?b2 ?b3 (Nat.le_refl _) ?_)
  case b2 => rw [hz2]; omega
  case b3 => unfold maxLen; omega
  intro w0 hown0 hgrow0
  have hb0 : Below w.heap.size w w0 := (Below.refl _ _).grown hgrow0 (Nat.le_refl _) (fun k h => by cases h)
  have src1 : f = 0 ∨ ∃ ad, some (⟨b, off, none⟩ : Addr) = some ad ∧ ∀ j u, ((zs.take (f * 2)).map (Value.int .i64))[j]? = some u → w0.cell? (ad.add j) = some u := ((hs.below hb0).src_take (f := f * 2) (by omega)).imp (by omega) id
  have hl1 : ((zs.take (f * 2)).map (Value.int .i64)).length = f * 2 := by simp; omega
  have S1 : Hid (f = 0 ∨ ∃ ad, some (⟨b, off, none⟩ : Addr) = some ad ∧ ∀ j u, ((zs.take (f * 2)).map (Value.int .i64))[j]? = some u → w0.cell? (ad.add j) = some u) := src1
  have L1 : Hid (((zs.take (f * 2)).map (Value.int .i64)).length = f * 2) := hl1
  clear src1 hl1
  go_wp2_with (at_builtin; go_must (refine wpList_append_fits_two _ rfl (.tmp 24) (.tmp 27) 89 89 rfl w.heap.size 84 84 i0 2 Tryd.underlying89 Tryd.underlying89 hi hz1 w.heap.size 0 (n - (t - f) + m) _ rfl hown0 _ f _ ((zs.take (f * 2)).map (Value.int .i64)) rfl L1.out S1.out (ints_oneCell _ _) (by omega) ?_))
  intro w1 hown1 hgrow1
  have hb1 := hb0.grown hgrow1 hb0.size (fun k h => by cases h; exact Nat.le_refl _)
  have src2 : m = 0 ∨ ∃ ad, a2 = some ad ∧ ∀ j u, (ys.map (Value.int .i64))[j]? = some u → w1.cell? (ad.add j) = some u := by
    have := (hys.below hb1).src_take (Nat.le_refl (m * 2))
    rw [List.take_of_length_le (by omega)] at this
    exact this.imp (by omega) id
  have S2 : Hid (m = 0 ∨ ∃ ad, a2 = some ad ∧ ∀ j u, (ys.map (Value.int .i64))[j]? = some u → w1.cell? (ad.add j) = some u) := src2
  clear src2
  go_wp2_with (at_builtin; go_must (refine wpList_append_fits_two _ rfl (.tmp 29) (.tmp 30) 89 31 rfl w.heap.size 84 84 i0 2 Tryd.underlying89 Tryd.underlying31 hi hz1 w.heap.size f (n - (t - f) + m) _ rfl hown1 _ m _ (ys.map (Value.int .i64)) rfl (by simp [hyl]) S2.out (ints_oneCell _ _) (by omega) ?_))
  intro w2 hown2 hgrow2
  have hb2 := hb1.grown hgrow2 hb1.size (fun k h => by cases h; exact Nat.le_refl _)
  have S3 : Hid (∀ ao : Option Addr, (¬ cap = t → ao = some ⟨b, off + t * 2, none⟩) → (n - t = 0 ∨ ∃ ad, ao = some ad ∧ ∀ j u, ((zs.drop (t * 2)).map (Value.int .i64))[j]? = some u → w2.cell? (ad.add j) = some u)) := by
    intro ao hao
    obtain ⟨_, h0 | ⟨b', off', e, hc⟩⟩ := hs.below hb2
    · omega
    · cases e
      exact (SInts.src_drop (cap := cap * 2) (t := t * 2) hzl hc (by omega) (fun h => hao (by omega))).imp (by omega) id
  have L3 : Hid (((zs.drop (t * 2)).map (Value.int .i64)).length = (n - t) * 2) := by show _ = _; simp; omega
  go_wp2_with (at_builtin; refine wpList_append_fits_two _ rfl (.tmp 32) (.tmp 35) 89 89 rfl w.heap.size 84 84 i0 2 Tryd.underlying89 Tryd.underlying89 hi hz1 w.heap.size (f + m) (n - (t - f) + m) _ rfl hown2 _ (n - t) _ ((zs.drop (t * 2)).map (Value.int .i64)) rfl L3.out (S3.out _ (by intro h; first | rfl | simp [h])) (ints_oneCell _ _) (by omega) ?_)
  all_goals
    intro w3 hown3 hgrow3
    have hb3 := hb2.grown hgrow3 hb2.size (fun k h => by cases h; exact Nat.le_refl _)
    go_wp2
    go_ret
    refine ⟨f + m + (n - t), _, _, by omega, rfl, ?_, hb3⟩
    simpa using hown3

set_option maxRecDepth 20000 in
set_option maxHeartbeats 800000 in
theorem replacedE_bare (a : Option Addr) (cap : Nat) (a2 : Option Addr) (m cap2 : Nat) (ys : List Int) (w : World) (hys : SInts w a2 (m * 2) ys) (hm : m ≤ 1099511627776) (hz : ¬ m = 0) :
    Calls Tryd.prog 88 #[.slice a 0 cap, .int .i64 0, .int .i64 0, .slice a2 m cap2] w fun e w' => ∃ a' c', e = .returned (.slice a' m c') ∧
      w'.ownsRow w.heap.size 84 2 (.slice a' m c') m (ys.map (Value.int .i64)) ∧ Below w.heap.size w w' := by
  obtain ⟨i0, hi, hz0, hz1, hz2⟩ := info_parts Tryd.info84
  have hz' : ((m : Int) == 0) = false := by simp; omega
  have hyl := hys.1
  go_enter Tryd.func88, Tryd.ntmps88
  go_wp2_with (at_make; refine wpList_make_own _ rfl _ _ 89 rfl w.heap.size 84 i0 (.agg #[.int .i64 0, .int .i64 0]) 2 Tryd.underlying89 hi hz0 hz1 _ _ _ m rfl rfl (by omega) ?b2 ?b3 (Nat.le_refl _) ?_)
  case b2 => rw [hz2]; omega
  case b3 => unfold maxLen; omega
  intro w0 hown0 hgrow0
  have hb0 : Below w.heap.size w w0 := (Below.refl _ _).grown hgrow0 (Nat.le_refl _) (fun k h => by cases h)
  go_wp2_with (at_builtin; refine wpList_append_fits_two _ rfl (.tmp 24) (.tmp 27) 89 89 rfl w.heap.size 84 84 i0 2 Tryd.underlying89 Tryd.underlying89 hi hz1 w.heap.size 0 m _ rfl hown0 _ 0 _ [] rfl rfl (Or.inl rfl) (by simp) (by omega) ?_)
  intro w1 hown1 hgrow1
  have hb1 := hb0.grown hgrow1 hb0.size (fun k h => by cases h; exact Nat.le_refl _)
  have S2 : Hid (m = 0 ∨ ∃ ad, a2 = some ad ∧ ∀ j u, (ys.map (Value.int .i64))[j]? = some u → w1.cell? (ad.add j) = some u) := by
    have := (hys.below hb1).src_take (Nat.le_refl (m * 2))
    rw [List.take_of_length_le (by omega)] at this
    exact this.imp (by omega) id
  go_wp2_with (at_builtin; refine wpList_append_fits_two _ rfl (.tmp 29) (.tmp 30) 89 31 rfl w.heap.size 84 84 i0 2 Tryd.underlying89 Tryd.underlying31 hi hz1 w.heap.size 0 m _ rfl hown1 _ m _ (ys.map (Value.int .i64)) rfl (by simp [hyl]) S2.out (ints_oneCell _ _) (by omega) ?_)
  intro w2 hown2 hgrow2
  have hb2 := hb1.grown hgrow2 hb1.size (fun k h => by cases h; exact Nat.le_refl _)
  go_wp2_with (at_builtin; refine wpList_append_fits_two _ rfl (.tmp 32) (.tmp 35) 89 89 rfl w.heap.size 84 84 i0 2 Tryd.underlying89 Tryd.underlying89 hi hz1 w.heap.size m m _ rfl hown2 _ 0 _ [] rfl rfl (Or.inl rfl) (by simp) (by omega) ?_)
  all_goals
    intro w3 hown3 hgrow3
    have hb3 := hb2.grown hgrow3 hb2.size (fun k h => by cases h; exact Nat.le_refl _)
    go_wp2
    go_ret
    refine ⟨_, _, rfl, ?_, hb3⟩
    simpa using hown3

set_option maxRecDepth 20000 in
set_option maxHeartbeats 400000 in
theorem replacedE_none (a : Option Addr) (n cap : Nat) (f t : Nat) (a2 : Option Addr) (cap2 : Nat) (w : World) (hft : f ≤ t) (htn : t ≤ n) (hn : n ≤ 1099511627776) (hz : n - (t - f) = 0) :
    Calls Tryd.prog 88 #[.slice a n cap, .int .i64 f, .int .i64 t, .slice a2 0 cap2] w fun e w' => e = .returned (.slice none 0 0) ∧ w' = w := by
  have hz' : ((n : Int) - (t - f) == 0) = true := by simp; omega
  go_enter Tryd.func88, Tryd.ntmps88
  go_wp2
  go_ret
  exact ⟨rfl, rfl⟩

theorem replacedE_any (a : Option Addr) (n cap : Nat) (zs : List Int) (f t : Nat) (a2 : Option Addr) (m cap2 : Nat) (ys : List Int) (w : World) (hs : SInts w a (n * 2) zs) (hys : SInts w a2 (m * 2) ys)
    (hft : f ≤ t) (htn : t ≤ n) (hnc : n ≤ cap) (hcap : cap ≤ 9223372036854775807 ∧ n ≤ 1099511627776) (hm : m ≤ 1099511627776) :
    Calls Tryd.prog 88 #[.slice a n cap, .int .i64 f, .int .i64 t, .slice a2 m cap2] w fun e w' => ∃ N a' c', N = n - (t - f) + m ∧ e = .returned (.slice a' N c') ∧
      w'.ownsRow w.heap.size 84 2 (.slice a' N c') N ((zs.take (f * 2) ++ ys ++ zs.drop (t * 2)).map (Value.int .i64)) ∧ Below w.heap.size w w' := by
  have hzl := hs.1
  have hyl := hys.1
  by_cases hz : n - (t - f) + m = 0
  · obtain rfl : m = 0 := by omega
    refine (replacedE_none a n cap f t a2 cap2 w hft htn (by omega) (by omega)).mono ?_
    rintro e w' ⟨rfl, rfl⟩
    refine ⟨0, none, 0, by omega, rfl, ?_, Below.refl _ _⟩
    have : zs.take (f * 2) ++ ys ++ zs.drop (t * 2) = [] := List.eq_nil_of_length_eq_zero (by simp only [List.length_append, List.length_take, List.length_drop]; omega)
    rw [this]
    exact World.ownsRow_nil _ _ _ _
  · by_cases hn0 : n = 0
    · subst hn0
      obtain rfl : t = 0 := by omega
      obtain rfl : f = 0 := by omega
      refine (replacedE_bare a cap a2 m cap2 ys w hys hm (by omega)).mono ?_
      rintro e w' ⟨a', c', rfl, ho, hb⟩
      refine ⟨m, a', c', by omega, rfl, ?_, hb⟩
      have : zs = [] := List.eq_nil_of_length_eq_zero hzl
      subst this
      simpa using ho
    · obtain ⟨b, off, rfl⟩ : ∃ b off, a = some ⟨b, off, none⟩ := by
        rcases hs.2 with h | ⟨b, off, e, _⟩
        · omega
        · exact ⟨b, off, e⟩
      exact replacedE_some b off n cap zs f t a2 m cap2 ys w hs hn0 hys hft htn hnc hcap hm hz

set_option maxRecDepth 20000 in
set_option maxHeartbeats 400000 in
theorem sameE_any (a : Option Addr) (n cap : Nat) (zs : List Int) (w : World) (hs : SInts w a (n * 2) zs) (hnc : n ≤ cap) (hcap : cap ≤ 9223372036854775807 ∧ n ≤ 1099511627776) :
    Calls Tryd.prog 67 #[.slice a n cap] w fun e w' => ∃ a' c', e = .returned (.slice a' n c') ∧ w'.ownsRow w.heap.size 84 2 (.slice a' n c') n (zs.map (Value.int .i64)) ∧ Below w.heap.size w w' := by
  go_enter Tryd.func67, Tryd.ntmps67
  go_wp2_with fail
  refine (replacedE_any a n cap zs 0 0 none 0 0 [] _ hs ⟨rfl, .inl rfl⟩ (Nat.le_refl _) (Nat.zero_le _) hnc hcap (by omega)).mono ?_
  rintro e w1 ⟨N, a', c', hN, rfl, ho, hb⟩
  obtain rfl : N = n := by omega
  have HO : Hid (w1.ownsRow w.heap.size 84 2 (.slice a' N c') N (zs.map (Value.int .i64))) := by
    have := ho
    simp only [Nat.zero_mul, List.take_zero, List.nil_append, List.drop_zero] at this
    exact this
  clear ho hN hs
  go_wp2
  go_ret
  exact ⟨_, _, rfl, HO.out, hb⟩

set_option maxRecDepth 20000 in
set_option maxHeartbeats 400000 in
theorem withoutE_any (a : Option Addr) (n cap : Nat) (zs : List Int) (i : Nat) (w : World) (hs : SInts w a (n * 2) zs) (hi : i < n) (hnc : n ≤ cap) (hcap : cap ≤ 9223372036854775807 ∧ n ≤ 1099511627776) :
    Calls Tryd.prog 69 #[.slice a n cap, .int .i64 i] w fun e w' => ∃ a' c', e = .returned (.slice a' (n - 1) c') ∧ w'.ownsRow w.heap.size 84 2 (.slice a' (n - 1) c') (n - 1) ((zs.take (i * 2) ++ zs.drop ((i + 1) * 2)).map (Value.int .i64)) ∧ Below w.heap.size w w' := by
  have hi' : Hid ((i : Int) + 1 = ((i + 1 : Nat) : Int)) := by show _ = _; omega
  go_enter Tryd.func69, Tryd.ntmps69
  go_wp2_with fail
  rw [hi'.out]
  refine (replacedE_any a n cap zs i (i + 1) none 0 0 [] _ hs ⟨rfl, .inl rfl⟩ (by omega) (by omega) hnc hcap (by omega)).mono ?_
  rintro e w1 ⟨N, a', c', hN, rfl, ho, hb⟩
  obtain rfl : N = n - 1 := by omega
  have HO : Hid (w1.ownsRow w.heap.size 84 2 (.slice a' (n - 1) c') (n - 1) ((zs.take (i * 2) ++ zs.drop ((i + 1) * 2)).map (Value.int .i64))) := by
    have := ho
    simp only [List.append_nil] at this
    exact this
  clear ho hN hs hi'
  go_wp2
  go_ret
  exact ⟨_, _, rfl, HO.out, hb⟩

end Go.Proofs.YtklpdpdjblakgaaDoor

/- Del -/
namespace Go.Proofs.YtklpdpdjblakgaaDoor
open Go.RowKit
set_option linter.unusedVariables false

/-- A map and an answer come back, in new memory. -/
def MapRes (zs : List Int) (n : Nat) (c v : Int) (e : Ending) (w w' : World) : Prop :=
  ∃ a' c', e = .returned (.tuple #[.agg #[.slice a' n c'], .agg #[.int .i64 c, .int .i64 v]]) ∧ w'.ownsRow w.heap.size 84 2 (.slice a' n c') n (zs.map (Value.int .i64)) ∧ Below w.heap.size w w'

def delT (zs : List Int) (n : Nat) (key : Int) : Bool := okM zs n && entB zs n key
def delL (zs : List Int) (n : Nat) (key : Int) : List Int := if okM zs n then (if entB zs n key then zs.take (entI zs n key * 2) ++ zs.drop ((entI zs n key + 1) * 2) else zs) else []
def delN (zs : List Int) (n : Nat) (key : Int) : Nat := if okM zs n then (if entB zs n key then n - 1 else n) else 0
def delC (zs : List Int) (n : Nat) (key : Int) : Int := if okM zs n then (if entB zs n key then 2 else 1) else 0
def delV (zs : List Int) (n : Nat) (key : Int) : Int := if okM zs n then (if entB zs n key then valAt zs (entI zs n key) else 0) else 0

theorem delN_le (zs : List Int) (n : Nat) (key : Int) : delN zs n key ≤ n := by
  unfold delN
  split
  · split <;> omega
  · omega

/-- The blocks that MapDel and MapPut lay first: the argument, the map and the answer that they hand back. -/
structure Loc (w : World) (a : Option Addr) (n cap : Nat) (W : World) : Prop where
  bel : Below w.heap.size w W
  sz : w.heap.size + 1 + 1 < W.heap.size
  box : W.cell? ⟨w.heap.size, 0, none⟩ = some (.slice a n cap)
  m0 : W.cell? ⟨w.heap.size + 1, 0, none⟩ = some (.slice none 0 0)
  r0 : W.cell? ⟨w.heap.size + 1 + 1, 0, none⟩ = some (.int .i64 0)
  r1 : W.cell? ⟨w.heap.size + 1 + 1, 1, none⟩ = some (.int .i64 0)
  fm : W.frozen? ⟨w.heap.size + 1, 0, none⟩ = false
  f0 : W.frozen? ⟨w.heap.size + 1 + 1, 0, none⟩ = false
  f1 : W.frozen? ⟨w.heap.size + 1 + 1, 1, none⟩ = false

theorem frozen_kept {W W' : World} {b o : Nat} (hb : Below W.heap.size W W') (hlt : b < W.heap.size) (h : W.frozen? ⟨b, o, none⟩ = false) : W'.frozen? ⟨b, o, none⟩ = false :=
  (hb.frozen (p := ⟨b, o, none⟩) hlt).trans h

theorem Loc.below {w : World} {a : Option Addr} {n cap : Nat} {W W' : World} (h : Loc w a n cap W) (hb : Below W.heap.size W W') : Loc w a n cap W' :=
  { bel := below_trans' h.bel hb, sz := Nat.lt_of_lt_of_le h.sz hb.size, box := cell_kept hb h.box, m0 := cell_kept hb h.m0, r0 := cell_kept hb h.r0, r1 := cell_kept hb h.r1,
    fm := frozen_kept hb (by have := h.sz; omega) h.fm, f0 := frozen_kept hb h.sz h.f0, f1 := frozen_kept hb h.sz h.f1 }

theorem loc_start (w : World) (a : Option Addr) (n cap : Nat) : Loc w a n cap (((w.alloc (.cells #[.slice a n cap] 33)).alloc (.cells #[.slice none 0 0] 33)).alloc (.cells #[.int .i64 0, .int .i64 0] 37)) := by
  have al : ∀ (W : World) (o : Obj), Below W.heap.size W (W.alloc o) := fun W o => (Below.refl _ _).alloc (Nat.le_refl _) o
  exact
    { bel := below_trans' (below_trans' (al _ _) (al _ _)) (al _ _), sz := by simp,
      box := cell_kept (al _ _) (cell_kept (al _ _) (cell_at w _ _ 0 rfl rfl)), m0 := cell_kept (al _ _) (cell_at (w.alloc _) _ _ 0 (by simp) rfl),
      r0 := cell_at ((w.alloc _).alloc _) _ _ 0 (by simp) rfl, r1 := cell_at ((w.alloc _).alloc _) _ _ 1 (by simp) rfl,
      fm := frozen_kept (al _ _) (by simp) (frozen_at (w.alloc _) _ _ 0 (by simp)),
      f0 := frozen_at ((w.alloc _).alloc _) _ _ 0 (by simp), f1 := frozen_at ((w.alloc _).alloc _) _ _ 1 (by simp) }

set_option maxHeartbeats 1000000 in
theorem implMapDel_bad (a : Option Addr) (n cap : Nat) (zs : List Int) (key : Int) (w : World) (hs : SInts w a (n * 2) zs) (hn : n ≤ 9223372036854775807) (hok : okM zs n = false) :
    Calls Tryd.prog 25 #[.agg #[.slice a n cap], .int .i64 key] w fun e w' => MapRes [] 0 0 0 e w w' := by
  have I0 := loc_start w a n cap
  go_enter Tryd.func25, Tryd.ntmps25
  go_wp2_with fail
  refine (implMapOk_any _ _ _ zs _ (hs.below I0.bel) hn).mono ?_
  rintro e w1 ⟨rfl, hb1⟩
  have I1 := I0.below hb1
  have m0 := I1.m0
  have r0 := I1.r0
  have r1 := I1.r1
  have fm := I1.fm
  have f0 := I1.f0
  have f1 := I1.f1
  clear hb1 I0 hs
  rw [hok]
  go_wp2
  exact bodyPost_ret (v := .tuple #[.agg #[.slice none 0 0], .agg #[.int .i64 0, .int .i64 0]]) (by simp [results, Tryd.results25, go_sem, m0, r0, r1]) rfl ⟨none, 0, rfl, World.ownsRow_nil _ _ _ _, ((I1.bel.setCell (by show w.heap.size ≤ w.heap.size + 1; omega) _).setCell (by show w.heap.size ≤ w.heap.size + 1 + 1; omega) _).setCell (by show w.heap.size ≤ w.heap.size + 1 + 1; omega) _⟩

set_option maxHeartbeats 1000000 in
theorem implMapDel_no (a : Option Addr) (n cap : Nat) (zs : List Int) (key : Int) (w : World) (hs : SInts w a (n * 2) zs) (hnc : n ≤ cap) (hcap : cap ≤ 9223372036854775807 ∧ n ≤ 1048576) (hok : okM zs n = true) (hE : entB zs n key = false) :
    Calls Tryd.prog 25 #[.agg #[.slice a n cap], .int .i64 key] w fun e w' => MapRes zs n 1 0 e w w' := by
  have I0 := loc_start w a n cap
  go_enter Tryd.func25, Tryd.ntmps25
  go_wp2_with fail
  refine (implMapOk_any _ _ _ zs _ (hs.below I0.bel) (by omega)).mono ?_
  rintro e w1 ⟨rfl, hb1⟩
  have I1 := I0.below hb1
  have box1 := I1.box
  clear hb1 I0
  rw [hok]
  go_wp2_with fail
  refine (entryOf_tail _ _ _ zs _ _ (hs.below I1.bel) (by omega)).mono ?_
  rintro e w2 ⟨rfl, hb2⟩
  have I2 := I1.below hb2
  clear hb2 I1 box1
  rw [hE]
  go_wp2_with fail
  refine (sameE_any _ _ _ zs _ (hs.below I2.bel) hnc (by omega)).mono ?_
  rintro e w3 ⟨a', c', rfl, ho, hb3⟩
  have I3 := I2.below hb3
  have m0 := I3.m0
  have r0 := I3.r0
  have r1 := I3.r1
  have fm := I3.fm
  have f0 := I3.f0
  have f1 := I3.f1
  have HO : Hid (w3.ownsRow (w.heap.size + 1 + 1 + 1) 84 2 (.slice a' n c') n (zs.map (Value.int .i64))) := own_mono ho I2.sz
  clear hb3 I2 hs ho
  go_wp2
  exact bodyPost_ret (v := .tuple #[.agg #[.slice a' n c'], .agg #[.int .i64 1, .int .i64 0]]) (by simp [results, Tryd.results25, go_sem, m0, r0, r1]) rfl ⟨a', c', rfl, own_mono (own_setCell (own_setCell (own_setCell HO.out (by omega) _) (by omega) _) (by omega) _) (by omega), ((I3.bel.setCell (by show w.heap.size ≤ w.heap.size + 1; omega) _).setCell (by show w.heap.size ≤ w.heap.size + 1 + 1; omega) _).setCell (by show w.heap.size ≤ w.heap.size + 1 + 1; omega) _⟩

set_option maxHeartbeats 2000000 in
theorem implMapDel_yes (a : Option Addr) (n cap : Nat) (zs : List Int) (key : Int) (w : World) (hs : SInts w a (n * 2) zs) (hnc : n ≤ cap) (hcap : cap ≤ 9223372036854775807 ∧ n ≤ 1048576) (hok : okM zs n = true) (hE : entB zs n key = true) :
    Calls Tryd.prog 25 #[.agg #[.slice a n cap], .int .i64 key] w fun e w' => MapRes (zs.take (entI zs n key * 2) ++ zs.drop ((entI zs n key + 1) * 2)) (n - 1) 2 (valAt zs (entI zs n key)) e w w' := by
  have I0 := loc_start w a n cap
  have hlt0 : entI zs n key < n := by simp [entB] at hE; exact hE.1
  have hent : Hid (∀ W, SInts W a (n * 2) zs → Calls Tryd.prog 65 #[.slice a n cap, .int .i64 key] W fun e w' => e = .returned (.tuple #[.int .i64 (entI zs n key), .bool true]) ∧ Below W.heap.size W w') := by
    intro W h
    have := entryOf_tail a n cap zs key W h (by omega)
    rw [hE] at this
    exact this
  generalize entI zs n key = i at hlt0 hent ⊢
  obtain ⟨y, hy⟩ : ∃ y, valAt zs i = y := ⟨_, rfl⟩
  rw [hy]
  obtain ⟨b, off, rfl⟩ := hs.addr (by omega)
  have HY : Hid (∀ W, Below w.heap.size w W → W.cell? ⟨b, off + i * 2 + 1, none⟩ = some (.int .i64 y)) := fun W h => by rw [← hy]; exact (hs.below h).valCell hlt0
  clear hy hE
  go_enter Tryd.func25, Tryd.ntmps25
  go_wp2_with fail
  refine (implMapOk_any _ _ _ zs _ (hs.below I0.bel) (by omega)).mono ?_
  rintro e w1 ⟨rfl, hb1⟩
  have I1 := I0.below hb1
  have box1 := I1.box
  clear hb1 I0
  rw [hok]
  go_wp2_with fail
  refine (hent.out _ (hs.below I1.bel)).mono ?_
  rintro e w2 ⟨rfl, hb2⟩
  have I2 := I1.below hb2
  have HI2 : Hid (Loc w (some ⟨b, off, none⟩) n cap w2) := I2
  have v2 := HY.out _ I2.bel
  clear hb2 I1 box1 hent I2
  go_wp2
  go_region_with (go_at_call 69; refine (withoutE_any _ _ _ zs _ _ (hs.below HI2.out.bel.drew) hlt0 hnc (by omega)).mono ?_; rintro e w3 ⟨a', c', rfl, ho, hb3⟩; have I3 := HI2.out.below (W' := w3) (below_trans' (Below.refl w2.heap.size w2).drew hb3); have m0 := I3.m0; have r0 := I3.r0; have r1 := I3.r1; have fm := I3.fm; have f0 := I3.f0; have f1 := I3.f1; have v3 := HY.out _ I3.bel; have HB3 : Hid (Below w.heap.size w w3) := I3.bel; have HO : Hid (w3.ownsRow (w.heap.size + 1 + 1 + 1) 84 2 (.slice a' (n - 1) c') (n - 1) ((zs.take (i * 2) ++ zs.drop ((i + 1) * 2)).map (Value.int .i64))) := own_mono ho HI2.out.sz; clear ho hb3 I3)
  all_goals
    go_wp2
    exact bodyPost_ret (v := .tuple #[.agg #[.slice a' (n - 1) c'], .agg #[.int .i64 2, .int .i64 y]]) (by simp [results, Tryd.results25, go_sem, m0, r0, r1]) rfl ⟨a', c', rfl, own_mono (own_setCell (own_setCell (own_setCell HO.out (by omega) _) (by omega) _) (by omega) _) (by omega), ((HB3.out.setCell (by show w.heap.size ≤ w.heap.size + 1; omega) _).setCell (by show w.heap.size ≤ w.heap.size + 1 + 1; omega) _).setCell (by show w.heap.size ≤ w.heap.size + 1 + 1; omega) _⟩

theorem implMapDel_cap (a : Option Addr) (n cap : Nat) (zs : List Int) (key : Int) (w : World) (hs : SInts w a (n * 2) zs) (hn : n ≤ 1048576) (hnc : n ≤ cap) (hcap : cap ≤ 9223372036854775807) :
    Calls Tryd.prog 25 #[.agg #[.slice a n cap], .int .i64 key] w fun e w' => MapRes (delL zs n key) (delN zs n key) (delC zs n key) (delV zs n key) e w w' := by
  cases hok : okM zs n
  · have e1 : delL zs n key = [] := by simp [delL, hok]
    have e2 : delN zs n key = 0 := by simp [delN, hok]
    have e3 : delC zs n key = 0 := by simp [delC, hok]
    have e4 : delV zs n key = 0 := by simp [delV, hok]
    rw [e1, e2, e3, e4]
    exact implMapDel_bad a n cap zs key w hs (by omega) hok
  · cases hE : entB zs n key
    · have e1 : delL zs n key = zs := by simp [delL, hok, hE]
      have e2 : delN zs n key = n := by simp [delN, hok, hE]
      have e3 : delC zs n key = 1 := by simp [delC, hok, hE]
      have e4 : delV zs n key = 0 := by simp [delV, hE]
      rw [e1, e2, e3, e4]
      exact implMapDel_no a n cap zs key w hs hnc ⟨hcap, hn⟩ hok hE
    · have e1 : delL zs n key = zs.take (entI zs n key * 2) ++ zs.drop ((entI zs n key + 1) * 2) := by simp [delL, hok, hE]
      have e2 : delN zs n key = n - 1 := by simp [delN, hok, hE]
      have e3 : delC zs n key = 2 := by simp [delC, hok, hE]
      have e4 : delV zs n key = valAt zs (entI zs n key) := by simp [delV, hok, hE]
      rw [e1, e2, e3, e4]
      exact implMapDel_yes a n cap zs key w hs hnc ⟨hcap, hn⟩ hok hE

theorem implMapDel_any (a : Option Addr) (n : Nat) (zs : List Int) (key : Int) (w : World) (hs : SInts w a (n * 2) zs) (hn : n ≤ 1048576) :
    Calls Tryd.prog 25 #[.agg #[.slice a n n], .int .i64 key] w fun e w' => MapRes (delL zs n key) (delN zs n key) (delC zs n key) (delV zs n key) e w w' :=
  implMapDel_cap a n n zs key w hs hn (Nat.le_refl _) (by omega)

end Go.Proofs.YtklpdpdjblakgaaDoor

/- Get -/
namespace Go.Proofs.YtklpdpdjblakgaaDoor
open Go.RowKit
set_option linter.unusedVariables false

theorem fIdx_spec (p : Nat → Bool) (n : Nat) : (∀ j, j < fIdx p n → p j = false) ∧ (fIdx p n < n → p (fIdx p n) = true) := by
  unfold fIdx
  cases h : (List.range n).find? p with
  | none =>
    rw [List.find?_eq_none] at h
    refine ⟨fun j hj => ?_, fun hlt => ?_⟩
    · have := h j (List.mem_range.2 hj)
      simpa using this
    · exact absurd hlt (Nat.lt_irrefl n)
  | some i =>
    rw [List.find?_eq_some_iff_getElem] at h
    obtain ⟨hp, i', hi', he, hlow⟩ := h
    simp at he
    subst he
    refine ⟨fun j hj => ?_, fun _ => hp⟩
    have := hlow j hj
    simpa using this

/-- Under rising keys no other place has the key. -/
theorem ent_only {zs : List Int} {n : Nat} {key : Int} (hup : upM zs n = true) : ∀ j, j < n → j ≠ entI zs n key → (keyAt zs j == key) = false := by
  have hrise := up_lt (upM_parts hup)
  have hI : entI zs n key = fIdx (fun i => geK key (keyAt zs i)) n := by simp [entI, hup]
  obtain ⟨hlow, hat⟩ := fIdx_spec (fun i => geK key (keyAt zs i)) n
  rw [← hI] at hlow hat
  intro j hj hji
  by_cases h : j < entI zs n key
  · have h1 := hlow j h
    simp [geK] at h1
    simp
    omega
  · have h3 := hat (by omega)
    simp [geK] at h3
    have h4 := hrise j (entI zs n key) (by omega) hj
    simp
    omega

theorem ent_get (zs : List Int) (n : Nat) (key : Int) : (entB zs n key = true → fIdx (fun i => eqK key (keyAt zs i)) n = entI zs n key ∧ entI zs n key < n) ∧ (entB zs n key = false → fIdx (fun i => eqK key (keyAt zs i)) n = n) := by
  cases hup : upM zs n
  · have hI : entI zs n key = fIdx (fun i => eqK key (keyAt zs i)) n := by simp [entI, hup]
    obtain ⟨hlow, hat⟩ := fIdx_spec (fun i => eqK key (keyAt zs i)) n
    rw [← hI] at hat ⊢
    refine ⟨fun h => ⟨rfl, ?_⟩, fun h => ?_⟩
    · simp only [entB, Bool.and_eq_true, decide_eq_true_eq] at h
      exact h.1
    · have hle := entI_le zs n key
      by_cases hlt : entI zs n key < n
      · have h2 := hat hlt
        simp only [eqK] at h2
        simp only [entB, hlt, decide_true, Bool.true_and, h2] at h
        exact absurd h (by decide)
      · omega
  · have honly := ent_only (key := key) hup
    refine ⟨fun h => ?_, fun h => ?_⟩
    · simp only [entB, Bool.and_eq_true, decide_eq_true_eq] at h
      exact ⟨fIdx_eq (entI_le zs n key) (fun j hj => honly j (by omega) (by omega)) (.inr h.2), h.1⟩
    · refine fIdx_eq (Nat.le_refl n) (fun j hj => ?_) (.inl rfl)
      by_cases e : j = entI zs n key
      · subst e
        simp only [entB, hj, decide_true, Bool.true_and] at h
        exact h
      · exact honly j hj e

/-- What MapGet answers: a code and a value. -/
def getC (zs : List Int) (n : Nat) (key : Int) : Int := if fIdx (fun i => eqK key (keyAt zs i)) n = n then 1 else 2
def getV (zs : List Int) (n : Nat) (key : Int) : Int := if fIdx (fun i => eqK key (keyAt zs i)) n = n then 0 else valAt zs (fIdx (fun i => eqK key (keyAt zs i)) n)

/-- What l1Find tells. -/
def findI (zs : List Int) (n : Nat) (key : Int) : Int := if fIdx (fun i => eqK key (keyAt zs i)) n = n then -1 else fIdx (fun i => eqK key (keyAt zs i)) n

set_option maxHeartbeats 400000 in
theorem l1Find_any (a : Option Addr) (n cap : Nat) (zs : List Int) (key : Int) (w : World) (hs : SInts w a (n * 2) zs) (hn : n ≤ 1048576) :
    Calls Tryd.prog 76 #[.agg #[.slice a n cap], .int .i64 key] w fun e w' => e = .returned (.int .i64 (findI zs n key)) ∧ Below w.heap.size w w' := by
  have hb0 : ∀ o, Below w.heap.size w (w.alloc o) := fun o => (Below.refl _ _).alloc (Nat.le_refl _) o
  go_enter Tryd.func76, Tryd.ntmps76
  go_wp2
  go_loop [5] (fun i => ∃ k : Nat, k ≤ n ∧ i = .int .i64 k ∧ (∀ j, j < k → eqK key (keyAt zs j) = false)) (fun i => n - (intOf i).toNat)
  case atStart => exact ⟨0, Nat.zero_le _, rfl, fun j hj => by omega⟩
  case round =>
    obtain ⟨k, hk, rfl, hlow0⟩ := hrel
    have hlow : Hid (∀ j, j < k → eqK key (keyAt zs j) = false) := hlow0
    clear hlow0
    by_cases hlt : k < n
    · obtain ⟨b, off, rfl⟩ := hs.addr (by omega)
      obtain ⟨x, hx⟩ : ∃ x, keyAt zs k = x := ⟨_, rfl⟩
      have h1 := (hs.below (hb0 (.cells #[.slice (some ⟨b, off, none⟩) n cap] 33))).keyCell hlt
      rw [hx] at h1
      have HX : Hid (keyAt zs k = x) := hx
      clear hx hs
      cases hp : (x == key)
      · go_wp2
        go_round
        case rel => exact ⟨k + 1, by omega, by go_num, fun j hj => by
          by_cases e : j = k
          · subst e; rw [HX.out]; exact hp
          · exact hlow.out j (by omega)⟩
        case measure => simp [intOf]; omega
      · have HF : Hid (fIdx (fun i => eqK key (keyAt zs i)) n = k) := fIdx_eq hk hlow.out (.inr (by show eqK key (keyAt zs k) = true; rw [HX.out]; exact hp))
        go_wp2
        go_ret
        exact ⟨ret_int (by unfold findI; rw [HF.out, if_neg (by omega)]), hb0 _⟩
    · obtain rfl : k = n := by omega
      have HF : Hid (fIdx (fun i => eqK key (keyAt zs i)) k = k) := fIdx_eq hk hlow.out (.inl rfl)
      clear hs
      go_wp2
      go_ret
      exact ⟨ret_int (by unfold findI; rw [HF.out, if_pos rfl]), hb0 _⟩

/-- The blocks that MapGet lays first: the argument and the answer. -/
structure LocG (w : World) (a : Option Addr) (n cap : Nat) (W : World) : Prop where
  bel : Below w.heap.size w W
  sz : w.heap.size + 1 < W.heap.size
  box : W.cell? ⟨w.heap.size, 0, none⟩ = some (.slice a n cap)
  r0 : W.cell? ⟨w.heap.size + 1, 0, none⟩ = some (.int .i64 0)
  r1 : W.cell? ⟨w.heap.size + 1, 1, none⟩ = some (.int .i64 0)
  f0 : W.frozen? ⟨w.heap.size + 1, 0, none⟩ = false
  f1 : W.frozen? ⟨w.heap.size + 1, 1, none⟩ = false

theorem LocG.below {w : World} {a : Option Addr} {n cap : Nat} {W W' : World} (h : LocG w a n cap W) (hb : Below W.heap.size W W') : LocG w a n cap W' :=
  { bel := below_trans' h.bel hb, sz := Nat.lt_of_lt_of_le h.sz hb.size, box := cell_kept hb h.box, r0 := cell_kept hb h.r0, r1 := cell_kept hb h.r1, f0 := frozen_kept hb h.sz h.f0, f1 := frozen_kept hb h.sz h.f1 }

theorem locG_start (w : World) (a : Option Addr) (n cap : Nat) : LocG w a n cap ((w.alloc (.cells #[.slice a n cap] 33)).alloc (.cells #[.int .i64 0, .int .i64 0] 37)) := by
  have al : ∀ (W : World) (o : Obj), Below W.heap.size W (W.alloc o) := fun W o => (Below.refl _ _).alloc (Nat.le_refl _) o
  exact
    { bel := below_trans' (al _ _) (al _ _), sz := by simp, box := cell_kept (al _ _) (cell_at w _ _ 0 rfl rfl),
      r0 := cell_at (w.alloc _) _ _ 0 (by simp) rfl, r1 := cell_at (w.alloc _) _ _ 1 (by simp) rfl, f0 := frozen_at (w.alloc _) _ _ 0 (by simp), f1 := frozen_at (w.alloc _) _ _ 1 (by simp) }

set_option maxHeartbeats 400000 in
theorem specMapGet_any (a : Option Addr) (n cap : Nat) (zs : List Int) (key : Int) (w : World) (hs : SInts w a (n * 2) zs) (hn : n ≤ 1048576) :
    Calls Tryd.prog 36 #[.agg #[.slice a n cap], .int .i64 key] w fun e w' => e = .returned (.agg #[.int .i64 (getC zs n key), .int .i64 (getV zs n key)]) ∧ Below w.heap.size w w' := by
  have I0 := locG_start w a n cap
  have hf : Hid (∀ W, SInts W a (n * 2) zs → Calls Tryd.prog 76 #[.agg #[.slice a n cap], .int .i64 key] W fun e w' => e = .returned (.int .i64 (if fIdx (fun i => eqK key (keyAt zs i)) n = n then -1 else fIdx (fun i => eqK key (keyAt zs i)) n)) ∧ Below W.heap.size W w') := fun W h => l1Find_any a n cap zs key W h hn
  have hle := fIdx_le (fun i => eqK key (keyAt zs i)) n
  unfold getC getV
  generalize fIdx (fun i => eqK key (keyAt zs i)) n = i at hf hle ⊢
  by_cases hin : i = n
  · subst hin
    rw [if_pos rfl] at hf ⊢
    rw [if_pos rfl]
    go_enter Tryd.func36, Tryd.ntmps36
    go_wp2_with fail
    refine (hf.out _ (hs.below I0.bel)).mono ?_
    rintro e w1 ⟨rfl, hb1⟩
    have I1 := I0.below hb1
    have r0 := I1.r0
    have r1 := I1.r1
    have f0 := I1.f0
    have f1 := I1.f1
    clear hf hb1 I0 hs
    go_wp2
    exact bodyPost_ret (v := .agg #[.int .i64 1, .int .i64 0]) (by simp [results, Tryd.results36, go_sem, r0, r1]) rfl ⟨rfl, (I1.bel.setCell (by show w.heap.size ≤ w.heap.size + 1; omega) _).setCell (by show w.heap.size ≤ w.heap.size + 1; omega) _⟩
  · rw [if_neg hin] at hf ⊢
    rw [if_neg hin]
    have hlt : i < n := by omega
    obtain ⟨b, off, rfl⟩ := hs.addr (by omega)
    obtain ⟨y, hy⟩ : ∃ y, valAt zs i = y := ⟨_, rfl⟩
    rw [hy]
    go_enter Tryd.func36, Tryd.ntmps36
    go_wp2_with fail
    refine (hf.out _ (hs.below I0.bel)).mono ?_
    rintro e w1 ⟨rfl, hb1⟩
    have I1 := I0.below hb1
    have r0 := I1.r0
    have r1 := I1.r1
    have f0 := I1.f0
    have f1 := I1.f1
    have box := I1.box
    have h1 := (hs.below I1.bel).valCell hlt
    rw [hy] at h1
    clear hf hb1 I0 hs hy hin
    go_wp2
    exact bodyPost_ret (v := .agg #[.int .i64 2, .int .i64 y]) (by simp [results, Tryd.results36, go_sem, r0, r1]) rfl ⟨rfl, (I1.bel.setCell (by show w.heap.size ≤ w.heap.size + 1; omega) _).setCell (by show w.heap.size ≤ w.heap.size + 1; omega) _⟩

set_option maxHeartbeats 400000 in
theorem implMapGet_any (a : Option Addr) (n cap : Nat) (zs : List Int) (key : Int) (w : World) (hs : SInts w a (n * 2) zs) (hn : n ≤ 1048576) :
    Calls Tryd.prog 23 #[.agg #[.slice a n cap], .int .i64 key] w fun e w' => e = .returned (.agg #[.int .i64 (getC zs n key), .int .i64 (getV zs n key)]) ∧ Below w.heap.size w w' := by
  have I0 := locG_start w a n cap
  have hf : Hid (∀ W, SInts W a (n * 2) zs → Calls Tryd.prog 65 #[.slice a n cap, .int .i64 key] W fun e w' => e = .returned (.tuple #[.int .i64 (entI zs n key), .bool (entB zs n key)]) ∧ Below W.heap.size W w') := fun W h => entryOf_tail a n cap zs key W h hn
  obtain ⟨hyes, hno⟩ := ent_get zs n key
  unfold getC getV
  cases hE : entB zs n key
  · rw [hE] at hf
    rw [hno hE, if_pos rfl, if_pos rfl]
    clear hyes hno
    generalize entI zs n key = i at hf
    go_enter Tryd.func23, Tryd.ntmps23
    go_wp2_with fail
    refine (hf.out _ (hs.below I0.bel)).mono ?_
    rintro e w1 ⟨rfl, hb1⟩
    have I1 := I0.below hb1
    have r0 := I1.r0
    have r1 := I1.r1
    have f0 := I1.f0
    have f1 := I1.f1
    clear hf hb1 I0 hs hE
    go_wp2
    exact bodyPost_ret (v := .agg #[.int .i64 1, .int .i64 0]) (by simp [results, Tryd.results23, go_sem, r0, r1]) rfl ⟨rfl, (I1.bel.setCell (by show w.heap.size ≤ w.heap.size + 1; omega) _).setCell (by show w.heap.size ≤ w.heap.size + 1; omega) _⟩
  · rw [hE] at hf
    obtain ⟨e1, hlt⟩ := hyes hE
    rw [e1]
    clear e1 hno hyes hE
    generalize entI zs n key = i at hf hlt ⊢
    rw [if_neg (by omega), if_neg (by omega)]
    obtain ⟨b, off, rfl⟩ := hs.addr (by omega)
    obtain ⟨y, hy⟩ : ∃ y, valAt zs i = y := ⟨_, rfl⟩
    rw [hy]
    go_enter Tryd.func23, Tryd.ntmps23
    go_wp2_with fail
    refine (hf.out _ (hs.below I0.bel)).mono ?_
    rintro e w1 ⟨rfl, hb1⟩
    have I1 := I0.below hb1
    have r0 := I1.r0
    have r1 := I1.r1
    have f0 := I1.f0
    have f1 := I1.f1
    have box := I1.box
    have h1 := (hs.below I1.bel).valCell hlt
    rw [hy] at h1
    clear hf hb1 I0 hs hy
    go_wp2
    exact bodyPost_ret (v := .agg #[.int .i64 2, .int .i64 y]) (by simp [results, Tryd.results23, go_sem, r0, r1]) rfl ⟨rfl, (I1.bel.setCell (by show w.heap.size ≤ w.heap.size + 1; omega) _).setCell (by show w.heap.size ≤ w.heap.size + 1; omega) _⟩

end Go.Proofs.YtklpdpdjblakgaaDoor

/- Put -/
namespace Go.Proofs.YtklpdpdjblakgaaDoor
open Go.RowKit
set_option linter.unusedVariables false

set_option maxHeartbeats 400000 in
theorem withE_any (a : Option Addr) (n cap : Nat) (zs : List Int) (i : Nat) (x y : Int) (w : World) (hs : SInts w a (n * 2) zs) (hi : i ≤ n) (hnc : n ≤ cap) (hcap : cap ≤ 9223372036854775807 ∧ n ≤ 1099511627776) :
    Calls Tryd.prog 68 #[.slice a n cap, .int .i64 i, .agg #[.int .i64 x, .int .i64 y]] w fun e w' => ∃ a' c', e = .returned (.slice a' (n + 1) c') ∧ w'.ownsRow w.heap.size 84 2 (.slice a' (n + 1) c') (n + 1) ((zs.take (i * 2) ++ [x, y] ++ zs.drop (i * 2)).map (Value.int .i64)) ∧ Below w.heap.size w w' := by
  have hb0 : ∀ o o1, Below w.heap.size w ((w.alloc o).alloc o1) := fun o o1 => ((Below.refl _ _).alloc (Nat.le_refl _) o).alloc (by simp) o1
  go_enter Tryd.func68, Tryd.ntmps68
  go_wp2_with fail
  refine (replacedE_any a n cap zs i i _ 1 1 [x, y] _ (hs.below (hb0 _ _)) ⟨rfl, .inr ⟨w.heap.size + 1, 0, rfl, ?hc⟩⟩ (Nat.le_refl _) hi hnc hcap (by omega)).mono ?_
  case hc =>
    intro j hj
    have h01 : j = 0 ∨ j = 1 := by omega
    rcases h01 with rfl | rfl
    · exact cell_at (w.alloc _) _ _ 0 (by simp) rfl
    · exact cell_at (w.alloc _) _ _ 1 (by simp) rfl
  rintro e w1 ⟨N, a', c', hN, rfl, ho, hb⟩
  obtain rfl : N = n + 1 := by omega
  have hb' := below_trans' (hb0 _ _) hb
  have HO : Hid (w1.ownsRow w.heap.size 84 2 (.slice a' (n + 1) c') (n + 1) ((zs.take (i * 2) ++ [x, y] ++ zs.drop (i * 2)).map (Value.int .i64))) := own_mono ho (by simp; omega)
  clear ho hN hs hb0 hb
  go_wp2
  go_ret
  exact ⟨_, _, rfl, HO.out, hb'⟩

/-- What MapPut makes, and answers. -/
def ptOk (zs : List Int) (n : Nat) (key val : Int) : Bool := okM zs n && (inB key 99 && inB val 999)
def ptL (zs : List Int) (n : Nat) (key val : Int) : List Int := if ptOk zs n key val then (if entB zs n key then zs else if n = 8 then zs else zs.take (entI zs n key * 2) ++ [key, val] ++ zs.drop (entI zs n key * 2)) else []
def ptN (zs : List Int) (n : Nat) (key val : Int) : Nat := if ptOk zs n key val then (if entB zs n key then n else if n = 8 then n else n + 1) else 0
def ptC (zs : List Int) (n : Nat) (key val : Int) : Int := if ptOk zs n key val then (if entB zs n key then 1 else if n = 8 then 3 else 2) else 0
theorem ptN_le (zs : List Int) (n : Nat) (key val : Int) : ptN zs n key val ≤ n + 1 := by
  unfold ptN
  split
  · split
    · omega
    · split <;> omega
  · omega

set_option maxHeartbeats 1000000 in
theorem implMapPut_bad (a : Option Addr) (n cap : Nat) (zs : List Int) (key val : Int) (w : World) (hs : SInts w a (n * 2) zs) (hn : n ≤ 9223372036854775807) (hok : ptOk zs n key val = false) :
    Calls Tryd.prog 24 #[.agg #[.slice a n cap], .int .i64 key, .int .i64 val] w fun e w' => MapRes [] 0 0 0 e w w' := by
  have I0 := loc_start w a n cap
  cases h1 : okM zs n
  · go_enter Tryd.func24, Tryd.ntmps24
    go_wp2_with fail
    refine (implMapOk_any _ _ _ zs _ (hs.below I0.bel) hn).mono ?_
    rintro e w1 ⟨rfl, hb1⟩
    have I1 := I0.below hb1
    have m0 := I1.m0
    have r0 := I1.r0
    have r1 := I1.r1
    have fm := I1.fm
    have f0 := I1.f0
    have f1 := I1.f1
    clear hb1 I0 hs hok
    rw [h1]
    go_wp2
    exact bodyPost_ret (v := .tuple #[.agg #[.slice none 0 0], .agg #[.int .i64 0, .int .i64 0]]) (by simp [results, Tryd.results24, go_sem, m0, r0, r1]) rfl ⟨none, 0, rfl, World.ownsRow_nil _ _ _ _, ((I1.bel.setCell (by show w.heap.size ≤ w.heap.size + 1; omega) _).setCell (by show w.heap.size ≤ w.heap.size + 1 + 1; omega) _).setCell (by show w.heap.size ≤ w.heap.size + 1 + 1; omega) _⟩
  · cases h2 : inB key 99
    · go_enter Tryd.func24, Tryd.ntmps24
      go_wp2_with fail
      refine (implMapOk_any _ _ _ zs _ (hs.below I0.bel) hn).mono ?_
      rintro e w1 ⟨rfl, hb1⟩
      have I1 := I0.below hb1
      have m0 := I1.m0
      have r0 := I1.r0
      have r1 := I1.r1
      have fm := I1.fm
      have f0 := I1.f0
      have f1 := I1.f1
      clear hb1 I0 hs hok
      rw [h1]
      go_wp2_with fail
      refine (within_as h2 _).mono ?_
      rintro e w1' ⟨rfl, rfl⟩
      go_wp2
      exact bodyPost_ret (v := .tuple #[.agg #[.slice none 0 0], .agg #[.int .i64 0, .int .i64 0]]) (by simp [results, Tryd.results24, go_sem, m0, r0, r1]) rfl ⟨none, 0, rfl, World.ownsRow_nil _ _ _ _, ((I1.bel.setCell (by show w.heap.size ≤ w.heap.size + 1; omega) _).setCell (by show w.heap.size ≤ w.heap.size + 1 + 1; omega) _).setCell (by show w.heap.size ≤ w.heap.size + 1 + 1; omega) _⟩
    · have h3 : inB val 999 = false := by simpa [ptOk, h1, h2] using hok
      go_enter Tryd.func24, Tryd.ntmps24
      go_wp2_with fail
      refine (implMapOk_any _ _ _ zs _ (hs.below I0.bel) hn).mono ?_
      rintro e w1 ⟨rfl, hb1⟩
      have I1 := I0.below hb1
      have m0 := I1.m0
      have r0 := I1.r0
      have r1 := I1.r1
      have fm := I1.fm
      have f0 := I1.f0
      have f1 := I1.f1
      clear hb1 I0 hs hok
      rw [h1]
      go_wp2_with fail
      refine (within_as h2 _).mono ?_
      rintro e w1' ⟨rfl, rfl⟩
      go_wp2_with fail
      refine (within_as h3 _).mono ?_
      rintro e w1' ⟨rfl, rfl⟩
      go_wp2
      exact bodyPost_ret (v := .tuple #[.agg #[.slice none 0 0], .agg #[.int .i64 0, .int .i64 0]]) (by simp [results, Tryd.results24, go_sem, m0, r0, r1]) rfl ⟨none, 0, rfl, World.ownsRow_nil _ _ _ _, ((I1.bel.setCell (by show w.heap.size ≤ w.heap.size + 1; omega) _).setCell (by show w.heap.size ≤ w.heap.size + 1 + 1; omega) _).setCell (by show w.heap.size ≤ w.heap.size + 1 + 1; omega) _⟩

set_option maxHeartbeats 1000000 in
theorem implMapPut_there (a : Option Addr) (n cap : Nat) (zs : List Int) (key val : Int) (i : Nat) (w : World) (hs : SInts w a (n * 2) zs) (hnc : n ≤ cap) (hcap : cap ≤ 9223372036854775807 ∧ n ≤ 1048576) (h1 : okM zs n = true) (h2 : inB key 99 = true) (h3 : inB val 999 = true)
    (hent : Hid (∀ W, SInts W a (n * 2) zs → Calls Tryd.prog 65 #[.slice a n cap, .int .i64 key] W fun e w' => e = .returned (.tuple #[.int .i64 (i : Nat), .bool true]) ∧ Below W.heap.size W w')) :
    Calls Tryd.prog 24 #[.agg #[.slice a n cap], .int .i64 key, .int .i64 val] w fun e w' => MapRes zs n 1 0 e w w' := by
  have I0 := loc_start w a n cap
  go_enter Tryd.func24, Tryd.ntmps24
  go_wp2_with fail
  refine (implMapOk_any _ _ _ zs _ (hs.below I0.bel) (by omega)).mono ?_
  rintro e w1 ⟨rfl, hb1⟩
  have I1 := I0.below hb1
  have box1 := I1.box
  clear hb1 I0
  rw [h1]
  go_wp2_with fail
  refine (within_as h2 _).mono ?_
  rintro e w1' ⟨rfl, rfl⟩
  go_wp2_with fail
  refine (within_as h3 _).mono ?_
  rintro e w1' ⟨rfl, rfl⟩
  go_wp2_with fail
  refine (hent.out _ (hs.below I1.bel)).mono ?_
  rintro e w2 ⟨rfl, hb2⟩
  have I2 := I1.below hb2
  clear hb2 I1 box1 hent
  go_wp2_with fail
  refine (sameE_any _ _ _ zs _ (hs.below I2.bel) hnc (by omega)).mono ?_
  rintro e w3 ⟨a', c', rfl, ho, hb3⟩
  have I3 := I2.below hb3
  have m0 := I3.m0
  have r0 := I3.r0
  have r1 := I3.r1
  have fm := I3.fm
  have f0 := I3.f0
  have f1 := I3.f1
  have HO : Hid (w3.ownsRow (w.heap.size + 1 + 1 + 1) 84 2 (.slice a' n c') n (zs.map (Value.int .i64))) := own_mono ho I2.sz
  clear hb3 I2 hs ho
  go_wp2
  exact bodyPost_ret (v := .tuple #[.agg #[.slice a' n c'], .agg #[.int .i64 1, .int .i64 0]]) (by simp [results, Tryd.results24, go_sem, m0, r0, r1]) rfl ⟨a', c', rfl, own_mono (own_setCell (own_setCell (own_setCell HO.out (by omega) _) (by omega) _) (by omega) _) (by omega), ((I3.bel.setCell (by show w.heap.size ≤ w.heap.size + 1; omega) _).setCell (by show w.heap.size ≤ w.heap.size + 1 + 1; omega) _).setCell (by show w.heap.size ≤ w.heap.size + 1 + 1; omega) _⟩

set_option maxHeartbeats 1000000 in
theorem implMapPut_full (a : Option Addr) (cap : Nat) (zs : List Int) (key val : Int) (i : Nat) (w : World) (hs : SInts w a (8 * 2) zs) (hnc : 8 ≤ cap) (hcap : cap ≤ 9223372036854775807 ∧ 8 ≤ 1048576) (h1 : okM zs 8 = true) (h2 : inB key 99 = true) (h3 : inB val 999 = true)
    (hent : Hid (∀ W, SInts W a (8 * 2) zs → Calls Tryd.prog 65 #[.slice a 8 cap, .int .i64 key] W fun e w' => e = .returned (.tuple #[.int .i64 (i : Nat), .bool false]) ∧ Below W.heap.size W w')) :
    Calls Tryd.prog 24 #[.agg #[.slice a 8 cap], .int .i64 key, .int .i64 val] w fun e w' => MapRes zs 8 3 0 e w w' := by
  have I0 := loc_start w a 8 cap
  go_enter Tryd.func24, Tryd.ntmps24
  go_wp2_with fail
  refine (implMapOk_any _ _ _ zs _ (hs.below I0.bel) (by omega)).mono ?_
  rintro e w1 ⟨rfl, hb1⟩
  have I1 := I0.below hb1
  have box1 := I1.box
  clear hb1 I0
  rw [h1]
  go_wp2_with fail
  refine (within_as h2 _).mono ?_
  rintro e w1' ⟨rfl, rfl⟩
  go_wp2_with fail
  refine (within_as h3 _).mono ?_
  rintro e w1' ⟨rfl, rfl⟩
  go_wp2_with fail
  refine (hent.out _ (hs.below I1.bel)).mono ?_
  rintro e w2 ⟨rfl, hb2⟩
  have I2 := I1.below hb2
  clear hb2 I1 box1 hent
  go_wp2_with fail
  refine (sameE_any _ 8 _ zs _ (hs.below I2.bel) hnc (by omega)).mono ?_
  rintro e w3 ⟨a', c', rfl, ho, hb3⟩
  have I3 := I2.below hb3
  have m0 := I3.m0
  have r0 := I3.r0
  have r1 := I3.r1
  have fm := I3.fm
  have f0 := I3.f0
  have f1 := I3.f1
  have HO : Hid (w3.ownsRow (w.heap.size + 1 + 1 + 1) 84 2 (.slice a' 8 c') 8 (zs.map (Value.int .i64))) := own_mono ho I2.sz
  clear hb3 I2 hs ho
  go_wp2
  exact bodyPost_ret (v := .tuple #[.agg #[.slice a' 8 c'], .agg #[.int .i64 3, .int .i64 0]]) (by simp [results, Tryd.results24, go_sem, m0, r0, r1]) rfl ⟨a', c', rfl, own_mono (own_setCell (own_setCell (own_setCell HO.out (by omega) _) (by omega) _) (by omega) _) (by omega), ((I3.bel.setCell (by show w.heap.size ≤ w.heap.size + 1; omega) _).setCell (by show w.heap.size ≤ w.heap.size + 1 + 1; omega) _).setCell (by show w.heap.size ≤ w.heap.size + 1 + 1; omega) _⟩

set_option maxHeartbeats 1000000 in
theorem implMapPut_room (a : Option Addr) (n cap : Nat) (zs : List Int) (key val : Int) (i : Nat) (hi : i ≤ n) (w : World) (hs : SInts w a (n * 2) zs) (hnc : n ≤ cap) (hcap : cap ≤ 9223372036854775807 ∧ n ≤ 1048576) (h1 : okM zs n = true) (h2 : inB key 99 = true) (h3 : inB val 999 = true) (h8 : ((n : Int) == 8) = false)
    (hent : Hid (∀ W, SInts W a (n * 2) zs → Calls Tryd.prog 65 #[.slice a n cap, .int .i64 key] W fun e w' => e = .returned (.tuple #[.int .i64 (i : Nat), .bool false]) ∧ Below W.heap.size W w')) :
    Calls Tryd.prog 24 #[.agg #[.slice a n cap], .int .i64 key, .int .i64 val] w fun e w' => MapRes (zs.take (i * 2) ++ [key, val] ++ zs.drop (i * 2)) (n + 1) 2 0 e w w' := by
  have I0 := loc_start w a n cap
  go_enter Tryd.func24, Tryd.ntmps24
  go_wp2_with fail
  refine (implMapOk_any _ _ _ zs _ (hs.below I0.bel) (by omega)).mono ?_
  rintro e w1 ⟨rfl, hb1⟩
  have I1 := I0.below hb1
  have box1 := I1.box
  clear hb1 I0
  rw [h1]
  go_wp2_with fail
  refine (within_as h2 _).mono ?_
  rintro e w1' ⟨rfl, rfl⟩
  go_wp2_with fail
  refine (within_as h3 _).mono ?_
  rintro e w1' ⟨rfl, rfl⟩
  go_wp2_with fail
  refine (hent.out _ (hs.below I1.bel)).mono ?_
  rintro e w2 ⟨rfl, hb2⟩
  have I2 := I1.below hb2
  clear hb2 I1 box1 hent
  go_wp2_with fail
  refine (withE_any _ _ _ zs _ _ _ _ (hs.below I2.bel) hi hnc (by omega)).mono ?_
  rintro e w3 ⟨a', c', rfl, ho, hb3⟩
  have I3 := I2.below hb3
  have m0 := I3.m0
  have r0 := I3.r0
  have r1 := I3.r1
  have fm := I3.fm
  have f0 := I3.f0
  have f1 := I3.f1
  have HO : Hid (w3.ownsRow (w.heap.size + 1 + 1 + 1) 84 2 (.slice a' (n + 1) c') (n + 1) ((zs.take (i * 2) ++ [key, val] ++ zs.drop (i * 2)).map (Value.int .i64))) := own_mono ho I2.sz
  clear hb3 I2 hs ho
  go_wp2
  exact bodyPost_ret (v := .tuple #[.agg #[.slice a' (n + 1) c'], .agg #[.int .i64 2, .int .i64 0]]) (by simp [results, Tryd.results24, go_sem, m0, r0, r1]) rfl ⟨a', c', rfl, own_mono (own_setCell (own_setCell (own_setCell HO.out (by omega) _) (by omega) _) (by omega) _) (by omega), ((I3.bel.setCell (by show w.heap.size ≤ w.heap.size + 1; omega) _).setCell (by show w.heap.size ≤ w.heap.size + 1 + 1; omega) _).setCell (by show w.heap.size ≤ w.heap.size + 1 + 1; omega) _⟩

theorem ptOk_parts {zs : List Int} {n : Nat} {key val : Int} (h : ptOk zs n key val = true) : okM zs n = true ∧ inB key 99 = true ∧ inB val 999 = true := by
  simp only [ptOk, Bool.and_eq_true] at h
  exact ⟨h.1, h.2.1, h.2.2⟩

theorem implMapPut_cap (a : Option Addr) (n cap : Nat) (zs : List Int) (key val : Int) (w : World) (hs : SInts w a (n * 2) zs) (hn : n ≤ 1048576) (hnc : n ≤ cap) (hcap : cap ≤ 9223372036854775807) :
    Calls Tryd.prog 24 #[.agg #[.slice a n cap], .int .i64 key, .int .i64 val] w fun e w' => MapRes (ptL zs n key val) (ptN zs n key val) (ptC zs n key val) 0 e w w' := by
  cases hok : ptOk zs n key val
  · have e1 : ptL zs n key val = [] := by simp [ptL, hok]
    have e2 : ptN zs n key val = 0 := by simp [ptN, hok]
    have e3 : ptC zs n key val = 0 := by simp [ptC, hok]
    rw [e1, e2, e3]
    exact implMapPut_bad a n cap zs key val w hs (by omega) hok
  · obtain ⟨h1, h2, h3⟩ := ptOk_parts hok
    have hent : ∀ W, SInts W a (n * 2) zs → Calls Tryd.prog 65 #[.slice a n cap, .int .i64 key] W fun e w' => e = .returned (.tuple #[.int .i64 (entI zs n key : Nat), .bool (entB zs n key)]) ∧ Below W.heap.size W w' := fun W h => entryOf_tail a n cap zs key W h hn
    cases hE : entB zs n key
    · rw [hE] at hent
      by_cases h8 : n = 8
      · subst h8
        have e1 : ptL zs 8 key val = zs := by simp [ptL, hok, hE]
        have e2 : ptN zs 8 key val = 8 := by simp [ptN, hok, hE]
        have e3 : ptC zs 8 key val = 3 := by simp [ptC, hok, hE]
        rw [e1, e2, e3]
        exact implMapPut_full a cap zs key val _ w hs hnc ⟨hcap, by omega⟩ h1 h2 h3 hent
      · have e1 : ptL zs n key val = zs.take (entI zs n key * 2) ++ [key, val] ++ zs.drop (entI zs n key * 2) := by simp [ptL, hok, hE, h8]
        have e2 : ptN zs n key val = n + 1 := by simp [ptN, hok, hE, h8]
        have e3 : ptC zs n key val = 2 := by simp [ptC, hok, hE, h8]
        rw [e1, e2, e3]
        exact implMapPut_room a n cap zs key val _ (entI_le zs n key) w hs hnc ⟨hcap, by omega⟩ h1 h2 h3 (by simp; omega) hent
    · rw [hE] at hent
      have e1 : ptL zs n key val = zs := by simp [ptL, hok, hE]
      have e2 : ptN zs n key val = n := by simp [ptN, hok, hE]
      have e3 : ptC zs n key val = 1 := by simp [ptC, hok, hE]
      rw [e1, e2, e3]
      exact implMapPut_there a n cap zs key val _ w hs hnc ⟨hcap, hn⟩ h1 h2 h3 hent

theorem implMapPut_any (a : Option Addr) (n : Nat) (zs : List Int) (key val : Int) (w : World) (hs : SInts w a (n * 2) zs) (hn : n ≤ 1048576) :
    Calls Tryd.prog 24 #[.agg #[.slice a n n], .int .i64 key, .int .i64 val] w fun e w' => MapRes (ptL zs n key val) (ptN zs n key val) (ptC zs n key val) 0 e w w' :=
  implMapPut_cap a n n zs key val w hs hn (Nat.le_refl _) (by omega)

end Go.Proofs.YtklpdpdjblakgaaDoor

/- MapM -/
namespace Go.Proofs.YtklpdpdjblakgaaDoor
open Go.RowKit
set_option linter.unusedVariables false

theorem okM_iff {zs : List Int} {n : Nat} : okM zs n = true ↔ n ≤ 8 ∧ (∀ i, i < n → entIn zs i = true) ∧ (∀ i j, i < j → j < n → keyAt zs i < keyAt zs j) := by
  constructor
  · intro h
    obtain ⟨h1, h2, h3⟩ := okM_parts h
    exact ⟨h1, h2, fun i j hij hj => up_lt h3 j i hij hj⟩
  · rintro ⟨h1, h2, h3⟩
    simp only [okM, Bool.and_eq_true, decide_eq_true_eq, List.all_eq_true, List.mem_range]
    refine ⟨h1, h2, fun i hi => ?_⟩
    unfold entUp
    by_cases e : i = 0
    · simp [e]
    · simp [e]
      exact h3 (i - 1) i (by omega) hi

theorem cut_key {zs : List Int} {i j : Nat} : keyAt (zs.take (i * 2) ++ zs.drop ((i + 1) * 2)) j = keyAt zs (if j < i then j else j + 1) ∨ zs.length < i * 2 := by
  by_cases hl : zs.length < i * 2
  · exact .inr hl
  left
  unfold keyAt
  by_cases h : j < i
  · rw [if_pos h]
    simp only [List.getD_eq_getElem?_getD]
    rw [List.getElem?_append_left (by simp; omega), List.getElem?_take_of_lt (by omega)]
  · rw [if_neg h]
    simp only [List.getD_eq_getElem?_getD]
    rw [List.getElem?_append_right (by simp; omega), List.getElem?_drop]
    congr 2
    simp
    omega
theorem cut_val {zs : List Int} {i j : Nat} : valAt (zs.take (i * 2) ++ zs.drop ((i + 1) * 2)) j = valAt zs (if j < i then j else j + 1) ∨ zs.length < i * 2 := by
  by_cases hl : zs.length < i * 2
  · exact .inr hl
  left
  unfold valAt
  by_cases h : j < i
  · rw [if_pos h]
    simp only [List.getD_eq_getElem?_getD]
    rw [List.getElem?_append_left (by simp; omega), List.getElem?_take_of_lt (by omega)]
  · rw [if_neg h]
    simp only [List.getD_eq_getElem?_getD]
    rw [List.getElem?_append_right (by simp; omega), List.getElem?_drop]
    congr 2
    simp
    omega

/-- The entries without one are ok. -/
theorem cut_ok {zs : List Int} {n i : Nat} (hl : zs.length = n * 2) (h : okM zs n = true) (hi : i < n) : okM (zs.take (i * 2) ++ zs.drop ((i + 1) * 2)) (n - 1) = true := by
  obtain ⟨h1, h2, h3⟩ := okM_iff.1 h
  have ck : ∀ j, keyAt (zs.take (i * 2) ++ zs.drop ((i + 1) * 2)) j = keyAt zs (if j < i then j else j + 1) := fun j => (cut_key).resolve_right (by omega)
  have cv : ∀ j, valAt (zs.take (i * 2) ++ zs.drop ((i + 1) * 2)) j = valAt zs (if j < i then j else j + 1) := fun j => (cut_val).resolve_right (by omega)
  refine okM_iff.2 ⟨by omega, fun j hj => ?_, fun j k hjk hk => ?_⟩
  · have := h2 (if j < i then j else j + 1) (by split <;> omega)
    unfold entIn at this ⊢
    rw [ck, cv]
    exact this
  · rw [ck, ck]
    exact h3 _ _ (by split <;> split <;> omega) (by split <;> omega)

/-- A beginning of entries is ok. -/
theorem take_ok {zs : List Int} {n k : Nat} (h : okM zs n = true) (hk : k ≤ n) : okM (zs.take (k * 2)) k = true := by
  obtain ⟨h1, h2, h3⟩ := okM_iff.1 h
  have ck : ∀ j, j < k → keyAt (zs.take (k * 2)) j = keyAt zs j := fun j hj => by
    unfold keyAt
    simp only [List.getD_eq_getElem?_getD]
    rw [List.getElem?_take_of_lt (by omega)]
  have cv : ∀ j, j < k → valAt (zs.take (k * 2)) j = valAt zs j := fun j hj => by
    unfold valAt
    simp only [List.getD_eq_getElem?_getD]
    rw [List.getElem?_take_of_lt (by omega)]
  refine okM_iff.2 ⟨by omega, fun j hj => ?_, fun i j hij hj => ?_⟩
  · have := h2 j (by omega)
    unfold entIn at this ⊢
    rw [ck j hj, cv j hj]
    exact this
  · rw [ck i (by omega), ck j hj]
    exact h3 i j hij (by omega)

/-- Where a key is, among entries that are ok. -/
theorem ent_at {zs : List Int} {n k : Nat} (h : okM zs n = true) (hk : k < n) : entI zs n (keyAt zs k) = k ∧ entB zs n (keyAt zs k) = true := by
  obtain ⟨h1, h2, h3⟩ := okM_iff.1 h
  have hup := upM_yes (okM_parts h).2.2
  have hI : entI zs n (keyAt zs k) = k := by
    unfold entI
    rw [hup]
    exact fIdx_eq (by omega) (fun j hj => geK_no (h3 j k hj hk)) (.inr (geK_yes (Int.le_refl _)))
  refine ⟨hI, ?_⟩
  unfold entB
  rw [hI]
  simp [hk]

/-- MapGet by what stands where. -/
theorem get_yes {zs : List Int} {n i : Nat} {key : Int} (hup : ∀ i j, i < j → j < n → keyAt zs i < keyAt zs j) (hi : i < n) (hk : keyAt zs i = key) : getC zs n key = 2 ∧ getV zs n key = valAt zs i := by
  have h : fIdx (fun j => eqK key (keyAt zs j)) n = i := fIdx_eq (by omega) (fun j hj => by
    have := hup j i hj hi
    simp [eqK]
    omega) (.inr (by simp [eqK, hk]))
  unfold getC getV
  rw [h, if_neg (by omega), if_neg (by omega)]
  exact ⟨rfl, rfl⟩
theorem get_no {zs : List Int} {n : Nat} {key : Int} (h : ∀ j, j < n → keyAt zs j ≠ key) : getC zs n key = 1 ∧ getV zs n key = 0 := by
  have h : fIdx (fun j => eqK key (keyAt zs j)) n = n := fIdx_eq (Nat.le_refl _) (fun j hj => by
    have := h j hj
    simpa [eqK] using this) (.inl rfl)
  unfold getC getV
  rw [h, if_pos rfl, if_pos rfl]
  exact ⟨rfl, rfl⟩
/-- Either a key is there, once, or it is not. -/
theorem ent_cases {zs : List Int} {n : Nat} (key : Int) (h : okM zs n = true) :
    (entB zs n key = true ∧ entI zs n key < n ∧ keyAt zs (entI zs n key) = key) ∨ (entB zs n key = false ∧ ∀ j, j < n → keyAt zs j ≠ key) := by
  by_cases hx : ∃ j, j < n ∧ keyAt zs j = key
  · obtain ⟨j, hj, rfl⟩ := hx
    have := ent_at h hj
    exact .inl ⟨this.2, by rw [this.1]; exact hj, by rw [this.1]⟩
  · refine .inr ⟨?_, fun j hj e => hx ⟨j, hj, e⟩⟩
    unfold entB
    by_cases hl : entI zs n key < n
    · have : ¬ keyAt zs (entI zs n key) = key := fun e => hx ⟨_, hl, e⟩
      simp [this]
    · simp [hl]
/-- Without a key: what is got then. -/
theorem cut_get {zs : List Int} {n i : Nat} (hl : zs.length = n * 2) (h : okM zs n = true) (hi : i < n) :
    (getC (zs.take (i * 2) ++ zs.drop ((i + 1) * 2)) (n - 1) (keyAt zs i) = 1) ∧ ∀ k, k ≠ keyAt zs i → getC (zs.take (i * 2) ++ zs.drop ((i + 1) * 2)) (n - 1) k = getC zs n k ∧ getV (zs.take (i * 2) ++ zs.drop ((i + 1) * 2)) (n - 1) k = getV zs n k := by
  obtain ⟨h1, h2, h3⟩ := okM_iff.1 h
  obtain ⟨_, _, h3'⟩ := okM_iff.1 (cut_ok hl h hi)
  have ck : ∀ j, keyAt (zs.take (i * 2) ++ zs.drop ((i + 1) * 2)) j = keyAt zs (if j < i then j else j + 1) := fun j => (cut_key).resolve_right (by omega)
  have cv : ∀ j, valAt (zs.take (i * 2) ++ zs.drop ((i + 1) * 2)) j = valAt zs (if j < i then j else j + 1) := fun j => (cut_val).resolve_right (by omega)
  refine ⟨(get_no (fun j hj e => ?_)).1, fun k hk => ?_⟩
  · rw [ck] at e
    by_cases hji : j < i
    · rw [if_pos hji] at e
      have := h3 j i hji hi
      omega
    · rw [if_neg hji] at e
      have := h3 i (j + 1) (by omega) (by omega)
      omega
  · by_cases hx : ∃ j, j < n ∧ keyAt zs j = k
    · obtain ⟨j, hj, e⟩ := hx
      have hji : j ≠ i := fun e2 => by subst e2; exact hk e.symm
      have a := get_yes h3 hj e
      by_cases hlt : j < i
      · have b := get_yes (i := j) (key := k) h3' (by omega) (by rw [ck, if_pos hlt]; exact e)
        rw [a.1, a.2, b.1, b.2, cv, if_pos hlt]
        exact ⟨rfl, rfl⟩
      · have b := get_yes (i := j - 1) (key := k) h3' (by omega) (by rw [ck, if_neg (by omega), show j - 1 + 1 = j by omega]; exact e)
        rw [a.1, a.2, b.1, b.2, cv, if_neg (by omega), show j - 1 + 1 = j by omega]
        exact ⟨rfl, rfl⟩
    · have a := get_no (zs := zs) (n := n) (key := k) (fun j hj e => hx ⟨j, hj, e⟩)
      have b := get_no (zs := zs.take (i * 2) ++ zs.drop ((i + 1) * 2)) (n := n - 1) (key := k) (fun j hj e => hx (by rw [ck] at e; exact ⟨_, by split <;> omega, e⟩))
      rw [a.1, a.2, b.1, b.2]
      exact ⟨rfl, rfl⟩
/-- To put back what was taken out. -/
theorem cut_back {zs : List Int} {n i : Nat} (hl : zs.length = n * 2) (h : okM zs n = true) (hi : i < n) :
    ptL (zs.take (i * 2) ++ zs.drop ((i + 1) * 2)) (n - 1) (keyAt zs i) (valAt zs i) = zs ∧ ptN (zs.take (i * 2) ++ zs.drop ((i + 1) * 2)) (n - 1) (keyAt zs i) (valAt zs i) = n := by
  obtain ⟨h1, h2, h3⟩ := okM_iff.1 h
  have hok := cut_ok hl h hi
  have hin := h2 i hi
  have ck : ∀ j, keyAt (zs.take (i * 2) ++ zs.drop ((i + 1) * 2)) j = keyAt zs (if j < i then j else j + 1) := fun j => (cut_key).resolve_right (by omega)
  have hpt : ptOk (zs.take (i * 2) ++ zs.drop ((i + 1) * 2)) (n - 1) (keyAt zs i) (valAt zs i) = true := by
    unfold ptOk
    unfold entIn at hin
    rw [hok, Bool.true_and]
    exact hin
  have hI : entI (zs.take (i * 2) ++ zs.drop ((i + 1) * 2)) (n - 1) (keyAt zs i) = i := by
    unfold entI
    rw [upM_yes (okM_parts hok).2.2]
    refine fIdx_eq (by omega) (fun j hj => geK_no (by rw [ck, if_pos hj]; exact h3 j i hj hi)) ?_
    by_cases e : i = n - 1
    · exact .inl e
    · right
      refine geK_yes ?_
      rw [ck, if_neg (by omega)]
      have := h3 i (i + 1) (by omega) (by omega)
      omega
  have hB : entB (zs.take (i * 2) ++ zs.drop ((i + 1) * 2)) (n - 1) (keyAt zs i) = false := by
    unfold entB
    rw [hI, ck, if_neg (by omega)]
    by_cases e : i < n - 1
    · have := h3 i (i + 1) (by omega) (by omega)
      have : ¬ keyAt zs (i + 1) = keyAt zs i := by omega
      simp [this]
    · simp [e]
  unfold ptL ptN
  rw [hpt, hB, hI, if_neg (show ¬ n - 1 = 8 by omega), if_neg (show ¬ n - 1 = 8 by omega)]
  simp only [if_true, Bool.false_eq_true, if_false]
  refine ⟨?_, by omega⟩
  have t1 : (zs.take (i * 2) ++ zs.drop ((i + 1) * 2)).take (i * 2) = zs.take (i * 2) := by
    rw [List.take_append_of_le_length (by simp; omega), List.take_take, Nat.min_self]
  have t2 : (zs.take (i * 2) ++ zs.drop ((i + 1) * 2)).drop (i * 2) = zs.drop ((i + 1) * 2) := by
    rw [List.drop_append_of_le_length (by simp; omega), List.drop_take]
    simp
  rw [t1, t2]
  have hk : zs[i * 2]? = some (keyAt zs i) := by
    unfold keyAt
    rw [List.getD_eq_getElem?_getD, List.getElem?_eq_getElem (by omega)]
    rfl
  have hv : zs[i * 2 + 1]? = some (valAt zs i) := by
    unfold valAt
    rw [List.getD_eq_getElem?_getD, List.getElem?_eq_getElem (by omega)]
    rfl
  have e2 : zs.drop (i * 2) = keyAt zs i :: valAt zs i :: zs.drop ((i + 1) * 2) := by
    obtain ⟨ha, ea⟩ := List.getElem?_eq_some_iff.1 hk
    obtain ⟨hb, eb⟩ := List.getElem?_eq_some_iff.1 hv
    rw [List.drop_eq_getElem_cons ha, ea, List.drop_eq_getElem_cons hb, eb]
    rw [show i * 2 + 1 + 1 = (i + 1) * 2 by omega]
  rw [show zs.take (i * 2) ++ [keyAt zs i, valAt zs i] ++ zs.drop ((i + 1) * 2) = zs.take (i * 2) ++ (keyAt zs i :: valAt zs i :: zs.drop ((i + 1) * 2)) by simp, ← e2, List.take_append_drop]

end Go.Proofs.YtklpdpdjblakgaaDoor

/- PutM -/
namespace Go.Proofs.YtklpdpdjblakgaaDoor
open Go.RowKit
set_option linter.unusedVariables false

theorem ins_at {zs : List Int} {i m : Nat} {k v : Int} (hl : i * 2 ≤ zs.length) (b : Nat) (hb : b < 2) : (zs.take (i * 2) ++ [k, v] ++ zs.drop (i * 2))[m * 2 + b]? = if m < i then zs[m * 2 + b]? else if m = i then some (if b = 0 then k else v) else zs[(m - 1) * 2 + b]? := by
  have ht : (zs.take (i * 2)).length = i * 2 := by simp; omega
  rw [List.append_assoc]
  by_cases h : m < i
  · rw [if_pos h, List.getElem?_append_left (by omega), List.getElem?_take_of_lt (by omega)]
  · rw [if_neg h, List.getElem?_append_right (by omega), ht]
    by_cases e : m = i
    · subst e
      rw [if_pos rfl, show m * 2 + b - m * 2 = b by omega]
      rcases (show b = 0 ∨ b = 1 by omega) with rfl | rfl <;> rfl
    · rw [if_neg e, show m * 2 + b - i * 2 = ((m - i - 1) * 2 + b) + 2 by omega]
      show (zs.drop (i * 2))[(m - i - 1) * 2 + b]? = _
      rw [List.getElem?_drop]
      congr 1
      omega
theorem ins_key {zs : List Int} {i m : Nat} {k v : Int} (hl : i * 2 ≤ zs.length) : keyAt (zs.take (i * 2) ++ [k, v] ++ zs.drop (i * 2)) m = if m < i then keyAt zs m else if m = i then k else keyAt zs (m - 1) := by
  have h := ins_at (m := m) (k := k) (v := v) hl 0 (by omega)
  simp only [Nat.add_zero] at h
  unfold keyAt
  simp only [List.getD_eq_getElem?_getD]
  rw [h]
  split
  · rfl
  · split <;> rfl
theorem ins_val {zs : List Int} {i m : Nat} {k v : Int} (hl : i * 2 ≤ zs.length) : valAt (zs.take (i * 2) ++ [k, v] ++ zs.drop (i * 2)) m = if m < i then valAt zs m else if m = i then v else valAt zs (m - 1) := by
  have h := ins_at (m := m) (k := k) (v := v) hl 1 (by omega)
  unfold valAt
  simp only [List.getD_eq_getElem?_getD]
  rw [h]
  split
  · rfl
  · split <;> rfl
theorem ins_cut {zs : List Int} {i : Nat} {k v : Int} (hl : i * 2 ≤ zs.length) : (zs.take (i * 2) ++ [k, v] ++ zs.drop (i * 2)).take (i * 2) ++ (zs.take (i * 2) ++ [k, v] ++ zs.drop (i * 2)).drop ((i + 1) * 2) = zs := by
  have ht : (zs.take (i * 2)).length = i * 2 := by simp; omega
  have e1 : (zs.take (i * 2) ++ [k, v] ++ zs.drop (i * 2)).take (i * 2) = zs.take (i * 2) := by
    rw [List.append_assoc, List.take_append_of_le_length (by omega), List.take_take, Nat.min_self]
  have e2 : (zs.take (i * 2) ++ [k, v] ++ zs.drop (i * 2)).drop ((i + 1) * 2) = zs.drop (i * 2) := by
    have : (zs.take (i * 2) ++ [k, v]).length = (i + 1) * 2 := by simp [ht]; omega
    rw [← this, List.drop_left]
  rw [e1, e2, List.take_append_drop]

/-- Entries that are ok, and one more. -/
theorem put_new {L : List Int} {N : Nat} {key val : Int} (hl : L.length = N * 2) (hok : okM L N = true) (hin : (inB key 99 && inB val 999) = true) (hno : ∀ j, j < N → keyAt L j ≠ key) (h8 : N < 8) (D : List Int) (hD : D = L.take (entI L N key * 2) ++ [key, val] ++ L.drop (entI L N key * 2)) :
    okM D (N + 1) = true ∧ getC D (N + 1) key = 2 ∧ getV D (N + 1) key = val ∧ ∀ k, k ≠ key → getC D (N + 1) k = getC L N k ∧ getV D (N + 1) k = getV L N k := by
  obtain ⟨h1, h2, h3⟩ := okM_iff.1 hok
  have hI : entI L N key = fIdx (fun i => geK key (keyAt L i)) N := by simp [entI, upM_yes (okM_parts hok).2.2]
  obtain ⟨hlow0, hat0⟩ := fIdx_spec (fun i => geK key (keyAt L i)) N
  have hle := fIdx_le (fun i => geK key (keyAt L i)) N
  rw [← hI] at hlow0 hat0 hle
  have hlow : ∀ j, j < entI L N key → keyAt L j < key := by
    intro j hj
    have := hlow0 j hj
    simp [geK] at this
    exact this
  have hhigh : ∀ j, entI L N key ≤ j → j < N → key < keyAt L j := by
    intro j hj hjn
    have h4 := hat0 (by omega)
    simp [geK] at h4
    have h5 := hno (entI L N key) (by omega)
    by_cases e : j = entI L N key
    · subst e; omega
    · have := h3 (entI L N key) j (by omega) hjn
      omega
  generalize entI L N key = i at hD hlow hhigh hle
  clear hI hlow0 hat0
  have hil : i * 2 ≤ L.length := by omega
  have ck : ∀ m, keyAt D m = if m < i then keyAt L m else if m = i then key else keyAt L (m - 1) := fun m => by rw [hD]; exact ins_key hil
  have cv : ∀ m, valAt D m = if m < i then valAt L m else if m = i then val else valAt L (m - 1) := fun m => by rw [hD]; exact ins_val hil
  have hDl : D.length = (N + 1) * 2 := by rw [hD]; simp; omega
  have hDok : okM D (N + 1) = true := by
    refine okM_iff.2 ⟨by omega, fun j hj => ?_, fun a b hab hb => ?_⟩
    · unfold entIn
      rw [ck, cv]
      by_cases e1 : j < i
      · rw [if_pos e1, if_pos e1]
        exact h2 j (by omega)
      · rw [if_neg e1, if_neg e1]
        by_cases e2 : j = i
        · rw [if_pos e2, if_pos e2]
          exact hin
        · rw [if_neg e2, if_neg e2]
          exact h2 (j - 1) (by omega)
    · rw [ck, ck]
      by_cases a1 : a < i
      · rw [if_pos a1]
        by_cases b1 : b < i
        · rw [if_pos b1]; exact h3 a b hab (by omega)
        · rw [if_neg b1]
          by_cases b2 : b = i
          · rw [if_pos b2]; exact hlow a a1
          · rw [if_neg b2]; exact h3 a (b - 1) (by omega) (by omega)
      · rw [if_neg a1, if_neg (show ¬ b < i by omega), if_neg (show ¬ b = i by omega)]
        by_cases a2 : a = i
        · rw [if_pos a2]; exact hhigh (b - 1) (by omega) (by omega)
        · rw [if_neg a2]; exact h3 (a - 1) (b - 1) (by omega) (by omega)
  have hki : keyAt D i = key := by rw [ck, if_neg (by omega), if_pos rfl]
  have hvi : valAt D i = val := by rw [cv, if_neg (by omega), if_pos rfl]
  have hc : D.take (i * 2) ++ D.drop ((i + 1) * 2) = L := by rw [hD]; exact ins_cut hil
  have g := get_yes (okM_iff.1 hDok).2.2 (show i < N + 1 by omega) hki
  have c := (cut_get hDl hDok (show i < N + 1 by omega)).2
  rw [hki, hc] at c
  exact ⟨hDok, g.1, by rw [g.2, hvi], fun k hk => ⟨(c k hk).1.symm, (c k hk).2.symm⟩⟩

/-- What MapPut of entries that are ok makes, and answers. -/
theorem put_all {L : List Int} {N : Nat} {key val : Int} (hl : L.length = N * 2) (hp : ptOk L N key val = true) :
    okM (ptL L N key val) (ptN L N key val) = true ∧
    ((ptC L N key val = 1 ∧ ptL L N key val = L ∧ ptN L N key val = N ∧ getC L N key = 2) ∨
     (ptC L N key val = 3 ∧ ptL L N key val = L ∧ ptN L N key val = N ∧ getC L N key = 1 ∧ N = 8) ∨
     (ptC L N key val = 2 ∧ getC L N key = 1 ∧ getC (ptL L N key val) (ptN L N key val) key = 2 ∧ getV (ptL L N key val) (ptN L N key val) key = val ∧
       ∀ k, k ≠ key → getC (ptL L N key val) (ptN L N key val) k = getC L N k ∧ getV (ptL L N key val) (ptN L N key val) k = getV L N k)) := by
  obtain ⟨hok, hin⟩ : okM L N = true ∧ (inB key 99 && inB val 999) = true := by
    have := hp
    unfold ptOk at this
    rw [Bool.and_eq_true] at this
    exact this
  obtain ⟨h1, h2, h3⟩ := okM_iff.1 hok
  rcases ent_cases key hok with ⟨hB, hi, hk⟩ | ⟨hB, hno⟩
  · have e1 : ptL L N key val = L := by simp [ptL, hp, hB]
    have e2 : ptN L N key val = N := by simp [ptN, hp, hB]
    have e3 : ptC L N key val = 1 := by simp [ptC, hp, hB]
    rw [e1, e2, e3]
    exact ⟨hok, .inl ⟨rfl, rfl, rfl, (get_yes h3 hi hk).1⟩⟩
  · by_cases h8 : N = 8
    · have e1 : ptL L N key val = L := by unfold ptL; rw [hp, hB, if_pos h8]; rfl
      have e2 : ptN L N key val = N := by unfold ptN; rw [hp, hB, if_pos h8]; rfl
      have e3 : ptC L N key val = 3 := by unfold ptC; rw [hp, hB, if_pos h8]; rfl
      rw [e1, e2, e3]
      exact ⟨hok, .inr (.inl ⟨rfl, rfl, rfl, (get_no hno).1, h8⟩)⟩
    · have e1 : ptL L N key val = L.take (entI L N key * 2) ++ [key, val] ++ L.drop (entI L N key * 2) := by simp [ptL, hp, hB, h8]
      have e2 : ptN L N key val = N + 1 := by simp [ptN, hp, hB, h8]
      have e3 : ptC L N key val = 2 := by simp [ptC, hp, hB, h8]
      rw [e2, e3]
      obtain ⟨a, b, c, d⟩ := put_new hl hok hin hno (by omega) _ e1
      exact ⟨a, .inr (.inr ⟨rfl, (get_no hno).1, b, c, d⟩)⟩
theorem put_not {L : List Int} {N : Nat} {key val : Int} (hp : ptOk L N key val = false) : ptC L N key val = 0 ∧ ptN L N key val = 0 := ⟨by simp [ptC, hp], by simp [ptN, hp]⟩
theorem ptOk_yes {L : List Int} {N : Nat} {key val : Int} (h : okM L N = true) (h1 : 0 ≤ key) (h2 : key ≤ 99) (h3 : 0 ≤ val) (h4 : val ≤ 999) : ptOk L N key val = true := by
  simp [ptOk, h, inB]
  omega
theorem ptOk_no {L : List Int} {N : Nat} {key val : Int} (h : okM L N = false ∨ key < 0 ∨ 99 < key ∨ val < 0 ∨ 999 < val) : ptOk L N key val = false := by
  cases e : ptOk L N key val
  · rfl
  · exfalso
    simp [ptOk, inB] at e
    rcases h with h | h
    · rw [h] at e; simp at e
    · omega

end Go.Proofs.YtklpdpdjblakgaaDoor

/- Count -/
namespace Go.Proofs.YtklpdpdjblakgaaDoor
open Go.RowKit
set_option linter.unusedVariables false

/-- How many of the first k keys are from a key on. -/
def cntN (zs : List Int) (key : Int) : Nat → Nat
  | 0 => 0
  | k + 1 => if geK key (keyAt zs k) then cntN zs key k + 1 else cntN zs key k
def cntV (zs : List Int) (n : Nat) (key : Int) : Int := cntN zs key n
theorem cntN_le (zs : List Int) (key : Int) (k : Nat) : cntN zs key k ≤ k := by
  induction k with
  | zero => simp [cntN]
  | succ k ih => unfold cntN; split <;> omega
theorem cntN_yes {zs : List Int} {key x : Int} {k : Nat} (hx : keyAt zs k = x) (h : key ≤ x) : cntN zs key (k + 1) = cntN zs key k + 1 := by
  simp [cntN, hx, geK_yes h]
theorem cntN_no {zs : List Int} {key x : Int} {k : Nat} (hx : keyAt zs k = x) (h : x < key) : cntN zs key (k + 1) = cntN zs key k := by
  simp [cntN, hx, geK_no h]

set_option maxHeartbeats 400000 in
theorem specMapCount_any (a : Option Addr) (n cap : Nat) (zs : List Int) (key : Int) (w : World) (hs : SInts w a (n * 2) zs) (hn : n ≤ 1048576) :
    Calls Tryd.prog 43 #[.agg #[.slice a n cap], .int .i64 key] w fun e w' => e = .returned (.agg #[.int .i64 2, .int .i64 (cntV zs n key)]) ∧ Below w.heap.size w w' := by
  have hb0 : ∀ o o1, Below w.heap.size w ((w.alloc o).alloc o1) := fun o o1 => ((Below.refl _ _).alloc (Nat.le_refl _) o).alloc (by simp) o1
  go_enter Tryd.func43, Tryd.ntmps43
  go_wp2
  go_loop [5, 6] (fun c i => ∃ k m : Nat, k ≤ n ∧ m ≤ k ∧ i = .int .i64 k ∧ c = .int .i64 m ∧ m = cntN zs key k) (fun _ i => n - (intOf i).toNat)
  case atStart => exact ⟨0, 0, Nat.zero_le _, Nat.le_refl _, rfl, rfl, rfl⟩
  case round =>
    obtain ⟨k, m, hk, hmk, rfl, rfl, hm0⟩ := hrel
    have HM : Hid (m = cntN zs key k) := hm0
    clear hm0
    by_cases hlt : k < n
    · obtain ⟨b, off, rfl⟩ := hs.addr (by omega)
      obtain ⟨x, hx⟩ : ∃ x, keyAt zs k = x := ⟨_, rfl⟩
      have h1 := (hs.below (hb0 (.cells #[.slice (some ⟨b, off, none⟩) n cap] 33) (.cells #[.int .i64 0, .int .i64 0] 37))).keyCell hlt
      rw [hx] at h1
      have HX : Hid (keyAt zs k = x) := hx
      clear hx hs
      by_cases hp : key ≤ x
      · go_wp2
        go_round
        case rel => exact ⟨k + 1, m + 1, by omega, by omega, by go_num, by go_num, by rw [cntN_yes HX.out hp, HM.out]⟩
        case measure => simp [intOf]; omega
      · go_wp2
        go_round
        case rel => exact ⟨k + 1, m, by omega, by omega, by go_num, rfl, by rw [cntN_no HX.out (by omega), HM.out]⟩
        case measure => simp [intOf]; omega
    · obtain rfl : k = n := by omega
      clear hs
      go_wp2
      exact bodyPost_ret (v := .agg #[.int .i64 2, .int .i64 m]) (by simp [results, Tryd.results43, go_sem]) rfl ⟨by rw [HM.out]; rfl, hb0 _ _⟩

set_option maxHeartbeats 400000 in
theorem implMapCount_any (a : Option Addr) (n cap : Nat) (zs : List Int) (key : Int) (w : World) (hs : SInts w a (n * 2) zs) (hn : n ≤ 1048576) :
    Calls Tryd.prog 30 #[.agg #[.slice a n cap], .int .i64 key] w fun e w' => e = .returned (.agg #[.int .i64 2, .int .i64 (cntV zs n key)]) ∧ Below w.heap.size w w' := by
  have al : ∀ (W : World) (o : Obj), Below W.heap.size W (W.alloc o) := fun W o => (Below.refl _ _).alloc (Nat.le_refl _) o
  have hb0 : ∀ o o1, Below w.heap.size w ((w.alloc o).alloc o1) := fun o o1 => ((Below.refl _ _).alloc (Nat.le_refl _) o).alloc (by simp) o1
  go_enter Tryd.func30, Tryd.ntmps30
  go_wp2
  go_loopw [5, 11] (fun c i wr => ∃ k m : Nat, k ≤ n ∧ m ≤ k ∧ i = .int .i64 k ∧ c = .int .i64 m ∧ m = cntN zs key k ∧ Below w.heap.size w wr ∧ wr.cell? ⟨w.heap.size + 1, 0, none⟩ = some (.int .i64 0) ∧ wr.cell? ⟨w.heap.size + 1, 1, none⟩ = some (.int .i64 0) ∧ wr.frozen? ⟨w.heap.size + 1, 0, none⟩ = false ∧ wr.frozen? ⟨w.heap.size + 1, 1, none⟩ = false) (fun _ i _ => n - (intOf i).toNat)
  case atStart => exact ⟨0, 0, Nat.zero_le _, Nat.le_refl _, rfl, rfl, rfl, hb0 _ _, cell_at (w.alloc _) _ _ 0 (by simp) rfl, cell_at (w.alloc _) _ _ 1 (by simp) rfl, frozen_at (w.alloc _) _ _ 0 (by simp), frozen_at (w.alloc _) _ _ 1 (by simp)⟩
  case round =>
    obtain ⟨k, m, hk, hmk, rfl, rfl, hm0, hbel, r0, r1, f0, f1⟩ := hrel
    have HM : Hid (m = cntN zs key k) := hm0
    clear hm0
    by_cases hlt : k < n
    · obtain ⟨b, off, rfl⟩ := hs.addr (by omega)
      obtain ⟨x, hx⟩ : ∃ x, keyAt zs k = x := ⟨_, rfl⟩
      obtain ⟨y, hy⟩ : ∃ y, valAt zs k = y := ⟨_, rfl⟩
      have h1 := (hs.below hbel).keyCell hlt
      rw [hx] at h1
      have h2 := (hs.below hbel).valCell hlt
      rw [hy] at h2
      have HX : Hid (keyAt zs k = x) := hx
      have A := al wr (.cells #[.int .i64 x, .int .i64 y] 84)
      have hlt1 := World.block_lt_of_cell? wr ⟨w.heap.size + 1, 0, none⟩ r0
      have R : Hid (Below w.heap.size w (wr.alloc (.cells #[.int .i64 x, .int .i64 y] 84)) ∧ (wr.alloc (.cells #[.int .i64 x, .int .i64 y] 84)).cell? ⟨w.heap.size + 1, 0, none⟩ = some (.int .i64 0) ∧ (wr.alloc (.cells #[.int .i64 x, .int .i64 y] 84)).cell? ⟨w.heap.size + 1, 1, none⟩ = some (.int .i64 0) ∧ (wr.alloc (.cells #[.int .i64 x, .int .i64 y] 84)).frozen? ⟨w.heap.size + 1, 0, none⟩ = false ∧ (wr.alloc (.cells #[.int .i64 x, .int .i64 y] 84)).frozen? ⟨w.heap.size + 1, 1, none⟩ = false) :=
        ⟨below_trans' hbel A, cell_kept A r0, cell_kept A r1, (A.frozen (p := ⟨w.heap.size + 1, 0, none⟩) hlt1).trans f0, (A.frozen (p := ⟨w.heap.size + 1, 1, none⟩) hlt1).trans f1⟩
      clear hx hy hs A al r0 r1 f0 f1 hbel hlt1
      by_cases hp : key ≤ x
      · go_wp2
        go_roundw
        case rel => exact ⟨k + 1, m + 1, by omega, by omega, by go_num, by go_num, by rw [cntN_yes HX.out hp, HM.out], R.out⟩
        case measure => simp [intOf]; omega
      · go_wp2
        go_roundw
        case rel => exact ⟨k + 1, m, by omega, by omega, by go_num, rfl, by rw [cntN_no HX.out (by omega), HM.out], R.out⟩
        case measure => simp [intOf]; omega
    · obtain rfl : k = n := by omega
      clear hs
      go_wp2
      exact bodyPost_ret (v := .agg #[.int .i64 2, .int .i64 m]) (by simp [results, Tryd.results30, go_sem, r0, r1]) rfl ⟨by rw [HM.out]; rfl, (hbel.setCell (by show w.heap.size ≤ w.heap.size + 1; omega) _).setCell (by show w.heap.size ≤ w.heap.size + 1; omega) _⟩

end Go.Proofs.YtklpdpdjblakgaaDoor
