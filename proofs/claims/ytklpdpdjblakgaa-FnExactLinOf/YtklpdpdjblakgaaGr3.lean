/- Several texts in one: Word, Next, MapOk, Entry, ListsE, Del, Get, Put, MapM, PutM, Count, First, SpecPush, SpecQue, Take, Frame, OpS, LinM, Nodes, Nodes2, Inv3, Arena. -/
import Derived.Test.YtklpdpdjblakgaaGr1
import Derived.Test.YtklpdpdjblakgaaGr2
import Derived.Deep.QuietTactic
import Derived.BigQuiet
import Derived.Deep.RegionLawGrows
import Derived.ProofKit
import Derived.OpenShut
import Derived.ShutString
import Derived.ChangeOld
import Derived.Below
import Derived.Deep.RegionWith
/- Word -/
namespace Go.Proofs.Ytklpdpdjblakgaa
open Go.RowKit
set_option linter.unusedVariables false

/-- The place to which a word leads. -/
def wTo (x : Int) : Int := if inB x 19 then x / 2 else 0
/-- Whether a word is marked. -/
def wMark (x : Int) : Bool := inB x 19 && (x % 2 == 1)
/-- The word of a place and a mark. -/
def wMake (x : Int) (m : Bool) : Int := if inB x 9 then (if m then 2 * x + 1 else 2 * x) else 0

theorem inB_parts {x hi : Int} (h : inB x hi = true) : 0 ≤ x ∧ x ≤ hi := by simpa [inB] using h

theorem ret_int {k : IntKind} {a b : Int} (h : a = b) : Ending.returned (.int k a) = .returned (.int k b) := by rw [h]

set_option maxHeartbeats 400000 in
theorem specWrdTo_any (x : Int) (w : World) :
    Calls Try.prog 76 #[.int .i64 x] w fun e w' => e = .returned (.int .i64 (wTo x)) ∧ w' = w := by
  cases hx : inB x 19
  · have e : wTo x = 0 := by simp [wTo, hx]
    rw [e]
    go_enter Try.func76, Try.ntmps76
    go_wp2_with (go_at_call 77; refine (l1In_any _ _ _).mono ?_; rintro e w' ⟨rfl, rfl⟩)
    go_ret
    exact ⟨rfl, rfl⟩
  · obtain ⟨h0, h1⟩ := inB_parts hx
    have e : wTo x = x / 2 := by simp [wTo, hx]
    rw [e]
    go_enter Try.func76, Try.ntmps76
    go_wp2_with (go_at_call 77; refine (l1In_any _ _ _).mono ?_; rintro e w' ⟨rfl, rfl⟩)
    go_ret
    exact ⟨ret_int (by omega), rfl⟩

set_option maxHeartbeats 400000 in
theorem specWrdMark_any (x : Int) (w : World) :
    Calls Try.prog 53 #[.int .i64 x] w fun e w' => e = .returned (.bool (wMark x)) ∧ w' = w := by
  cases hx : inB x 19
  · have e : wMark x = false := by simp [wMark, hx]
    rw [e]
    go_enter Try.func53, Try.ntmps53
    go_wp2_with (go_at_call 77; refine (l1In_any _ _ _).mono ?_; rintro e w' ⟨rfl, rfl⟩)
    go_ret
    exact ⟨rfl, rfl⟩
  · obtain ⟨h0, h1⟩ := inB_parts hx
    go_enter Try.func53, Try.ntmps53
    go_wp2_with (go_at_call 77; refine (l1In_any _ _ _).mono ?_; rintro e w' ⟨rfl, rfl⟩)
    go_ret
    exact ⟨ret_bool (by simp [wMark, hx]), rfl⟩

set_option maxHeartbeats 400000 in
theorem valid_any (x : Int) (w : World) :
    Calls Try.prog 104 #[.int .i64 x] w fun e w' => e = .returned (.bool (inB x 19)) ∧ w' = w := by
  go_enter Try.func104, Try.ntmps104
  go_wp2_with (go_at_call 95; refine (within_any _ _ _).mono ?_; rintro e w' ⟨rfl, rfl⟩)
  go_ret
  exact ⟨rfl, rfl⟩

set_option maxHeartbeats 400000 in
theorem to_any (x : Int) (w : World) :
    Calls Try.prog 103 #[.int .i64 x] w fun e w' => e = .returned (.int .i64 (wTo x)) ∧ w' = w := by
  cases hx : inB x 19
  · have e : wTo x = 0 := by simp [wTo, hx]
    rw [e]
    go_enter Try.func103, Try.ntmps103
    go_wp2_with (go_at_call 104; refine (valid_any _ _).mono ?_; rintro e w' ⟨rfl, rfl⟩)
    go_ret
    exact ⟨rfl, rfl⟩
  · obtain ⟨h0, h1⟩ := inB_parts hx
    have e : wTo x = x / 2 := by simp [wTo, hx]
    rw [e]
    go_enter Try.func103, Try.ntmps103
    go_wp2_with (go_at_call 104; refine (valid_any _ _).mono ?_; rintro e w' ⟨rfl, rfl⟩)
    go_ret
    exact ⟨ret_int (by omega), rfl⟩

set_option maxHeartbeats 400000 in
theorem marked_any (x : Int) (w : World) :
    Calls Try.prog 89 #[.int .i64 x] w fun e w' => e = .returned (.bool (wMark x)) ∧ w' = w := by
  cases hx : inB x 19
  · have e : wMark x = false := by simp [wMark, hx]
    rw [e]
    go_enter Try.func89, Try.ntmps89
    go_wp2_with (go_at_call 104; refine (valid_any _ _).mono ?_; rintro e w' ⟨rfl, rfl⟩)
    go_ret
    exact ⟨rfl, rfl⟩
  · obtain ⟨h0, h1⟩ := inB_parts hx
    go_enter Try.func89, Try.ntmps89
    go_wp2_with (go_at_call 104; refine (valid_any _ _).mono ?_; rintro e w' ⟨rfl, rfl⟩)
    go_ret
    exact ⟨ret_bool (by simp [wMark, hx]), rfl⟩

end Go.Proofs.Ytklpdpdjblakgaa

/- Next -/
namespace Go.Proofs.Ytklpdpdjblakgaa
open Go.RowKit
set_option linter.unusedVariables false


/-- The first place below n of which p holds, or n. -/
def fIdx (p : Nat → Bool) (n : Nat) : Nat := ((List.range n).find? p).getD n

theorem fIdx_eq {p : Nat → Bool} {n i : Nat} (hi : i ≤ n) (hlow : ∀ j, j < i → p j = false) (hat : i = n ∨ p i = true) : fIdx p n = i := by
  unfold fIdx
  by_cases h : i < n
  · have hp : p i = true := by rcases hat with h' | h'; omega; exact h'
    have : (List.range n).find? p = some i := by
      rw [List.find?_eq_some_iff_getElem]
      refine ⟨hp, i, by simpa using h, by simp, fun j hj => ?_⟩
      simp [hlow j hj]
    rw [this]
    rfl
  · have : (List.range n).find? p = none := by
      rw [List.find?_eq_none]
      intro x hx
      rw [List.mem_range] at hx
      simp [hlow x (by omega)]
    rw [this]
    show n = i
    omega

/-- The key of the i-th entry. -/
def keyAt (zs : List Int) (i : Nat) : Int := zs.getD (i * 2) 0
/-- The value of the i-th entry. -/
def valAt (zs : List Int) (i : Nat) : Int := zs.getD (i * 2 + 1) 0

theorem SInts.keyCell {w : World} {b off n : Nat} {zs : List Int} (hs : SInts w (some ⟨b, off, none⟩) (n * 2) zs) {i : Nat} (hi : i < n) : w.cell? ⟨b, off + i * 2, none⟩ = some (.int .i64 (keyAt zs i)) := by
  obtain ⟨hz, h0 | ⟨b', off', e, hc⟩⟩ := hs
  · omega
  · cases e
    exact hc (i * 2) (by omega)
theorem SInts.valCell {w : World} {b off n : Nat} {zs : List Int} (hs : SInts w (some ⟨b, off, none⟩) (n * 2) zs) {i : Nat} (hi : i < n) : w.cell? ⟨b, off + i * 2 + 1, none⟩ = some (.int .i64 (valAt zs i)) := by
  obtain ⟨hz, h0 | ⟨b', off', e, hc⟩⟩ := hs
  · omega
  · cases e
    exact hc (i * 2 + 1) (by omega)
theorem SInts.addr {w : World} {a : Option Addr} {m : Nat} {zs : List Int} (hs : SInts w a m zs) (hm : 0 < m) : ∃ b off, a = some ⟨b, off, none⟩ := by
  obtain ⟨hz, h0 | ⟨b', off', e, hc⟩⟩ := hs
  · omega
  · exact ⟨b', off', e⟩

/-- keys from a key on; keys that are it. -/
def geK (key k : Int) : Bool := decide (key ≤ k)
def eqK (key k : Int) : Bool := k == key
theorem geK_yes {key k : Int} (h : key ≤ k) : geK key k = true := by simp [geK, h]
theorem geK_no {key k : Int} (h : k < key) : geK key k = false := by simp [geK]; omega
theorem eqK_yes {key k : Int} (h : (k == key) = true) : eqK key k = true := h
theorem eqK_no {key k : Int} (h : (k == key) = false) : eqK key k = false := h

/-- What MapNext answers: a code and a value. -/
def nextC (zs : List Int) (n : Nat) (key : Int) : Int := if fIdx (fun i => geK key (keyAt zs i)) n = n then 1 else 2
def nextV (zs : List Int) (n : Nat) (key : Int) : Int := if fIdx (fun i => geK key (keyAt zs i)) n = n then 0 else keyAt zs (fIdx (fun i => geK key (keyAt zs i)) n)

theorem fIdx_le (p : Nat → Bool) (n : Nat) : fIdx p n ≤ n := by
  unfold fIdx
  cases h : (List.range n).find? p with
  | none => exact Nat.le_refl _
  | some i =>
    have := List.mem_of_find?_eq_some h
    rw [List.mem_range] at this
    show i ≤ n
    omega

end Go.Proofs.Ytklpdpdjblakgaa

/- MapOk -/
namespace Go.Proofs.Ytklpdpdjblakgaa
open Go.RowKit
set_option linter.unusedVariables false

/-- The i-th entry is in bounds; it stands behind the one ahead of it. -/
def entIn (zs : List Int) (i : Nat) : Bool := inB (keyAt zs i) 99 && inB (valAt zs i) 999
def entUp (zs : List Int) (i : Nat) : Bool := decide (i = 0) || decide (keyAt zs (i - 1) < keyAt zs i)
/-- The entries are ok. -/
def okM (zs : List Int) (n : Nat) : Bool := decide (n ≤ 8) && ((List.range n).all (entIn zs) && (List.range n).all (entUp zs))

theorem okM_long {zs : List Int} {n : Nat} (h : 8 < n) : okM zs n = false := by simp [okM]; omega
theorem okM_in {zs : List Int} {n k : Nat} (hk : k < n) (h : entIn zs k = false) : okM zs n = false := by
  have : (List.range n).all (entIn zs) = false := by
    rw [List.all_eq_false]
    exact ⟨k, List.mem_range.2 hk, by simp [h]⟩
  simp [okM, this]
theorem okM_up {zs : List Int} {n k : Nat} (hk : k < n) (h : entUp zs k = false) : okM zs n = false := by
  have : (List.range n).all (entUp zs) = false := by
    rw [List.all_eq_false]
    exact ⟨k, List.mem_range.2 hk, by simp [h]⟩
  simp [okM, this]
theorem okM_yes {zs : List Int} {n : Nat} (h8 : n ≤ 8) (h1 : ∀ i, i < n → entIn zs i = true) (h2 : ∀ i, i < n → entUp zs i = true) : okM zs n = true := by
  have e1 : (List.range n).all (entIn zs) = true := by rw [List.all_eq_true]; intro i hi; exact h1 i (List.mem_range.1 hi)
  have e2 : (List.range n).all (entUp zs) = true := by rw [List.all_eq_true]; intro i hi; exact h2 i (List.mem_range.1 hi)
  simp [okM, h8, e1, e2]
theorem okM_parts {zs : List Int} {n : Nat} (h : okM zs n = true) : n ≤ 8 ∧ (∀ i, i < n → entIn zs i = true) ∧ (∀ i, i < n → entUp zs i = true) := by
  simp only [okM, Bool.and_eq_true, decide_eq_true_eq, List.all_eq_true, List.mem_range] at h
  exact ⟨h.1, h.2.1, h.2.2⟩

theorem l1In_as {x hi : Int} {b : Bool} (h : inB x hi = b) (w : World) : Calls Try.prog 77 #[.int .i64 x, .int .i64 0, .int .i64 hi] w fun e w' => e = .returned (.bool b) ∧ w' = w := by
  subst h; exact l1In_any x hi w

/-- The keys rise. -/
def upM (zs : List Int) (n : Nat) : Bool := (List.range n).all (entUp zs)
theorem upM_no {zs : List Int} {n k : Nat} (hk : k < n) (h : entUp zs k = false) : upM zs n = false := by
  unfold upM
  rw [List.all_eq_false]
  exact ⟨k, List.mem_range.2 hk, by simp [h]⟩
theorem upM_yes {zs : List Int} {n : Nat} (h : ∀ i, i < n → entUp zs i = true) : upM zs n = true := by
  unfold upM
  rw [List.all_eq_true]; intro i hi; exact h i (List.mem_range.1 hi)
theorem upM_parts {zs : List Int} {n : Nat} (h : upM zs n = true) : ∀ i, i < n → entUp zs i = true := by
  unfold upM at h
  rw [List.all_eq_true] at h
  exact fun i hi => h i (List.mem_range.2 hi)

set_option maxHeartbeats 1000000 in
theorem keysRise_any (a : Option Addr) (n cap : Nat) (zs : List Int) (w : World) (hs : SInts w a (n * 2) zs) (hn : n ≤ 1048576) :
    Calls Try.prog 83 #[.slice a n cap] w fun e w' => e = .returned (.bool (upM zs n)) ∧ Below w.heap.size w w' := by
  go_enter Try.func83, Try.ntmps83
  go_wp2
  go_loopw [3] (fun i wr => ∃ k : Nat, 1 ≤ k ∧ k ≤ n + 1 ∧ i = .int .i64 k ∧ (∀ j, j < k → j < n → entUp zs j = true) ∧ Below w.heap.size w wr) (fun i _ => n + 1 - (intOf i).toNat)
  case atStart => exact ⟨1, by omega, by omega, rfl, fun j hj _ => by obtain rfl : j = 0 := by omega
                                                                      simp [entUp], Below.refl _ _⟩
  case round =>
    obtain ⟨k, hk1, hk, rfl, hall, hbel⟩ := hrel
    have H2 : Hid (∀ j, j < k → j < n → entUp zs j = true) := hall
    clear hall
    by_cases hlt : k < n
    · obtain ⟨b, off, rfl⟩ := hs.addr (by omega)
      obtain ⟨x, hx⟩ : ∃ x, keyAt zs k = x := ⟨_, rfl⟩
      obtain ⟨z, hz⟩ : ∃ z, keyAt zs (k - 1) = z := ⟨_, rfl⟩
      have h1 : wr.cell? ⟨b, off + k * 2, none⟩ = some (.int .i64 x) := by rw [← hx]; exact (hs.below hbel).keyCell hlt
      have h3 : wr.cell? ⟨b, off + (k - 1) * 2, none⟩ = some (.int .i64 z) := by rw [← hz]; exact (hs.below hbel).keyCell (by omega)
      have HU0 : Hid (entUp zs k = decide (z < x)) := by show _ = _; unfold entUp; rw [hx, hz]; simp; omega
      have hkm : k - 1 < n := by omega
      clear hx hz hs
      by_cases hup : z < x
      · have HU : Hid (entUp zs k = true) := by show _ = _; rw [HU0.out]; simp [hup]
        go_wp2
        go_quiet (fail)
        have hb2 := below_drewN hbel nq
        go_wp2
        go_roundw
        case rel => exact ⟨k + 1, by omega, by omega, by go_num, fun j hj hjn => by
          by_cases e : j = k
          · subst e; exact HU.out
          · exact H2.out j (by omega) hjn, hb2⟩
        case measure => simp [intOf]; omega
      · have HK : Hid (upM zs n = false) := upM_no hlt (by rw [HU0.out]; simp; omega)
        go_wp2
        go_quiet (fail)
        go_wp2
        go_ret
        exact ⟨ret_bool HK.out.symm, below_drewN hbel _⟩
    · have HK : Hid (upM zs n = true) := upM_yes (fun i hi => H2.out i (by omega) hi)
      clear hs
      go_wp2
      go_ret
      exact ⟨ret_bool HK.out.symm, hbel⟩

theorem within_as {x hi : Int} {b : Bool} (h : inB x hi = b) (w : World) : Calls Try.prog 95 #[.int .i64 x, .int .i64 hi] w fun e w' => e = .returned (.bool b) ∧ w' = w := by
  subst h; exact within_any x hi w

end Go.Proofs.Ytklpdpdjblakgaa

/- Entry -/
namespace Go.Proofs.Ytklpdpdjblakgaa
open Go.RowKit
set_option linter.unusedVariables false

/-- Where keys rise a later one is greater. -/
theorem up_lt {zs : List Int} {n : Nat} (h : ∀ i, i < n → entUp zs i = true) : ∀ j i, i < j → j < n → keyAt zs i < keyAt zs j := by
  intro j
  induction j with
  | zero => intro i hi; omega
  | succ j ih =>
    intro i hij hjn
    have h1 := h (j + 1) hjn
    simp [entUp] at h1
    by_cases e : i = j
    · subst e; exact h1
    · have := ih i (by omega) (by omega)
      omega

/-- The place that entryOf tells, and whether the key is there. -/
def entI (zs : List Int) (n : Nat) (key : Int) : Nat := if upM zs n then fIdx (fun i => geK key (keyAt zs i)) n else fIdx (fun i => eqK key (keyAt zs i)) n
def entB (zs : List Int) (n : Nat) (key : Int) : Bool := decide (entI zs n key < n) && (keyAt zs (entI zs n key) == key)
theorem entI_le (zs : List Int) (n : Nat) (key : Int) : entI zs n key ≤ n := by
  unfold entI
  split <;> exact fIdx_le _ _

theorem ret_pair {k : IntKind} {a b : Int} {p q : Bool} (h : a = b) (h' : p = q) : Ending.returned (.tuple #[.int k a, .bool p]) = .returned (.tuple #[.int k b, .bool q]) := by rw [h, h']

end Go.Proofs.Ytklpdpdjblakgaa

/- ListsE -/
namespace Go.Proofs.Ytklpdpdjblakgaa
open Go.RowKit
set_option linter.unusedVariables false

end Go.Proofs.Ytklpdpdjblakgaa

/- Del -/
namespace Go.Proofs.Ytklpdpdjblakgaa
open Go.RowKit
set_option linter.unusedVariables false

/-- A map and an answer come back, in new memory. -/
def MapRes (zs : List Int) (n : Nat) (c v : Int) (e : Ending) (w w' : World) : Prop :=
  ∃ a' c', e = .returned (.tuple #[.agg #[.slice a' n c'], .agg #[.int .i64 c, .int .i64 v]]) ∧ w'.ownsRow w.heap.size 88 2 (.slice a' n c') n (zs.map (Value.int .i64)) ∧ Below w.heap.size w w'

def delT (zs : List Int) (n : Nat) (key : Int) : Bool := okM zs n && entB zs n key
def delL (zs : List Int) (n : Nat) (key : Int) : List Int := if okM zs n then (if entB zs n key then zs.take (entI zs n key * 2) ++ zs.drop ((entI zs n key + 1) * 2) else zs) else []
def delN (zs : List Int) (n : Nat) (key : Int) : Nat := if okM zs n then (if entB zs n key then n - 1 else n) else 0
def delC (zs : List Int) (n : Nat) (key : Int) : Int := if okM zs n then (if entB zs n key then 2 else 1) else 0
def delV (zs : List Int) (n : Nat) (key : Int) : Int := if okM zs n then (if entB zs n key then valAt zs (entI zs n key) else 0) else 0

theorem delN_le (zs : List Int) (n : Nat) (key : Int) : delN zs n key ≤ n := by
  unfold delN
  split
  · split <;> omega
  · omega

/-- The blocks that MapDel and MapPut lay first: the argument, the map and the answer that they hand back. -/
structure Loc (w : World) (a : Option Addr) (n cap : Nat) (W : World) : Prop where
  bel : Below w.heap.size w W
  sz : w.heap.size + 1 + 1 < W.heap.size
  box : W.cell? ⟨w.heap.size, 0, none⟩ = some (.slice a n cap)
  m0 : W.cell? ⟨w.heap.size + 1, 0, none⟩ = some (.slice none 0 0)
  r0 : W.cell? ⟨w.heap.size + 1 + 1, 0, none⟩ = some (.int .i64 0)
  r1 : W.cell? ⟨w.heap.size + 1 + 1, 1, none⟩ = some (.int .i64 0)
  fm : W.frozen? ⟨w.heap.size + 1, 0, none⟩ = false
  f0 : W.frozen? ⟨w.heap.size + 1 + 1, 0, none⟩ = false
  f1 : W.frozen? ⟨w.heap.size + 1 + 1, 1, none⟩ = false

theorem frozen_kept {W W' : World} {b o : Nat} (hb : Below W.heap.size W W') (hlt : b < W.heap.size) (h : W.frozen? ⟨b, o, none⟩ = false) : W'.frozen? ⟨b, o, none⟩ = false :=
  (hb.frozen (p := ⟨b, o, none⟩) hlt).trans h

theorem Loc.below {w : World} {a : Option Addr} {n cap : Nat} {W W' : World} (h : Loc w a n cap W) (hb : Below W.heap.size W W') : Loc w a n cap W' :=
  { bel := below_trans' h.bel hb, sz := Nat.lt_of_lt_of_le h.sz hb.size, box := cell_kept hb h.box, m0 := cell_kept hb h.m0, r0 := cell_kept hb h.r0, r1 := cell_kept hb h.r1,
    fm := frozen_kept hb (by have := h.sz; omega) h.fm, f0 := frozen_kept hb h.sz h.f0, f1 := frozen_kept hb h.sz h.f1 }

theorem loc_start (w : World) (a : Option Addr) (n cap : Nat) : Loc w a n cap (((w.alloc (.cells #[.slice a n cap] 36)).alloc (.cells #[.slice none 0 0] 36)).alloc (.cells #[.int .i64 0, .int .i64 0] 54)) := by
  have al : ∀ (W : World) (o : Obj), Below W.heap.size W (W.alloc o) := fun W o => (Below.refl _ _).alloc (Nat.le_refl _) o
  exact
    { bel := below_trans' (below_trans' (al _ _) (al _ _)) (al _ _), sz := by simp,
      box := cell_kept (al _ _) (cell_kept (al _ _) (cell_at w _ _ 0 rfl rfl)), m0 := cell_kept (al _ _) (cell_at (w.alloc _) _ _ 0 (by simp) rfl),
      r0 := cell_at ((w.alloc _).alloc _) _ _ 0 (by simp) rfl, r1 := cell_at ((w.alloc _).alloc _) _ _ 1 (by simp) rfl,
      fm := frozen_kept (al _ _) (by simp) (frozen_at (w.alloc _) _ _ 0 (by simp)),
      f0 := frozen_at ((w.alloc _).alloc _) _ _ 0 (by simp), f1 := frozen_at ((w.alloc _).alloc _) _ _ 1 (by simp) }

end Go.Proofs.Ytklpdpdjblakgaa

/- Get -/
namespace Go.Proofs.Ytklpdpdjblakgaa
open Go.RowKit
set_option linter.unusedVariables false

theorem fIdx_spec (p : Nat → Bool) (n : Nat) : (∀ j, j < fIdx p n → p j = false) ∧ (fIdx p n < n → p (fIdx p n) = true) := by
  unfold fIdx
  cases h : (List.range n).find? p with
  | none =>
    rw [List.find?_eq_none] at h
    refine ⟨fun j hj => ?_, fun hlt => ?_⟩
    · have := h j (List.mem_range.2 hj)
      simpa using this
    · exact absurd hlt (Nat.lt_irrefl n)
  | some i =>
    rw [List.find?_eq_some_iff_getElem] at h
    obtain ⟨hp, i', hi', he, hlow⟩ := h
    simp at he
    subst he
    refine ⟨fun j hj => ?_, fun _ => hp⟩
    have := hlow j hj
    simpa using this

/-- Under rising keys no other place has the key. -/
theorem ent_only {zs : List Int} {n : Nat} {key : Int} (hup : upM zs n = true) : ∀ j, j < n → j ≠ entI zs n key → (keyAt zs j == key) = false := by
  have hrise := up_lt (upM_parts hup)
  have hI : entI zs n key = fIdx (fun i => geK key (keyAt zs i)) n := by simp [entI, hup]
  obtain ⟨hlow, hat⟩ := fIdx_spec (fun i => geK key (keyAt zs i)) n
  rw [← hI] at hlow hat
  intro j hj hji
  by_cases h : j < entI zs n key
  · have h1 := hlow j h
    simp [geK] at h1
    simp
    omega
  · have h3 := hat (by omega)
    simp [geK] at h3
    have h4 := hrise j (entI zs n key) (by omega) hj
    simp
    omega

theorem ent_get (zs : List Int) (n : Nat) (key : Int) : (entB zs n key = true → fIdx (fun i => eqK key (keyAt zs i)) n = entI zs n key ∧ entI zs n key < n) ∧ (entB zs n key = false → fIdx (fun i => eqK key (keyAt zs i)) n = n) := by
  cases hup : upM zs n
  · have hI : entI zs n key = fIdx (fun i => eqK key (keyAt zs i)) n := by simp [entI, hup]
    obtain ⟨hlow, hat⟩ := fIdx_spec (fun i => eqK key (keyAt zs i)) n
    rw [← hI] at hat ⊢
    refine ⟨fun h => ⟨rfl, ?_⟩, fun h => ?_⟩
    · simp only [entB, Bool.and_eq_true, decide_eq_true_eq] at h
      exact h.1
    · have hle := entI_le zs n key
      by_cases hlt : entI zs n key < n
      · have h2 := hat hlt
        simp only [eqK] at h2
        simp only [entB, hlt, decide_true, Bool.true_and, h2] at h
        exact absurd h (by decide)
      · omega
  · have honly := ent_only (key := key) hup
    refine ⟨fun h => ?_, fun h => ?_⟩
    · simp only [entB, Bool.and_eq_true, decide_eq_true_eq] at h
      exact ⟨fIdx_eq (entI_le zs n key) (fun j hj => honly j (by omega) (by omega)) (.inr h.2), h.1⟩
    · refine fIdx_eq (Nat.le_refl n) (fun j hj => ?_) (.inl rfl)
      by_cases e : j = entI zs n key
      · subst e
        simp only [entB, hj, decide_true, Bool.true_and] at h
        exact h
      · exact honly j hj e

/-- What MapGet answers: a code and a value. -/
def getC (zs : List Int) (n : Nat) (key : Int) : Int := if fIdx (fun i => eqK key (keyAt zs i)) n = n then 1 else 2
def getV (zs : List Int) (n : Nat) (key : Int) : Int := if fIdx (fun i => eqK key (keyAt zs i)) n = n then 0 else valAt zs (fIdx (fun i => eqK key (keyAt zs i)) n)

/-- What l1Find tells. -/
def findI (zs : List Int) (n : Nat) (key : Int) : Int := if fIdx (fun i => eqK key (keyAt zs i)) n = n then -1 else fIdx (fun i => eqK key (keyAt zs i)) n

/-- The blocks that MapGet lays first: the argument and the answer. -/
structure LocG (w : World) (a : Option Addr) (n cap : Nat) (W : World) : Prop where
  bel : Below w.heap.size w W
  sz : w.heap.size + 1 < W.heap.size
  box : W.cell? ⟨w.heap.size, 0, none⟩ = some (.slice a n cap)
  r0 : W.cell? ⟨w.heap.size + 1, 0, none⟩ = some (.int .i64 0)
  r1 : W.cell? ⟨w.heap.size + 1, 1, none⟩ = some (.int .i64 0)
  f0 : W.frozen? ⟨w.heap.size + 1, 0, none⟩ = false
  f1 : W.frozen? ⟨w.heap.size + 1, 1, none⟩ = false

theorem LocG.below {w : World} {a : Option Addr} {n cap : Nat} {W W' : World} (h : LocG w a n cap W) (hb : Below W.heap.size W W') : LocG w a n cap W' :=
  { bel := below_trans' h.bel hb, sz := Nat.lt_of_lt_of_le h.sz hb.size, box := cell_kept hb h.box, r0 := cell_kept hb h.r0, r1 := cell_kept hb h.r1, f0 := frozen_kept hb h.sz h.f0, f1 := frozen_kept hb h.sz h.f1 }

theorem locG_start (w : World) (a : Option Addr) (n cap : Nat) : LocG w a n cap ((w.alloc (.cells #[.slice a n cap] 36)).alloc (.cells #[.int .i64 0, .int .i64 0] 54)) := by
  have al : ∀ (W : World) (o : Obj), Below W.heap.size W (W.alloc o) := fun W o => (Below.refl _ _).alloc (Nat.le_refl _) o
  exact
    { bel := below_trans' (al _ _) (al _ _), sz := by simp, box := cell_kept (al _ _) (cell_at w _ _ 0 rfl rfl),
      r0 := cell_at (w.alloc _) _ _ 0 (by simp) rfl, r1 := cell_at (w.alloc _) _ _ 1 (by simp) rfl, f0 := frozen_at (w.alloc _) _ _ 0 (by simp), f1 := frozen_at (w.alloc _) _ _ 1 (by simp) }

end Go.Proofs.Ytklpdpdjblakgaa

/- Put -/
namespace Go.Proofs.Ytklpdpdjblakgaa
open Go.RowKit
set_option linter.unusedVariables false

/-- What MapPut makes, and answers. -/
def ptOk (zs : List Int) (n : Nat) (key val : Int) : Bool := okM zs n && (inB key 99 && inB val 999)
def ptL (zs : List Int) (n : Nat) (key val : Int) : List Int := if ptOk zs n key val then (if entB zs n key then zs else if n = 8 then zs else zs.take (entI zs n key * 2) ++ [key, val] ++ zs.drop (entI zs n key * 2)) else []
def ptN (zs : List Int) (n : Nat) (key val : Int) : Nat := if ptOk zs n key val then (if entB zs n key then n else if n = 8 then n else n + 1) else 0
def ptC (zs : List Int) (n : Nat) (key val : Int) : Int := if ptOk zs n key val then (if entB zs n key then 1 else if n = 8 then 3 else 2) else 0
theorem ptN_le (zs : List Int) (n : Nat) (key val : Int) : ptN zs n key val ≤ n + 1 := by
  unfold ptN
  split
  · split
    · omega
    · split <;> omega
  · omega

theorem ptOk_parts {zs : List Int} {n : Nat} {key val : Int} (h : ptOk zs n key val = true) : okM zs n = true ∧ inB key 99 = true ∧ inB val 999 = true := by
  simp only [ptOk, Bool.and_eq_true] at h
  exact ⟨h.1, h.2.1, h.2.2⟩

end Go.Proofs.Ytklpdpdjblakgaa

/- MapM -/
namespace Go.Proofs.Ytklpdpdjblakgaa
open Go.RowKit
set_option linter.unusedVariables false

theorem okM_iff {zs : List Int} {n : Nat} : okM zs n = true ↔ n ≤ 8 ∧ (∀ i, i < n → entIn zs i = true) ∧ (∀ i j, i < j → j < n → keyAt zs i < keyAt zs j) := by
  constructor
  · intro h
    obtain ⟨h1, h2, h3⟩ := okM_parts h
    exact ⟨h1, h2, fun i j hij hj => up_lt h3 j i hij hj⟩
  · rintro ⟨h1, h2, h3⟩
    simp only [okM, Bool.and_eq_true, decide_eq_true_eq, List.all_eq_true, List.mem_range]
    refine ⟨h1, h2, fun i hi => ?_⟩
    unfold entUp
    by_cases e : i = 0
    · simp [e]
    · simp [e]
      exact h3 (i - 1) i (by omega) hi

theorem cut_key {zs : List Int} {i j : Nat} : keyAt (zs.take (i * 2) ++ zs.drop ((i + 1) * 2)) j = keyAt zs (if j < i then j else j + 1) ∨ zs.length < i * 2 := by
  by_cases hl : zs.length < i * 2
  · exact .inr hl
  left
  unfold keyAt
  by_cases h : j < i
  · rw [if_pos h]
    simp only [List.getD_eq_getElem?_getD]
    rw [List.getElem?_append_left (by simp; omega), List.getElem?_take_of_lt (by omega)]
  · rw [if_neg h]
    simp only [List.getD_eq_getElem?_getD]
    rw [List.getElem?_append_right (by simp; omega), List.getElem?_drop]
    congr 2
    simp
    omega
theorem cut_val {zs : List Int} {i j : Nat} : valAt (zs.take (i * 2) ++ zs.drop ((i + 1) * 2)) j = valAt zs (if j < i then j else j + 1) ∨ zs.length < i * 2 := by
  by_cases hl : zs.length < i * 2
  · exact .inr hl
  left
  unfold valAt
  by_cases h : j < i
  · rw [if_pos h]
    simp only [List.getD_eq_getElem?_getD]
    rw [List.getElem?_append_left (by simp; omega), List.getElem?_take_of_lt (by omega)]
  · rw [if_neg h]
    simp only [List.getD_eq_getElem?_getD]
    rw [List.getElem?_append_right (by simp; omega), List.getElem?_drop]
    congr 2
    simp
    omega

/-- The entries without one are ok. -/
theorem cut_ok {zs : List Int} {n i : Nat} (hl : zs.length = n * 2) (h : okM zs n = true) (hi : i < n) : okM (zs.take (i * 2) ++ zs.drop ((i + 1) * 2)) (n - 1) = true := by
  obtain ⟨h1, h2, h3⟩ := okM_iff.1 h
  have ck : ∀ j, keyAt (zs.take (i * 2) ++ zs.drop ((i + 1) * 2)) j = keyAt zs (if j < i then j else j + 1) := fun j => (cut_key).resolve_right (by omega)
  have cv : ∀ j, valAt (zs.take (i * 2) ++ zs.drop ((i + 1) * 2)) j = valAt zs (if j < i then j else j + 1) := fun j => (cut_val).resolve_right (by omega)
  refine okM_iff.2 ⟨by omega, fun j hj => ?_, fun j k hjk hk => ?_⟩
  · have := h2 (if j < i then j else j + 1) (by split <;> omega)
    unfold entIn at this ⊢
    rw [ck, cv]
    exact this
  · rw [ck, ck]
    exact h3 _ _ (by split <;> split <;> omega) (by split <;> omega)

/-- A beginning of entries is ok. -/
theorem take_ok {zs : List Int} {n k : Nat} (h : okM zs n = true) (hk : k ≤ n) : okM (zs.take (k * 2)) k = true := by
  obtain ⟨h1, h2, h3⟩ := okM_iff.1 h
  have ck : ∀ j, j < k → keyAt (zs.take (k * 2)) j = keyAt zs j := fun j hj => by
    unfold keyAt
    simp only [List.getD_eq_getElem?_getD]
    rw [List.getElem?_take_of_lt (by omega)]
  have cv : ∀ j, j < k → valAt (zs.take (k * 2)) j = valAt zs j := fun j hj => by
    unfold valAt
    simp only [List.getD_eq_getElem?_getD]
    rw [List.getElem?_take_of_lt (by omega)]
  refine okM_iff.2 ⟨by omega, fun j hj => ?_, fun i j hij hj => ?_⟩
  · have := h2 j (by omega)
    unfold entIn at this ⊢
    rw [ck j hj, cv j hj]
    exact this
  · rw [ck i (by omega), ck j hj]
    exact h3 i j hij (by omega)

/-- Where a key is, among entries that are ok. -/
theorem ent_at {zs : List Int} {n k : Nat} (h : okM zs n = true) (hk : k < n) : entI zs n (keyAt zs k) = k ∧ entB zs n (keyAt zs k) = true := by
  obtain ⟨h1, h2, h3⟩ := okM_iff.1 h
  have hup := upM_yes (okM_parts h).2.2
  have hI : entI zs n (keyAt zs k) = k := by
    unfold entI
    rw [hup]
    exact fIdx_eq (by omega) (fun j hj => geK_no (h3 j k hj hk)) (.inr (geK_yes (Int.le_refl _)))
  refine ⟨hI, ?_⟩
  unfold entB
  rw [hI]
  simp [hk]

/-- MapGet by what stands where. -/
theorem get_yes {zs : List Int} {n i : Nat} {key : Int} (hup : ∀ i j, i < j → j < n → keyAt zs i < keyAt zs j) (hi : i < n) (hk : keyAt zs i = key) : getC zs n key = 2 ∧ getV zs n key = valAt zs i := by
  have h : fIdx (fun j => eqK key (keyAt zs j)) n = i := fIdx_eq (by omega) (fun j hj => by
    have := hup j i hj hi
    simp [eqK]
    omega) (.inr (by simp [eqK, hk]))
  unfold getC getV
  rw [h, if_neg (by omega), if_neg (by omega)]
  exact ⟨rfl, rfl⟩
theorem get_no {zs : List Int} {n : Nat} {key : Int} (h : ∀ j, j < n → keyAt zs j ≠ key) : getC zs n key = 1 ∧ getV zs n key = 0 := by
  have h : fIdx (fun j => eqK key (keyAt zs j)) n = n := fIdx_eq (Nat.le_refl _) (fun j hj => by
    have := h j hj
    simpa [eqK] using this) (.inl rfl)
  unfold getC getV
  rw [h, if_pos rfl, if_pos rfl]
  exact ⟨rfl, rfl⟩
/-- Either a key is there, once, or it is not. -/
theorem ent_cases {zs : List Int} {n : Nat} (key : Int) (h : okM zs n = true) :
    (entB zs n key = true ∧ entI zs n key < n ∧ keyAt zs (entI zs n key) = key) ∨ (entB zs n key = false ∧ ∀ j, j < n → keyAt zs j ≠ key) := by
  by_cases hx : ∃ j, j < n ∧ keyAt zs j = key
  · obtain ⟨j, hj, rfl⟩ := hx
    have := ent_at h hj
    exact .inl ⟨this.2, by rw [this.1]; exact hj, by rw [this.1]⟩
  · refine .inr ⟨?_, fun j hj e => hx ⟨j, hj, e⟩⟩
    unfold entB
    by_cases hl : entI zs n key < n
    · have : ¬ keyAt zs (entI zs n key) = key := fun e => hx ⟨_, hl, e⟩
      simp [this]
    · simp [hl]
/-- Without a key: what is got then. -/
theorem cut_get {zs : List Int} {n i : Nat} (hl : zs.length = n * 2) (h : okM zs n = true) (hi : i < n) :
    (getC (zs.take (i * 2) ++ zs.drop ((i + 1) * 2)) (n - 1) (keyAt zs i) = 1) ∧ ∀ k, k ≠ keyAt zs i → getC (zs.take (i * 2) ++ zs.drop ((i + 1) * 2)) (n - 1) k = getC zs n k ∧ getV (zs.take (i * 2) ++ zs.drop ((i + 1) * 2)) (n - 1) k = getV zs n k := by
  obtain ⟨h1, h2, h3⟩ := okM_iff.1 h
  obtain ⟨_, _, h3'⟩ := okM_iff.1 (cut_ok hl h hi)
  have ck : ∀ j, keyAt (zs.take (i * 2) ++ zs.drop ((i + 1) * 2)) j = keyAt zs (if j < i then j else j + 1) := fun j => (cut_key).resolve_right (by omega)
  have cv : ∀ j, valAt (zs.take (i * 2) ++ zs.drop ((i + 1) * 2)) j = valAt zs (if j < i then j else j + 1) := fun j => (cut_val).resolve_right (by omega)
  refine ⟨(get_no (fun j hj e => ?_)).1, fun k hk => ?_⟩
  · rw [ck] at e
    by_cases hji : j < i
    · rw [if_pos hji] at e
      have := h3 j i hji hi
      omega
    · rw [if_neg hji] at e
      have := h3 i (j + 1) (by omega) (by omega)
      omega
  · by_cases hx : ∃ j, j < n ∧ keyAt zs j = k
    · obtain ⟨j, hj, e⟩ := hx
      have hji : j ≠ i := fun e2 => by subst e2; exact hk e.symm
      have a := get_yes h3 hj e
      by_cases hlt : j < i
      · have b := get_yes (i := j) (key := k) h3' (by omega) (by rw [ck, if_pos hlt]; exact e)
        rw [a.1, a.2, b.1, b.2, cv, if_pos hlt]
        exact ⟨rfl, rfl⟩
      · have b := get_yes (i := j - 1) (key := k) h3' (by omega) (by rw [ck, if_neg (by omega), show j - 1 + 1 = j by omega]; exact e)
        rw [a.1, a.2, b.1, b.2, cv, if_neg (by omega), show j - 1 + 1 = j by omega]
        exact ⟨rfl, rfl⟩
    · have a := get_no (zs := zs) (n := n) (key := k) (fun j hj e => hx ⟨j, hj, e⟩)
      have b := get_no (zs := zs.take (i * 2) ++ zs.drop ((i + 1) * 2)) (n := n - 1) (key := k) (fun j hj e => hx (by rw [ck] at e; exact ⟨_, by split <;> omega, e⟩))
      rw [a.1, a.2, b.1, b.2]
      exact ⟨rfl, rfl⟩
/-- To put back what was taken out. -/
theorem cut_back {zs : List Int} {n i : Nat} (hl : zs.length = n * 2) (h : okM zs n = true) (hi : i < n) :
    ptL (zs.take (i * 2) ++ zs.drop ((i + 1) * 2)) (n - 1) (keyAt zs i) (valAt zs i) = zs ∧ ptN (zs.take (i * 2) ++ zs.drop ((i + 1) * 2)) (n - 1) (keyAt zs i) (valAt zs i) = n := by
  obtain ⟨h1, h2, h3⟩ := okM_iff.1 h
  have hok := cut_ok hl h hi
  have hin := h2 i hi
  have ck : ∀ j, keyAt (zs.take (i * 2) ++ zs.drop ((i + 1) * 2)) j = keyAt zs (if j < i then j else j + 1) := fun j => (cut_key).resolve_right (by omega)
  have hpt : ptOk (zs.take (i * 2) ++ zs.drop ((i + 1) * 2)) (n - 1) (keyAt zs i) (valAt zs i) = true := by
    unfold ptOk
    unfold entIn at hin
    rw [hok, Bool.true_and]
    exact hin
  have hI : entI (zs.take (i * 2) ++ zs.drop ((i + 1) * 2)) (n - 1) (keyAt zs i) = i := by
    unfold entI
    rw [upM_yes (okM_parts hok).2.2]
    refine fIdx_eq (by omega) (fun j hj => geK_no (by rw [ck, if_pos hj]; exact h3 j i hj hi)) ?_
    by_cases e : i = n - 1
    · exact .inl e
    · right
      refine geK_yes ?_
      rw [ck, if_neg (by omega)]
      have := h3 i (i + 1) (by omega) (by omega)
      omega
  have hB : entB (zs.take (i * 2) ++ zs.drop ((i + 1) * 2)) (n - 1) (keyAt zs i) = false := by
    unfold entB
    rw [hI, ck, if_neg (by omega)]
    by_cases e : i < n - 1
    · have := h3 i (i + 1) (by omega) (by omega)
      have : ¬ keyAt zs (i + 1) = keyAt zs i := by omega
      simp [this]
    · simp [e]
  unfold ptL ptN
  rw [hpt, hB, hI, if_neg (show ¬ n - 1 = 8 by omega), if_neg (show ¬ n - 1 = 8 by omega)]
  simp only [if_true, Bool.false_eq_true, if_false]
  refine ⟨?_, by omega⟩
  have t1 : (zs.take (i * 2) ++ zs.drop ((i + 1) * 2)).take (i * 2) = zs.take (i * 2) := by
    rw [List.take_append_of_le_length (by simp; omega), List.take_take, Nat.min_self]
  have t2 : (zs.take (i * 2) ++ zs.drop ((i + 1) * 2)).drop (i * 2) = zs.drop ((i + 1) * 2) := by
    rw [List.drop_append_of_le_length (by simp; omega), List.drop_take]
    simp
  rw [t1, t2]
  have hk : zs[i * 2]? = some (keyAt zs i) := by
    unfold keyAt
    rw [List.getD_eq_getElem?_getD, List.getElem?_eq_getElem (by omega)]
    rfl
  have hv : zs[i * 2 + 1]? = some (valAt zs i) := by
    unfold valAt
    rw [List.getD_eq_getElem?_getD, List.getElem?_eq_getElem (by omega)]
    rfl
  have e2 : zs.drop (i * 2) = keyAt zs i :: valAt zs i :: zs.drop ((i + 1) * 2) := by
    obtain ⟨ha, ea⟩ := List.getElem?_eq_some_iff.1 hk
    obtain ⟨hb, eb⟩ := List.getElem?_eq_some_iff.1 hv
    rw [List.drop_eq_getElem_cons ha, ea, List.drop_eq_getElem_cons hb, eb]
    rw [show i * 2 + 1 + 1 = (i + 1) * 2 by omega]
  rw [show zs.take (i * 2) ++ [keyAt zs i, valAt zs i] ++ zs.drop ((i + 1) * 2) = zs.take (i * 2) ++ (keyAt zs i :: valAt zs i :: zs.drop ((i + 1) * 2)) by simp, ← e2, List.take_append_drop]

end Go.Proofs.Ytklpdpdjblakgaa

/- PutM -/
namespace Go.Proofs.Ytklpdpdjblakgaa
open Go.RowKit
set_option linter.unusedVariables false

theorem ins_at {zs : List Int} {i m : Nat} {k v : Int} (hl : i * 2 ≤ zs.length) (b : Nat) (hb : b < 2) : (zs.take (i * 2) ++ [k, v] ++ zs.drop (i * 2))[m * 2 + b]? = if m < i then zs[m * 2 + b]? else if m = i then some (if b = 0 then k else v) else zs[(m - 1) * 2 + b]? := by
  have ht : (zs.take (i * 2)).length = i * 2 := by simp; omega
  rw [List.append_assoc]
  by_cases h : m < i
  · rw [if_pos h, List.getElem?_append_left (by omega), List.getElem?_take_of_lt (by omega)]
  · rw [if_neg h, List.getElem?_append_right (by omega), ht]
    by_cases e : m = i
    · subst e
      rw [if_pos rfl, show m * 2 + b - m * 2 = b by omega]
      rcases (show b = 0 ∨ b = 1 by omega) with rfl | rfl <;> rfl
    · rw [if_neg e, show m * 2 + b - i * 2 = ((m - i - 1) * 2 + b) + 2 by omega]
      show (zs.drop (i * 2))[(m - i - 1) * 2 + b]? = _
      rw [List.getElem?_drop]
      congr 1
      omega
theorem ins_key {zs : List Int} {i m : Nat} {k v : Int} (hl : i * 2 ≤ zs.length) : keyAt (zs.take (i * 2) ++ [k, v] ++ zs.drop (i * 2)) m = if m < i then keyAt zs m else if m = i then k else keyAt zs (m - 1) := by
  have h := ins_at (m := m) (k := k) (v := v) hl 0 (by omega)
  simp only [Nat.add_zero] at h
  unfold keyAt
  simp only [List.getD_eq_getElem?_getD]
  rw [h]
  split
  · rfl
  · split <;> rfl
theorem ins_val {zs : List Int} {i m : Nat} {k v : Int} (hl : i * 2 ≤ zs.length) : valAt (zs.take (i * 2) ++ [k, v] ++ zs.drop (i * 2)) m = if m < i then valAt zs m else if m = i then v else valAt zs (m - 1) := by
  have h := ins_at (m := m) (k := k) (v := v) hl 1 (by omega)
  unfold valAt
  simp only [List.getD_eq_getElem?_getD]
  rw [h]
  split
  · rfl
  · split <;> rfl
theorem ins_cut {zs : List Int} {i : Nat} {k v : Int} (hl : i * 2 ≤ zs.length) : (zs.take (i * 2) ++ [k, v] ++ zs.drop (i * 2)).take (i * 2) ++ (zs.take (i * 2) ++ [k, v] ++ zs.drop (i * 2)).drop ((i + 1) * 2) = zs := by
  have ht : (zs.take (i * 2)).length = i * 2 := by simp; omega
  have e1 : (zs.take (i * 2) ++ [k, v] ++ zs.drop (i * 2)).take (i * 2) = zs.take (i * 2) := by
    rw [List.append_assoc, List.take_append_of_le_length (by omega), List.take_take, Nat.min_self]
  have e2 : (zs.take (i * 2) ++ [k, v] ++ zs.drop (i * 2)).drop ((i + 1) * 2) = zs.drop (i * 2) := by
    have : (zs.take (i * 2) ++ [k, v]).length = (i + 1) * 2 := by simp [ht]; omega
    rw [← this, List.drop_left]
  rw [e1, e2, List.take_append_drop]

/-- Entries that are ok, and one more. -/
theorem put_new {L : List Int} {N : Nat} {key val : Int} (hl : L.length = N * 2) (hok : okM L N = true) (hin : (inB key 99 && inB val 999) = true) (hno : ∀ j, j < N → keyAt L j ≠ key) (h8 : N < 8) (D : List Int) (hD : D = L.take (entI L N key * 2) ++ [key, val] ++ L.drop (entI L N key * 2)) :
    okM D (N + 1) = true ∧ getC D (N + 1) key = 2 ∧ getV D (N + 1) key = val ∧ ∀ k, k ≠ key → getC D (N + 1) k = getC L N k ∧ getV D (N + 1) k = getV L N k := by
  obtain ⟨h1, h2, h3⟩ := okM_iff.1 hok
  have hI : entI L N key = fIdx (fun i => geK key (keyAt L i)) N := by simp [entI, upM_yes (okM_parts hok).2.2]
  obtain ⟨hlow0, hat0⟩ := fIdx_spec (fun i => geK key (keyAt L i)) N
  have hle := fIdx_le (fun i => geK key (keyAt L i)) N
  rw [← hI] at hlow0 hat0 hle
  have hlow : ∀ j, j < entI L N key → keyAt L j < key := by
    intro j hj
    have := hlow0 j hj
    simp [geK] at this
    exact this
  have hhigh : ∀ j, entI L N key ≤ j → j < N → key < keyAt L j := by
    intro j hj hjn
    have h4 := hat0 (by omega)
    simp [geK] at h4
    have h5 := hno (entI L N key) (by omega)
    by_cases e : j = entI L N key
    · subst e; omega
    · have := h3 (entI L N key) j (by omega) hjn
      omega
  generalize entI L N key = i at hD hlow hhigh hle
  clear hI hlow0 hat0
  have hil : i * 2 ≤ L.length := by omega
  have ck : ∀ m, keyAt D m = if m < i then keyAt L m else if m = i then key else keyAt L (m - 1) := fun m => by rw [hD]; exact ins_key hil
  have cv : ∀ m, valAt D m = if m < i then valAt L m else if m = i then val else valAt L (m - 1) := fun m => by rw [hD]; exact ins_val hil
  have hDl : D.length = (N + 1) * 2 := by rw [hD]; simp; omega
  have hDok : okM D (N + 1) = true := by
    refine okM_iff.2 ⟨by omega, fun j hj => ?_, fun a b hab hb => ?_⟩
    · unfold entIn
      rw [ck, cv]
      by_cases e1 : j < i
      · rw [if_pos e1, if_pos e1]
        exact h2 j (by omega)
      · rw [if_neg e1, if_neg e1]
        by_cases e2 : j = i
        · rw [if_pos e2, if_pos e2]
          exact hin
        · rw [if_neg e2, if_neg e2]
          exact h2 (j - 1) (by omega)
    · rw [ck, ck]
      by_cases a1 : a < i
      · rw [if_pos a1]
        by_cases b1 : b < i
        · rw [if_pos b1]; exact h3 a b hab (by omega)
        · rw [if_neg b1]
          by_cases b2 : b = i
          · rw [if_pos b2]; exact hlow a a1
          · rw [if_neg b2]; exact h3 a (b - 1) (by omega) (by omega)
      · rw [if_neg a1, if_neg (show ¬ b < i by omega), if_neg (show ¬ b = i by omega)]
        by_cases a2 : a = i
        · rw [if_pos a2]; exact hhigh (b - 1) (by omega) (by omega)
        · rw [if_neg a2]; exact h3 (a - 1) (b - 1) (by omega) (by omega)
  have hki : keyAt D i = key := by rw [ck, if_neg (by omega), if_pos rfl]
  have hvi : valAt D i = val := by rw [cv, if_neg (by omega), if_pos rfl]
  have hc : D.take (i * 2) ++ D.drop ((i + 1) * 2) = L := by rw [hD]; exact ins_cut hil
  have g := get_yes (okM_iff.1 hDok).2.2 (show i < N + 1 by omega) hki
  have c := (cut_get hDl hDok (show i < N + 1 by omega)).2
  rw [hki, hc] at c
  exact ⟨hDok, g.1, by rw [g.2, hvi], fun k hk => ⟨(c k hk).1.symm, (c k hk).2.symm⟩⟩

/-- What MapPut of entries that are ok makes, and answers. -/
theorem put_all {L : List Int} {N : Nat} {key val : Int} (hl : L.length = N * 2) (hp : ptOk L N key val = true) :
    okM (ptL L N key val) (ptN L N key val) = true ∧
    ((ptC L N key val = 1 ∧ ptL L N key val = L ∧ ptN L N key val = N ∧ getC L N key = 2) ∨
     (ptC L N key val = 3 ∧ ptL L N key val = L ∧ ptN L N key val = N ∧ getC L N key = 1 ∧ N = 8) ∨
     (ptC L N key val = 2 ∧ getC L N key = 1 ∧ getC (ptL L N key val) (ptN L N key val) key = 2 ∧ getV (ptL L N key val) (ptN L N key val) key = val ∧
       ∀ k, k ≠ key → getC (ptL L N key val) (ptN L N key val) k = getC L N k ∧ getV (ptL L N key val) (ptN L N key val) k = getV L N k)) := by
  obtain ⟨hok, hin⟩ : okM L N = true ∧ (inB key 99 && inB val 999) = true := by
    have := hp
    unfold ptOk at this
    rw [Bool.and_eq_true] at this
    exact this
  obtain ⟨h1, h2, h3⟩ := okM_iff.1 hok
  rcases ent_cases key hok with ⟨hB, hi, hk⟩ | ⟨hB, hno⟩
  · have e1 : ptL L N key val = L := by simp [ptL, hp, hB]
    have e2 : ptN L N key val = N := by simp [ptN, hp, hB]
    have e3 : ptC L N key val = 1 := by simp [ptC, hp, hB]
    rw [e1, e2, e3]
    exact ⟨hok, .inl ⟨rfl, rfl, rfl, (get_yes h3 hi hk).1⟩⟩
  · by_cases h8 : N = 8
    · have e1 : ptL L N key val = L := by unfold ptL; rw [hp, hB, if_pos h8]; rfl
      have e2 : ptN L N key val = N := by unfold ptN; rw [hp, hB, if_pos h8]; rfl
      have e3 : ptC L N key val = 3 := by unfold ptC; rw [hp, hB, if_pos h8]; rfl
      rw [e1, e2, e3]
      exact ⟨hok, .inr (.inl ⟨rfl, rfl, rfl, (get_no hno).1, h8⟩)⟩
    · have e1 : ptL L N key val = L.take (entI L N key * 2) ++ [key, val] ++ L.drop (entI L N key * 2) := by simp [ptL, hp, hB, h8]
      have e2 : ptN L N key val = N + 1 := by simp [ptN, hp, hB, h8]
      have e3 : ptC L N key val = 2 := by simp [ptC, hp, hB, h8]
      rw [e2, e3]
      obtain ⟨a, b, c, d⟩ := put_new hl hok hin hno (by omega) _ e1
      exact ⟨a, .inr (.inr ⟨rfl, (get_no hno).1, b, c, d⟩)⟩
theorem put_not {L : List Int} {N : Nat} {key val : Int} (hp : ptOk L N key val = false) : ptC L N key val = 0 ∧ ptN L N key val = 0 := ⟨by simp [ptC, hp], by simp [ptN, hp]⟩
theorem ptOk_yes {L : List Int} {N : Nat} {key val : Int} (h : okM L N = true) (h1 : 0 ≤ key) (h2 : key ≤ 99) (h3 : 0 ≤ val) (h4 : val ≤ 999) : ptOk L N key val = true := by
  simp [ptOk, h, inB]
  omega
theorem ptOk_no {L : List Int} {N : Nat} {key val : Int} (h : okM L N = false ∨ key < 0 ∨ 99 < key ∨ val < 0 ∨ 999 < val) : ptOk L N key val = false := by
  cases e : ptOk L N key val
  · rfl
  · exfalso
    simp [ptOk, inB] at e
    rcases h with h | h
    · rw [h] at e; simp at e
    · omega

end Go.Proofs.Ytklpdpdjblakgaa

/- Count -/
namespace Go.Proofs.Ytklpdpdjblakgaa
open Go.RowKit
set_option linter.unusedVariables false

/-- How many of the first k keys are from a key on. -/
def cntN (zs : List Int) (key : Int) : Nat → Nat
  | 0 => 0
  | k + 1 => if geK key (keyAt zs k) then cntN zs key k + 1 else cntN zs key k
def cntV (zs : List Int) (n : Nat) (key : Int) : Int := cntN zs key n
theorem cntN_le (zs : List Int) (key : Int) (k : Nat) : cntN zs key k ≤ k := by
  induction k with
  | zero => simp [cntN]
  | succ k ih => unfold cntN; split <;> omega
theorem cntN_yes {zs : List Int} {key x : Int} {k : Nat} (hx : keyAt zs k = x) (h : key ≤ x) : cntN zs key (k + 1) = cntN zs key k + 1 := by
  simp [cntN, hx, geK_yes h]
theorem cntN_no {zs : List Int} {key x : Int} {k : Nat} (hx : keyAt zs k = x) (h : x < key) : cntN zs key (k + 1) = cntN zs key k := by
  simp [cntN, hx, geK_no h]

end Go.Proofs.Ytklpdpdjblakgaa

/- First -/
namespace Go.Proofs.Ytklpdpdjblakgaa
open Go.RowKit
set_option linter.unusedVariables false

/-- What ListFirst answers. -/
def firstC (zs : List Int) : Int := if zs.length = 0 then 1 else 2
def firstV (zs : List Int) : Int := zs.headD 0

end Go.Proofs.Ytklpdpdjblakgaa

/- SpecPush -/
namespace Go.Proofs.Ytklpdpdjblakgaa
open Go.RowKit
set_option linter.unusedVariables false

theorem own_lit2 (w : World) (o : Obj) (cs : Array Value) (n : Nat) (hs : cs.size = n) (hn : n ≤ maxLen) :
    ((w.alloc o).alloc (.cells cs 3)).ownsRow (w.heap.size + 1) 3 1 (.slice (some ⟨w.heap.size + 1, 0, none⟩) n n) n cs.toList := by
  have := World.ownsRow_lit (base := w.heap.size + 1) (e := 3) (size := 1) (w.alloc o) cs n (by simp) hn (by simpa using hs)
  simpa using this

/-- What stays behind an append onto the second of two new blocks: the first one, and all that was there. -/
theorem behind_append {w w1 : World} {c0 c1 : Value} {cs : Array Value} (hg : ((w.alloc (.cells #[c0, c1] 54)).alloc (.cells cs 3)).grownBy w1 (some (w.heap.size + 1))) :
    w1.cell? ⟨w.heap.size, 0, none⟩ = some c0 ∧ w1.cell? ⟨w.heap.size, 1, none⟩ = some c1 ∧ w1.frozen? ⟨w.heap.size, 0, none⟩ = false ∧ w1.frozen? ⟨w.heap.size, 1, none⟩ = false ∧ Below w.heap.size w w1 := by
  have hblk := hg.block w.heap.size (by simp; omega) (by simp)
  refine ⟨?_, ?_, ?_, ?_, ?_⟩
  · rw [World.cell?_of_block (a := ⟨w.heap.size, 0, none⟩) hblk]; simp
  · rw [World.cell?_of_block (a := ⟨w.heap.size, 1, none⟩) hblk]; simp
  · rw [World.frozen?_of_block (a := ⟨w.heap.size, 0, none⟩) hblk]; simp
  · rw [World.frozen?_of_block (a := ⟨w.heap.size, 1, none⟩) hblk]; simp
  · exact (((Below.refl _ _).alloc (Nat.le_refl _) _).alloc (by simp) _).grown hg (by simp; omega) (fun k h => by cases h; omega)

/-- The cells of all the numbers, for an append. -/
theorem SInts.src_all {w : World} {b off n : Nat} {zs : List Int} (hs : SInts w (some ⟨b, off, none⟩) n zs) :
    ∀ j u, (zs.map (Value.int .i64))[j]? = some u → w.cell? ((⟨b, off, none⟩ : Addr).add j) = some u := by
  intro j u hj
  obtain ⟨hz, h0 | ⟨b', off', e, hc⟩⟩ := hs
  · rw [List.eq_nil_of_length_eq_zero (l := zs) (by omega)] at hj
    simp at hj
  · cases e
    have hjn : j < n := by
      have := (List.getElem?_eq_some_iff.1 hj).1
      simp at this
      omega
    rw [Addr.add_lit, hc j hjn]
    simpa [List.getD, show j < zs.length by omega] using hj

theorem putL_len (zs : List Int) (i : Nat) (x : Int) : (putL zs i x).length ≤ zs.length + 1 := by
  unfold putL
  split
  · split
    · omega
    · simp only [List.length_append, List.length_take, List.length_drop, List.length_cons, List.length_nil]; omega
  · simp

theorem okL_len {zs : List Int} (h : okL zs = true) : zs.length ≤ 8 := by simp [okL] at h; exact h.1

end Go.Proofs.Ytklpdpdjblakgaa

/- SpecQue -/
namespace Go.Proofs.Ytklpdpdjblakgaa
open Go.RowKit
set_option linter.unusedVariables false

end Go.Proofs.Ytklpdpdjblakgaa

/- Take -/
namespace Go.Proofs.Ytklpdpdjblakgaa
open Go.RowKit
set_option linter.unusedVariables false

theorem behind_none {w w1 : World} {c0 c1 : Value} {o : Obj} {row : Option Nat} (hg : ((w.alloc (.cells #[c0, c1] 54)).alloc o).drew.grownBy w1 row) (hr : ∀ k, row = some k → w.heap.size + 1 ≤ k) :
    w1.cell? ⟨w.heap.size, 0, none⟩ = some c0 ∧ w1.cell? ⟨w.heap.size, 1, none⟩ = some c1 ∧ w1.frozen? ⟨w.heap.size, 0, none⟩ = false ∧ w1.frozen? ⟨w.heap.size, 1, none⟩ = false ∧ Below w.heap.size w w1 := by
  have hblk := hg.block w.heap.size (by simp; omega) (fun e => by have := hr _ e.symm; omega)
  refine ⟨?_, ?_, ?_, ?_, ?_⟩
  · rw [World.cell?_of_block (a := ⟨w.heap.size, 0, none⟩) hblk]; simp
  · rw [World.cell?_of_block (a := ⟨w.heap.size, 1, none⟩) hblk]; simp
  · rw [World.frozen?_of_block (a := ⟨w.heap.size, 0, none⟩) hblk]; simp
  · rw [World.frozen?_of_block (a := ⟨w.heap.size, 1, none⟩) hblk]; simp
  · exact ((((Below.refl _ _).alloc (Nat.le_refl _) _).alloc (by simp) _).drew).grown hg (by simp; omega) (fun k h => by have := hr _ h; omega)

/-- What is left, the code and the value of ListTake. -/
def takeL (zs : List Int) : List Int := if okL zs then zs.drop 1 else []
def takeC (zs : List Int) : Int := if okL zs then (if zs.length = 0 then 1 else 2) else 0
def takeV (zs : List Int) : Int := if okL zs then zs.headD 0 else 0

theorem takeL_len (zs : List Int) : (takeL zs).length ≤ zs.length := by
  unfold takeL
  split
  · simp
  · simp

end Go.Proofs.Ytklpdpdjblakgaa

/- Frame -/
namespace Go.Proofs.Ytklpdpdjblakgaa
open Go.ChangeShapes Go.WideShapes Go.ChangeAt Go.RowKit
set_option linter.unusedVariables false

theorem own : ownKnob Try.prog.godebug = none := by kernel_rfl
theorem laidOut : laidOutB Try.prog = true := by kernel_rfl

/-- What the reading of an argument tells of a slice of integers. -/
theorem sints_of_open {H : Type} {enc : TypeId × Value → H} {W : World} {a0 : Option Addr} {len0 cap0 : Nat} {d0 : DataW H} {p0 : List MemPlace}
    (h0 : DataW.Trod enc Try.prog W 0 (fun _ => true) true 37 (.slice a0 len0 cap0) d0 p0) : ∃ zs, SInts W a0 len0 zs ∧ len0 ≤ 9223372036854775807 := by
  obtain ⟨fuel, hf⟩ := h0
  rcases open_ints Try.underlying37 Try.underlying3 (by kernel_rfl) hf with ⟨hcs, _⟩ | ⟨x, l, c, zs, hcs, _, hl, hm, hz, _, hcell, hwz⟩
  · simp [Value.cells] at hcs
    obtain ⟨rfl, rfl, rfl⟩ := hcs
    exact ⟨[], ⟨rfl, .inl rfl⟩, by omega⟩
  · simp [Value.cells] at hcs
    obtain ⟨rfl, rfl, rfl⟩ := hcs
    unfold maxLen at hm
    refine ⟨zs.take len0, ⟨by simp at hz ⊢; omega, ?_⟩, by omega⟩
    by_cases h0 : len0 = 0
    · exact .inl h0
    · obtain ⟨b, off, spot⟩ := x
      have hc := hcell 0 (by simp at hz; omega)
      have hspot : spot = none := by simpa [Addr.add] using World.cell?_spot hc
      subst hspot
      refine .inr ⟨b, off, rfl, fun i hi => ?_⟩
      have := hcell i (by simp at hz; omega)
      rw [Addr.add_lit] at this
      rw [this]
      simp [List.getD, hi]

end Go.Proofs.Ytklpdpdjblakgaa

/- OpS -/
namespace Go.Proofs.Ytklpdpdjblakgaa
open Go.RowKit
set_option linter.unusedVariables false

/-- The greatest key that a kind has. -/
def kMost (k : Int) : Int := if k = 1 ∨ k = 2 ∨ k = 3 ∨ k = 9 ∨ k = 10 then 99 else 0
/-- The greatest value that a kind has. -/
def vMost (k : Int) : Int := if k = 2 ∨ k = 5 ∨ k = 7 then 999 else 0
/-- What may be asked. -/
def opB (k key val : Int) : Bool := decide (1 ≤ k) && decide (k ≤ 12) && inB key (kMost k) && inB val (vMost k)
/-- The program's table lies in its variable. -/
def Tab (w : World) : Prop := ∀ k : Nat, k ≤ 12 → w.cell? ⟨0, 3 * k, none⟩ = some (.int .i64 0) ∧ w.cell? ⟨0, 3 * k + 1, none⟩ = some (.int .i64 (kMost k)) ∧ w.cell? ⟨0, 3 * k + 2, none⟩ = some (.int .i64 (vMost k))

theorem kept_cell {W W' : World} {b o : Nat} {v : Value} (hb : Below W.heap.size W W') (h : W.cell? ⟨b, o, none⟩ = some v) : W'.cell? ⟨b, o, none⟩ = some v :=
  (hb.cell (World.block_lt_of_cell? W ⟨b, o, none⟩ h)).trans h
theorem Tab.below {W W' : World} (h : Tab W) (hb : Below W.heap.size W W') : Tab W' := fun k hk =>
  let ⟨h0, h1, h2⟩ := h k hk
  ⟨kept_cell hb h0, kept_cell hb h1, kept_cell hb h2⟩
theorem inB_zero {x : Int} : inB x 0 = decide (x = 0) := by
  unfold inB
  rw [← Bool.decide_and]
  exact decide_eq_decide.2 (by omega)
theorem opB_low {k key val : Int} (h : k < 1) : opB k key val = false := by
  have : ¬ 1 ≤ k := by omega
  simp [opB, this]
theorem opB_high {k key val : Int} (h : 12 < k) : opB k key val = false := by
  have : ¬ k ≤ 12 := by omega
  simp [opB, this]

theorem opB_1 (key val : Int) : opB 1 key val = (inB key 99 && inB val 0) := by simp [opB, kMost, vMost]
theorem opB_2 (key val : Int) : opB 2 key val = (inB key 99 && inB val 999) := by simp [opB, kMost, vMost]
theorem opB_3 (key val : Int) : opB 3 key val = (inB key 99 && inB val 0) := by simp [opB, kMost, vMost]
theorem opB_4 (key val : Int) : opB 4 key val = (inB key 0 && inB val 0) := by simp [opB, kMost, vMost]
theorem opB_5 (key val : Int) : opB 5 key val = (inB key 0 && inB val 999) := by simp [opB, kMost, vMost]
theorem opB_6 (key val : Int) : opB 6 key val = (inB key 0 && inB val 0) := by simp [opB, kMost, vMost]
theorem opB_7 (key val : Int) : opB 7 key val = (inB key 0 && inB val 999) := by simp [opB, kMost, vMost]
theorem opB_8 (key val : Int) : opB 8 key val = (inB key 0 && inB val 0) := by simp [opB, kMost, vMost]
theorem opB_9 (key val : Int) : opB 9 key val = (inB key 99 && inB val 0) := by simp [opB, kMost, vMost]
theorem opB_10 (key val : Int) : opB 10 key val = (inB key 99 && inB val 0) := by simp [opB, kMost, vMost]
theorem opB_11 (key val : Int) : opB 11 key val = (inB key 0 && inB val 0) := by simp [opB, kMost, vMost]
theorem opB_12 (key val : Int) : opB 12 key val = (inB key 0 && inB val 0) := by simp [opB, kMost, vMost]

set_option maxHeartbeats 400000 in
theorem toOpOp_any (k key val : Int) (w : World) :
    Calls Try.prog 44 #[.agg #[.int .i64 k, .int .i64 key, .int .i64 val]] w fun e w' => e = .returned (.agg #[.int .i64 k, .int .i64 key, .int .i64 val]) ∧ Below w.heap.size w w' := by
  go_enter Try.func44, Try.ntmps44
  go_wp2
  exact bodyPost_ret (v := .agg #[.int .i64 k, .int .i64 key, .int .i64 val]) (by simp [results, Try.results44, go_sem]) rfl ⟨rfl, (((Below.refl _ _).alloc (Nat.le_refl _) _).alloc (by simp) _).alloc (by simp; omega) _⟩

end Go.Proofs.Ytklpdpdjblakgaa

/- LinM -/
namespace Go.Proofs.Ytklpdpdjblakgaa
open Go.RowKit
set_option linter.unusedVariables false

/-- How many entries there are behind what is asked. -/
def fN (k x y : Int) (n : Nat) (zs : List Int) : Nat := if k = 2 then ptN zs n x y else if k = 3 then delN zs n x else n
/-- The entries behind what is asked. -/
def fZ (k x y : Int) (n : Nat) (zs : List Int) : List Int := if k = 2 then ptL zs n x y else if k = 3 then delL zs n x else zs
/-- The stack behind what is asked. -/
def fS (k y : Int) (s : List Int) : List Int := if k = 5 then putL s 0 y else if k = 6 then takeL s else s
/-- The queue behind what is asked. -/
def fQ (k y : Int) (q : List Int) : List Int := if k = 7 then putL q q.length y else if k = 8 then takeL q else q
/-- The code of the answer. -/
def rC (k x y : Int) (n : Nat) (zs s q : List Int) : Int :=
  if k = 1 then getC zs n x else if k = 2 then ptC zs n x y else if k = 3 then delC zs n x else if k = 5 then putC s y else if k = 6 then takeC s else if k = 7 then putC q y else if k = 8 then takeC q
  else if k = 9 then nextC zs n x else if k = 11 then firstC s else if k = 12 then firstC q else 2
/-- The value of the answer. -/
def rV (k x y : Int) (n : Nat) (zs s q : List Int) : Int :=
  if k = 1 then getV zs n x else if k = 3 then delV zs n x else if k = 6 then takeV s else if k = 8 then takeV q
  else if k = 9 then nextV zs n x else if k = 10 then cntV zs n x else if k = 11 then firstV s else if k = 12 then firstV q else 0

def stOk (n : Nat) (zs s q : List Int) : Bool := okM zs n && (okL s && okL q)
def apOk (k x y : Int) (n : Nat) (zs s q : List Int) : Bool := stOk n zs s q && opB k x y
def aN (k x y : Int) (n : Nat) (zs s q : List Int) : Nat := if apOk k x y n zs s q then fN k x y n zs else 0
def aZ (k x y : Int) (n : Nat) (zs s q : List Int) : List Int := if apOk k x y n zs s q then fZ k x y n zs else []
def aS (k x y : Int) (n : Nat) (zs s q : List Int) : List Int := if apOk k x y n zs s q then fS k y s else []
def aQ (k x y : Int) (n : Nat) (zs s q : List Int) : List Int := if apOk k x y n zs s q then fQ k y q else []
def aC (k x y : Int) (n : Nat) (zs s q : List Int) : Int := if apOk k x y n zs s q then rC k x y n zs s q else 0
def aV (k x y : Int) (n : Nat) (zs s q : List Int) : Int := if apOk k x y n zs s q then rV k x y n zs s q else 0

theorem apOk_parts {k x y : Int} {n : Nat} {zs s q : List Int} (h : apOk k x y n zs s q = true) : okM zs n = true ∧ okL s = true ∧ okL q = true ∧ opB k x y = true := by
  simp only [apOk, stOk, Bool.and_eq_true] at h
  exact ⟨h.1.1, h.1.2.1, h.1.2.2, h.2⟩
theorem apOk_mk {k x y : Int} {n : Nat} {zs s q : List Int} (h1 : okM zs n = true) (h2 : okL s = true) (h3 : okL q = true) (h4 : opB k x y = true) : apOk k x y n zs s q = true := by
  simp only [apOk, stOk, Bool.and_eq_true]
  exact ⟨⟨h1, h2, h3⟩, h4⟩
theorem opB_parts {k x y : Int} (h : opB k x y = true) : 1 ≤ k ∧ k ≤ 12 ∧ inB x (kMost k) = true ∧ inB y (vMost k) = true := by
  simp only [opB, Bool.and_eq_true, decide_eq_true_eq] at h
  exact ⟨h.1.1.1, h.1.1.2, h.1.2, h.2⟩
theorem opB_put {k x y : Int} (h : opB k x y = true) (hk : k = 2) : (inB x 99 && inB y 999) = true := by
  subst hk
  have := opB_parts h
  simp [kMost, vMost] at this
  simp [this]
theorem opB_val {k x y : Int} (h : opB k x y = true) (hk : k = 5 ∨ k = 7) : inB y 999 = true := by
  have := (opB_parts h).2.2.2
  rcases hk with rfl | rfl <;> simpa [vMost] using this

theorem okL_cons {s : List Int} {y : Int} (h : okL s = true) (hy : inB y 999 = true) (hl : s.length ≠ 8) : okL (y :: s) = true ∧ okL (s ++ [y]) = true := by
  simp only [okL, Bool.and_eq_true, decide_eq_true_eq, List.all_eq_true] at h ⊢
  refine ⟨⟨by simp; omega, fun z hz => ?_⟩, ⟨by simp; omega, fun z hz => ?_⟩⟩
  · rcases List.mem_cons.1 hz with rfl | hz
    · exact hy
    · exact h.2 z hz
  · rcases List.mem_append.1 hz with hz | hz
    · exact h.2 z hz
    · rw [List.mem_singleton.1 hz]; exact hy
theorem okL_drop {s : List Int} (h : okL s = true) (i : Nat) : okL (s.drop i) = true := by
  simp only [okL, Bool.and_eq_true, decide_eq_true_eq, List.all_eq_true] at h ⊢
  exact ⟨by simp; omega, fun z hz => h.2 z (List.mem_of_mem_drop hz)⟩

theorem fS_ok {k x y : Int} {s : List Int} (h : okL s = true) (ho : opB k x y = true) : okL (fS k y s) = true := by
  unfold fS
  split
  · rename_i e
    unfold putL
    rw [h, opB_val ho (.inl e)]
    by_cases h8 : s.length = 8
    · simp [h8, h]
    · simp only [Bool.and_self, if_true, if_neg h8, List.take_zero, List.nil_append, List.drop_zero]
      exact (okL_cons h (opB_val ho (.inl e)) h8).1
  · split
    · unfold takeL
      rw [h, if_pos rfl]
      exact okL_drop h 1
    · exact h
theorem fQ_ok {k x y : Int} {q : List Int} (h : okL q = true) (ho : opB k x y = true) : okL (fQ k y q) = true := by
  unfold fQ
  split
  · rename_i e
    unfold putL
    rw [h, opB_val ho (.inr e)]
    by_cases h8 : q.length = 8
    · simp [h8, h]
    · simp only [Bool.and_self, if_true, if_neg h8, List.take_length, List.drop_length, List.append_nil]
      exact (okL_cons h (opB_val ho (.inr e)) h8).2
  · split
    · unfold takeL
      rw [h, if_pos rfl]
      exact okL_drop h 1
    · exact h
theorem ptL_len {x y : Int} {n : Nat} {zs : List Int} (hl : zs.length = n * 2) : (ptL zs n x y).length = ptN zs n x y * 2 := by
  unfold ptL ptN
  split
  · split
    · exact hl
    · split
      · exact hl
      · simp only [List.length_append, List.length_take, List.length_drop, List.length_cons, List.length_nil]; omega
  · rfl
theorem delL_len {x : Int} {n : Nat} {zs : List Int} (hl : zs.length = n * 2) : (delL zs n x).length = delN zs n x * 2 := by
  cases h : okM zs n
  · simp [delL, delN, h]
  · rcases ent_cases x h with ⟨hB, hi, hk⟩ | ⟨hB, hno⟩
    · have e1 : delL zs n x = zs.take (entI zs n x * 2) ++ zs.drop ((entI zs n x + 1) * 2) := by simp [delL, h, hB]
      have e2 : delN zs n x = n - 1 := by simp [delN, h, hB]
      rw [e1, e2]
      simp only [List.length_append, List.length_take, List.length_drop]; omega
    · have e1 : delL zs n x = zs := by simp [delL, h, hB]
      have e2 : delN zs n x = n := by simp [delN, h, hB]
      rw [e1, e2]
      exact hl
theorem fZ_len {k x y : Int} {n : Nat} {zs : List Int} (hl : zs.length = n * 2) : (fZ k x y n zs).length = fN k x y n zs * 2 := by
  unfold fZ fN
  split
  · exact ptL_len hl
  · split
    · exact delL_len hl
    · exact hl
theorem fZ_ok {k x y : Int} {n : Nat} {zs : List Int} (hl : zs.length = n * 2) (h : okM zs n = true) (ho : opB k x y = true) : okM (fZ k x y n zs) (fN k x y n zs) = true := by
  unfold fZ fN
  split
  · rename_i e
    exact (put_all hl (by unfold ptOk; rw [h]; exact opB_put ho e)).1
  · split
    · rename_i e
      rcases ent_cases x h with ⟨hB, hi, hk⟩ | ⟨hB, hno⟩
      · have e1 : delL zs n x = zs.take (entI zs n x * 2) ++ zs.drop ((entI zs n x + 1) * 2) := by simp [delL, h, hB]
        have e2 : delN zs n x = n - 1 := by simp [delN, h, hB]
        rw [e1, e2]
        exact cut_ok hl h hi
      · have e1 : delL zs n x = zs := by simp [delL, h, hB]
        have e2 : delN zs n x = n := by simp [delN, h, hB]
        rw [e1, e2]
        exact h
    · exact h

/-- Of what is asked: the map, the stack, the queue, or nothing. -/
def thing (k : Int) : Int := if k = 1 ∨ k = 2 ∨ k = 3 ∨ k = 9 ∨ k = 10 then 1 else if k = 5 ∨ k = 6 ∨ k = 11 then 2 else if k = 7 ∨ k = 8 ∨ k = 12 then 3 else 0
theorem fS_else {k y : Int} {s : List Int} (h : thing k ≠ 2) : fS k y s = s := by
  unfold fS
  split
  · rename_i e; subst e; exact absurd rfl h
  · split
    · rename_i e; subst e; exact absurd rfl h
    · rfl
theorem fQ_else {k y : Int} {q : List Int} (h : thing k ≠ 3) : fQ k y q = q := by
  unfold fQ
  split
  · rename_i e; subst e; exact absurd rfl h
  · split
    · rename_i e; subst e; exact absurd rfl h
    · rfl
theorem fZ_else {k x y : Int} {n : Nat} {zs : List Int} (h : thing k ≠ 1) : fZ k x y n zs = zs ∧ fN k x y n zs = n := by
  unfold fZ fN
  have h2 : k ≠ 2 := fun e => by subst e; exact h rfl
  have h3 : k ≠ 3 := fun e => by subst e; exact h rfl
  simp [h2, h3]
/-- An answer hangs on that alone of which it is asked. -/
theorem rC_of {k x y : Int} {n n' : Nat} {zs zs' s s' q q' : List Int} (hk : 1 ≤ k ∧ k ≤ 12) (h1 : thing k = 1 → n = n' ∧ zs = zs') (h2 : thing k = 2 → s = s') (h3 : thing k = 3 → q = q') :
    rC k x y n zs s q = rC k x y n' zs' s' q' ∧ rV k x y n zs s q = rV k x y n' zs' s' q' := by
  obtain ⟨ha, hb⟩ := hk
  rcases (show k = 1 ∨ k = 2 ∨ k = 3 ∨ k = 4 ∨ k = 5 ∨ k = 6 ∨ k = 7 ∨ k = 8 ∨ k = 9 ∨ k = 10 ∨ k = 11 ∨ k = 12 by omega) with rfl | rfl | rfl | rfl | rfl | rfl | rfl | rfl | rfl | rfl | rfl | rfl
  all_goals first
    | (obtain ⟨rfl, rfl⟩ := h1 rfl; exact ⟨rfl, rfl⟩)
    | (obtain rfl := h2 rfl; exact ⟨rfl, rfl⟩)
    | (obtain rfl := h3 rfl; exact ⟨rfl, rfl⟩)
    | exact ⟨rfl, rfl⟩
/-- Two asks of two things, in either order. -/
theorem ap_swap {k x y k' x' y' : Int} {n : Nat} {zs s q : List Int} (hl : zs.length = n * 2) (h : apOk k x y n zs s q = true) (h' : opB k' x' y' = true) (ht : thing k ≠ thing k') :
    let N := aN k x y n zs s q; let Z := aZ k x y n zs s q; let S := aS k x y n zs s q; let Q := aQ k x y n zs s q
    let N' := aN k' x' y' n zs s q; let Z' := aZ k' x' y' n zs s q; let S' := aS k' x' y' n zs s q; let Q' := aQ k' x' y' n zs s q
    aN k' x' y' N Z S Q = aN k x y N' Z' S' Q' ∧ aZ k' x' y' N Z S Q = aZ k x y N' Z' S' Q' ∧ aS k' x' y' N Z S Q = aS k x y N' Z' S' Q' ∧ aQ k' x' y' N Z S Q = aQ k x y N' Z' S' Q' ∧
    aC k' x' y' N Z S Q = aC k' x' y' n zs s q ∧ aV k' x' y' N Z S Q = aV k' x' y' n zs s q ∧ aC k x y N' Z' S' Q' = aC k x y n zs s q ∧ aV k x y N' Z' S' Q' = aV k x y n zs s q := by
  obtain ⟨h1, h2, h3, h4⟩ := apOk_parts h
  have hb := apOk_mk (k := k') (x := x') (y := y') (n := n) (zs := zs) (s := s) (q := q) h1 h2 h3 h'
  have eN : aN k x y n zs s q = fN k x y n zs := by simp [aN, h]
  have eZ : aZ k x y n zs s q = fZ k x y n zs := by simp [aZ, h]
  have eS : aS k x y n zs s q = fS k y s := by simp [aS, h]
  have eQ : aQ k x y n zs s q = fQ k y q := by simp [aQ, h]
  have eN' : aN k' x' y' n zs s q = fN k' x' y' n zs := by simp [aN, hb]
  have eZ' : aZ k' x' y' n zs s q = fZ k' x' y' n zs := by simp [aZ, hb]
  have eS' : aS k' x' y' n zs s q = fS k' y' s := by simp [aS, hb]
  have eQ' : aQ k' x' y' n zs s q = fQ k' y' q := by simp [aQ, hb]
  have g : apOk k' x' y' (fN k x y n zs) (fZ k x y n zs) (fS k y s) (fQ k y q) = true := apOk_mk (fZ_ok hl h1 h4) (fS_ok (x := x) h2 h4) (fQ_ok (x := x) h3 h4) h'
  have g' : apOk k x y (fN k' x' y' n zs) (fZ k' x' y' n zs) (fS k' y' s) (fQ k' y' q) = true := apOk_mk (fZ_ok hl h1 h') (fS_ok (x := x') h2 h') (fQ_ok (x := x') h3 h') h4
  simp only [eN, eZ, eS, eQ, eN', eZ', eS', eQ']
  have u : aN k' x' y' (fN k x y n zs) (fZ k x y n zs) (fS k y s) (fQ k y q) = fN k' x' y' (fN k x y n zs) (fZ k x y n zs) := by simp [aN, g]
  have u1 : aZ k' x' y' (fN k x y n zs) (fZ k x y n zs) (fS k y s) (fQ k y q) = fZ k' x' y' (fN k x y n zs) (fZ k x y n zs) := by simp [aZ, g]
  have u2 : aS k' x' y' (fN k x y n zs) (fZ k x y n zs) (fS k y s) (fQ k y q) = fS k' y' (fS k y s) := by simp [aS, g]
  have u3 : aQ k' x' y' (fN k x y n zs) (fZ k x y n zs) (fS k y s) (fQ k y q) = fQ k' y' (fQ k y q) := by simp [aQ, g]
  have v : aN k x y (fN k' x' y' n zs) (fZ k' x' y' n zs) (fS k' y' s) (fQ k' y' q) = fN k x y (fN k' x' y' n zs) (fZ k' x' y' n zs) := by simp [aN, g']
  have v1 : aZ k x y (fN k' x' y' n zs) (fZ k' x' y' n zs) (fS k' y' s) (fQ k' y' q) = fZ k x y (fN k' x' y' n zs) (fZ k' x' y' n zs) := by simp [aZ, g']
  have v2 : aS k x y (fN k' x' y' n zs) (fZ k' x' y' n zs) (fS k' y' s) (fQ k' y' q) = fS k y (fS k' y' s) := by simp [aS, g']
  have v3 : aQ k x y (fN k' x' y' n zs) (fZ k' x' y' n zs) (fS k' y' s) (fQ k' y' q) = fQ k y (fQ k' y' q) := by simp [aQ, g']
  rw [u, u1, u2, u3, v, v1, v2, v3]
  have c1 : aC k' x' y' (fN k x y n zs) (fZ k x y n zs) (fS k y s) (fQ k y q) = rC k' x' y' (fN k x y n zs) (fZ k x y n zs) (fS k y s) (fQ k y q) := by simp [aC, g]
  have c2 : aV k' x' y' (fN k x y n zs) (fZ k x y n zs) (fS k y s) (fQ k y q) = rV k' x' y' (fN k x y n zs) (fZ k x y n zs) (fS k y s) (fQ k y q) := by simp [aV, g]
  have c3 : aC k' x' y' n zs s q = rC k' x' y' n zs s q := by simp [aC, hb]
  have c4 : aV k' x' y' n zs s q = rV k' x' y' n zs s q := by simp [aV, hb]
  have d1 : aC k x y (fN k' x' y' n zs) (fZ k' x' y' n zs) (fS k' y' s) (fQ k' y' q) = rC k x y (fN k' x' y' n zs) (fZ k' x' y' n zs) (fS k' y' s) (fQ k' y' q) := by simp [aC, g']
  have d2 : aV k x y (fN k' x' y' n zs) (fZ k' x' y' n zs) (fS k' y' s) (fQ k' y' q) = rV k x y (fN k' x' y' n zs) (fZ k' x' y' n zs) (fS k' y' s) (fQ k' y' q) := by simp [aV, g']
  have d3 : aC k x y n zs s q = rC k x y n zs s q := by simp [aC, h]
  have d4 : aV k x y n zs s q = rV k x y n zs s q := by simp [aV, h]
  rw [c1, c2, c3, c4, d1, d2, d3, d4]
  have hr := rC_of (k := k') (x := x') (y := y') (n := fN k x y n zs) (n' := n) (zs := fZ k x y n zs) (zs' := zs) (s := fS k y s) (s' := s) (q := fQ k y q) (q' := q) ⟨(opB_parts h').1, (opB_parts h').2.1⟩ (fun e => ⟨(fZ_else (by omega)).2, (fZ_else (by omega)).1⟩) (fun e => fS_else (by omega)) (fun e => fQ_else (by omega))
  have hr' := rC_of (k := k) (x := x) (y := y) (n := fN k' x' y' n zs) (n' := n) (zs := fZ k' x' y' n zs) (zs' := zs) (s := fS k' y' s) (s' := s) (q := fQ k' y' q) (q' := q) ⟨(opB_parts h4).1, (opB_parts h4).2.1⟩ (fun e => ⟨(fZ_else (by omega)).2, (fZ_else (by omega)).1⟩) (fun e => fS_else (by omega)) (fun e => fQ_else (by omega))
  refine ⟨?_, ?_, ?_, ?_, hr.1, hr.2, hr'.1, hr'.2⟩
  · by_cases e : thing k = 1
    · have z := fZ_else (k := k') (x := x') (y := y') (n := n) (zs := zs) (by omega)
      rw [z.1, z.2, (fZ_else (by omega)).2]
    · have z := fZ_else (k := k) (x := x) (y := y) (n := n) (zs := zs) e
      rw [z.1, z.2, (fZ_else e).2]
  · by_cases e : thing k = 1
    · have z := fZ_else (k := k') (x := x') (y := y') (n := n) (zs := zs) (by omega)
      rw [z.1, z.2, (fZ_else (by omega)).1]
    · have z := fZ_else (k := k) (x := x) (y := y) (n := n) (zs := zs) e
      rw [z.1, z.2, (fZ_else e).1]
  · by_cases e : thing k = 2
    · rw [fS_else (k := k') (by omega), fS_else (k := k') (by omega)]
    · rw [fS_else e, fS_else e]
  · by_cases e : thing k = 3
    · rw [fQ_else (k := k') (by omega), fQ_else (k := k') (by omega)]
    · rw [fQ_else e, fQ_else e]

/-- An answer that is none has code 0, and no other has. -/
theorem aC_zero {k x y : Int} {n : Nat} {zs s q : List Int} (h : apOk k x y n zs s q = false) : aC k x y n zs s q = 0 := by simp [aC, h]
theorem aC_one {k x y : Int} {n : Nat} {zs s q : List Int} (h : apOk k x y n zs s q = true) : aC k x y n zs s q ≠ 0 := by
  obtain ⟨h1, h2, h3, h4⟩ := apOk_parts h
  obtain ⟨ha, hb, _, _⟩ := opB_parts h4
  have e : aC k x y n zs s q = rC k x y n zs s q := by simp [aC, h]
  rw [e]
  rcases (show k = 1 ∨ k = 2 ∨ k = 3 ∨ k = 4 ∨ k = 5 ∨ k = 6 ∨ k = 7 ∨ k = 8 ∨ k = 9 ∨ k = 10 ∨ k = 11 ∨ k = 12 by omega) with rfl | rfl | rfl | rfl | rfl | rfl | rfl | rfl | rfl | rfl | rfl | rfl
  · show getC zs n x ≠ 0
    unfold getC; split <;> decide
  · show ptC zs n x y ≠ 0
    unfold ptC
    rw [if_pos (by unfold ptOk; rw [h1]; exact opB_put h4 rfl)]
    split
    · decide
    · split <;> decide
  · show delC zs n x ≠ 0
    unfold delC
    rw [if_pos h1]
    split <;> decide
  · show (2 : Int) ≠ 0
    decide
  · show putC s y ≠ 0
    unfold putC
    rw [h2, opB_val h4 (.inl rfl)]
    show (if s.length = 8 then (3 : Int) else 2) ≠ 0
    split <;> decide
  · show takeC s ≠ 0
    unfold takeC
    rw [h2, if_pos rfl]
    split <;> decide
  · show putC q y ≠ 0
    unfold putC
    rw [h3, opB_val h4 (.inr rfl)]
    show (if q.length = 8 then (3 : Int) else 2) ≠ 0
    split <;> decide
  · show takeC q ≠ 0
    unfold takeC
    rw [h3, if_pos rfl]
    split <;> decide
  · show nextC zs n x ≠ 0
    unfold nextC; split <;> decide
  · show (2 : Int) ≠ 0
    decide
  · show firstC s ≠ 0
    unfold firstC; split <;> decide
  · show firstC q ≠ 0
    unfold firstC; split <;> decide

/-- Who looks leaves all as it was. -/
theorem ap_look {k x y : Int} {n : Nat} {zs s q : List Int} (h : apOk k x y n zs s q = true) (hk : k ≠ 2 ∧ k ≠ 3 ∧ k ≠ 5 ∧ k ≠ 6 ∧ k ≠ 7 ∧ k ≠ 8) :
    aN k x y n zs s q = n ∧ aZ k x y n zs s q = zs ∧ aS k x y n zs s q = s ∧ aQ k x y n zs s q = q := by
  obtain ⟨a, b, c, d, e, f⟩ := hk
  simp [aN, aZ, aS, aQ, h, fN, fZ, fS, fQ, a, b, c, d, e, f]

/-- A pop behind a push. -/
theorem ap_pop {x y : Int} {n : Nat} {zs s q : List Int} (hl : zs.length = n * 2) (h : apOk 5 x y n zs s q = true) (hc : aC 5 x y n zs s q = 2) :
    let N := aN 5 x y n zs s q; let Z := aZ 5 x y n zs s q; let S := aS 5 x y n zs s q; let Q := aQ 5 x y n zs s q
    aN 6 0 0 N Z S Q = n ∧ aZ 6 0 0 N Z S Q = zs ∧ aS 6 0 0 N Z S Q = s ∧ aQ 6 0 0 N Z S Q = q ∧ aC 6 0 0 N Z S Q = 2 ∧ aV 6 0 0 N Z S Q = y := by
  obtain ⟨h1, h2, h3, h4⟩ := apOk_parts h
  have hy := opB_val h4 (.inl rfl)
  have h8 : s.length ≠ 8 := fun e => by
    have : aC 5 x y n zs s q = 3 := by simp [aC, h, rC, putC, h2, hy, e]
    omega
  have eN : aN 5 x y n zs s q = n := by simp [aN, h, fN]
  have eZ : aZ 5 x y n zs s q = zs := by simp [aZ, h, fZ]
  have eS : aS 5 x y n zs s q = y :: s := by simp [aS, h, fS, putL, h2, hy, h8]
  have eQ : aQ 5 x y n zs s q = q := by simp [aQ, h, fQ]
  simp only [eN, eZ, eS, eQ]
  have hok := (okL_cons h2 hy h8).1
  have g : apOk 6 0 0 n zs (y :: s) q = true := apOk_mk h1 hok h3 (by decide)
  refine ⟨by simp [aN, g, fN], by simp [aZ, g, fZ], by simp [aS, g, fS, takeL, hok], by simp [aQ, g, fQ], by simp [aC, g, rC, takeC, hok], by simp [aV, g, rV, takeV, hok]⟩

/-- A delete behind a put. -/
theorem ap_del {x y : Int} {n : Nat} {zs s q : List Int} (hl : zs.length = n * 2) (h : apOk 2 x y n zs s q = true) (hc : aC 2 x y n zs s q = 2) :
    let N := aN 2 x y n zs s q; let Z := aZ 2 x y n zs s q; let S := aS 2 x y n zs s q; let Q := aQ 2 x y n zs s q
    aN 3 x 0 N Z S Q = n ∧ aZ 3 x 0 N Z S Q = zs ∧ aS 3 x 0 N Z S Q = s ∧ aQ 3 x 0 N Z S Q = q ∧ aC 3 x 0 N Z S Q = 2 ∧ aV 3 x 0 N Z S Q = y := by
  obtain ⟨h1, h2, h3, h4⟩ := apOk_parts h
  have hp : ptOk zs n x y = true := by unfold ptOk; rw [h1]; exact opB_put h4 rfl
  have hpc : ptC zs n x y = 2 := by simpa [aC, h, rC] using hc
  have hB : entB zs n x = false := by
    cases e : entB zs n x
    · rfl
    · simp [ptC, hp, e] at hpc
  have h8 : n ≠ 8 := fun e => by
    unfold ptC at hpc
    rw [if_pos hp, hB, if_pos e] at hpc
    simp at hpc
  have e1 : ptL zs n x y = zs.take (entI zs n x * 2) ++ [x, y] ++ zs.drop (entI zs n x * 2) := by simp [ptL, hp, hB, h8]
  have e2 : ptN zs n x y = n + 1 := by simp [ptN, hp, hB, h8]
  have eN : aN 2 x y n zs s q = n + 1 := by simp [aN, h, fN, e2]
  have eZ : aZ 2 x y n zs s q = ptL zs n x y := by simp [aZ, h, fZ]
  have eS : aS 2 x y n zs s q = s := by simp [aS, h, fS]
  have eQ : aQ 2 x y n zs s q = q := by simp [aQ, h, fQ]
  simp only [eN, eZ, eS, eQ]
  have hok := (put_all hl hp).1
  rw [e2] at hok
  have hle : entI zs n x ≤ n := by
    have hI : entI zs n x = fIdx (fun i => geK x (keyAt zs i)) n := by simp [entI, upM_yes (okM_parts h1).2.2]
    rw [hI]; exact fIdx_le _ _
  have hil : entI zs n x * 2 ≤ zs.length := by omega
  have hki : keyAt (ptL zs n x y) (entI zs n x) = x := by rw [e1, ins_key hil, if_neg (by omega), if_pos rfl]
  have hvi : valAt (ptL zs n x y) (entI zs n x) = y := by rw [e1, ins_val hil, if_neg (by omega), if_pos rfl]
  have hat := ent_at hok (show entI zs n x < n + 1 by omega)
  rw [hki] at hat
  have hcut : (ptL zs n x y).take (entI zs n x * 2) ++ (ptL zs n x y).drop ((entI zs n x + 1) * 2) = zs := by rw [e1]; exact ins_cut hil
  have hx := (opB_parts h4).2.2.1
  have g : apOk 3 x 0 (n + 1) (ptL zs n x y) s q = true := apOk_mk hok h2 h3 (by simp only [opB, Bool.and_eq_true]; exact ⟨⟨⟨by decide, by decide⟩, by simpa [kMost] using hx⟩, by decide⟩)
  refine ⟨?_, ?_, by simp [aS, g, fS], by simp [aQ, g, fQ], ?_, ?_⟩
  · simp [aN, g, fN, delN, hok, hat.2]
  · have : aZ 3 x 0 (n + 1) (ptL zs n x y) s q = delL (ptL zs n x y) (n + 1) x := by simp [aZ, g, fZ]
    rw [this]
    unfold delL
    rw [if_pos hok, if_pos hat.2, hat.1]
    exact hcut
  · simp [aC, g, rC, delC, hok, hat.2]
  · have : aV 3 x 0 (n + 1) (ptL zs n x y) s q = delV (ptL zs n x y) (n + 1) x := by simp [aV, g, rV]
    rw [this]
    unfold delV
    rw [if_pos hok, if_pos hat.2, hat.1]
    exact hvi
end Go.Proofs.Ytklpdpdjblakgaa

/- Nodes -/
namespace Go.Proofs.Ytklpdpdjblakgaa
open Go.RowKit
set_option linter.unusedVariables false

/-- A place. -/
structure Nd where
  key : Int
  val : Int
  word : Int
  ver : Int
  used : Bool
  gen : Int

def Nd.zero : Nd := ⟨0, 0, 0, 0, false, 0⟩
def Nd.cells (x : Nd) : List Value := [.int .i64 x.key, .int .i64 x.val, .int .i64 x.word, .int .i64 x.ver, .bool x.used, .int .i64 x.gen]
def flatN (ns : List Nd) : List Value := ns.flatMap Nd.cells

theorem flatN_cons (x : Nd) (ns : List Nd) : flatN (x :: ns) = x.cells ++ flatN ns := rfl
theorem flatN_app (xs ys : List Nd) : flatN (xs ++ ys) = flatN xs ++ flatN ys := by simp [flatN]
theorem flatN_len (ns : List Nd) : (flatN ns).length = ns.length * 6 := by
  induction ns with
  | nil => rfl
  | cons x ns ih => rw [flatN_cons, List.length_append, ih]; simp [Nd.cells]; omega

theorem flatN_get : ∀ (ns : List Nd) (i j : Nat), j < 6 → (flatN ns)[i * 6 + j]? = (ns[i]?).bind (fun x => x.cells[j]?)
  | [], i, j, _ => by simp [flatN]
  | x :: ns, 0, j, h => by
    rw [flatN_cons, List.getElem?_append_left (by simp [Nd.cells]; omega)]
    simp
  | x :: ns, i + 1, j, h => by
    rw [flatN_cons, List.getElem?_append_right (by simp [Nd.cells]; omega), show (i + 1) * 6 + j - x.cells.length = i * 6 + j by simp [Nd.cells]; omega, flatN_get ns i j h]
    simp

/-- The six cells of a place lie from an address on. -/
structure NodeAt (w : World) (b o : Nat) (x : Nd) : Prop where
  c0 : w.cell? ⟨b, o, none⟩ = some (.int .i64 x.key)
  c1 : w.cell? ⟨b, o + 1, none⟩ = some (.int .i64 x.val)
  c2 : w.cell? ⟨b, o + 2, none⟩ = some (.int .i64 x.word)
  c3 : w.cell? ⟨b, o + 3, none⟩ = some (.int .i64 x.ver)
  c4 : w.cell? ⟨b, o + 4, none⟩ = some (.bool x.used)
  c5 : w.cell? ⟨b, o + 5, none⟩ = some (.int .i64 x.gen)

theorem NodeAt.below {w w' : World} {b o : Nat} {x : Nd} (h : NodeAt w b o x) (hb : Below w.heap.size w w') : NodeAt w' b o x :=
  ⟨cell_kept hb h.c0, cell_kept hb h.c1, cell_kept hb h.c2, cell_kept hb h.c3, cell_kept hb h.c4, cell_kept hb h.c5⟩

/-- The slice of length n at a reads as the places ns. -/
def SNodes (w : World) (a : Option Addr) (n : Nat) (ns : List Nd) : Prop :=
  ns.length = n ∧ (n = 0 ∨ ∃ b off, a = some ⟨b, off, none⟩ ∧ ∀ i x, ns[i]? = some x → NodeAt w b (off + i * 6) x)

theorem SNodes.below {w w' : World} {a : Option Addr} {n : Nat} {ns : List Nd} (h : SNodes w a n ns) (hb : Below w.heap.size w w') : SNodes w' a n ns := by
  obtain ⟨hz, h0 | ⟨b, off, rfl, hc⟩⟩ := h
  · exact ⟨hz, .inl h0⟩
  · exact ⟨hz, .inr ⟨b, off, rfl, fun i x hi => (hc i x hi).below hb⟩⟩

/-- A place of a slice. -/
theorem SNodes.at {w : World} {a : Option Addr} {n : Nat} {ns : List Nd} (h : SNodes w a n ns) {k : Nat} (hk : k < n) : ∃ b off x, a = some ⟨b, off, none⟩ ∧ ns[k]? = some x ∧ NodeAt w b (off + k * 6) x := by
  obtain ⟨hz, h0 | ⟨b, off, rfl, hc⟩⟩ := h
  · omega
  · have hx : ns[k]? = some ns[k] := List.getElem?_eq_getElem (by omega)
    exact ⟨b, off, _, rfl, hx, hc k _ hx⟩

theorem own6_cell {w : World} {base : Nat} {e : TypeId} {g n cap : Nat} {ns : List Nd} (h : w.ownsRow base e 6 (.slice (some ⟨g, 0, none⟩) n cap) n (flatN ns)) {i : Nat} {x : Nd} (hx : ns[i]? = some x) : NodeAt w g (i * 6) x := by
  have hl : ns.length = n := by have := h.1; rw [flatN_len] at this; omega
  have hi : i < n := by have := (List.getElem?_eq_some_iff.1 hx).1; omega
  have key : ∀ j, j < 6 → w.cell? ⟨g, i * 6 + j, none⟩ = x.cells[j]? := fun j hj => by
    rw [h.cellAt (i * 6 + j) (by omega), flatN_get ns i j hj, hx]; rfl
  exact ⟨key 0 (by omega), key 1 (by omega), key 2 (by omega), key 3 (by omega), key 4 (by omega), key 5 (by omega)⟩

theorem own6_len {w : World} {base : Nat} {e : TypeId} {v : Value} {n : Nat} {ns : List Nd} (h : w.ownsRow base e 6 v n (flatN ns)) : ns.length = n := by
  have := h.1
  rw [flatN_len] at this
  omega

theorem own6_snodes {w : World} {base : Nat} {e : TypeId} {a : Option Addr} {n cap : Nat} {ns : List Nd} (h : w.ownsRow base e 6 (.slice a n cap) n (flatN ns)) : SNodes w a n ns := by
  refine ⟨own6_len h, ?_⟩
  rcases h.2 with ⟨e, rfl⟩ | ⟨g, cap', cur, e, hg, hh, hc, hm, hs, ht⟩
  · exact .inl rfl
  · cases e
    exact .inr ⟨g, 0, rfl, fun i x hx => by rw [Nat.zero_add]; exact own6_cell h hx⟩

theorem own6_shape {w : World} {base : Nat} {e : TypeId} {v : Value} {n : Nat} {ns : List Nd} (h : w.ownsRow base e 6 v n (flatN ns)) : ∃ a cap, v = .slice a n cap ∧ n ≤ cap ∧ (a = none ∧ n = 0 ∧ cap = 0 ∨ ∃ g, a = some ⟨g, 0, none⟩) := by
  rcases h.2 with ⟨rfl, rfl⟩ | ⟨g, cap, cur, rfl, hg, hh, hc, hm, hs, ht⟩
  · exact ⟨none, 0, rfl, Nat.le_refl _, .inl ⟨rfl, rfl, rfl⟩⟩
  · exact ⟨_, cap, rfl, hc, .inr ⟨g, rfl⟩⟩

/-- The world with a place's six cells written. -/
abbrev put6 (W : World) (g o : Nat) (x : Nd) : World :=
  (((((W.setCell ⟨g, o, none⟩ (.int .i64 x.key)).setCell ⟨g, o + 1, none⟩ (.int .i64 x.val)).setCell ⟨g, o + 2, none⟩ (.int .i64 x.word)).setCell ⟨g, o + 3, none⟩ (.int .i64 x.ver)).setCell ⟨g, o + 4, none⟩ (.bool x.used)).setCell ⟨g, o + 5, none⟩ (.int .i64 x.gen)

theorem flatN_set : ∀ (ns : List Nd) (i : Nat) (x : Nd),
    ((((((flatN ns).set (i * 6) (.int .i64 x.key)).set (i * 6 + 1) (.int .i64 x.val)).set (i * 6 + 2) (.int .i64 x.word)).set (i * 6 + 3) (.int .i64 x.ver)).set (i * 6 + 4) (.bool x.used)).set (i * 6 + 5) (.int .i64 x.gen) = flatN (ns.set i x)
  | [], i, x => by simp [flatN]
  | y :: ns, 0, x => by simp [flatN_cons, Nd.cells]
  | y :: ns, i + 1, x => by
    have ih := flatN_set ns i x
    have h : ∀ (l : List Value) (j : Nat) (v : Value), (y.cells ++ l).set ((i + 1) * 6 + j) v = y.cells ++ l.set (i * 6 + j) v := fun l j v => by
      rw [List.set_append_right _ _ (by simp [Nd.cells]; omega)]
      congr 2
      simp [Nd.cells]
      omega
    have h0 : ∀ (l : List Value) (v : Value), (y.cells ++ l).set ((i + 1) * 6) v = y.cells ++ l.set (i * 6) v := fun l v => h l 0 v
    rw [List.set_cons_succ, flatN_cons y (ns.set i x), ← ih, flatN_cons, h0, h, h, h, h, h]

theorem grown_trans {w w1 w2 : World} {r : Option Nat} (h : w.grownBy w1 r) (k : w1.grownBy w2 r) : w.grownBy w2 r :=
  ⟨k.os.trans h.os, k.tape.trans h.tape, k.output.trans h.output, Nat.le_trans h.size k.size, fun c hc hne => (k.block c (Nat.lt_of_lt_of_le hc h.size) hne).trans (h.block c hc hne)⟩

/-- What an own row of places is behind the writing of one. -/
theorem own6_put {W : World} {base : Nat} {e : TypeId} {g n cap : Nat} {ns : List Nd} (h : W.ownsRow base e 6 (.slice (some ⟨g, 0, none⟩) n cap) n (flatN ns)) (i : Nat) (x : Nd) :
    (put6 W g (i * 6) x).ownsRow base e 6 (.slice (some ⟨g, 0, none⟩) n cap) n (flatN (ns.set i x)) ∧ W.grownBy (put6 W g (i * 6) x) (some g) ∧ (put6 W g (i * 6) x).heap.size = W.heap.size := by
  have s0 := h.stored (i * 6) (.int .i64 x.key)
  have s1 := s0.1.stored (i * 6 + 1) (.int .i64 x.val)
  have s2 := s1.1.stored (i * 6 + 2) (.int .i64 x.word)
  have s3 := s2.1.stored (i * 6 + 3) (.int .i64 x.ver)
  have s4 := s3.1.stored (i * 6 + 4) (.bool x.used)
  have s5 := s4.1.stored (i * 6 + 5) (.int .i64 x.gen)
  refine ⟨?_, grown_trans s0.2 (grown_trans s1.2 (grown_trans s2.2 (grown_trans s3.2 (grown_trans s4.2 s5.2)))), by simp⟩
  have := s5.1
  rw [flatN_set] at this
  exact this

theorem set_take_succ {α : Type} (ys zs : List α) (k : Nat) (x : α) (hx : zs[k]? = some x) (hy : k < ys.length) (h : ys.take k = zs.take k) : (ys.set k x).take (k + 1) = zs.take (k + 1) := by
  obtain ⟨hk, e⟩ := List.getElem?_eq_some_iff.1 hx
  rw [List.take_succ_eq_append_getElem (by simpa using hy), List.take_succ_eq_append_getElem hk, List.take_set, List.set_eq_of_length_le (by simp; omega), h]
  simp [e]

theorem Try.info86 : (Try.prog.info? 86).map (fun i => (i.zero, i.size, i.bytes)) = some (some (.agg #[.int .i64 0, .int .i64 0, .int .i64 0, .int .i64 0, .bool false, .int .i64 0]), 6, 48) := by kernel_rfl

set_option maxHeartbeats 400000 in
theorem toArnNode_any (k v o r : Int) (u : Bool) (g : Int) (w : World) :
    Calls Try.prog 57 #[.agg #[.int .i64 k, .int .i64 v, .int .i64 o, .int .i64 r, .bool u, .int .i64 g]] w fun e w' => e = .returned (.agg #[.int .i64 k, .int .i64 v, .int .i64 o, .int .i64 r, .bool u, .int .i64 g]) ∧ Below w.heap.size w w' := by
  go_enter Try.func57, Try.ntmps57
  go_wp2
  exact bodyPost_ret (v := .agg #[.int .i64 k, .int .i64 v, .int .i64 o, .int .i64 r, .bool u, .int .i64 g]) (by simp [results, Try.results57, go_sem]) rfl ⟨rfl, (((Below.refl _ _).alloc (Nat.le_refl _) _).alloc (by simp) _).alloc (by simp; omega) _⟩

end Go.Proofs.Ytklpdpdjblakgaa

/- Nodes2 -/
namespace Go.Proofs.Ytklpdpdjblakgaa
open Go.RowKit
set_option linter.unusedVariables false

theorem made_nodes (n : Nat) : (madeCells #[Value.int .i64 0, Value.int .i64 0, Value.int .i64 0, Value.int .i64 0, Value.bool false, Value.int .i64 0] (n * 6)).toList = flatN (List.replicate n Nd.zero) := by
  apply List.ext_getElem?
  intro i
  obtain ⟨q, r, rfl, hr⟩ : ∃ q r, i = q * 6 + r ∧ r < 6 := ⟨i / 6, i % 6, by omega, by omega⟩
  have hm : (q * 6 + r) % 6 = r := by omega
  rw [flatN_get _ _ _ hr]
  by_cases hi : q < n
  · have h1 : q * 6 + r < n * 6 := by omega
    have h6 : r = 0 ∨ r = 1 ∨ r = 2 ∨ r = 3 ∨ r = 4 ∨ r = 5 := by omega
    rcases h6 with rfl | rfl | rfl | rfl | rfl | rfl <;> simp [madeCells, hm, h1, hi, Nd.cells, Nd.zero]
  · have h1 : ¬ q * 6 + r < n * 6 := by omega
    simp [madeCells, h1, hi]

set_option maxHeartbeats 800000 in
theorem toArnNodeS_any (a : Option Addr) (n cap : Nat) (ns : List Nd) (w : World) (hs : SNodes w a n ns) (hn : n ≤ 1048576) :
    Calls Try.prog 32 #[.slice a n cap] w fun e w' => e = .returned (.slice (some ⟨w.heap.size, 0, none⟩) n n) ∧
      w'.ownsRow w.heap.size 86 6 (.slice (some ⟨w.heap.size, 0, none⟩) n n) n (flatN ns) ∧ Below w.heap.size w w' := by
  obtain ⟨i0, hi, hz0, hz1, hz2⟩ := info_parts Try.info86
  have hzl : Hid (ns.length = n) := hs.1
  go_enter Try.func32, Try.ntmps32
  go_wp2_with (at_make; refine wpList_make_full _ rfl _ _ 41 rfl w.heap.size 86 i0 (.agg #[.int .i64 0, .int .i64 0, .int .i64 0, .int .i64 0, .bool false, .int .i64 0]) 6 Try.underlying41 hi hz0 hz1 _ _ _ _ n rfl rfl rfl rfl ?b2 ?b3 (Nat.le_refl _) ?_)
  case b2 => rw [hz2]; omega
  case b3 => unfold maxLen; omega
  intro w0 hown0 hgrow0
  rw [made_nodes] at hown0
  go_wp2
  go_loopw [4] (fun i wr => ∃ (k : Nat) (ys : List Nd), k ≤ n ∧ i = .int .i64 k ∧ wr.ownsRow w.heap.size 86 6 (.slice (some ⟨w.heap.size, 0, none⟩) n n) n (flatN ys) ∧ ys.take k = ns.take k ∧ Below w.heap.size w wr)
    (fun i _ => n - (intOf i).toNat)
  case atStart => exact ⟨0, _, Nat.zero_le _, rfl, hown0, by simp, (Below.refl _ _).grown hgrow0 (Nat.le_refl _) (fun k h => by cases h)⟩
  case round =>
    obtain ⟨k, ys, hk, rfl, hown, htake, hbel⟩ := hrel
    by_cases hlt : k < n
    · have hyl := own6_len hown
      obtain ⟨b, off, ⟨x0, x1, x2, x3, x4, x5⟩, rfl, hx, hN⟩ := (hs.below hbel).at hlt
      have n0 := hN.c0
      have n1 := hN.c1
      have n2 := hN.c2
      have n3 := hN.c3
      have n4 := hN.c4
      have n5 := hN.c5
      dsimp only at n0 n1 n2 n3 n4 n5
      have HS : Hid ((ys.set k ⟨x0, x1, x2, x3, x4, x5⟩).take (k + 1) = ns.take (k + 1)) := set_take_succ ys ns k _ hx (by omega) htake
      clear hx htake hN hs
      go_wp2_with fail
      refine (toArnNode_any _ _ _ _ _ _ _).mono ?_
      rintro e w1 ⟨rfl, hb1⟩
      have hown1 := ownsRow_below hown hb1
      have hbel1 := below_trans' hbel hb1
      obtain ⟨y, hy⟩ : ∃ y, ys[k]? = some y := ⟨_, List.getElem?_eq_getElem (by omega)⟩
      have hO := own6_cell hown1 hy
      have o0 := hO.c0
      have o1 := hO.c1
      have o2 := hO.c2
      have o3 := hO.c3
      have o4 := hO.c4
      have o5 := hO.c5
      have f0 := hown1.frozenAt (k * 6)
      have f1 := hown1.frozenAt (k * 6 + 1)
      have f2 := hown1.frozenAt (k * 6 + 2)
      have f3 := hown1.frozenAt (k * 6 + 3)
      have f4 := hown1.frozenAt (k * 6 + 4)
      have f5 := hown1.frozenAt (k * 6 + 5)
      have hp := own6_put hown1 k ⟨x0, x1, x2, x3, x4, x5⟩
      have R : Hid ((put6 w1 w.heap.size (k * 6) ⟨x0, x1, x2, x3, x4, x5⟩).ownsRow w.heap.size 86 6 (.slice (some ⟨w.heap.size, 0, none⟩) n n) n (flatN (ys.set k ⟨x0, x1, x2, x3, x4, x5⟩)) ∧ Below w.heap.size w (put6 w1 w.heap.size (k * 6) ⟨x0, x1, x2, x3, x4, x5⟩)) :=
        ⟨hp.1, hbel1.grown hp.2.1 hbel1.size (fun c e => by cases e; exact Nat.le_refl _)⟩
      clear hown hown1 hbel hbel1 hb1 hyl hp hO hy n0 n1 n2 n3 n4 n5
      go_wp2
      go_roundw
      case rel => exact ⟨k + 1, _, by omega, by go_num, R.out.1, HS.out, R.out.2⟩
      case measure => simp [intOf]; omega
    · obtain rfl : k = n := by omega
      have hyl := own6_len hown
      have e : ys = ns := by
        rw [List.take_of_length_le (by omega), List.take_of_length_le (by have := hzl.out; omega)] at htake
        exact htake
      subst e
      have HO : Hid (wr.ownsRow w.heap.size 86 6 (.slice (some ⟨w.heap.size, 0, none⟩) k k) k (flatN ys)) := hown
      clear hown htake hyl hs
      go_wp2
      go_ret
      exact ⟨rfl, HO.out, hbel⟩

set_option maxHeartbeats 400000 in
theorem eqArnNode_yes (k v o r : Int) (u : Bool) (g : Int) (w : World) :
    Calls Try.prog 66 #[.agg #[.int .i64 k, .int .i64 v, .int .i64 o, .int .i64 r, .bool u, .int .i64 g], .agg #[.int .i64 k, .int .i64 v, .int .i64 o, .int .i64 r, .bool u, .int .i64 g]] w fun e w' => e = .returned (.bool true) ∧ Below w.heap.size w w' := by
  go_enter Try.func66, Try.ntmps66
  go_wp2
  go_ret
  exact ⟨rfl, ((Below.refl _ _).alloc (Nat.le_refl _) _).alloc (by simp) _⟩

set_option maxHeartbeats 1000000 in
theorem eqArnNodeS_yes (a a' : Option Addr) (n cap cap' : Nat) (ns : List Nd) (w : World) (hs : SNodes w a n ns) (hs' : SNodes w a' n ns) (hn : n ≤ 1000000000) :
    Calls Try.prog 38 #[.slice a n cap, .slice a' n cap'] w fun e w' => e = .returned (.bool true) ∧ Below w.heap.size w w' := by
  go_enter Try.func38, Try.ntmps38
  go_wp2
  go_loopw [5] (fun i wr => ∃ k : Nat, k ≤ n ∧ i = .int .i64 k ∧ Below w.heap.size w wr) (fun i _ => n - (intOf i).toNat)
  case atStart => exact ⟨0, Nat.zero_le _, rfl, Below.refl _ _⟩
  case round =>
    obtain ⟨k, hk, rfl, hbel⟩ := hrel
    by_cases hlt : k < n
    · obtain ⟨b, off, ⟨x0, x1, x2, x3, x4, x5⟩, rfl, hx, hN⟩ := (hs.below hbel).at hlt
      obtain ⟨b', off', y, rfl, hy, hM⟩ := (hs'.below hbel).at hlt
      obtain rfl : y = ⟨x0, x1, x2, x3, x4, x5⟩ := by rw [hx] at hy; cases hy; rfl
      have n0 := hN.c0
      have n1 := hN.c1
      have n2 := hN.c2
      have n3 := hN.c3
      have n4 := hN.c4
      have n5 := hN.c5
      have m0 := hM.c0
      have m1 := hM.c1
      have m2 := hM.c2
      have m3 := hM.c3
      have m4 := hM.c4
      have m5 := hM.c5
      dsimp only at n0 n1 n2 n3 n4 n5 m0 m1 m2 m3 m4 m5
      clear hx hy hN hM hs hs'
      go_wp2
      go_region_with (go_at_call 66; refine (eqArnNode_yes _ _ _ _ _ _ _).mono ?_; rintro e w1 ⟨rfl, hb1⟩)
      all_goals
        have hb2 := below_trans' hbel (below_trans' (Below.refl _ _).drew hb1)
        clear hb1 hbel n0 n1 n2 n3 n4 n5 m0 m1 m2 m3 m4 m5
        go_wp2
        go_roundw
        case rel => exact ⟨k + 1, by omega, by go_num, hb2⟩
        case measure => simp [intOf]; omega
    · have : k = n := by omega
      subst this
      go_wp2
      go_ret
      exact ⟨rfl, hbel⟩

/-- The marks that are written into place i from k on. -/
def markN (k : Int) (i : Nat) : Nd := ⟨k + 6 * i, k + 6 * i + 1, k + 6 * i + 1 + 1, k + 6 * i + 1 + 1 + 1, (k + 6 * i + 1 + 1 + 1 + 1) % 3 == 0, k + 6 * i + 1 + 1 + 1 + 1 + 1⟩
def marksN (k : Int) (n : Nat) : List Nd := (List.range n).map (markN k)
theorem marksN_len (k : Int) (n : Nat) : (marksN k n).length = n := by simp [marksN]
theorem marksN_get (k : Int) {n i : Nat} (h : i < n) : (marksN k n)[i]? = some (markN k i) := by simp [marksN, h]

set_option maxHeartbeats 1600000 in
theorem markArnNodeS_any (a : Option Addr) (n cap base : Nat) (ns : List Nd) (k : Int) (w : World) (ho : w.ownsRow base 86 6 (.slice a n cap) n (flatN ns)) (hk0 : 0 ≤ k) (hk : k ≤ 1000000000000) (hn : n ≤ 100000000000) :
    Calls Try.prog 39 #[.slice a n cap, .int .i64 k] w fun e w' => e = .returned (.int .i64 (k + 6 * n)) ∧ w'.ownsRow base 86 6 (.slice a n cap) n (flatN (marksN k n)) ∧ w.grownBy w' (Value.ownBlock (.slice a n cap)) ∧ w'.heap.size = w.heap.size := by
  have hz := own6_len ho
  by_cases hn0 : n = 0
  · subst hn0
    obtain rfl : ns = [] := List.eq_nil_of_length_eq_zero hz
    go_enter Try.func39, Try.ntmps39
    go_wp2
    go_loop [1, 5] (fun s i => s = .int .i64 k ∧ i = .int .i64 0) (fun _ _ => 0)
    case atStart => exact ⟨rfl, rfl⟩
    case round =>
      obtain ⟨rfl, rfl⟩ := hrel
      go_wp2
      go_ret
      exact ⟨by simp, by simpa [marksN] using ho, World.grownBy.refl _ _, rfl⟩
  · obtain ⟨g, rfl⟩ : ∃ g, a = some ⟨g, 0, none⟩ := by
      rcases ho.2 with ⟨h, h0⟩ | ⟨g, c, cur, h, _⟩
      · exact absurd h0 hn0
      · cases h; exact ⟨g, rfl⟩
    go_enter Try.func39, Try.ntmps39
    go_wp2
    go_loopw [1, 5] (fun s i wr => ∃ (j : Nat) (ys : List Nd), j ≤ n ∧ i = .int .i64 j ∧ s = .int .i64 (k + 6 * j) ∧ wr.ownsRow base 86 6 (.slice (some ⟨g, 0, none⟩) n cap) n (flatN ys) ∧ ys.take j = (marksN k n).take j ∧ w.grownBy wr (some g) ∧ wr.heap.size = w.heap.size)
      (fun _ i _ => n - (intOf i).toNat)
    case atStart => exact ⟨0, ns, Nat.zero_le _, rfl, by go_num, ho, by simp, World.grownBy.refl _ _, rfl⟩
    case round =>
      obtain ⟨j, ys, hj, rfl, rfl, hown, htake, hg, hsz⟩ := hrel
      by_cases hlt : j < n
      · have hyl := own6_len hown
        obtain ⟨y, hy⟩ : ∃ y, ys[j]? = some y := ⟨_, List.getElem?_eq_getElem (by omega)⟩
        have hO := own6_cell hown hy
        have o0 := hO.c0
        have o1 := hO.c1
        have o2 := hO.c2
        have o3 := hO.c3
        have o4 := hO.c4
        have o5 := hO.c5
        have f0 := hown.frozenAt (j * 6)
        have f1 := hown.frozenAt (j * 6 + 1)
        have f2 := hown.frozenAt (j * 6 + 2)
        have f3 := hown.frozenAt (j * 6 + 3)
        have f4 := hown.frozenAt (j * 6 + 4)
        have f5 := hown.frozenAt (j * 6 + 5)
        have hp := own6_put hown j (markN k j)
        have R : Hid ((put6 wr g (j * 6) (markN k j)).ownsRow base 86 6 (.slice (some ⟨g, 0, none⟩) n cap) n (flatN (ys.set j (markN k j))) ∧ (ys.set j (markN k j)).take (j + 1) = (marksN k n).take (j + 1) ∧ w.grownBy (put6 wr g (j * 6) (markN k j)) (some g) ∧ (put6 wr g (j * 6) (markN k j)).heap.size = w.heap.size) :=
          ⟨hp.1, set_take_succ ys _ j _ (marksN_get k hlt) (by omega) htake, grown_trans hg hp.2.1, hp.2.2.trans hsz⟩
        clear hown htake hg hsz hyl hp hO hy
        go_wp2
        go_roundw
        case rel => exact ⟨j + 1, _, by omega, by go_num, by go_num, R.out⟩
        case measure => simp [intOf]; omega
      · obtain rfl : j = n := by omega
        have hyl := own6_len hown
        have e : ys = marksN k j := by
          rw [List.take_of_length_le (by omega), List.take_of_length_le (by rw [marksN_len]; omega)] at htake
          exact htake
        subst e
        have HO : Hid (wr.ownsRow base 86 6 (.slice (some ⟨g, 0, none⟩) j cap) j (flatN (marksN k j))) := hown
        clear hown htake hyl
        go_wp2
        go_ret
        exact ⟨rfl, HO.out, hg, hsz⟩

end Go.Proofs.Ytklpdpdjblakgaa

/- Inv3 -/
namespace Go.Proofs.Ytklpdpdjblakgaa
open Go.RowKit
set_option linter.unusedVariables false

/-- It hangs on the blocks from lo to hi alone. -/
def OnlyB (lo hi : Nat) (P : World → Prop) : Prop := ∀ W W' : World, P W → (∀ k, lo ≤ k → k < hi → W'.heap[k]? = W.heap[k]?) → P W'

theorem OnlyB.and {lo hi : Nat} {P Q : World → Prop} (h : OnlyB lo hi P) (k : OnlyB lo hi Q) : OnlyB lo hi (fun W => P W ∧ Q W) :=
  fun W W' hp hk => ⟨h W W' hp.1 hk, k W W' hp.2 hk⟩
theorem OnlyB.wide {lo hi lo' hi' : Nat} {P : World → Prop} (h : OnlyB lo hi P) (h1 : lo' ≤ lo) (h2 : hi ≤ hi') : OnlyB lo' hi' P :=
  fun W W' hp hk => h W W' hp (fun k a b => hk k (by omega) (by omega))
theorem onlyB_const (lo hi : Nat) (p : Prop) : OnlyB lo hi (fun _ => p) := fun _ _ h _ => h
theorem onlyB_cell {lo hi b o : Nat} {v : Value} (h1 : lo ≤ b) (h2 : b < hi) : OnlyB lo hi (fun W => W.cell? ⟨b, o, none⟩ = some v) :=
  fun W W' h hk => (World.cell?_of_block (w := W) (a := ⟨b, o, none⟩) (hk b h1 h2)).trans h

/-- A row of its own, in blocks from lo to hi. -/
def RowIn (lo hi : Nat) (e : TypeId) (sz : Nat) (v : Value) (n : Nat) (xs : List Value) (W : World) : Prop :=
  W.ownsRow lo e sz v n xs ∧ ∀ k, v.ownBlock = some k → k < hi

theorem onlyB_row (lo hi : Nat) (e : TypeId) (sz : Nat) (v : Value) (n : Nat) (xs : List Value) : OnlyB lo hi (RowIn lo hi e sz v n xs) := by
  intro W W' h hk
  refine ⟨⟨h.1.1, ?_⟩, h.2⟩
  rcases h.1.2 with h2 | ⟨g, cap, cur, hv, hg, hh, r⟩
  · exact .inl h2
  · exact .inr ⟨g, cap, cur, hv, hg, (hk g hg (h.2 g (by subst hv; rfl))).trans hh, r⟩

theorem rowIn_of {lo hi : Nat} {e : TypeId} {sz : Nat} {v : Value} {n : Nat} {xs : List Value} {W : World} (h : W.ownsRow lo e sz v n xs) (hh : W.heap.size ≤ hi) : RowIn lo hi e sz v n xs W :=
  ⟨h, fun k hk => Nat.lt_of_lt_of_le (h.lt k hk).2 hh⟩

theorem frozen_at' (W : World) (cs : Array Value) (t : TypeId) (i : Nat) {b : Nat} (hb : b = W.heap.size) : (W.alloc (.cells cs t)).frozen? ⟨b, i, none⟩ = false := by
  subst hb
  simp

structure Inv3 (w : World) (s1 s2 s3 : Nat) (Pw Px Pg : World → Prop) (W : World) : Prop where
  bel : Below w.heap.size w W
  l0 : w.heap.size ≤ s1
  l1 : s1 ≤ s2
  l2 : s2 ≤ s3
  l3 : s3 ≤ W.heap.size
  fw : OnlyB w.heap.size s1 Pw
  fx : OnlyB s1 s2 Px
  fg : OnlyB s2 s3 Pg
  hw : Pw W
  hx : Px W
  hg : Pg W

theorem Inv3.start {w W0 W1 W2 : World} {Pw Px Pg : World → Prop} (hb : Below w.heap.size w W0) (hw : Pw W0) (fw : OnlyB w.heap.size W0.heap.size Pw) (hb1 : Below W0.heap.size W0 W1) (hx : Px W1) (fx : OnlyB W0.heap.size W1.heap.size Px)
    (hb2 : Below W1.heap.size W1 W2) (hg : Pg W2) (fg : OnlyB W1.heap.size W2.heap.size Pg) : Inv3 w W0.heap.size W1.heap.size W2.heap.size Pw Px Pg W2 :=
  { bel := below_trans' (below_trans' hb hb1) hb2, l0 := hb.size, l1 := hb1.size, l2 := hb2.size, l3 := Nat.le_refl _, fw := fw, fx := fx, fg := fg,
    hw := fw W0 W2 hw (fun k _ h => ((below_trans' hb1 hb2).block k h)), hx := fx W1 W2 hx (fun k _ h => hb2.block k h), hg := hg }

theorem Inv3.below {w W W' : World} {s1 s2 s3 : Nat} {Pw Px Pg : World → Prop} (h : Inv3 w s1 s2 s3 Pw Px Pg W) (hb : Below W.heap.size W W') : Inv3 w s1 s2 s3 Pw Px Pg W' :=
  { bel := below_trans' h.bel hb, l0 := h.l0, l1 := h.l1, l2 := h.l2, l3 := Nat.le_trans h.l3 hb.size, fw := h.fw, fx := h.fx, fg := h.fg,
    hw := h.fw W W' h.hw (fun k _ hk => hb.block k (by have := h.l1; have := h.l2; have := h.l3; omega)),
    hx := h.fx W W' h.hx (fun k _ hk => hb.block k (by have := h.l2; have := h.l3; omega)),
    hg := h.fg W W' h.hg (fun k _ hk => hb.block k (by have := h.l3; omega)) }

theorem Inv3.markX {w W W' : World} {s1 s2 s3 : Nat} {Pw Px Pg Px' : World → Prop} (h : Inv3 w s1 s2 s3 Pw Px Pg W) {row : Option Nat} (hg : W.grownBy W' row) (hr : ∀ k, row = some k → s1 ≤ k ∧ k < s2) (hx : Px' W') (fx : OnlyB s1 s2 Px') : Inv3 w s1 s2 s3 Pw Px' Pg W' :=
  { bel := h.bel.grown hg h.bel.size (fun k e => by have := hr k e; have := h.l0; omega), l0 := h.l0, l1 := h.l1, l2 := h.l2, l3 := Nat.le_trans h.l3 hg.size, fw := h.fw, fx := fx, fg := h.fg,
    hw := h.fw W W' h.hw (fun k _ hk => hg.block k (by have := h.l1; have := h.l2; have := h.l3; omega) (fun e => by have := hr k e.symm; omega)),
    hx := hx,
    hg := h.fg W W' h.hg (fun k hk1 hk => hg.block k (by have := h.l3; omega) (fun e => by have := hr k e.symm; omega)) }

theorem Inv3.markG {w W W' : World} {s1 s2 s3 : Nat} {Pw Px Pg Pg' : World → Prop} (h : Inv3 w s1 s2 s3 Pw Px Pg W) {row : Option Nat} (hg : W.grownBy W' row) (hr : ∀ k, row = some k → s2 ≤ k ∧ k < s3) (hx : Pg' W') (fx : OnlyB s2 s3 Pg') : Inv3 w s1 s2 s3 Pw Px Pg' W' :=
  { bel := h.bel.grown hg h.bel.size (fun k e => by have := hr k e; have := h.l0; have := h.l1; omega), l0 := h.l0, l1 := h.l1, l2 := h.l2, l3 := Nat.le_trans h.l3 hg.size, fw := h.fw, fx := h.fx, fg := fx,
    hw := h.fw W W' h.hw (fun k _ hk => hg.block k (by have := h.l1; have := h.l2; have := h.l3; omega) (fun e => by have := hr k e.symm; have := h.l1; omega)),
    hx := h.fx W W' h.hx (fun k _ hk => hg.block k (by have := h.l2; have := h.l3; omega) (fun e => by have := hr k e.symm; omega)),
    hg := hx }

/-- The six cells of a place in a block. -/
structure BoxN (W : World) (b : Nat) (k v o r : Int) (u : Bool) (g : Int) : Prop where
  c0 : W.cell? ⟨b, 0, none⟩ = some (.int .i64 k)
  c1 : W.cell? ⟨b, 1, none⟩ = some (.int .i64 v)
  c2 : W.cell? ⟨b, 2, none⟩ = some (.int .i64 o)
  c3 : W.cell? ⟨b, 3, none⟩ = some (.int .i64 r)
  c4 : W.cell? ⟨b, 4, none⟩ = some (.bool u)
  c5 : W.cell? ⟨b, 5, none⟩ = some (.int .i64 g)
theorem BoxN.below {W W' : World} {b : Nat} {k v o r : Int} {u : Bool} {g : Int} (h : BoxN W b k v o r u g) (hb : Below W.heap.size W W') : BoxN W' b k v o r u g :=
  ⟨cell_kept hb h.c0, cell_kept hb h.c1, cell_kept hb h.c2, cell_kept hb h.c3, cell_kept hb h.c4, cell_kept hb h.c5⟩
theorem boxN_new (W : World) (k v o r : Int) (u : Bool) (g : Int) (ty : TypeId) {b : Nat} (hb : b = W.heap.size) : BoxN (W.alloc (.cells #[.int .i64 k, .int .i64 v, .int .i64 o, .int .i64 r, .bool u, .int .i64 g] ty)) b k v o r u g := by
  subst hb
  exact ⟨by simp, by simp, by simp, by simp, by simp, by simp⟩

/-- The four cells of all places in a block. -/
structure BoxA (W : World) (b : Nat) (a : Option Addr) (n cap : Nat) (t f l : Int) : Prop where
  c0 : W.cell? ⟨b, 0, none⟩ = some (.slice a n cap)
  c1 : W.cell? ⟨b, 1, none⟩ = some (.int .i64 t)
  c2 : W.cell? ⟨b, 2, none⟩ = some (.int .i64 f)
  c3 : W.cell? ⟨b, 3, none⟩ = some (.int .i64 l)

theorem BoxA.below {W W' : World} {b : Nat} {a : Option Addr} {n cap : Nat} {t f l : Int} (h : BoxA W b a n cap t f l) (hb : Below W.heap.size W W') : BoxA W' b a n cap t f l :=
  ⟨cell_kept hb h.c0, cell_kept hb h.c1, cell_kept hb h.c2, cell_kept hb h.c3⟩
theorem BoxA.lt {W : World} {b : Nat} {a : Option Addr} {n cap : Nat} {t f l : Int} (h : BoxA W b a n cap t f l) : b < W.heap.size := World.block_lt_of_cell? W ⟨b, 0, none⟩ h.c0
theorem boxA_new (W : World) (a : Option Addr) (n cap : Nat) (t f l : Int) (ty : TypeId) {b : Nat} (hb : b = W.heap.size) : BoxA (W.alloc (.cells #[.slice a n cap, .int .i64 t, .int .i64 f, .int .i64 l] ty)) b a n cap t f l := by
  subst hb
  exact ⟨by simp, by simp, by simp, by simp⟩
theorem onlyB_box {lo hi b : Nat} (a : Option Addr) (n cap : Nat) (t f l : Int) (h1 : lo ≤ b) (h2 : b < hi) : OnlyB lo hi (fun W => BoxA W b a n cap t f l) :=
  fun W W' h hk => ⟨onlyB_cell h1 h2 W W' h.c0 hk, onlyB_cell h1 h2 W W' h.c1 hk, onlyB_cell h1 h2 W W' h.c2 hk, onlyB_cell h1 h2 W W' h.c3 hk⟩

/-- The world with the four cells of all places written. -/
abbrev putA (W : World) (b : Nat) (a : Option Addr) (n cap : Nat) (t f l : Int) : World :=
  (((W.setCell ⟨b, 0, none⟩ (.slice a n cap)).setCell ⟨b, 1, none⟩ (.int .i64 t)).setCell ⟨b, 2, none⟩ (.int .i64 f)).setCell ⟨b, 3, none⟩ (.int .i64 l)
theorem own_putA {W : World} {base : Nat} {e : TypeId} {size : Nat} {v : Value} {m : Nat} {xs : List Value} (h : W.ownsRow base e size v m xs) {b : Nat} (hb : b < base) (a : Option Addr) (n cap : Nat) (t f l : Int) : (putA W b a n cap t f l).ownsRow base e size v m xs :=
  ownsRow_setCell_below (ownsRow_setCell_below (ownsRow_setCell_below (ownsRow_setCell_below h (a := ⟨b, 0, none⟩) hb _) (a := ⟨b, 1, none⟩) hb _) (a := ⟨b, 2, none⟩) hb _) (a := ⟨b, 3, none⟩) hb _
theorem below_putA {w W : World} {B : Nat} (h : Below B w W) {b : Nat} (hb : B ≤ b) (a : Option Addr) (n cap : Nat) (t f l : Int) : Below B w (putA W b a n cap t f l) :=
  (((h.setCell (p := ⟨b, 0, none⟩) hb _).setCell (p := ⟨b, 1, none⟩) hb _).setCell (p := ⟨b, 2, none⟩) hb _).setCell (p := ⟨b, 3, none⟩) hb _

/-- All places in memory of their own, in blocks from lo to hi. -/
def ArIn (lo hi b : Nat) (a : Option Addr) (n cap : Nat) (ns : List Nd) (t f l : Int) (W : World) : Prop :=
  BoxA W b a n cap t f l ∧ RowIn lo hi 86 6 (.slice a n cap) n (flatN ns) W
theorem onlyB_ar {lo hi b : Nat} (a : Option Addr) (n cap : Nat) (ns : List Nd) (t f l : Int) (h1 : lo ≤ b) (h2 : b < hi) : OnlyB lo hi (ArIn lo hi b a n cap ns t f l) :=
  (onlyB_box a n cap t f l h1 h2).and (onlyB_row lo hi _ _ _ _ _)

end Go.Proofs.Ytklpdpdjblakgaa

/- Arena -/
namespace Go.Proofs.Ytklpdpdjblakgaa
open Go.RowKit
set_option linter.unusedVariables false

theorem al1 (W : World) (o : Obj) : Below W.heap.size W (W.alloc o) := (Below.refl _ _).alloc (Nat.le_refl _) o

set_option maxHeartbeats 400000 in
theorem szArnArena_any (a : Option Addr) (n cap : Nat) (t f l : Int) (left : Int) (w : World) (hn : n ≤ 9223372036854775807) (h0 : 0 ≤ left) (hl : left ≤ 1048576) :
    Calls Try.prog 12 #[.agg #[.slice a n cap, .int .i64 t, .int .i64 f, .int .i64 l], .int .i64 left] w fun e w' => e = .returned (.int .i64 (if (n : Int) ≤ left then left - n else -1)) ∧ Below w.heap.size w w' := by
  by_cases h : (n : Int) ≤ left
  · rw [if_pos h]
    go_enter Try.func12, Try.ntmps12
    go_wp2
    go_ret
    exact ⟨rfl, (Below.refl _ _).alloc (Nat.le_refl _) _⟩
  · rw [if_neg h]
    go_enter Try.func12, Try.ntmps12
    go_wp2
    go_ret
    exact ⟨rfl, (Below.refl _ _).alloc (Nat.le_refl _) _⟩

set_option maxHeartbeats 800000 in
theorem toArnArena_any (a : Option Addr) (n cap : Nat) (ns : List Nd) (t f l : Int) (w : World) (hs : SNodes w a n ns) (hn : n ≤ 1048576) :
    Calls Try.prog 14 #[.agg #[.slice a n cap, .int .i64 t, .int .i64 f, .int .i64 l]] w fun e w' => ∃ g, w.heap.size ≤ g ∧ e = .returned (.agg #[.slice (some ⟨g, 0, none⟩) n n, .int .i64 t, .int .i64 f, .int .i64 l]) ∧
      w'.ownsRow w.heap.size 86 6 (.slice (some ⟨g, 0, none⟩) n n) n (flatN ns) ∧ Below w.heap.size w w' := by
  have B3 := below_trans' (below_trans' (al1 w (.cells #[.slice a n cap, .int .i64 t, .int .i64 f, .int .i64 l] 32)) (al1 _ (.cells #[.slice none 0 0, .int .i64 0, .int .i64 0, .int .i64 0] 43))) (al1 _ (.cells #[.slice none 0 0, .int .i64 0, .int .i64 0, .int .i64 0] 43))
  have bx0 := ((boxA_new w a n cap t f l 32 rfl).below (al1 _ (.cells #[.slice none 0 0, .int .i64 0, .int .i64 0, .int .i64 0] 43))).below (al1 _ (.cells #[.slice none 0 0, .int .i64 0, .int .i64 0, .int .i64 0] 43))
  have bx1 := (boxA_new (w.alloc (.cells #[.slice a n cap, .int .i64 t, .int .i64 f, .int .i64 l] 32)) none 0 0 0 0 0 43 (b := w.heap.size + 1) (by simp)).below (al1 _ (.cells #[.slice none 0 0, .int .i64 0, .int .i64 0, .int .i64 0] 43))
  have bx2 := boxA_new ((w.alloc (.cells #[.slice a n cap, .int .i64 t, .int .i64 f, .int .i64 l] 32)).alloc (.cells #[.slice none 0 0, .int .i64 0, .int .i64 0, .int .i64 0] 43)) none 0 0 0 0 0 43 (b := w.heap.size + 1 + 1) (by simp)
  go_enter Try.func14, Try.ntmps14
  go_wp2_with fail
  refine (toArnNodeS_any _ _ _ ns _ (hs.below B3) hn).mono ?_
  rintro e w1 ⟨rfl, ho, hb⟩
  have hb' := below_trans' B3 hb
  have b0 := bx0.below hb
  have b1 := bx1.below hb
  have b2 := bx2.below hb
  have p0 := b0.c0
  have p1 := b0.c1
  have p2 := b0.c2
  have p3 := b0.c3
  have q0 := b1.c0
  have q1 := b1.c1
  have q2 := b1.c2
  have q3 := b1.c3
  have r0 := b2.c0
  have r1 := b2.c1
  have r2 := b2.c2
  have r3 := b2.c3
  have fq : ∀ j, w1.frozen? ⟨w.heap.size + 1, j, none⟩ = false := fun j => by
    rw [hb.frozen (p := ⟨w.heap.size + 1, j, none⟩) (by simp), (al1 _ _).frozen (p := ⟨w.heap.size + 1, j, none⟩) (by simp)]
    have := frozen_at' (w.alloc (.cells #[.slice a n cap, .int .i64 t, .int .i64 f, .int .i64 l] 32)) #[.slice none 0 0, .int .i64 0, .int .i64 0, .int .i64 0] 43 j (b := w.heap.size + 1) (by simp)
    exact this
  have fr : ∀ j, w1.frozen? ⟨w.heap.size + 1 + 1, j, none⟩ = false := fun j => by
    rw [hb.frozen (p := ⟨w.heap.size + 1 + 1, j, none⟩) (by simp)]
    exact frozen_at' _ _ _ j (by simp)
  have fq0 := fq 0
  have fq1 := fq 1
  have fq2 := fq 2
  have fq3 := fq 3
  have fr0 := fr 0
  have fr1 := fr 1
  have fr2 := fr 2
  have fr3 := fr 3
  simp only [World.size_alloc] at ho ⊢
  have HO : Hid (w1.ownsRow (w.heap.size + 1 + 1 + 1) 86 6 (.slice (some ⟨w.heap.size + 1 + 1 + 1, 0, none⟩) n n) n (flatN ns)) := ho
  clear ho hb hs B3 bx0 bx1 bx2 b0 b1 b2 fq fr
  go_wp2
  refine bodyPost_ret (v := .agg #[.slice (some ⟨w.heap.size + 1 + 1 + 1, 0, none⟩) n n, .int .i64 t, .int .i64 f, .int .i64 l]) (by simp [results, Try.results14, go_sem, q0, q1, q2, q3]) rfl ⟨w.heap.size + 1 + 1 + 1, by omega, rfl, own_mono (own_putA (own_putA HO.out (by omega) _ _ _ _ _ _) (by omega) _ _ _ _ _ _) (by omega), below_putA (below_putA hb' (by omega) _ _ _ _ _ _) (by omega) _ _ _ _ _ _⟩

set_option maxHeartbeats 400000 in
theorem eqArnArena_yes (a a' : Option Addr) (n cap cap' : Nat) (ns : List Nd) (t f l : Int) (w : World) (hs : SNodes w a n ns) (hs' : SNodes w a' n ns) (hn : n ≤ 1000000000) :
    Calls Try.prog 17 #[.agg #[.slice a n cap, .int .i64 t, .int .i64 f, .int .i64 l], .agg #[.slice a' n cap', .int .i64 t, .int .i64 f, .int .i64 l]] w fun e w' => e = .returned (.bool true) ∧ Below w.heap.size w w' := by
  have B2 := below_trans' (al1 w (.cells #[.slice a n cap, .int .i64 t, .int .i64 f, .int .i64 l] 43)) (al1 _ (.cells #[.slice a' n cap', .int .i64 t, .int .i64 f, .int .i64 l] 43))
  have bx0 := (boxA_new w a n cap t f l 43 rfl).below (al1 _ (.cells #[.slice a' n cap', .int .i64 t, .int .i64 f, .int .i64 l] 43))
  have bx1 := boxA_new (w.alloc (.cells #[.slice a n cap, .int .i64 t, .int .i64 f, .int .i64 l] 43)) a' n cap' t f l 43 (b := w.heap.size + 1) (by simp)
  go_enter Try.func17, Try.ntmps17
  go_wp2_with fail
  refine (eqArnNodeS_yes _ _ _ _ _ ns _ (hs.below B2) (hs'.below B2) hn).mono ?_
  rintro e w1 ⟨rfl, hb1⟩
  have hb := below_trans' B2 hb1
  have b0 := bx0.below hb1
  have b1 := bx1.below hb1
  have p1 := b0.c1
  have p2 := b0.c2
  have p3 := b0.c3
  have q1 := b1.c1
  have q2 := b1.c2
  have q3 := b1.c3
  clear hb1 B2 hs hs' bx0 bx1 b0 b1
  go_wp2
  go_ret
  exact ⟨rfl, hb⟩

set_option maxHeartbeats 400000 in
theorem markArnArena_any (a : Option Addr) (n cap base : Nat) (ns : List Nd) (t f l : Int) (k : Int) (w : World) (ho : w.ownsRow base 86 6 (.slice a n cap) n (flatN ns)) (hk0 : 0 ≤ k) (hk : k ≤ 1000000000000) (hn : n ≤ 100000000000) :
    Calls Try.prog 18 #[.agg #[.slice a n cap, .int .i64 t, .int .i64 f, .int .i64 l], .int .i64 k] w fun e w' => e = .returned (.int .i64 (k + 6 * n)) ∧ w'.ownsRow base 86 6 (.slice a n cap) n (flatN (marksN k n)) ∧ w.grownBy w' (Value.ownBlock (.slice a n cap)) := by
  go_enter Try.func18, Try.ntmps18
  go_wp2_with fail
  refine (markArnNodeS_any _ _ _ _ ns _ _ (ho.alloc _) hk0 hk hn).mono ?_
  rintro e w1 ⟨rfl, ho1, hg1, _⟩
  have hg := grown_trans (World.grownBy_alloc w _ _) hg1
  have HO : Hid (w1.ownsRow base 86 6 (.slice a n cap) n (flatN (marksN k n))) := ho1
  clear ho ho1 hg1
  go_wp2
  go_ret
  exact ⟨rfl, HO.out, hg⟩

end Go.Proofs.Ytklpdpdjblakgaa
