/- Several texts in one: Ints, Frame, Ok, OpS, TabS, Marks, Append, Lists, Push, Inv, Ents, Ents2. -/
import Derived.Test.YtklpdpdjblakgaaDoorRows
import Derived.WalkKit
import Derived.WalkSpells
import Derived.WalkLawsBesides
import Derived.Deep.QuietTactic
import Derived.BigQuiet
import Derived.Deep.OwnRows
import Derived.ProofKit
import Derived.OpenShut
import Derived.ShutString
import Derived.ChangeOld
import Derived.Below
import Derived.LaidMore
import Derived.OpenVars
import Derived.Stop.Joined
import Derived.Deep.RegionWith
/- Ints -/
namespace Go.Proofs.YtklpdpdjblakgaaDoor
open Go.RowKit

theorem Tryd.info3 : (Tryd.prog.info? 3).map (fun i => (i.zero, i.size, i.bytes)) = some (some (.int .i64 0), 1, 8) := by kernel_rfl

/-- The slice of length n at a reads as the numbers zs. -/
def SInts (w : World) (a : Option Addr) (n : Nat) (zs : List Int) : Prop :=
  zs.length = n ∧ (n = 0 ∨ ∃ b off, a = some ⟨b, off, none⟩ ∧ ∀ i, i < n → w.cell? ⟨b, off + i, none⟩ = some (.int .i64 (zs.getD i 0)))

theorem SInts.below {w w' : World} {a : Option Addr} {n : Nat} {zs : List Int} (h : SInts w a n zs) (hb : Below w.heap.size w w') : SInts w' a n zs := by
  obtain ⟨hz, h0 | ⟨b, off, rfl, hc⟩⟩ := h
  · exact ⟨hz, .inl h0⟩
  · refine ⟨hz, .inr ⟨b, off, rfl, fun i hi => ?_⟩⟩
    have hl := World.block_lt_of_cell? w ⟨b, off + i, none⟩ (hc i hi)
    exact (hb.cell hl).trans (hc i hi)

theorem ownsRow_below {w w' : World} {base : Nat} {e : TypeId} {size : Nat} {v : Value} {n : Nat} {xs : List Value} (h : w.ownsRow base e size v n xs) (hb : Below w.heap.size w w') : w'.ownsRow base e size v n xs := by
  obtain ⟨h1, h2⟩ := h
  refine ⟨h1, ?_⟩
  rcases h2 with h2 | ⟨g, cap, cur, hv, hg, hh, r⟩
  · exact .inl h2
  · exact .inr ⟨g, cap, cur, hv, hg, (hb.block g (Array.getElem?_eq_some_iff.1 hh).1).trans hh, r⟩

/-- What the numbers zs of an own row are. -/
theorem own_shape {w : World} {base : Nat} {v : Value} {n : Nat} {zs : List Int} (h : w.ownsRow base 3 1 v n (zs.map (Value.int .i64))) :
    ∃ a cap, v = .slice a n cap ∧ SInts w a n zs := by
  have hl : zs.length = n := by simpa using h.1
  rcases h.2 with ⟨rfl, rfl⟩ | ⟨g, cap, cur, rfl, hg, hh, hc, hm, hs, ht⟩
  · exact ⟨none, 0, rfl, hl, .inl rfl⟩
  · refine ⟨_, cap, rfl, hl, .inr ⟨g, 0, rfl, fun i hi => ?_⟩⟩
    have := h.cellAt i (by omega)
    rw [Nat.zero_add, this]
    simp [List.getD, show i < zs.length by omega]

theorem below_trans' {w w1 w2 : World} (h : Below w.heap.size w w1) (k : Below w1.heap.size w1 w2) : Below w.heap.size w w2 :=
  h.trans (k.mono h.size)

set_option maxHeartbeats 400000 in
theorem toIntS_any (a : Option Addr) (n cap : Nat) (zs : List Int) (w : World) (hs : SInts w a n zs) (hn : n ≤ 1048576) :
    Calls Tryd.prog 46 #[.slice a n cap] w fun e w' => e = .returned (.slice (some ⟨w.heap.size, 0, none⟩) n n) ∧
      w'.rowIs w.heap.size 3 n (fun i => .int .i64 (zs.getD i 0)) ∧ Below w.heap.size w w' := by
  have hmk := run_make_row' (P := Tryd.prog) 25 3 (.int .i64 0) 8 Tryd.underlying25 Tryd.info3 rfl .i64 .i64 n (by omega) (by omega)
  go_enter Tryd.func46, Tryd.ntmps46
  go_wp2
  clear hmk
  go_loopw [4] (fun i wr => ∃ k : Nat, k ≤ n ∧ i = .int .i64 k ∧ wr.rowIs w.heap.size 3 n (fun j => .int .i64 (if j < k then zs.getD j 0 else 0)) ∧ Below w.heap.size w wr)
    (fun i _ => n - (intOf i).toNat)
  case atStart => exact ⟨0, Nat.zero_le _, rfl, (World.rowIs_made w _ n 3).congr (fun i _ => by simp), (Below.refl _ _).alloc (Nat.le_refl _) _⟩
  case round =>
    obtain ⟨k, hk, rfl, hrow, hbel⟩ := hrel
    by_cases hlt : k < n
    · obtain ⟨hz, h0 | ⟨b, off, rfl, hc⟩⟩ := hs
      · omega
      · have hl := World.block_lt_of_cell? w ⟨b, off + k, none⟩ (hc k hlt)
        obtain ⟨x, hx⟩ : ∃ x, zs.getD k 0 = x := ⟨_, rfl⟩
        have hcx : wr.cell? ⟨b, off + k, none⟩ = some (.int .i64 x) := by rw [← hx]; exact (hbel.cell hl).trans (hc k hlt)
        have hcy := hrow.cell hlt
        have hfy := hrow.frozen k
        have R : Hid ((wr.setCell ⟨w.heap.size, k, none⟩ (.int .i64 x)).rowIs w.heap.size 3 n (fun j => .int .i64 (if j < k + 1 then zs.getD j 0 else 0)) ∧ Below w.heap.size w (wr.setCell ⟨w.heap.size, k, none⟩ (.int .i64 x))) :=
          ⟨(hrow.set k _).congr (fun i _ => by
            by_cases e : i = k
            · subst e; rw [if_pos rfl, if_pos (by omega), hx]
            · have : (i < k + 1) = (i < k) := by simp; omega
              simp [e, this]), hbel.setCell (Nat.le_refl _) _⟩
        clear hrow hbel hc hx
        go_wp2
        go_roundw
        case rel => exact ⟨k + 1, by omega, by go_num, R.out⟩
        case measure => simp [intOf]; omega
    · have : k = n := by omega
      subst this
      go_wp2
      go_ret
      exact ⟨rfl, hrow.congr (fun i hi => by simp [hi]), hbel⟩

/-- An own row out of a row. -/
theorem own_of_rowIs {w : World} {b n : Nat} {zs : List Int} (h : w.rowIs b 3 n (fun i => .int .i64 (zs.getD i 0))) (hz : zs.length = n) (hn : n ≤ maxLen) {base : Nat} (hb : base ≤ b) :
    w.ownsRow base 3 1 (.slice (some ⟨b, 0, none⟩) n n) n (zs.map (Value.int .i64)) := by
  obtain ⟨c, hh, hs, hc⟩ := h
  refine ⟨by simpa using hz, .inr ⟨b, n, c, rfl, hb, hh, Nat.le_refl _, hn, by simpa using hs, ?_⟩⟩
  apply List.ext_getElem?
  intro i
  by_cases hi : i < n
  · have := hc i hi
    simp only [Nat.mul_one, List.getElem?_take, hi, if_true, List.getElem?_map, Array.getElem?_toList, this]
    simp [List.getD, show i < zs.length by omega]
  · simp [hi, hz, hs]

/-- toIntS: a copy of its own. -/
theorem toIntS_own (a : Option Addr) (n cap : Nat) (zs : List Int) (w : World) (hs : SInts w a n zs) (hn : n ≤ 1048576) :
    Calls Tryd.prog 46 #[.slice a n cap] w fun e w' => ∃ a' c', e = .returned (.slice a' n c') ∧ w'.ownsRow w.heap.size 3 1 (.slice a' n c') n (zs.map (Value.int .i64)) ∧ SInts w' a' n zs ∧ Below w.heap.size w w' := by
  refine (toIntS_any a n cap zs w hs hn).mono ?_
  rintro e w' ⟨rfl, hr, hb⟩
  have ho := own_of_rowIs hr hs.1 (by unfold maxLen; omega) (Nat.le_refl _)
  obtain ⟨a', c', e, hs'⟩ := own_shape ho
  rw [e] at ho ⊢
  exact ⟨a', c', rfl, ho, hs', hb⟩

set_option maxHeartbeats 400000 in
/-- eqIntS of two slices with the same numbers says yes. -/
theorem eqIntS_yes (a a' : Option Addr) (n cap cap' : Nat) (zs : List Int) (w : World) (hs : SInts w a n zs) (hs' : SInts w a' n zs) (hn : n ≤ 9223372036854775807) :
    Calls Tryd.prog 52 #[.slice a n cap, .slice a' n cap'] w fun e w' => e = .returned (.bool true) ∧ Below w.heap.size w w' := by
  go_enter Tryd.func52, Tryd.ntmps52
  go_wp2
  go_loopw [5] (fun i wr => ∃ k : Nat, k ≤ n ∧ i = .int .i64 k ∧ Below w.heap.size w wr) (fun i _ => n - (intOf i).toNat)
  case atStart => exact ⟨0, Nat.zero_le _, rfl, Below.refl _ _⟩
  case round =>
    obtain ⟨k, hk, rfl, hbel⟩ := hrel
    by_cases hlt : k < n
    · obtain ⟨hz, h0 | ⟨b, off, rfl, hc⟩⟩ := hs
      · omega
      · obtain ⟨_, h0 | ⟨b', off', rfl, hc'⟩⟩ := hs'
        · omega
        · obtain ⟨x, hx⟩ : ∃ x, zs.getD k 0 = x := ⟨_, rfl⟩
          have h1 : wr.cell? ⟨b, off + k, none⟩ = some (.int .i64 x) := by rw [← hx]; exact (hbel.cell (World.block_lt_of_cell? w ⟨b, off + k, none⟩ (hc k hlt))).trans (hc k hlt)
          have h2 : wr.cell? ⟨b', off' + k, none⟩ = some (.int .i64 x) := by rw [← hx]; exact (hbel.cell (World.block_lt_of_cell? w ⟨b', off' + k, none⟩ (hc' k hlt))).trans (hc' k hlt)
          clear hc hc' hx
          go_wp2
          go_region
          all_goals go_wp2
          all_goals
            go_roundw
            case rel => exact ⟨k + 1, by omega, by go_num, hbel.drew⟩
            case measure => simp [intOf]; omega
    · have : k = n := by omega
      subst this
      go_wp2
      go_ret
      exact ⟨rfl, hbel⟩

end Go.Proofs.YtklpdpdjblakgaaDoor

/- Frame -/
namespace Go.Proofs.YtklpdpdjblakgaaDoor
open Go.ChangeShapes Go.WideShapes Go.ChangeAt Go.RowKit
set_option linter.unusedVariables false

theorem own : ownKnob Tryd.prog.godebug = none := by kernel_rfl
theorem laidOut : laidOutB Tryd.prog = true := by kernel_rfl

/-- What the reading of an argument tells of a slice of integers. -/
theorem sints_of_open {H : Type} {enc : TypeId × Value → H} {W : World} {a0 : Option Addr} {len0 cap0 : Nat} {d0 : DataW H} {p0 : List MemPlace}
    (h0 : DataW.Trod enc Tryd.prog W 0 (fun _ => true) true 25 (.slice a0 len0 cap0) d0 p0) : ∃ zs, SInts W a0 len0 zs ∧ len0 ≤ 9223372036854775807 := by
  obtain ⟨fuel, hf⟩ := h0
  rcases open_ints Tryd.underlying25 Tryd.underlying3 (by kernel_rfl) hf with ⟨hcs, _⟩ | ⟨x, l, c, zs, hcs, _, hl, hm, hz, _, hcell, hwz⟩
  · simp [Value.cells] at hcs
    obtain ⟨rfl, rfl, rfl⟩ := hcs
    exact ⟨[], ⟨rfl, .inl rfl⟩, by omega⟩
  · simp [Value.cells] at hcs
    obtain ⟨rfl, rfl, rfl⟩ := hcs
    unfold maxLen at hm
    refine ⟨zs.take len0, ⟨by simp at hz ⊢; omega, ?_⟩, by omega⟩
    by_cases h0 : len0 = 0
    · exact .inl h0
    · obtain ⟨b, off, spot⟩ := x
      have hc := hcell 0 (by simp at hz; omega)
      have hspot : spot = none := by simpa [Addr.add] using World.cell?_spot hc
      subst hspot
      refine .inr ⟨b, off, rfl, fun i hi => ?_⟩
      have := hcell i (by simp at hz; omega)
      rw [Addr.add_lit] at this
      rw [this]
      simp [List.getD, hi]

end Go.Proofs.YtklpdpdjblakgaaDoor

/- Ok -/
namespace Go.Proofs.YtklpdpdjblakgaaDoor
open Go.RowKit

/-- The number is in bounds. -/
def inB (x hi : Int) : Bool := decide (0 ≤ x) && decide (x ≤ hi)
/-- The values are ok. -/
def okL (zs : List Int) : Bool := decide (zs.length ≤ 8) && zs.all (fun x => inB x 999)

theorem inB_yes {x hi : Int} (h0 : 0 ≤ x) (h1 : x ≤ hi) : inB x hi = true := by simp [inB, h0, h1]
theorem inB_low {x hi : Int} (h0 : ¬ 0 ≤ x) : inB x hi = false := by simp [inB, h0]
theorem inB_high {x hi : Int} (h1 : ¬ x ≤ hi) : inB x hi = false := by simp [inB, h1]
theorem ret_bool {a b : Bool} (h : a = b) : Ending.returned (.bool a) = .returned (.bool b) := by rw [h]

set_option maxHeartbeats 400000 in
theorem l1In_any (x hi : Int) (w : World) :
    Calls Tryd.prog 63 #[.int .i64 x, .int .i64 0, .int .i64 hi] w fun e w' => e = .returned (.bool (inB x hi)) ∧ w' = w := by
  by_cases h0 : 0 ≤ x
  · by_cases h1 : x ≤ hi
    · go_enter Tryd.func63, Tryd.ntmps63
      go_wp2
      go_ret
      exact ⟨ret_bool (inB_yes h0 h1).symm, rfl⟩
    · go_enter Tryd.func63, Tryd.ntmps63
      go_wp2
      go_ret
      exact ⟨ret_bool (inB_high (by omega)).symm, rfl⟩
  · go_enter Tryd.func63, Tryd.ntmps63
    go_wp2
    go_ret
    exact ⟨ret_bool (inB_low (by omega)).symm, rfl⟩

set_option maxHeartbeats 400000 in
theorem within_any (x hi : Int) (w : World) :
    Calls Tryd.prog 66 #[.int .i64 x, .int .i64 hi] w fun e w' => e = .returned (.bool (inB x hi)) ∧ w' = w := by
  by_cases h0 : 0 ≤ x
  · by_cases h1 : x ≤ hi
    · go_enter Tryd.func66, Tryd.ntmps66
      go_wp2
      go_ret
      exact ⟨ret_bool (inB_yes h0 h1).symm, rfl⟩
    · go_enter Tryd.func66, Tryd.ntmps66
      go_wp2
      go_ret
      exact ⟨ret_bool (inB_high (by omega)).symm, rfl⟩
  · go_enter Tryd.func66, Tryd.ntmps66
    go_wp2
    go_ret
    exact ⟨ret_bool (inB_low (by omega)).symm, rfl⟩

theorem okL_long {zs : List Int} (h : 8 < zs.length) : okL zs = false := by simp [okL]; omega
theorem okL_no {zs : List Int} {k : Nat} (hk : k < zs.length) (h : inB (zs.getD k 0) 999 = false) : okL zs = false := by
  have : zs.all (fun x => inB x 999) = false := by
    rw [List.all_eq_false]
    refine ⟨zs[k], List.getElem_mem hk, ?_⟩
    simpa [List.getD, hk] using h
  simp [okL, this]
theorem okL_yes {zs : List Int} (h8 : zs.length ≤ 8) (h : ∀ i, i < zs.length → inB (zs.getD i 0) 999 = true) : okL zs = true := by
  have : zs.all (fun x => inB x 999) = true := by
    rw [List.all_eq_true]
    intro x hx
    obtain ⟨i, hi, rfl⟩ := List.mem_iff_getElem.1 hx
    simpa [List.getD, hi] using h i hi
  simp [okL, this, h8]

set_option maxHeartbeats 400000 in
theorem specListOk_any (a : Option Addr) (n cap : Nat) (zs : List Int) (w : World) (hs : SInts w a n zs) (hn : n ≤ 9223372036854775807) :
    Calls Tryd.prog 20 #[.slice a n cap] w fun e w' => e = .returned (.bool (okL zs)) ∧ w' = w := by
  by_cases h8 : 8 < n
  · have hko := okL_long (zs := zs) (by rw [hs.1]; exact h8)
    have h8' : (8 : Int) < (n : Int) := by omega
    clear hs
    rw [hko]
    go_enter Tryd.func20, Tryd.ntmps20
    go_wp2
    go_ret
    exact ⟨rfl, rfl⟩
  · have h8' : ¬ (8 : Int) < (n : Int) := by omega
    go_enter Tryd.func20, Tryd.ntmps20
    go_wp2
    go_loop [3] (fun i => ∃ k : Nat, k ≤ n ∧ i = .int .i64 k ∧ ∀ j, j < k → inB (zs.getD j 0) 999 = true) (fun i => n - (intOf i).toNat)
    case atStart => exact ⟨0, Nat.zero_le _, rfl, fun j hj => by omega⟩
    case round =>
      obtain ⟨k, hk, rfl, hall0⟩ := hrel
      have hall : Hid (∀ j, j < k → inB (zs.getD j 0) 999 = true) := hall0
      clear hall0
      by_cases hlt : k < n
      · obtain ⟨hz, h0 | ⟨b, off, rfl, hc⟩⟩ := hs
        · omega
        · obtain ⟨x, hx⟩ : ∃ x, zs.getD k 0 = x := ⟨_, rfl⟩
          have h1 : w.cell? ⟨b, off + k, none⟩ = some (.int .i64 x) := by rw [← hx]; exact hc k hlt
          have HX : Hid (zs.getD k 0 = x ∧ zs.length = n) := ⟨hx, hz⟩
          clear hc hx hz
          cases hin : inB x 999
          · go_wp2_with (go_at_call 63; refine (l1In_any _ _ _).mono ?_; rintro e w' ⟨rfl, rfl⟩)
            go_ret
            exact ⟨ret_bool (okL_no (k := k) (by rw [HX.out.2]; exact hlt) (by rw [HX.out.1]; exact hin)).symm, rfl⟩
          · go_wp2_with (go_at_call 63; refine (l1In_any _ _ _).mono ?_; rintro e w' ⟨rfl, rfl⟩)
            go_round
            case rel => exact ⟨k + 1, by omega, by go_num, fun j hj => by
              by_cases e : j = k
              · subst e; rw [HX.out.1]; exact hin
              · exact hall.out j (by omega)⟩
            case measure => simp [intOf]; omega
      · have : k = n := by omega
        subst this
        have hz := hs.1
        clear hs
        have HZ : Hid (zs.length = k) := hz
        clear hz
        go_wp2
        go_ret
        exact ⟨ret_bool (okL_yes (by rw [HZ.out]; omega) (by rw [HZ.out]; exact hall.out)).symm, rfl⟩

set_option maxHeartbeats 400000 in
theorem implListOk_any (a : Option Addr) (n cap : Nat) (zs : List Int) (w : World) (hs : SInts w a n zs) (hn : n ≤ 9223372036854775807) :
    Calls Tryd.prog 71 #[.slice a n cap] w fun e w' => e = .returned (.bool (okL zs)) ∧ w' = w := by
  by_cases h8 : 8 < n
  · have hko := okL_long (zs := zs) (by rw [hs.1]; exact h8)
    have h8' : (8 : Int) < (n : Int) := by omega
    clear hs
    rw [hko]
    go_enter Tryd.func71, Tryd.ntmps71
    go_wp2
    go_ret
    exact ⟨rfl, rfl⟩
  · have h8' : ¬ (8 : Int) < (n : Int) := by omega
    go_enter Tryd.func71, Tryd.ntmps71
    go_wp2
    go_loop [4, 10] (fun _ i => ∃ k : Nat, k ≤ n ∧ i = .int .i64 k ∧ ∀ j, j < k → inB (zs.getD j 0) 999 = true) (fun _ i => n - (intOf i).toNat)
    case atStart => exact ⟨0, Nat.zero_le _, rfl, fun j hj => by omega⟩
    case round =>
      obtain ⟨k, hk, rfl, hall0⟩ := hrel
      have hall : Hid (∀ j, j < k → inB (zs.getD j 0) 999 = true) := hall0
      clear hall0
      by_cases hlt : k < n
      · obtain ⟨hz, h0 | ⟨b, off, rfl, hc⟩⟩ := hs
        · omega
        · obtain ⟨x, hx⟩ : ∃ x, zs.getD k 0 = x := ⟨_, rfl⟩
          have h1 : w.cell? ⟨b, off + k, none⟩ = some (.int .i64 x) := by rw [← hx]; exact hc k hlt
          have HX : Hid (zs.getD k 0 = x ∧ zs.length = n) := ⟨hx, hz⟩
          clear hc hx hz
          cases hin : inB x 999
          · go_wp2_with (go_at_call 66; refine (within_any _ _ _).mono ?_; rintro e w' ⟨rfl, rfl⟩)
            go_ret
            exact ⟨ret_bool (okL_no (k := k) (by rw [HX.out.2]; exact hlt) (by rw [HX.out.1]; exact hin)).symm, rfl⟩
          · go_wp2_with (go_at_call 66; refine (within_any _ _ _).mono ?_; rintro e w' ⟨rfl, rfl⟩)
            go_round
            case rel => exact ⟨k + 1, by omega, by go_num, fun j hj => by
              by_cases e : j = k
              · subst e; rw [HX.out.1]; exact hin
              · exact hall.out j (by omega)⟩
            case measure => simp [intOf]; omega
      · have : k = n := by omega
        subst this
        have hz := hs.1
        clear hs
        have HZ : Hid (zs.length = k) := hz
        clear hz
        go_wp2
        go_ret
        exact ⟨ret_bool (okL_yes (by rw [HZ.out]; omega) (by rw [HZ.out]; exact hall.out)).symm, rfl⟩

end Go.Proofs.YtklpdpdjblakgaaDoor

/- OpS -/
namespace Go.Proofs.YtklpdpdjblakgaaDoor
open Go.RowKit
set_option linter.unusedVariables false

/-- The greatest key that a kind has. -/
def kMost (k : Int) : Int := if k = 1 ∨ k = 2 ∨ k = 3 ∨ k = 9 ∨ k = 10 then 99 else 0
/-- The greatest value that a kind has. -/
def vMost (k : Int) : Int := if k = 2 ∨ k = 5 ∨ k = 7 then 999 else 0
/-- What may be asked. -/
def opB (k key val : Int) : Bool := decide (1 ≤ k) && decide (k ≤ 12) && inB key (kMost k) && inB val (vMost k)
/-- The program's table lies in its variable. -/
def Tab (w : World) : Prop := ∀ k : Nat, k ≤ 12 → w.cell? ⟨0, 3 * k, none⟩ = some (.int .i64 0) ∧ w.cell? ⟨0, 3 * k + 1, none⟩ = some (.int .i64 (kMost k)) ∧ w.cell? ⟨0, 3 * k + 2, none⟩ = some (.int .i64 (vMost k))

theorem kept_cell {W W' : World} {b o : Nat} {v : Value} (hb : Below W.heap.size W W') (h : W.cell? ⟨b, o, none⟩ = some v) : W'.cell? ⟨b, o, none⟩ = some v :=
  (hb.cell (World.block_lt_of_cell? W ⟨b, o, none⟩ h)).trans h
theorem Tab.below {W W' : World} (h : Tab W) (hb : Below W.heap.size W W') : Tab W' := fun k hk =>
  let ⟨h0, h1, h2⟩ := h k hk
  ⟨kept_cell hb h0, kept_cell hb h1, kept_cell hb h2⟩
theorem inB_zero {x : Int} : inB x 0 = decide (x = 0) := by
  unfold inB
  rw [← Bool.decide_and]
  exact decide_eq_decide.2 (by omega)
theorem opB_low {k key val : Int} (h : k < 1) : opB k key val = false := by
  have : ¬ 1 ≤ k := by omega
  simp [opB, this]
theorem opB_high {k key val : Int} (h : 12 < k) : opB k key val = false := by
  have : ¬ k ≤ 12 := by omega
  simp [opB, this]

theorem opB_1 (key val : Int) : opB 1 key val = (inB key 99 && inB val 0) := by simp [opB, kMost, vMost]
theorem opB_2 (key val : Int) : opB 2 key val = (inB key 99 && inB val 999) := by simp [opB, kMost, vMost]
theorem opB_3 (key val : Int) : opB 3 key val = (inB key 99 && inB val 0) := by simp [opB, kMost, vMost]
theorem opB_4 (key val : Int) : opB 4 key val = (inB key 0 && inB val 0) := by simp [opB, kMost, vMost]
theorem opB_5 (key val : Int) : opB 5 key val = (inB key 0 && inB val 999) := by simp [opB, kMost, vMost]
theorem opB_6 (key val : Int) : opB 6 key val = (inB key 0 && inB val 0) := by simp [opB, kMost, vMost]
theorem opB_7 (key val : Int) : opB 7 key val = (inB key 0 && inB val 999) := by simp [opB, kMost, vMost]
theorem opB_8 (key val : Int) : opB 8 key val = (inB key 0 && inB val 0) := by simp [opB, kMost, vMost]
theorem opB_9 (key val : Int) : opB 9 key val = (inB key 99 && inB val 0) := by simp [opB, kMost, vMost]
theorem opB_10 (key val : Int) : opB 10 key val = (inB key 99 && inB val 0) := by simp [opB, kMost, vMost]
theorem opB_11 (key val : Int) : opB 11 key val = (inB key 0 && inB val 0) := by simp [opB, kMost, vMost]
theorem opB_12 (key val : Int) : opB 12 key val = (inB key 0 && inB val 0) := by simp [opB, kMost, vMost]

set_option maxHeartbeats 400000 in
theorem implOpOk_1 (key val : Int) (w : World) (ht : Tab w) :
    Calls Tryd.prog 48 #[.agg #[.int .i64 1, .int .i64 key, .int .i64 val]] w fun e w' => e = .returned (.bool (opB 1 key val)) ∧ Below w.heap.size w w' := by
  obtain ⟨h0, h1, h2⟩ := ht 1 (by omega)
  have e1 : kMost ((1 : Nat) : Int) = 99 := by simp [kMost]
  have e2 : vMost ((1 : Nat) : Int) = 0 := by simp [vMost]
  rw [e1] at h1
  rw [e2] at h2
  clear ht e1 e2
  have al : Below w.heap.size w (w.alloc (.cells #[.int .i64 1, .int .i64 key, .int .i64 val] 41)) := (Below.refl _ _).alloc (Nat.le_refl _) _
  replace h0 : (w.alloc _).cell? ⟨0, 3, none⟩ = _ := kept_cell al h0
  replace h1 : (w.alloc _).cell? ⟨0, 4, none⟩ = _ := kept_cell al h1
  replace h2 : (w.alloc _).cell? ⟨0, 5, none⟩ = _ := kept_cell al h2
  rw [opB_1]
  cases hk : inB key 99 <;> cases hv : inB val 0 <;>
  · go_enter Tryd.func48, Tryd.ntmps48
    go_wp2_with (go_at_call 66; refine (within_any _ _ _).mono ?_; rintro e w' ⟨rfl, rfl⟩)
    go_ret
    exact ⟨rfl, al.alloc (by simp) _⟩

set_option maxHeartbeats 400000 in
theorem implOpOk_2 (key val : Int) (w : World) (ht : Tab w) :
    Calls Tryd.prog 48 #[.agg #[.int .i64 2, .int .i64 key, .int .i64 val]] w fun e w' => e = .returned (.bool (opB 2 key val)) ∧ Below w.heap.size w w' := by
  obtain ⟨h0, h1, h2⟩ := ht 2 (by omega)
  have e1 : kMost ((2 : Nat) : Int) = 99 := by simp [kMost]
  have e2 : vMost ((2 : Nat) : Int) = 999 := by simp [vMost]
  rw [e1] at h1
  rw [e2] at h2
  clear ht e1 e2
  have al : Below w.heap.size w (w.alloc (.cells #[.int .i64 2, .int .i64 key, .int .i64 val] 41)) := (Below.refl _ _).alloc (Nat.le_refl _) _
  replace h0 : (w.alloc _).cell? ⟨0, 6, none⟩ = _ := kept_cell al h0
  replace h1 : (w.alloc _).cell? ⟨0, 7, none⟩ = _ := kept_cell al h1
  replace h2 : (w.alloc _).cell? ⟨0, 8, none⟩ = _ := kept_cell al h2
  rw [opB_2]
  cases hk : inB key 99 <;> cases hv : inB val 999 <;>
  · go_enter Tryd.func48, Tryd.ntmps48
    go_wp2_with (go_at_call 66; refine (within_any _ _ _).mono ?_; rintro e w' ⟨rfl, rfl⟩)
    go_ret
    exact ⟨rfl, al.alloc (by simp) _⟩

set_option maxHeartbeats 400000 in
theorem implOpOk_3 (key val : Int) (w : World) (ht : Tab w) :
    Calls Tryd.prog 48 #[.agg #[.int .i64 3, .int .i64 key, .int .i64 val]] w fun e w' => e = .returned (.bool (opB 3 key val)) ∧ Below w.heap.size w w' := by
  obtain ⟨h0, h1, h2⟩ := ht 3 (by omega)
  have e1 : kMost ((3 : Nat) : Int) = 99 := by simp [kMost]
  have e2 : vMost ((3 : Nat) : Int) = 0 := by simp [vMost]
  rw [e1] at h1
  rw [e2] at h2
  clear ht e1 e2
  have al : Below w.heap.size w (w.alloc (.cells #[.int .i64 3, .int .i64 key, .int .i64 val] 41)) := (Below.refl _ _).alloc (Nat.le_refl _) _
  replace h0 : (w.alloc _).cell? ⟨0, 9, none⟩ = _ := kept_cell al h0
  replace h1 : (w.alloc _).cell? ⟨0, 10, none⟩ = _ := kept_cell al h1
  replace h2 : (w.alloc _).cell? ⟨0, 11, none⟩ = _ := kept_cell al h2
  rw [opB_3]
  cases hk : inB key 99 <;> cases hv : inB val 0 <;>
  · go_enter Tryd.func48, Tryd.ntmps48
    go_wp2_with (go_at_call 66; refine (within_any _ _ _).mono ?_; rintro e w' ⟨rfl, rfl⟩)
    go_ret
    exact ⟨rfl, al.alloc (by simp) _⟩

set_option maxHeartbeats 400000 in
theorem implOpOk_4 (key val : Int) (w : World) (ht : Tab w) :
    Calls Tryd.prog 48 #[.agg #[.int .i64 4, .int .i64 key, .int .i64 val]] w fun e w' => e = .returned (.bool (opB 4 key val)) ∧ Below w.heap.size w w' := by
  obtain ⟨h0, h1, h2⟩ := ht 4 (by omega)
  have e1 : kMost ((4 : Nat) : Int) = 0 := by simp [kMost]
  have e2 : vMost ((4 : Nat) : Int) = 0 := by simp [vMost]
  rw [e1] at h1
  rw [e2] at h2
  clear ht e1 e2
  have al : Below w.heap.size w (w.alloc (.cells #[.int .i64 4, .int .i64 key, .int .i64 val] 41)) := (Below.refl _ _).alloc (Nat.le_refl _) _
  replace h0 : (w.alloc _).cell? ⟨0, 12, none⟩ = _ := kept_cell al h0
  replace h1 : (w.alloc _).cell? ⟨0, 13, none⟩ = _ := kept_cell al h1
  replace h2 : (w.alloc _).cell? ⟨0, 14, none⟩ = _ := kept_cell al h2
  rw [opB_4]
  cases hk : inB key 0 <;> cases hv : inB val 0 <;>
  · go_enter Tryd.func48, Tryd.ntmps48
    go_wp2_with (go_at_call 66; refine (within_any _ _ _).mono ?_; rintro e w' ⟨rfl, rfl⟩)
    go_ret
    exact ⟨rfl, al.alloc (by simp) _⟩

set_option maxHeartbeats 400000 in
theorem implOpOk_5 (key val : Int) (w : World) (ht : Tab w) :
    Calls Tryd.prog 48 #[.agg #[.int .i64 5, .int .i64 key, .int .i64 val]] w fun e w' => e = .returned (.bool (opB 5 key val)) ∧ Below w.heap.size w w' := by
  obtain ⟨h0, h1, h2⟩ := ht 5 (by omega)
  have e1 : kMost ((5 : Nat) : Int) = 0 := by simp [kMost]
  have e2 : vMost ((5 : Nat) : Int) = 999 := by simp [vMost]
  rw [e1] at h1
  rw [e2] at h2
  clear ht e1 e2
  have al : Below w.heap.size w (w.alloc (.cells #[.int .i64 5, .int .i64 key, .int .i64 val] 41)) := (Below.refl _ _).alloc (Nat.le_refl _) _
  replace h0 : (w.alloc _).cell? ⟨0, 15, none⟩ = _ := kept_cell al h0
  replace h1 : (w.alloc _).cell? ⟨0, 16, none⟩ = _ := kept_cell al h1
  replace h2 : (w.alloc _).cell? ⟨0, 17, none⟩ = _ := kept_cell al h2
  rw [opB_5]
  cases hk : inB key 0 <;> cases hv : inB val 999 <;>
  · go_enter Tryd.func48, Tryd.ntmps48
    go_wp2_with (go_at_call 66; refine (within_any _ _ _).mono ?_; rintro e w' ⟨rfl, rfl⟩)
    go_ret
    exact ⟨rfl, al.alloc (by simp) _⟩

set_option maxHeartbeats 400000 in
theorem implOpOk_6 (key val : Int) (w : World) (ht : Tab w) :
    Calls Tryd.prog 48 #[.agg #[.int .i64 6, .int .i64 key, .int .i64 val]] w fun e w' => e = .returned (.bool (opB 6 key val)) ∧ Below w.heap.size w w' := by
  obtain ⟨h0, h1, h2⟩ := ht 6 (by omega)
  have e1 : kMost ((6 : Nat) : Int) = 0 := by simp [kMost]
  have e2 : vMost ((6 : Nat) : Int) = 0 := by simp [vMost]
  rw [e1] at h1
  rw [e2] at h2
  clear ht e1 e2
  have al : Below w.heap.size w (w.alloc (.cells #[.int .i64 6, .int .i64 key, .int .i64 val] 41)) := (Below.refl _ _).alloc (Nat.le_refl _) _
  replace h0 : (w.alloc _).cell? ⟨0, 18, none⟩ = _ := kept_cell al h0
  replace h1 : (w.alloc _).cell? ⟨0, 19, none⟩ = _ := kept_cell al h1
  replace h2 : (w.alloc _).cell? ⟨0, 20, none⟩ = _ := kept_cell al h2
  rw [opB_6]
  cases hk : inB key 0 <;> cases hv : inB val 0 <;>
  · go_enter Tryd.func48, Tryd.ntmps48
    go_wp2_with (go_at_call 66; refine (within_any _ _ _).mono ?_; rintro e w' ⟨rfl, rfl⟩)
    go_ret
    exact ⟨rfl, al.alloc (by simp) _⟩

set_option maxHeartbeats 400000 in
theorem implOpOk_7 (key val : Int) (w : World) (ht : Tab w) :
    Calls Tryd.prog 48 #[.agg #[.int .i64 7, .int .i64 key, .int .i64 val]] w fun e w' => e = .returned (.bool (opB 7 key val)) ∧ Below w.heap.size w w' := by
  obtain ⟨h0, h1, h2⟩ := ht 7 (by omega)
  have e1 : kMost ((7 : Nat) : Int) = 0 := by simp [kMost]
  have e2 : vMost ((7 : Nat) : Int) = 999 := by simp [vMost]
  rw [e1] at h1
  rw [e2] at h2
  clear ht e1 e2
  have al : Below w.heap.size w (w.alloc (.cells #[.int .i64 7, .int .i64 key, .int .i64 val] 41)) := (Below.refl _ _).alloc (Nat.le_refl _) _
  replace h0 : (w.alloc _).cell? ⟨0, 21, none⟩ = _ := kept_cell al h0
  replace h1 : (w.alloc _).cell? ⟨0, 22, none⟩ = _ := kept_cell al h1
  replace h2 : (w.alloc _).cell? ⟨0, 23, none⟩ = _ := kept_cell al h2
  rw [opB_7]
  cases hk : inB key 0 <;> cases hv : inB val 999 <;>
  · go_enter Tryd.func48, Tryd.ntmps48
    go_wp2_with (go_at_call 66; refine (within_any _ _ _).mono ?_; rintro e w' ⟨rfl, rfl⟩)
    go_ret
    exact ⟨rfl, al.alloc (by simp) _⟩

set_option maxHeartbeats 400000 in
theorem implOpOk_8 (key val : Int) (w : World) (ht : Tab w) :
    Calls Tryd.prog 48 #[.agg #[.int .i64 8, .int .i64 key, .int .i64 val]] w fun e w' => e = .returned (.bool (opB 8 key val)) ∧ Below w.heap.size w w' := by
  obtain ⟨h0, h1, h2⟩ := ht 8 (by omega)
  have e1 : kMost ((8 : Nat) : Int) = 0 := by simp [kMost]
  have e2 : vMost ((8 : Nat) : Int) = 0 := by simp [vMost]
  rw [e1] at h1
  rw [e2] at h2
  clear ht e1 e2
  have al : Below w.heap.size w (w.alloc (.cells #[.int .i64 8, .int .i64 key, .int .i64 val] 41)) := (Below.refl _ _).alloc (Nat.le_refl _) _
  replace h0 : (w.alloc _).cell? ⟨0, 24, none⟩ = _ := kept_cell al h0
  replace h1 : (w.alloc _).cell? ⟨0, 25, none⟩ = _ := kept_cell al h1
  replace h2 : (w.alloc _).cell? ⟨0, 26, none⟩ = _ := kept_cell al h2
  rw [opB_8]
  cases hk : inB key 0 <;> cases hv : inB val 0 <;>
  · go_enter Tryd.func48, Tryd.ntmps48
    go_wp2_with (go_at_call 66; refine (within_any _ _ _).mono ?_; rintro e w' ⟨rfl, rfl⟩)
    go_ret
    exact ⟨rfl, al.alloc (by simp) _⟩

set_option maxHeartbeats 400000 in
theorem implOpOk_9 (key val : Int) (w : World) (ht : Tab w) :
    Calls Tryd.prog 48 #[.agg #[.int .i64 9, .int .i64 key, .int .i64 val]] w fun e w' => e = .returned (.bool (opB 9 key val)) ∧ Below w.heap.size w w' := by
  obtain ⟨h0, h1, h2⟩ := ht 9 (by omega)
  have e1 : kMost ((9 : Nat) : Int) = 99 := by simp [kMost]
  have e2 : vMost ((9 : Nat) : Int) = 0 := by simp [vMost]
  rw [e1] at h1
  rw [e2] at h2
  clear ht e1 e2
  have al : Below w.heap.size w (w.alloc (.cells #[.int .i64 9, .int .i64 key, .int .i64 val] 41)) := (Below.refl _ _).alloc (Nat.le_refl _) _
  replace h0 : (w.alloc _).cell? ⟨0, 27, none⟩ = _ := kept_cell al h0
  replace h1 : (w.alloc _).cell? ⟨0, 28, none⟩ = _ := kept_cell al h1
  replace h2 : (w.alloc _).cell? ⟨0, 29, none⟩ = _ := kept_cell al h2
  rw [opB_9]
  cases hk : inB key 99 <;> cases hv : inB val 0 <;>
  · go_enter Tryd.func48, Tryd.ntmps48
    go_wp2_with (go_at_call 66; refine (within_any _ _ _).mono ?_; rintro e w' ⟨rfl, rfl⟩)
    go_ret
    exact ⟨rfl, al.alloc (by simp) _⟩

set_option maxHeartbeats 400000 in
theorem implOpOk_10 (key val : Int) (w : World) (ht : Tab w) :
    Calls Tryd.prog 48 #[.agg #[.int .i64 10, .int .i64 key, .int .i64 val]] w fun e w' => e = .returned (.bool (opB 10 key val)) ∧ Below w.heap.size w w' := by
  obtain ⟨h0, h1, h2⟩ := ht 10 (by omega)
  have e1 : kMost ((10 : Nat) : Int) = 99 := by simp [kMost]
  have e2 : vMost ((10 : Nat) : Int) = 0 := by simp [vMost]
  rw [e1] at h1
  rw [e2] at h2
  clear ht e1 e2
  have al : Below w.heap.size w (w.alloc (.cells #[.int .i64 10, .int .i64 key, .int .i64 val] 41)) := (Below.refl _ _).alloc (Nat.le_refl _) _
  replace h0 : (w.alloc _).cell? ⟨0, 30, none⟩ = _ := kept_cell al h0
  replace h1 : (w.alloc _).cell? ⟨0, 31, none⟩ = _ := kept_cell al h1
  replace h2 : (w.alloc _).cell? ⟨0, 32, none⟩ = _ := kept_cell al h2
  rw [opB_10]
  cases hk : inB key 99 <;> cases hv : inB val 0 <;>
  · go_enter Tryd.func48, Tryd.ntmps48
    go_wp2_with (go_at_call 66; refine (within_any _ _ _).mono ?_; rintro e w' ⟨rfl, rfl⟩)
    go_ret
    exact ⟨rfl, al.alloc (by simp) _⟩

set_option maxHeartbeats 400000 in
theorem implOpOk_11 (key val : Int) (w : World) (ht : Tab w) :
    Calls Tryd.prog 48 #[.agg #[.int .i64 11, .int .i64 key, .int .i64 val]] w fun e w' => e = .returned (.bool (opB 11 key val)) ∧ Below w.heap.size w w' := by
  obtain ⟨h0, h1, h2⟩ := ht 11 (by omega)
  have e1 : kMost ((11 : Nat) : Int) = 0 := by simp [kMost]
  have e2 : vMost ((11 : Nat) : Int) = 0 := by simp [vMost]
  rw [e1] at h1
  rw [e2] at h2
  clear ht e1 e2
  have al : Below w.heap.size w (w.alloc (.cells #[.int .i64 11, .int .i64 key, .int .i64 val] 41)) := (Below.refl _ _).alloc (Nat.le_refl _) _
  replace h0 : (w.alloc _).cell? ⟨0, 33, none⟩ = _ := kept_cell al h0
  replace h1 : (w.alloc _).cell? ⟨0, 34, none⟩ = _ := kept_cell al h1
  replace h2 : (w.alloc _).cell? ⟨0, 35, none⟩ = _ := kept_cell al h2
  rw [opB_11]
  cases hk : inB key 0 <;> cases hv : inB val 0 <;>
  · go_enter Tryd.func48, Tryd.ntmps48
    go_wp2_with (go_at_call 66; refine (within_any _ _ _).mono ?_; rintro e w' ⟨rfl, rfl⟩)
    go_ret
    exact ⟨rfl, al.alloc (by simp) _⟩

set_option maxHeartbeats 400000 in
theorem implOpOk_12 (key val : Int) (w : World) (ht : Tab w) :
    Calls Tryd.prog 48 #[.agg #[.int .i64 12, .int .i64 key, .int .i64 val]] w fun e w' => e = .returned (.bool (opB 12 key val)) ∧ Below w.heap.size w w' := by
  obtain ⟨h0, h1, h2⟩ := ht 12 (by omega)
  have e1 : kMost ((12 : Nat) : Int) = 0 := by simp [kMost]
  have e2 : vMost ((12 : Nat) : Int) = 0 := by simp [vMost]
  rw [e1] at h1
  rw [e2] at h2
  clear ht e1 e2
  have al : Below w.heap.size w (w.alloc (.cells #[.int .i64 12, .int .i64 key, .int .i64 val] 41)) := (Below.refl _ _).alloc (Nat.le_refl _) _
  replace h0 : (w.alloc _).cell? ⟨0, 36, none⟩ = _ := kept_cell al h0
  replace h1 : (w.alloc _).cell? ⟨0, 37, none⟩ = _ := kept_cell al h1
  replace h2 : (w.alloc _).cell? ⟨0, 38, none⟩ = _ := kept_cell al h2
  rw [opB_12]
  cases hk : inB key 0 <;> cases hv : inB val 0 <;>
  · go_enter Tryd.func48, Tryd.ntmps48
    go_wp2_with (go_at_call 66; refine (within_any _ _ _).mono ?_; rintro e w' ⟨rfl, rfl⟩)
    go_ret
    exact ⟨rfl, al.alloc (by simp) _⟩

set_option maxHeartbeats 400000 in
theorem implOpOk_no (k key val : Int) (w : World) (h : k < 1 ∨ 12 < k) :
    Calls Tryd.prog 48 #[.agg #[.int .i64 k, .int .i64 key, .int .i64 val]] w fun e w' => e = .returned (.bool (opB k key val)) ∧ Below w.heap.size w w' := by
  rcases h with h | h
  · rw [opB_low h]
    go_enter Tryd.func48, Tryd.ntmps48
    go_wp2
    go_ret
    exact ⟨rfl, (Below.refl _ _).alloc (Nat.le_refl _) _⟩
  · rw [opB_high h]
    go_enter Tryd.func48, Tryd.ntmps48
    go_wp2
    go_ret
    exact ⟨rfl, (Below.refl _ _).alloc (Nat.le_refl _) _⟩

theorem implOpOk_any (k key val : Int) (w : World) (ht : Tab w) :
    Calls Tryd.prog 48 #[.agg #[.int .i64 k, .int .i64 key, .int .i64 val]] w fun e w' => e = .returned (.bool (opB k key val)) ∧ Below w.heap.size w w' := by
  by_cases h : k < 1 ∨ 12 < k
  · exact implOpOk_no k key val w h
  · have h12 : k = 1 ∨ k = 2 ∨ k = 3 ∨ k = 4 ∨ k = 5 ∨ k = 6 ∨ k = 7 ∨ k = 8 ∨ k = 9 ∨ k = 10 ∨ k = 11 ∨ k = 12 := by omega
    rcases h12 with rfl | rfl | rfl | rfl | rfl | rfl | rfl | rfl | rfl | rfl | rfl | rfl
    · exact implOpOk_1 key val w ht
    · exact implOpOk_2 key val w ht
    · exact implOpOk_3 key val w ht
    · exact implOpOk_4 key val w ht
    · exact implOpOk_5 key val w ht
    · exact implOpOk_6 key val w ht
    · exact implOpOk_7 key val w ht
    · exact implOpOk_8 key val w ht
    · exact implOpOk_9 key val w ht
    · exact implOpOk_10 key val w ht
    · exact implOpOk_11 key val w ht
    · exact implOpOk_12 key val w ht

set_option maxHeartbeats 400000 in
theorem specOpOk_1 (key val : Int) (w : World) :
    Calls Tryd.prog 21 #[.agg #[.int .i64 1, .int .i64 key, .int .i64 val]] w fun e w' => e = .returned (.bool (opB 1 key val)) ∧ Below w.heap.size w w' := by
  rw [opB_1]
  rw [inB_zero]
  cases hk : inB key 99 <;> by_cases hv : val = 0 <;>
  · go_enter Tryd.func21, Tryd.ntmps21
    go_wp2_with (go_at_call 63; refine (l1In_any _ _ _).mono ?_; rintro e w' ⟨rfl, rfl⟩)
    go_ret
    first | exact ⟨rfl, (Below.refl _ _).alloc (Nat.le_refl _) _⟩ | exact ⟨ret_bool (by simp [hv]), (Below.refl _ _).alloc (Nat.le_refl _) _⟩

set_option maxHeartbeats 400000 in
theorem specOpOk_2 (key val : Int) (w : World) :
    Calls Tryd.prog 21 #[.agg #[.int .i64 2, .int .i64 key, .int .i64 val]] w fun e w' => e = .returned (.bool (opB 2 key val)) ∧ Below w.heap.size w w' := by
  rw [opB_2]
  cases hk : inB key 99 <;> cases hv : inB val 999 <;>
  · go_enter Tryd.func21, Tryd.ntmps21
    go_wp2_with (go_at_call 63; refine (l1In_any _ _ _).mono ?_; rintro e w' ⟨rfl, rfl⟩)
    go_ret
    first | exact ⟨rfl, (Below.refl _ _).alloc (Nat.le_refl _) _⟩ | exact ⟨rfl, (Below.refl _ _).alloc (Nat.le_refl _) _⟩

set_option maxHeartbeats 400000 in
theorem specOpOk_3 (key val : Int) (w : World) :
    Calls Tryd.prog 21 #[.agg #[.int .i64 3, .int .i64 key, .int .i64 val]] w fun e w' => e = .returned (.bool (opB 3 key val)) ∧ Below w.heap.size w w' := by
  rw [opB_3]
  rw [inB_zero]
  cases hk : inB key 99 <;> by_cases hv : val = 0 <;>
  · go_enter Tryd.func21, Tryd.ntmps21
    go_wp2_with (go_at_call 63; refine (l1In_any _ _ _).mono ?_; rintro e w' ⟨rfl, rfl⟩)
    go_ret
    first | exact ⟨rfl, (Below.refl _ _).alloc (Nat.le_refl _) _⟩ | exact ⟨ret_bool (by simp [hv]), (Below.refl _ _).alloc (Nat.le_refl _) _⟩

set_option maxHeartbeats 400000 in
theorem specOpOk_4 (key val : Int) (w : World) :
    Calls Tryd.prog 21 #[.agg #[.int .i64 4, .int .i64 key, .int .i64 val]] w fun e w' => e = .returned (.bool (opB 4 key val)) ∧ Below w.heap.size w w' := by
  rw [opB_4]
  rw [inB_zero, inB_zero]
  by_cases hk : key = 0 <;> by_cases hv : val = 0 <;>
  · go_enter Tryd.func21, Tryd.ntmps21
    go_wp2
    go_ret
    first | exact ⟨rfl, (Below.refl _ _).alloc (Nat.le_refl _) _⟩ | exact ⟨ret_bool (by simp [hk, hv]), (Below.refl _ _).alloc (Nat.le_refl _) _⟩

set_option maxHeartbeats 400000 in
theorem specOpOk_5 (key val : Int) (w : World) :
    Calls Tryd.prog 21 #[.agg #[.int .i64 5, .int .i64 key, .int .i64 val]] w fun e w' => e = .returned (.bool (opB 5 key val)) ∧ Below w.heap.size w w' := by
  rw [opB_5]
  rw [inB_zero]
  by_cases hk : key = 0 <;> cases hv : inB val 999 <;>
  · go_enter Tryd.func21, Tryd.ntmps21
    go_wp2_with (go_at_call 63; refine (l1In_any _ _ _).mono ?_; rintro e w' ⟨rfl, rfl⟩)
    go_ret
    first | exact ⟨rfl, (Below.refl _ _).alloc (Nat.le_refl _) _⟩ | exact ⟨ret_bool (by simp [hk]), (Below.refl _ _).alloc (Nat.le_refl _) _⟩

set_option maxHeartbeats 400000 in
theorem specOpOk_6 (key val : Int) (w : World) :
    Calls Tryd.prog 21 #[.agg #[.int .i64 6, .int .i64 key, .int .i64 val]] w fun e w' => e = .returned (.bool (opB 6 key val)) ∧ Below w.heap.size w w' := by
  rw [opB_6]
  rw [inB_zero, inB_zero]
  by_cases hk : key = 0 <;> by_cases hv : val = 0 <;>
  · go_enter Tryd.func21, Tryd.ntmps21
    go_wp2
    go_ret
    first | exact ⟨rfl, (Below.refl _ _).alloc (Nat.le_refl _) _⟩ | exact ⟨ret_bool (by simp [hk, hv]), (Below.refl _ _).alloc (Nat.le_refl _) _⟩

set_option maxHeartbeats 400000 in
theorem specOpOk_7 (key val : Int) (w : World) :
    Calls Tryd.prog 21 #[.agg #[.int .i64 7, .int .i64 key, .int .i64 val]] w fun e w' => e = .returned (.bool (opB 7 key val)) ∧ Below w.heap.size w w' := by
  rw [opB_7]
  rw [inB_zero]
  by_cases hk : key = 0 <;> cases hv : inB val 999 <;>
  · go_enter Tryd.func21, Tryd.ntmps21
    go_wp2_with (go_at_call 63; refine (l1In_any _ _ _).mono ?_; rintro e w' ⟨rfl, rfl⟩)
    go_ret
    first | exact ⟨rfl, (Below.refl _ _).alloc (Nat.le_refl _) _⟩ | exact ⟨ret_bool (by simp [hk]), (Below.refl _ _).alloc (Nat.le_refl _) _⟩

set_option maxHeartbeats 400000 in
theorem specOpOk_8 (key val : Int) (w : World) :
    Calls Tryd.prog 21 #[.agg #[.int .i64 8, .int .i64 key, .int .i64 val]] w fun e w' => e = .returned (.bool (opB 8 key val)) ∧ Below w.heap.size w w' := by
  rw [opB_8]
  rw [inB_zero, inB_zero]
  by_cases hk : key = 0 <;> by_cases hv : val = 0 <;>
  · go_enter Tryd.func21, Tryd.ntmps21
    go_wp2
    go_ret
    first | exact ⟨rfl, (Below.refl _ _).alloc (Nat.le_refl _) _⟩ | exact ⟨ret_bool (by simp [hk, hv]), (Below.refl _ _).alloc (Nat.le_refl _) _⟩

set_option maxHeartbeats 400000 in
theorem specOpOk_9 (key val : Int) (w : World) :
    Calls Tryd.prog 21 #[.agg #[.int .i64 9, .int .i64 key, .int .i64 val]] w fun e w' => e = .returned (.bool (opB 9 key val)) ∧ Below w.heap.size w w' := by
  rw [opB_9]
  rw [inB_zero]
  cases hk : inB key 99 <;> by_cases hv : val = 0 <;>
  · go_enter Tryd.func21, Tryd.ntmps21
    go_wp2_with (go_at_call 63; refine (l1In_any _ _ _).mono ?_; rintro e w' ⟨rfl, rfl⟩)
    go_ret
    first | exact ⟨rfl, (Below.refl _ _).alloc (Nat.le_refl _) _⟩ | exact ⟨ret_bool (by simp [hv]), (Below.refl _ _).alloc (Nat.le_refl _) _⟩

set_option maxHeartbeats 400000 in
theorem specOpOk_10 (key val : Int) (w : World) :
    Calls Tryd.prog 21 #[.agg #[.int .i64 10, .int .i64 key, .int .i64 val]] w fun e w' => e = .returned (.bool (opB 10 key val)) ∧ Below w.heap.size w w' := by
  rw [opB_10]
  rw [inB_zero]
  cases hk : inB key 99 <;> by_cases hv : val = 0 <;>
  · go_enter Tryd.func21, Tryd.ntmps21
    go_wp2_with (go_at_call 63; refine (l1In_any _ _ _).mono ?_; rintro e w' ⟨rfl, rfl⟩)
    go_ret
    first | exact ⟨rfl, (Below.refl _ _).alloc (Nat.le_refl _) _⟩ | exact ⟨ret_bool (by simp [hv]), (Below.refl _ _).alloc (Nat.le_refl _) _⟩

set_option maxHeartbeats 400000 in
theorem specOpOk_11 (key val : Int) (w : World) :
    Calls Tryd.prog 21 #[.agg #[.int .i64 11, .int .i64 key, .int .i64 val]] w fun e w' => e = .returned (.bool (opB 11 key val)) ∧ Below w.heap.size w w' := by
  rw [opB_11]
  rw [inB_zero, inB_zero]
  by_cases hk : key = 0 <;> by_cases hv : val = 0 <;>
  · go_enter Tryd.func21, Tryd.ntmps21
    go_wp2
    go_ret
    first | exact ⟨rfl, (Below.refl _ _).alloc (Nat.le_refl _) _⟩ | exact ⟨ret_bool (by simp [hk, hv]), (Below.refl _ _).alloc (Nat.le_refl _) _⟩

set_option maxHeartbeats 400000 in
theorem specOpOk_12 (key val : Int) (w : World) :
    Calls Tryd.prog 21 #[.agg #[.int .i64 12, .int .i64 key, .int .i64 val]] w fun e w' => e = .returned (.bool (opB 12 key val)) ∧ Below w.heap.size w w' := by
  rw [opB_12]
  rw [inB_zero, inB_zero]
  by_cases hk : key = 0 <;> by_cases hv : val = 0 <;>
  · go_enter Tryd.func21, Tryd.ntmps21
    go_wp2
    go_ret
    first | exact ⟨rfl, (Below.refl _ _).alloc (Nat.le_refl _) _⟩ | exact ⟨ret_bool (by simp [hk, hv]), (Below.refl _ _).alloc (Nat.le_refl _) _⟩

set_option maxHeartbeats 800000 in
theorem specOpOk_no (k key val : Int) (w : World) (h : k < 1 ∨ 12 < k) :
    Calls Tryd.prog 21 #[.agg #[.int .i64 k, .int .i64 key, .int .i64 val]] w fun e w' => e = .returned (.bool (opB k key val)) ∧ Below w.heap.size w w' := by
  have e : opB k key val = false := by
    rcases h with h | h
    · exact opB_low h
    · exact opB_high h
  rw [e]
  have n1 : ¬ k = 1 := by omega
  have b1 : (k == 1) = false := by simpa using n1
  have n2 : ¬ k = 2 := by omega
  have b2 : (k == 2) = false := by simpa using n2
  have n3 : ¬ k = 3 := by omega
  have b3 : (k == 3) = false := by simpa using n3
  have n4 : ¬ k = 4 := by omega
  have b4 : (k == 4) = false := by simpa using n4
  have n5 : ¬ k = 5 := by omega
  have b5 : (k == 5) = false := by simpa using n5
  have n6 : ¬ k = 6 := by omega
  have b6 : (k == 6) = false := by simpa using n6
  have n7 : ¬ k = 7 := by omega
  have b7 : (k == 7) = false := by simpa using n7
  have n8 : ¬ k = 8 := by omega
  have b8 : (k == 8) = false := by simpa using n8
  have n9 : ¬ k = 9 := by omega
  have b9 : (k == 9) = false := by simpa using n9
  have n10 : ¬ k = 10 := by omega
  have b10 : (k == 10) = false := by simpa using n10
  have n11 : ¬ k = 11 := by omega
  have b11 : (k == 11) = false := by simpa using n11
  have n12 : ¬ k = 12 := by omega
  have b12 : (k == 12) = false := by simpa using n12
  clear h e
  go_enter Tryd.func21, Tryd.ntmps21
  go_wp2
  go_ret
  exact ⟨rfl, (Below.refl _ _).alloc (Nat.le_refl _) _⟩

theorem specOpOk_any (k key val : Int) (w : World) :
    Calls Tryd.prog 21 #[.agg #[.int .i64 k, .int .i64 key, .int .i64 val]] w fun e w' => e = .returned (.bool (opB k key val)) ∧ Below w.heap.size w w' := by
  by_cases h : k < 1 ∨ 12 < k
  · exact specOpOk_no k key val w h
  · have h12 : k = 1 ∨ k = 2 ∨ k = 3 ∨ k = 4 ∨ k = 5 ∨ k = 6 ∨ k = 7 ∨ k = 8 ∨ k = 9 ∨ k = 10 ∨ k = 11 ∨ k = 12 := by omega
    rcases h12 with rfl | rfl | rfl | rfl | rfl | rfl | rfl | rfl | rfl | rfl | rfl | rfl
    · exact specOpOk_1 key val w
    · exact specOpOk_2 key val w
    · exact specOpOk_3 key val w
    · exact specOpOk_4 key val w
    · exact specOpOk_5 key val w
    · exact specOpOk_6 key val w
    · exact specOpOk_7 key val w
    · exact specOpOk_8 key val w
    · exact specOpOk_9 key val w
    · exact specOpOk_10 key val w
    · exact specOpOk_11 key val w
    · exact specOpOk_12 key val w

set_option maxHeartbeats 400000 in
theorem toOpOp_any (k key val : Int) (w : World) :
    Calls Tryd.prog 11 #[.agg #[.int .i64 k, .int .i64 key, .int .i64 val]] w fun e w' => e = .returned (.agg #[.int .i64 k, .int .i64 key, .int .i64 val]) ∧ Below w.heap.size w w' := by
  go_enter Tryd.func11, Tryd.ntmps11
  go_wp2
  exact bodyPost_ret (v := .agg #[.int .i64 k, .int .i64 key, .int .i64 val]) (by simp [results, Tryd.results11, go_sem]) rfl ⟨rfl, (((Below.refl _ _).alloc (Nat.le_refl _) _).alloc (by simp) _).alloc (by simp; omega) _⟩

end Go.Proofs.YtklpdpdjblakgaaDoor

/- TabS -/
namespace Go.Proofs.YtklpdpdjblakgaaDoor
open Go.ChangeShapes Go.WideShapes Go.ChangeAt Go.RowKit
set_option linter.unusedVariables false

theorem gMost : Tryd.prog.globalNamed "loop.example/tuggers/impl.askedMost" = some 0 := by kernel_rfl
theorem tMost : (Tryd.prog.globals[0]?).map (·.type) = some 100 := by kernel_rfl
theorem cellsOp : Tryd.prog.cellsOf 41 = 3 := by kernel_rfl
theorem cellsInt : Tryd.prog.cellsOf 3 = 1 := by kernel_rfl

theorem list3 {α : Type} {l : List α} (h : l.length = 3) : ∃ a b c, l = [a, b, c] := by
  match l, h with
  | [a, b, c], _ => exact ⟨a, b, c, rfl⟩

/-- What the reading of three numbers in a row tells of them, whatever the struct's type. -/
theorem op_of_trod {H : Type} {enc : TypeId × Value → H} {W : World} {base : Nat} {sp : Nat → Bool} {held : Bool} {fuel : Nat} {t : TypeId} {cs : List Value} {x : DataW H × List MemPlace} {fs : Array Field}
    (hu : Tryd.prog.underlying t = some (.struct fs)) (hfs : fs.size = 3) (f0 : fs[0]?.map (fun f => (f.type, f.offset)) = some (3, 0)) (f1 : fs[1]?.map (fun f => (f.type, f.offset)) = some (3, 1)) (f2 : fs[2]?.map (fun f => (f.type, f.offset)) = some (3, 2)) (hl : cs.length = 3)
    (h : DataW.trod enc Tryd.prog W base sp held fuel t cs = some x) :
    ∃ a b c : Int, cs = [.int .i64 a, .int .i64 b, .int .i64 c] ∧ x = (.agg [.lit (.int .i64 a), .lit (.int .i64 b), .lit (.int .i64 c)], []) := by
  obtain ⟨xs, k, hk, hxy, _, hxl, hf⟩ := DataW.trod_struct hu h
  obtain ⟨c0, c1, c2, rfl⟩ := list3 hl
  obtain ⟨y0, y1, y2, rfl⟩ := list3 (l := xs) (by rw [hxl, hfs])
  simp only [Option.map_eq_some_iff, Prod.mk.injEq] at f0 f1 f2
  obtain ⟨a0, h0, t0, o0⟩ := f0
  obtain ⟨a1, h1, t1, o1⟩ := f1
  obtain ⟨a2, h2, t2, o2⟩ := f2
  have g0 := hf 0 _ h0
  have g1 := hf 1 _ h1
  have g2 := hf 2 _ h2
  rw [t0, o0] at g0
  rw [t1, o1] at g1
  rw [t2, o2] at g2
  simp [cellsInt] at g0 g1 g2
  obtain ⟨u0, e0, z0, _⟩ := DataW.trod_int Tryd.underlying3 g0
  obtain ⟨u1, e1, z1, _⟩ := DataW.trod_int Tryd.underlying3 g1
  obtain ⟨u2, e2, z2, _⟩ := DataW.trod_int Tryd.underlying3 g2
  simp at e0 e1 e2
  subst e0 e1 e2 z0 z1 z2
  exact ⟨u0, u1, u2, rfl, by simpa using hxy⟩

theorem nth_of_part {α : Type} {l : List α} {i j : Nat} {a b c : α} (h : (l.drop (i * 3)).take 3 = [a, b, c]) (hj : j < 3) : l[3 * i + j]? = [a, b, c][j]? := by
  rw [← h, List.getElem?_take_of_lt hj, List.getElem?_drop]
  congr 1
  omega

/-- What the condition on the variable gives: the table's cells. -/
theorem tab_of_laid {W : World} (h : laidMetH Tryd.prog [("loop.example/tuggers/impl.askedMost", Rows.laid_loop_example_tuggers_impl_askedMost)] W) : Tab W := by
  rw [MakeChecks.laidMetH_plain _ _ _ (by kernel_rfl)] at h
  obtain ⟨ps, ⟨g, t, cs, fuel, p, q, hg, ht, hvar, hd, _, _⟩, _⟩ := h
  obtain rfl := Option.some.inj (gMost.symm.trans hg)
  obtain rfl := Option.some.inj (tMost.symm.trans ht)
  obtain ⟨xs, m, _, hx, hlen, hxl, hi⟩ := DataW.trod_array Tryd.underlying100 hd
  have hcs : cs.toList.length = 39 := hlen.trans (by kernel_rfl)
  have each : ∀ i, i < 13 → ∃ a b c : Int, (cs.toList.drop (i * 3)).take 3 = [.int .i64 a, .int .i64 b, .int .i64 c] ∧ (xs.map (·.1))[i]? = some (.agg [.lit (.int .i64 a), .lit (.int .i64 b), .lit (.int .i64 c)]) := fun i h13 => by
    have hq := hi i h13
    have hxi : i < xs.length := by omega
    rw [List.getElem?_eq_getElem hxi, cellsOp] at hq
    obtain ⟨a, b, c, e1, e2⟩ := op_of_trod Tryd.underlying41 rfl rfl rfl rfl (by rw [List.length_take, List.length_drop, hcs]; omega) hq
    exact ⟨a, b, c, e1, by rw [List.getElem?_map, List.getElem?_eq_getElem hxi, e2]; rfl⟩
  have hxs : xs.map (·.1) = [.agg [.lit (.int .i64 0), .lit (.int .i64 0), .lit (.int .i64 0)], .agg [.lit (.int .i64 0), .lit (.int .i64 99), .lit (.int .i64 0)], .agg [.lit (.int .i64 0), .lit (.int .i64 99), .lit (.int .i64 999)], .agg [.lit (.int .i64 0), .lit (.int .i64 99), .lit (.int .i64 0)], .agg [.lit (.int .i64 0), .lit (.int .i64 0), .lit (.int .i64 0)], .agg [.lit (.int .i64 0), .lit (.int .i64 0), .lit (.int .i64 999)], .agg [.lit (.int .i64 0), .lit (.int .i64 0), .lit (.int .i64 0)], .agg [.lit (.int .i64 0), .lit (.int .i64 0), .lit (.int .i64 999)], .agg [.lit (.int .i64 0), .lit (.int .i64 0), .lit (.int .i64 0)], .agg [.lit (.int .i64 0), .lit (.int .i64 99), .lit (.int .i64 0)], .agg [.lit (.int .i64 0), .lit (.int .i64 99), .lit (.int .i64 0)], .agg [.lit (.int .i64 0), .lit (.int .i64 0), .lit (.int .i64 0)], .agg [.lit (.int .i64 0), .lit (.int .i64 0), .lit (.int .i64 0)]] := by
    have := (Prod.mk.inj hx).1
    unfold Rows.laid_loop_example_tuggers_impl_askedMost at this
    injection this with this
    exact this.symm
  intro k hk
  obtain ⟨a, b, c, e, hq⟩ := each k (by omega)
  rw [hxs] at hq
  have w0 := World.var?_cell hg hvar (3 * k)
  have w1 := World.var?_cell hg hvar (3 * k + 1)
  have w2 := World.var?_cell hg hvar (3 * k + 2)
  have n0 := nth_of_part (j := 0) e (by omega)
  have n1 := nth_of_part (j := 1) e (by omega)
  have n2 := nth_of_part (j := 2) e (by omega)
  simp only [Array.getElem?_toList, Nat.add_zero] at n0 n1 n2
  rw [n0] at w0
  rw [n1] at w1
  rw [n2] at w2
  rw [w0, w1, w2]
  have hv : a = 0 ∧ b = kMost k ∧ c = vMost k := by
    have h13 : k = 0 ∨ k = 1 ∨ k = 2 ∨ k = 3 ∨ k = 4 ∨ k = 5 ∨ k = 6 ∨ k = 7 ∨ k = 8 ∨ k = 9 ∨ k = 10 ∨ k = 11 ∨ k = 12 := by omega
    rcases h13 with rfl | rfl | rfl | rfl | rfl | rfl | rfl | rfl | rfl | rfl | rfl | rfl | rfl <;>
      (simp at hq; obtain ⟨rfl, rfl, rfl⟩ := hq; exact ⟨rfl, by decide, by decide⟩)
  obtain ⟨rfl, rfl, rfl⟩ := hv
  exact ⟨rfl, rfl, rfl⟩

end Go.Proofs.YtklpdpdjblakgaaDoor

/- Marks -/
namespace Go.Proofs.YtklpdpdjblakgaaDoor
open Go.RowKit

theorem own_sints {w : World} {base : Nat} {a : Option Addr} {n cap : Nat} {zs : List Int} (h : w.ownsRow base 3 1 (.slice a n cap) n (zs.map (Value.int .i64))) : SInts w a n zs := by
  obtain ⟨a', cap', e, hs⟩ := own_shape h
  cases e
  exact hs

/-- The marks that are written from k on. -/
def marks (k : Int) (n : Nat) : List Int := (List.range n).map (fun i : Nat => k + (i : Int))
theorem marks_len (k : Int) (n : Nat) : (marks k n).length = n := by simp [marks]
theorem marks_get (k : Int) {n i : Nat} (h : i < n) : (marks k n).getD i 0 = k + i := by simp [marks, List.getD, h]

set_option maxHeartbeats 400000 in
theorem markIntS_any (a : Option Addr) (n cap base : Nat) (zs : List Int) (k : Int) (w : World) (ho : w.ownsRow base 3 1 (.slice a n cap) n (zs.map (Value.int .i64))) (hk0 : 0 ≤ k) (hk : k + n ≤ 4611686018427387904) :
    Calls Tryd.prog 54 #[.slice a n cap, .int .i64 k] w fun e w' => e = .returned (.int .i64 (k + n)) ∧ w'.ownsRow base 3 1 (.slice a n cap) n ((marks k n).map (Value.int .i64)) ∧ w.grownBy w' (Value.ownBlock (.slice a n cap)) ∧ w'.heap.size = w.heap.size := by
  have hz : zs.length = n := by simpa using ho.1
  by_cases hn : n = 0
  · subst hn
    obtain rfl : zs = [] := List.eq_nil_of_length_eq_zero hz
    go_enter Tryd.func54, Tryd.ntmps54
    go_wp2
    go_loop [1, 5] (fun s i => s = .int .i64 k ∧ i = .int .i64 0) (fun _ _ => 0)
    case atStart => exact ⟨rfl, rfl⟩
    case round =>
      obtain ⟨rfl, rfl⟩ := hrel
      go_wp2
      go_ret
      exact ⟨by simp, by simpa [marks] using ho, World.grownBy.refl _ _, rfl⟩
  · obtain ⟨g, rfl⟩ : ∃ g, a = some ⟨g, 0, none⟩ := by
      rcases ho.2 with ⟨h, h0⟩ | ⟨g, c, cur, h, _⟩
      · exact absurd h0 hn
      · cases h; exact ⟨g, rfl⟩
    go_enter Tryd.func54, Tryd.ntmps54
    go_wp2
    go_loopw [1, 5] (fun s i wr => ∃ (j : Nat) (ys : List Int), j ≤ n ∧ i = .int .i64 j ∧ s = .int .i64 (k + j) ∧ wr.ownsRow base 3 1 (.slice (some ⟨g, 0, none⟩) n cap) n (ys.map (Value.int .i64)) ∧ ys.take j = (marks k n).take j ∧ w.grownBy wr (some g) ∧ wr.heap.size = w.heap.size)
      (fun _ i _ => n - (intOf i).toNat)
    case atStart => exact ⟨0, zs, Nat.zero_le _, rfl, by go_num, ho, by simp, World.grownBy.refl _ _, rfl⟩
    case round =>
      obtain ⟨j, ys, hj, rfl, rfl, hown, htake, hg, hsz⟩ := hrel
      by_cases hlt : j < n
      · have hyl : ys.length = n := by simpa using hown.1
        have hc : wr.cell? ⟨g, j, none⟩ = some (.int .i64 (ys.getD j 0)) := by
          rw [hown.cellAt j (by omega)]
          simp [List.getD, show j < ys.length by omega]
        have hf := hown.frozenAt j
        have hst := hown.stored j (.int .i64 (k + j))
        have R : Hid ((wr.setCell ⟨g, j, none⟩ (.int .i64 (k + j))).ownsRow base 3 1 (.slice (some ⟨g, 0, none⟩) n cap) n ((ys.set j (k + j)).map (Value.int .i64)) ∧ (ys.set j (k + j)).take (j + 1) = (marks k n).take (j + 1) ∧ w.grownBy (wr.setCell ⟨g, j, none⟩ (.int .i64 (k + j))) (some g) ∧ (wr.setCell ⟨g, j, none⟩ (.int .i64 (k + j))).heap.size = w.heap.size) := by
          refine ⟨by simpa using hst.1, ?_, ⟨hst.2.os.trans hg.os, hst.2.tape.trans hg.tape, hst.2.output.trans hg.output, Nat.le_trans hg.size hst.2.size, fun c hc hne => ?_⟩, by simpa using hsz⟩
          · rw [List.take_succ_eq_append_getElem (by simp; omega), List.take_succ_eq_append_getElem (by rw [marks_len]; omega), ← htake]
            rw [List.take_set, List.set_eq_of_length_le (by simp; omega)]
            simp [marks]
          · exact (hst.2.block c (by omega) hne).trans (hg.block c hc hne)
        clear hown htake hg hst hsz hyl
        go_wp2
        go_roundw
        case rel => exact ⟨j + 1, _, by omega, by go_num, by go_num, R.out⟩
        case measure => simp [intOf]; omega
      · obtain rfl : j = n := by omega
        have hyl : ys.length = j := by simpa using hown.1
        have e : ys = marks k j := by
          rw [List.take_of_length_le (by omega), List.take_of_length_le (by rw [marks_len]; omega)] at htake
          exact htake
        subst e
        have HO : Hid (wr.ownsRow base 3 1 (.slice (some ⟨g, 0, none⟩) j cap) j ((marks k j).map (Value.int .i64))) := hown
        clear hown htake hyl
        go_wp2
        go_ret
        exact ⟨rfl, HO.out, hg, hsz⟩

set_option maxHeartbeats 400000 in
theorem heldIntS_any (a : Option Addr) (n cap : Nat) (k : Int) (w : World) (hs : SInts w a n (marks k n)) (hk0 : 0 ≤ k) (hk : k + n ≤ 4611686018427387904) :
    Calls Tryd.prog 56 #[.slice a n cap, .int .i64 k] w fun e w' => e = .returned (.int .i64 (k + n)) ∧ w' = w := by
  go_enter Tryd.func56, Tryd.ntmps56
  go_wp2
  go_loop [1, 5] (fun s i => ∃ j : Nat, j ≤ n ∧ i = .int .i64 j ∧ s = .int .i64 (k + j)) (fun _ i => n - (intOf i).toNat)
  case atStart => exact ⟨0, Nat.zero_le _, rfl, by go_num⟩
  case round =>
    obtain ⟨j, hj, rfl, rfl⟩ := hrel
    by_cases hlt : j < n
    · obtain ⟨hz, h0 | ⟨b, off, rfl, hc⟩⟩ := hs
      · omega
      · have h1 : w.cell? ⟨b, off + j, none⟩ = some (.int .i64 (k + j)) := by rw [hc j hlt, marks_get k hlt]
        clear hc hz
        go_wp2
        go_round
        case rel => exact ⟨j + 1, by omega, by go_num, by go_num⟩
        case measure => simp [intOf]; omega
    · obtain rfl : j = n := by omega
      clear hs
      go_wp2
      go_ret
      exact ⟨rfl, rfl⟩

set_option maxHeartbeats 400000 in
theorem eqResRes_yes (c v : Int) (w : World) :
    Calls Tryd.prog 14 #[.agg #[.int .i64 c, .int .i64 v], .agg #[.int .i64 c, .int .i64 v]] w fun e w' => e = .returned (.bool true) ∧ Below w.heap.size w w' := by
  go_enter Tryd.func14, Tryd.ntmps14
  go_wp2
  go_ret
  exact ⟨rfl, ((Below.refl _ _).alloc (Nat.le_refl _) _).alloc (by simp) _⟩

end Go.Proofs.YtklpdpdjblakgaaDoor

/- Append -/
namespace Go.Proofs.YtklpdpdjblakgaaDoor
open Go.RowKit

theorem append_types {P : Program} (w : World) (t u ty e e' : TypeId) (ht : P.underlying t = some (.slice e)) (hu : P.underlying u = some (.slice e')) (p q : Option Addr) (n c m d : Nat) :
    (Builtin.append_ #[t, u] ty #[.slice p n c, .slice q m d]).run P w = (Builtin.append_ #[t, t] ty #[.slice p n c, .slice q m d]).run P w := by
  simp only [Builtin.append_, List.getElem?_toArray, List.getElem?_cons_zero, List.getElem?_cons_succ, Sem.run_bind, run_underlying ht, run_underlying hu, Result.andThen_ok, Sem.run_pure]

theorem run_append_none {P : Program} (w : World) (base : Nat) (t ty e : TypeId) (i : TypeInfo) (size : Nat) (ht : P.underlying t = some (.slice e)) (hi : P.info? e = some i)
    (v : Value) (n c : Nat) (xs : List Value) (hown : w.ownsRow base e size v n xs) :
    (Builtin.append_ #[t, t] ty #[v, .slice none 0 c]).run P w = .ok v w := by
  rcases hown.2 with ⟨rfl, rfl⟩ | ⟨g, cap, cur, rfl, _, _, hnc, _⟩
  · simp [Builtin.append_, run_underlying ht, sizeOf, typeInfo, hi, Builtin.lenOf, Builtin.firstCells]
  · simp [Builtin.append_, run_underlying ht, sizeOf, typeInfo, hi, Builtin.lenOf, Builtin.firstCells, hnc, storeCells]

/-- 'append' within the capacity, whatever the shape of what is appended, of another slice type. -/
theorem wpList_append_fits_two {P : Program} (w : World) {ops : Array Oper} {rest : List Oper} {o : Oper} {a : Act} {Q : Exit → Act → World → Prop}
    (hg : o.guard = none) (s x : Operand) (t t' : TypeId) (hop : o.op = Op.call { callee := Callee.builtin Builtin.append, args := #[s, x], argTypes := #[t, t'] })
    (base : Nat) (e e' : TypeId) (i : TypeInfo) (size : Nat) (h1 : P.underlying t = some (.slice e)) (h1' : P.underlying t' = some (.slice e')) (h2 : P.info? e = some i) (h4 : i.size = size)
    (g k cap : Nat) (xs : List Value) (hs : a.eval s = .slice (some ⟨g, 0, none⟩) k cap) (hown : w.ownsRow base e size (.slice (some ⟨g, 0, none⟩) k cap) k xs) (ao : Option Addr) (m c : Nat) (news : List Value) (hx : a.eval x = .slice ao m c) (hn : news.length = m * size)
    (hnone : m = 0 ∨ ∃ ad, ao = some ad ∧ ∀ j u, news[j]? = some u → w.cell? (ad.add j) = some u) (h1c : ∀ u ∈ news, u.oneCell' = true) (b1 : k + m ≤ cap)
    (hK : ∀ w', w'.ownsRow base e size (.slice (some ⟨g, 0, none⟩) (k + m) cap) (k + m) (xs ++ news) → w.grownBy w' (some g) → wpList P ops Q rest (a.put o.dst (.slice (some ⟨g, 0, none⟩) (k + m) cap)) w') :
    wpList P ops Q (o :: rest) a w := by
  refine wpList_plain hg fun K hK' => ?_
  cases ao with
  | some ad =>
    have hc : ∀ j u, news[j]? = some u → w.cell? (ad.add j) = some u := by
      rcases hnone with rfl | ⟨ad', e1, h⟩
      · intro j u hj
        rw [List.eq_nil_of_length_eq_zero (l := news) (by simpa using hn)] at hj
        simp at hj
      · cases e1; exact h
    obtain ⟨w', hrun, r1, r2⟩ := run_append_fits (P := P) w base t o.type e i size h1 h2 h4 g k cap xs hown ad m c news hn hc h1c b1
    rw [← append_types w t t' o.type e e' h1 h1'] at hrun
    unfold Oper.wp
    simp [execOp, hop, resolve, invoke, builtin, hs, hx, hrun, Result.andThen]
    exact hK' _ _ (hK w' r1 r2)
  | none =>
    obtain rfl : m = 0 := by
      rcases hnone with h | ⟨ad', e1, _⟩
      · exact h
      · cases e1
    have hnews : news = [] := List.eq_nil_of_length_eq_zero (by simpa using hn)
    subst hnews
    have hrun := run_append_none (P := P) w base t o.type e i size h1 h2 _ k c xs hown
    rw [← append_types w t t' o.type e e' h1 h1'] at hrun
    unfold Oper.wp
    simp [execOp, hop, resolve, invoke, builtin, hs, hx, hrun, Result.andThen]
    exact hK' _ _ (by simpa using hK w (by simpa using hown) (World.grownBy.refl _ _))

end Go.Proofs.YtklpdpdjblakgaaDoor

/- Lists -/
namespace Go.Proofs.YtklpdpdjblakgaaDoor
open Go.RowKit
set_option linter.unusedVariables false

/-- The cells of the first f numbers, for an append. -/
theorem SInts.src_take {w : World} {a : Option Addr} {n : Nat} {zs : List Int} (hs : SInts w a n zs) {f : Nat} (hf : f ≤ n) :
    f = 0 ∨ ∃ ad, a = some ad ∧ ∀ j u, ((zs.take f).map (Value.int .i64))[j]? = some u → w.cell? (ad.add j) = some u := by
  obtain ⟨hz, h0 | ⟨b, off, rfl, hc⟩⟩ := hs
  · exact .inl (by omega)
  · refine .inr ⟨_, rfl, fun j u hj => ?_⟩
    have hjf : j < f := by
      have := (List.getElem?_eq_some_iff.1 hj).1
      simp at this
      omega
    rw [Addr.add_lit, hc j (by omega)]
    simpa [List.getD, List.getElem?_take, hjf, show j < zs.length by omega] using hj

/-- The cells of the numbers from t on, for an append. -/
theorem SInts.src_drop {w : World} {b off : Nat} {n cap : Nat} {zs : List Int} (hz : zs.length = n) (hc : ∀ i, i < n → w.cell? ⟨b, off + i, none⟩ = some (.int .i64 (zs.getD i 0))) {t : Nat} (hnc : n ≤ cap) {ao : Option Addr} (hao : ¬ cap = t → ao = some ⟨b, off + t, none⟩) :
    n - t = 0 ∨ ∃ ad, ao = some ad ∧ ∀ j u, ((zs.drop t).map (Value.int .i64))[j]? = some u → w.cell? (ad.add j) = some u := by
  by_cases h : n - t = 0
  · exact .inl h
  · refine .inr ⟨_, hao (by omega), fun j u hj => ?_⟩
    have hjf : j < n - t := by
      have := (List.getElem?_eq_some_iff.1 hj).1
      simp at this
      omega
    rw [Addr.add_lit, Nat.add_assoc, hc (t + j) (by omega)]
    simpa [List.getD, show t + j < zs.length by omega] using hj

set_option maxRecDepth 20000 in
set_option maxHeartbeats 800000 in
/-- replaced, where something is left. -/
theorem replaced_some (b off n cap : Nat) (zs : List Int) (f t : Nat) (a2 : Option Addr) (m cap2 : Nat) (ys : List Int) (w : World) (hs : SInts w (some ⟨b, off, none⟩) n zs) (hn0 : ¬ n = 0) (hys : SInts w a2 m ys)
    (hft : f ≤ t) (htn : t ≤ n) (hnc : n ≤ cap) (hcap : cap ≤ 9223372036854775807 ∧ n ≤ 1099511627776) (hm : m ≤ 1099511627776) (hz : ¬ n - (t - f) + m = 0) :
    Calls Tryd.prog 90 #[.slice (some ⟨b, off, none⟩) n cap, .int .i64 f, .int .i64 t, .slice a2 m cap2] w fun e w' => ∃ N a' c', N = n - (t - f) + m ∧ e = .returned (.slice a' N c') ∧ 
      w'.ownsRow w.heap.size 3 1 (.slice a' N c') N ((zs.take f ++ ys ++ zs.drop t).map (Value.int .i64)) ∧ Below w.heap.size w w' := by
  obtain ⟨i0, hi, hz0, hz1, hz2⟩ := info_parts Tryd.info3
  have hz' : ((n : Int) - (t - f) + m == 0) = false := by simp; omega
  have hzl := hs.1
  have hyl := hys.1
  go_enter Tryd.func90, Tryd.ntmps90
  go_wp2_with (at_make; refine wpList_make_own _ rfl _ _ 94 rfl w.heap.size 3 i0 (.int .i64 0) 1 Tryd.underlying94 hi hz0 hz1 _ _ _ (n - (t - f) + m) rfl rfl (by omega) ?b2 ?b3 (Nat.le_refl _) ?_)
  case b2 => rw [hz2]; omega
  case b3 => unfold maxLen; omega
  intro w0 hown0 hgrow0
  have hb0 : Below w.heap.size w w0 := (Below.refl _ _).grown hgrow0 (Nat.le_refl _) (fun k h => by cases h)
  have hlt0 := (hown0.lt w.heap.size rfl).2
  have hs0 := hs.below hb0
  go_wp2_with (at_builtin; refine wpList_append_fits_two _ rfl (.tmp 24) (.tmp 27) 94 94 rfl w.heap.size 3 3 i0 1 Tryd.underlying94 Tryd.underlying94 hi hz1 w.heap.size 0 (n - (t - f) + m) _ rfl hown0 _ f _ ((zs.take f).map (Value.int .i64)) rfl (by simp; omega) (hs0.src_take (by omega)) (ints_oneCell _ _) (by omega) ?_)
  intro w1 hown1 hgrow1
  have hb1 := hb0.grown hgrow1 hb0.size (fun k h => by cases h; exact Nat.le_refl _)
  have hlt1 := (hown1.lt w.heap.size rfl).2
  have src2 := (hys.below hb1).src_take (Nat.le_refl m)
  rw [List.take_of_length_le (by omega)] at src2
  go_wp2_with (at_builtin; go_must (refine wpList_append_fits_two _ rfl (.tmp 29) (.tmp 30) 94 25 rfl w.heap.size 3 3 i0 1 Tryd.underlying94 Tryd.underlying25 hi hz1 w.heap.size f (n - (t - f) + m) _ rfl hown1 _ m _ (ys.map (Value.int .i64)) rfl (by simp; omega) src2 (ints_oneCell _ _) (by omega) ?_))
  intro w2 hown2 hgrow2
  have hb2 := hb1.grown hgrow2 hb1.size (fun k h => by cases h; exact Nat.le_refl _)
  have src3 : ∀ ao : Option Addr, (¬ cap = t → ao = some ⟨b, off + t, none⟩) → (n - t = 0 ∨ ∃ ad, ao = some ad ∧ ∀ j u, ((zs.drop t).map (Value.int .i64))[j]? = some u → w2.cell? (ad.add j) = some u) := by
    intro ao hao
    obtain ⟨_, h0 | ⟨b', off', e, hc⟩⟩ := hs.below hb2
    · exact absurd h0 hn0
    · cases e
      exact SInts.src_drop hzl hc hnc hao
  have S3 : Hid (∀ ao : Option Addr, (¬ cap = t → ao = some ⟨b, off + t, none⟩) → (n - t = 0 ∨ ∃ ad, ao = some ad ∧ ∀ j u, ((zs.drop t).map (Value.int .i64))[j]? = some u → w2.cell? (ad.add j) = some u)) := src3
  clear src3
  go_wp2_with (at_builtin; refine wpList_append_fits_two _ rfl (.tmp 32) (.tmp 35) 94 94 rfl w.heap.size 3 3 i0 1 Tryd.underlying94 Tryd.underlying94 hi hz1 w.heap.size (f + m) (n - (t - f) + m) _ rfl hown2 _ (n - t) _ ((zs.drop t).map (Value.int .i64)) rfl (by simp; omega) (S3.out _ (by intro h; first | rfl | simp [h])) (ints_oneCell _ _) (by omega) ?_)
  all_goals
    intro w3 hown3 hgrow3
    have hb3 := hb2.grown hgrow3 hb2.size (fun k h => by cases h; exact Nat.le_refl _)
    go_wp2
    go_ret
    refine ⟨f + m + (n - t), _, _, by omega, rfl, ?_, hb3⟩
    simpa using hown3

set_option maxRecDepth 20000 in
set_option maxHeartbeats 800000 in
/-- replaced of nothing by something. -/
theorem replaced_bare (a : Option Addr) (cap : Nat) (a2 : Option Addr) (m cap2 : Nat) (ys : List Int) (w : World) (hys : SInts w a2 m ys) (hcap : cap ≤ 9223372036854775807) (hm : m ≤ 1099511627776) (hz : ¬ m = 0) :
    Calls Tryd.prog 90 #[.slice a 0 cap, .int .i64 0, .int .i64 0, .slice a2 m cap2] w fun e w' => ∃ a' c', e = .returned (.slice a' m c') ∧ 
      w'.ownsRow w.heap.size 3 1 (.slice a' m c') m (ys.map (Value.int .i64)) ∧ Below w.heap.size w w' := by
  obtain ⟨i0, hi, hz0, hz1, hz2⟩ := info_parts Tryd.info3
  have hz' : ((m : Int) == 0) = false := by simp; omega
  have hyl := hys.1
  go_enter Tryd.func90, Tryd.ntmps90
  go_wp2_with (at_make; refine wpList_make_own _ rfl _ _ 94 rfl w.heap.size 3 i0 (.int .i64 0) 1 Tryd.underlying94 hi hz0 hz1 _ _ _ m rfl rfl (by omega) ?b2 ?b3 (Nat.le_refl _) ?_)
  case b2 => rw [hz2]; omega
  case b3 => unfold maxLen; omega
  intro w0 hown0 hgrow0
  have hb0 : Below w.heap.size w w0 := (Below.refl _ _).grown hgrow0 (Nat.le_refl _) (fun k h => by cases h)
  go_wp2_with (at_builtin; refine wpList_append_fits_two _ rfl (.tmp 24) (.tmp 27) 94 94 rfl w.heap.size 3 3 i0 1 Tryd.underlying94 Tryd.underlying94 hi hz1 w.heap.size 0 m _ rfl hown0 _ 0 _ [] rfl rfl (Or.inl rfl) (by simp) (by omega) ?_)
  intro w1 hown1 hgrow1
  have hb1 := hb0.grown hgrow1 hb0.size (fun k h => by cases h; exact Nat.le_refl _)
  have src2 := (hys.below hb1).src_take (Nat.le_refl m)
  rw [List.take_of_length_le (by omega)] at src2
  go_wp2_with (at_builtin; refine wpList_append_fits_two _ rfl (.tmp 29) (.tmp 30) 94 25 rfl w.heap.size 3 3 i0 1 Tryd.underlying94 Tryd.underlying25 hi hz1 w.heap.size 0 m _ rfl hown1 _ m _ (ys.map (Value.int .i64)) rfl (by simp; omega) src2 (ints_oneCell _ _) (by omega) ?_)
  intro w2 hown2 hgrow2
  have hb2 := hb1.grown hgrow2 hb1.size (fun k h => by cases h; exact Nat.le_refl _)
  go_wp2_with (at_builtin; refine wpList_append_fits_two _ rfl (.tmp 32) (.tmp 35) 94 94 rfl w.heap.size 3 3 i0 1 Tryd.underlying94 Tryd.underlying94 hi hz1 w.heap.size m m _ rfl hown2 _ 0 _ [] rfl rfl (Or.inl rfl) (by simp) (by omega) ?_)
  all_goals
    intro w3 hown3 hgrow3
    have hb3 := hb2.grown hgrow3 hb2.size (fun k h => by cases h; exact Nat.le_refl _)
    go_wp2
    go_ret
    refine ⟨_, _, rfl, ?_, hb3⟩
    simpa using hown3

set_option maxRecDepth 20000 in
set_option maxHeartbeats 400000 in
/-- replaced, where nothing is left. -/
theorem replaced_none (a : Option Addr) (n cap : Nat) (f t : Nat) (a2 : Option Addr) (cap2 : Nat) (w : World) (hft : f ≤ t) (htn : t ≤ n) (hn : n ≤ 1099511627776) (hz : n - (t - f) = 0) :
    Calls Tryd.prog 90 #[.slice a n cap, .int .i64 f, .int .i64 t, .slice a2 0 cap2] w fun e w' => e = .returned (.slice none 0 0) ∧ w' = w := by
  have hz' : ((n : Int) - (t - f) == 0) = true := by simp; omega
  go_enter Tryd.func90, Tryd.ntmps90
  go_wp2
  go_ret
  exact ⟨rfl, rfl⟩

/-- replaced, in all. -/
theorem replaced_any (a : Option Addr) (n cap : Nat) (zs : List Int) (f t : Nat) (a2 : Option Addr) (m cap2 : Nat) (ys : List Int) (w : World) (hs : SInts w a n zs) (hys : SInts w a2 m ys)
    (hft : f ≤ t) (htn : t ≤ n) (hnc : n ≤ cap) (hcap : cap ≤ 9223372036854775807 ∧ n ≤ 1099511627776) (hm : m ≤ 1099511627776) :
    Calls Tryd.prog 90 #[.slice a n cap, .int .i64 f, .int .i64 t, .slice a2 m cap2] w fun e w' => ∃ N a' c', N = n - (t - f) + m ∧ e = .returned (.slice a' N c') ∧ 
      w'.ownsRow w.heap.size 3 1 (.slice a' N c') N ((zs.take f ++ ys ++ zs.drop t).map (Value.int .i64)) ∧ Below w.heap.size w w' := by
  have hzl := hs.1
  have hyl := hys.1
  by_cases hz : n - (t - f) + m = 0
  · obtain rfl : m = 0 := by omega
    refine (replaced_none a n cap f t a2 cap2 w hft htn (by omega) (by omega)).mono ?_
    rintro e w' ⟨rfl, rfl⟩
    refine ⟨0, none, 0, by omega, rfl, ?_, Below.refl _ _⟩
    have : zs.take f ++ ys ++ zs.drop t = [] := List.eq_nil_of_length_eq_zero (by simp only [List.length_append, List.length_take, List.length_drop]; omega)
    rw [this]
    exact World.ownsRow_nil _ _ _ _
  · by_cases hn0 : n = 0
    · subst hn0
      obtain rfl : t = 0 := by omega
      obtain rfl : f = 0 := by omega
      refine (replaced_bare a cap a2 m cap2 ys w hys hcap.1 hm (by omega)).mono ?_
      rintro e w' ⟨a', c', rfl, ho, hb⟩
      refine ⟨m, a', c', by omega, rfl, ?_, hb⟩
      have : zs = [] := List.eq_nil_of_length_eq_zero hzl
      subst this
      simpa using ho
    · obtain ⟨b, off, rfl⟩ : ∃ b off, a = some ⟨b, off, none⟩ := by
        rcases hs.2 with h | ⟨b, off, e, _⟩
        · exact absurd h hn0
        · exact ⟨b, off, e⟩
      exact replaced_some b off n cap zs f t a2 m cap2 ys w hs hn0 hys hft htn hnc hcap hm hz

set_option maxHeartbeats 400000 in
theorem same_any (a : Option Addr) (n cap : Nat) (zs : List Int) (w : World) (hs : SInts w a n zs) (hnc : n ≤ cap) (hcap : cap ≤ 9223372036854775807 ∧ n ≤ 1099511627776) :
    Calls Tryd.prog 78 #[.slice a n cap] w fun e w' => ∃ a' c', e = .returned (.slice a' n c') ∧ w'.ownsRow w.heap.size 3 1 (.slice a' n c') n (zs.map (Value.int .i64)) ∧ Below w.heap.size w w' := by
  go_enter Tryd.func78, Tryd.ntmps78
  go_wp2_with fail
  refine (replaced_any a n cap zs 0 0 none 0 0 [] _ hs ⟨rfl, .inl rfl⟩ (Nat.le_refl _) (Nat.zero_le _) hnc hcap (by omega)).mono ?_
  rintro e w1 ⟨N, a', c', hN, rfl, ho, hb⟩
  obtain rfl : N = n := by omega
  have HO : Hid (w1.ownsRow w.heap.size 3 1 (.slice a' N c') N (zs.map (Value.int .i64))) := by
    have := ho
    simp only [List.take_zero, List.nil_append, List.drop_zero] at this
    exact this
  clear ho hN hs
  go_wp2
  go_ret
  exact ⟨_, _, rfl, HO.out, hb⟩

set_option maxHeartbeats 400000 in
theorem without_any (a : Option Addr) (n cap : Nat) (zs : List Int) (i : Nat) (w : World) (hs : SInts w a n zs) (hi : i < n) (hnc : n ≤ cap) (hcap : cap ≤ 9223372036854775807 ∧ n ≤ 1099511627776) :
    Calls Tryd.prog 72 #[.slice a n cap, .int .i64 i] w fun e w' => ∃ a' c', e = .returned (.slice a' (n - 1) c') ∧ w'.ownsRow w.heap.size 3 1 (.slice a' (n - 1) c') (n - 1) ((zs.take i ++ zs.drop (i + 1)).map (Value.int .i64)) ∧ Below w.heap.size w w' := by
  have hi' : Hid ((i : Int) + 1 = ((i + 1 : Nat) : Int)) := by show _ = _; omega
  go_enter Tryd.func72, Tryd.ntmps72
  go_wp2_with fail
  rw [hi'.out]
  refine (replaced_any a n cap zs i (i + 1) none 0 0 [] _ hs ⟨rfl, .inl rfl⟩ (by omega) (by omega) hnc hcap (by omega)).mono ?_
  rintro e w1 ⟨N, a', c', hN, rfl, ho, hb⟩
  obtain rfl : N = n - 1 := by omega
  have HO : Hid (w1.ownsRow w.heap.size 3 1 (.slice a' (n - 1) c') (n - 1) ((zs.take i ++ zs.drop (i + 1)).map (Value.int .i64))) := by
    have := ho
    simp only [List.append_nil] at this
    exact this
  clear ho hN hs hi'
  go_wp2
  go_ret
  exact ⟨_, _, rfl, HO.out, hb⟩

set_option maxHeartbeats 400000 in
theorem with_any (a : Option Addr) (n cap : Nat) (zs : List Int) (i : Nat) (x : Int) (w : World) (hs : SInts w a n zs) (hi : i ≤ n) (hnc : n ≤ cap) (hcap : cap ≤ 9223372036854775807 ∧ n ≤ 1099511627776) :
    Calls Tryd.prog 89 #[.slice a n cap, .int .i64 i, .int .i64 x] w fun e w' => ∃ a' c', e = .returned (.slice a' (n + 1) c') ∧ w'.ownsRow w.heap.size 3 1 (.slice a' (n + 1) c') (n + 1) ((zs.take i ++ [x] ++ zs.drop i).map (Value.int .i64)) ∧ Below w.heap.size w w' := by
  have hb0 : ∀ o, Below w.heap.size w (w.alloc o) := fun o => (Below.refl _ _).alloc (Nat.le_refl _) o
  go_enter Tryd.func89, Tryd.ntmps89
  go_wp2_with fail
  refine (replaced_any a n cap zs i i _ 1 1 [x] _ (hs.below (hb0 _)) ⟨rfl, .inr ⟨w.heap.size, 0, rfl, ?hc⟩⟩ (Nat.le_refl _) hi hnc hcap (by omega)).mono ?_
  case hc =>
    intro j hj
    obtain rfl : j = 0 := by omega
    simp
  rintro e w1 ⟨N, a', c', hN, rfl, ho, hb⟩
  obtain rfl : N = n + 1 := by omega
  have hb' := below_trans' (hb0 _) hb
  have HO : Hid (w1.ownsRow w.heap.size 3 1 (.slice a' (n + 1) c') (n + 1) ((zs.take i ++ [x] ++ zs.drop i).map (Value.int .i64))) := by
    obtain ⟨h1, h2⟩ := ho
    refine ⟨h1, ?_⟩
    rcases h2 with h2 | ⟨g, cap, cur, hv, hg, r⟩
    · exact .inl h2
    · exact .inr ⟨g, cap, cur, hv, by simp at hg; omega, r⟩
  clear ho hN hs hb0 hb
  go_wp2
  go_ret
  exact ⟨_, _, rfl, HO.out, hb'⟩

end Go.Proofs.YtklpdpdjblakgaaDoor

/- Push -/
namespace Go.Proofs.YtklpdpdjblakgaaDoor
open Go.RowKit
set_option linter.unusedVariables false

/-- The answer's code of a put at a place. -/
def putC (zs : List Int) (x : Int) : Int := if okL zs && inB x 999 then (if zs.length = 8 then 3 else 2) else 0
/-- The values behind it. -/
def putL (zs : List Int) (i : Nat) (x : Int) : List Int := if okL zs && inB x 999 then (if zs.length = 8 then zs else zs.take i ++ [x] ++ zs.drop i) else []

/-- A list and an answer come back, in new memory. -/
def ListRes (zs : List Int) (c v : Int) (e : Ending) (w w' : World) : Prop :=
  ∃ N a' c', e = .returned (.tuple #[.slice a' N c', .agg #[.int .i64 c, .int .i64 v]]) ∧ w'.ownsRow w.heap.size 3 1 (.slice a' N c') N (zs.map (Value.int .i64)) ∧ Below w.heap.size w w'

theorem own_mono {w : World} {base base' : Nat} {e : TypeId} {size : Nat} {v : Value} {n : Nat} {xs : List Value} (h : w.ownsRow base e size v n xs) (hb : base' ≤ base) : w.ownsRow base' e size v n xs := by
  obtain ⟨h1, h2⟩ := h
  refine ⟨h1, ?_⟩
  rcases h2 with h2 | ⟨g, cap, cur, hv, hg, r⟩
  · exact .inl h2
  · exact .inr ⟨g, cap, cur, hv, by omega, r⟩

theorem own_setCell {w : World} {base : Nat} {e : TypeId} {size : Nat} {v : Value} {n : Nat} {xs : List Value} (h : w.ownsRow base e size v n xs) {b o : Nat} (hb : b < base) (u : Value) : (w.setCell ⟨b, o, none⟩ u).ownsRow base e size v n xs :=
  ownsRow_setCell_below h hb u

set_option maxHeartbeats 400000 in
theorem listPut_bad (a : Option Addr) (n cap : Nat) (zs : List Int) (i : Int) (x : Int) (w : World) (hs : SInts w a n zs) (hn : n ≤ 9223372036854775807) (hok : okL zs = false) :
    Calls Tryd.prog 70 #[.slice a n cap, .int .i64 i, .int .i64 x] w fun e w' => ListRes [] 0 0 e w w' := by
  have hb0 : ∀ o, Below w.heap.size w (w.alloc o) := fun o => (Below.refl _ _).alloc (Nat.le_refl _) o
  go_enter Tryd.func70, Tryd.ntmps70
  go_wp2_with fail
  refine (implListOk_any _ _ _ zs _ (hs.below (hb0 _)) hn).mono ?_
  rintro e w1 ⟨rfl, rfl⟩
  go_wp2
  exact bodyPost_ret (v := .tuple #[.slice none 0 0, .agg #[.int .i64 0, .int .i64 0]]) (by simp [results, Tryd.results70, go_sem]) rfl ⟨0, none, 0, rfl, World.ownsRow_nil _ _ _ _, hb0 _⟩

set_option maxHeartbeats 400000 in
theorem listPut_beyond (a : Option Addr) (n cap : Nat) (zs : List Int) (i : Int) (x : Int) (w : World) (hs : SInts w a n zs) (hn : n ≤ 9223372036854775807) (hok : okL zs = true) (hx : inB x 999 = false) :
    Calls Tryd.prog 70 #[.slice a n cap, .int .i64 i, .int .i64 x] w fun e w' => ListRes [] 0 0 e w w' := by
  have hb0 : ∀ o, Below w.heap.size w (w.alloc o) := fun o => (Below.refl _ _).alloc (Nat.le_refl _) o
  go_enter Tryd.func70, Tryd.ntmps70
  go_wp2_with fail
  refine (implListOk_any _ _ _ zs _ (hs.below (hb0 _)) hn).mono ?_
  rintro e w1 ⟨rfl, rfl⟩
  go_wp2_with fail
  refine (within_any _ _ _).mono ?_
  rintro e w1 ⟨rfl, rfl⟩
  go_wp2
  exact bodyPost_ret (v := .tuple #[.slice none 0 0, .agg #[.int .i64 0, .int .i64 0]]) (by simp [results, Tryd.results70, go_sem]) rfl ⟨0, none, 0, rfl, World.ownsRow_nil _ _ _ _, hb0 _⟩

set_option maxHeartbeats 400000 in
theorem listPut_full (a : Option Addr) (cap : Nat) (zs : List Int) (i : Int) (x : Int) (w : World) (hs : SInts w a 8 zs) (hnc : 8 ≤ cap) (hcap : cap ≤ 9223372036854775807) (hok : okL zs = true) (hx : inB x 999 = true) :
    Calls Tryd.prog 70 #[.slice a 8 cap, .int .i64 i, .int .i64 x] w fun e w' => ListRes zs 3 0 e w w' := by
  have hb0 : ∀ o, Below w.heap.size w (w.alloc o) := fun o => (Below.refl _ _).alloc (Nat.le_refl _) o
  go_enter Tryd.func70, Tryd.ntmps70
  go_wp2_with fail
  refine (implListOk_any _ _ _ zs _ (hs.below (hb0 _)) (by omega)).mono ?_
  rintro e w1 ⟨rfl, rfl⟩
  go_wp2_with fail
  refine (within_any _ _ _).mono ?_
  rintro e w1 ⟨rfl, rfl⟩
  go_wp2_with fail
  refine (same_any _ _ _ zs _ (hs.below (hb0 _)) hnc ⟨hcap, by omega⟩).mono ?_
  rintro e w1 ⟨a', c', rfl, ho, hb⟩
  have hb' := below_trans' (hb0 _) hb
  have hc0 := hb.cell (p := ⟨w.heap.size, 0, none⟩) (by simp)
  have hc1 := hb.cell (p := ⟨w.heap.size, 1, none⟩) (by simp)
  have hf0 := hb.frozen (p := ⟨w.heap.size, 0, none⟩) (by simp)
  have hf1 := hb.frozen (p := ⟨w.heap.size, 1, none⟩) (by simp)
  simp at hc0 hc1 hf0 hf1
  have HO : Hid (w1.ownsRow (w.heap.size + 1) 3 1 (.slice a' 8 c') 8 (zs.map (Value.int .i64))) := by
    have := ho
    simp only [World.size_alloc] at this
    exact this
  clear ho hb hs hb0
  go_wp2
  refine bodyPost_ret (v := .tuple #[.slice a' 8 c', .agg #[.int .i64 3, .int .i64 0]]) (by simp [results, Tryd.results70, go_sem, hc0, hc1]) rfl ⟨8, a', c', rfl, own_mono (own_setCell (own_setCell HO.out (by omega) _) (by omega) _) (by omega), (hb'.setCell (Nat.le_refl _) _).setCell (Nat.le_refl _) _⟩

set_option maxHeartbeats 400000 in
theorem listPut_room (a : Option Addr) (n cap : Nat) (zs : List Int) (i : Nat) (x : Int) (w : World) (hs : SInts w a n zs) (hi : i ≤ n) (hnc : n ≤ cap) (hcap : cap ≤ 9223372036854775807 ∧ n ≤ 1099511627776) (hok : okL zs = true) (hx : inB x 999 = true) (h8 : ((n : Int) == 8) = false) :
    Calls Tryd.prog 70 #[.slice a n cap, .int .i64 i, .int .i64 x] w fun e w' => ListRes (zs.take i ++ [x] ++ zs.drop i) 2 0 e w w' := by
  have hb0 : ∀ o, Below w.heap.size w (w.alloc o) := fun o => (Below.refl _ _).alloc (Nat.le_refl _) o
  go_enter Tryd.func70, Tryd.ntmps70
  go_wp2_with fail
  refine (implListOk_any _ _ _ zs _ (hs.below (hb0 _)) (by omega)).mono ?_
  rintro e w1 ⟨rfl, rfl⟩
  go_wp2_with fail
  refine (within_any _ _ _).mono ?_
  rintro e w1 ⟨rfl, rfl⟩
  go_wp2_with fail
  refine (with_any _ _ _ zs _ _ _ (hs.below (hb0 _)) hi hnc hcap).mono ?_
  rintro e w1 ⟨a', c', rfl, ho, hb⟩
  have hb' := below_trans' (hb0 _) hb
  have hc0 := hb.cell (p := ⟨w.heap.size, 0, none⟩) (by simp)
  have hc1 := hb.cell (p := ⟨w.heap.size, 1, none⟩) (by simp)
  have hf0 := hb.frozen (p := ⟨w.heap.size, 0, none⟩) (by simp)
  have hf1 := hb.frozen (p := ⟨w.heap.size, 1, none⟩) (by simp)
  simp at hc0 hc1 hf0 hf1
  have HO : Hid (w1.ownsRow (w.heap.size + 1) 3 1 (.slice a' (n + 1) c') (n + 1) ((zs.take i ++ [x] ++ zs.drop i).map (Value.int .i64))) := by
    have := ho
    simp only [World.size_alloc] at this
    exact this
  clear ho hb hs hb0
  go_wp2
  refine bodyPost_ret (v := .tuple #[.slice a' (n + 1) c', .agg #[.int .i64 2, .int .i64 0]]) (by simp [results, Tryd.results70, go_sem, hc0, hc1]) rfl ⟨n + 1, a', c', rfl, own_mono (own_setCell (own_setCell HO.out (by omega) _) (by omega) _) (by omega), (hb'.setCell (Nat.le_refl _) _).setCell (Nat.le_refl _) _⟩

theorem listPut_any (a : Option Addr) (n cap : Nat) (zs : List Int) (i : Nat) (x : Int) (w : World) (hs : SInts w a n zs) (hi : i ≤ n) (hnc : n ≤ cap) (hcap : cap ≤ 9223372036854775807 ∧ n ≤ 1099511627776) :
    Calls Tryd.prog 70 #[.slice a n cap, .int .i64 i, .int .i64 x] w fun e w' => ListRes (putL zs i x) (putC zs x) 0 e w w' := by
  have hzl := hs.1
  cases hok : okL zs
  · have e1 : putL zs i x = [] := by simp [putL, hok]
    have e2 : putC zs x = 0 := by simp [putC, hok]
    rw [e1, e2]
    exact listPut_bad a n cap zs i x w hs (by omega) hok
  · cases hx : inB x 999
    · have e1 : putL zs i x = [] := by simp [putL, hx]
      have e2 : putC zs x = 0 := by simp [putC, hx]
      rw [e1, e2]
      exact listPut_beyond a n cap zs i x w hs (by omega) hok hx
    · by_cases h8 : n = 8
      · subst h8
        have e1 : putL zs i x = zs := by simp [putL, hok, hx, hzl]
        have e2 : putC zs x = 3 := by simp [putC, hok, hx, hzl]
        rw [e1, e2]
        exact listPut_full a cap zs i x w hs hnc hcap.1 hok hx
      · have e1 : putL zs i x = zs.take i ++ [x] ++ zs.drop i := by simp [putL, hok, hx, hzl, h8]
        have e2 : putC zs x = 2 := by simp [putC, hok, hx, hzl, h8]
        rw [e1, e2]
        exact listPut_room a n cap zs i x w hs hi hnc hcap hok hx (by simp; omega)

set_option maxHeartbeats 400000 in
theorem implStkPush_any (a : Option Addr) (n cap : Nat) (zs : List Int) (x : Int) (w : World) (hs : SInts w a n zs) (hnc : n ≤ cap) (hcap : cap ≤ 9223372036854775807 ∧ n ≤ 1099511627776) :
    Calls Tryd.prog 26 #[.slice a n cap, .int .i64 x] w fun e w' => ListRes (putL zs 0 x) (putC zs x) 0 e w w' := by
  have hb0 : ∀ o, Below w.heap.size w (w.alloc o) := fun o => (Below.refl _ _).alloc (Nat.le_refl _) o
  have key : Hid (∀ w1 : World, SInts w1 a n zs → Calls Tryd.prog 70 #[.slice a n cap, .int .i64 (0 : Nat), .int .i64 x] w1 fun e w' => ListRes (putL zs 0 x) (putC zs x) 0 e w1 w') := fun w1 h => listPut_any a n cap zs 0 x w1 h (Nat.zero_le _) hnc hcap
  generalize putL zs 0 x = L at key ⊢
  generalize putC zs x = C at key ⊢
  go_enter Tryd.func26, Tryd.ntmps26
  go_wp2_with fail
  refine (key.out _ (hs.below (hb0 _))).mono ?_
  rintro e w1 ⟨N, a', c', rfl, ho, hb⟩
  have hb' := below_trans' (hb0 _) hb
  have hc0 := hb.cell (p := ⟨w.heap.size, 0, none⟩) (by simp)
  have hc1 := hb.cell (p := ⟨w.heap.size, 1, none⟩) (by simp)
  have hf0 := hb.frozen (p := ⟨w.heap.size, 0, none⟩) (by simp)
  have hf1 := hb.frozen (p := ⟨w.heap.size, 1, none⟩) (by simp)
  simp at hc0 hc1 hf0 hf1
  have HO : Hid (w1.ownsRow (w.heap.size + 1) 3 1 (.slice a' N c') N (L.map (Value.int .i64))) := by
    have := ho
    simp only [World.size_alloc] at this
    exact this
  clear ho hb hs hb0 key
  go_wp2
  refine bodyPost_ret (v := .tuple #[.slice a' N c', .agg #[.int .i64 C, .int .i64 0]]) (by simp [results, Tryd.results26, go_sem, hc0, hc1]) rfl ⟨N, a', c', rfl, own_mono (own_setCell (own_setCell HO.out (by omega) _) (by omega) _) (by omega), (hb'.setCell (Nat.le_refl _) _).setCell (Nat.le_refl _) _⟩

set_option maxHeartbeats 400000 in
theorem implQuePut_any (a : Option Addr) (n cap : Nat) (zs : List Int) (x : Int) (w : World) (hs : SInts w a n zs) (hnc : n ≤ cap) (hcap : cap ≤ 9223372036854775807 ∧ n ≤ 1099511627776) :
    Calls Tryd.prog 28 #[.slice a n cap, .int .i64 x] w fun e w' => ListRes (putL zs n x) (putC zs x) 0 e w w' := by
  have hb0 : ∀ o, Below w.heap.size w (w.alloc o) := fun o => (Below.refl _ _).alloc (Nat.le_refl _) o
  have key : Hid (∀ w1 : World, SInts w1 a n zs → Calls Tryd.prog 70 #[.slice a n cap, .int .i64 (n : Nat), .int .i64 x] w1 fun e w' => ListRes (putL zs n x) (putC zs x) 0 e w1 w') := fun w1 h => listPut_any a n cap zs n x w1 h (Nat.le_refl _) hnc hcap
  generalize putL zs n x = L at key ⊢
  generalize putC zs x = C at key ⊢
  go_enter Tryd.func28, Tryd.ntmps28
  go_wp2_with fail
  refine (key.out _ (hs.below (hb0 _))).mono ?_
  rintro e w1 ⟨N, a', c', rfl, ho, hb⟩
  have hb' := below_trans' (hb0 _) hb
  have hc0 := hb.cell (p := ⟨w.heap.size, 0, none⟩) (by simp)
  have hc1 := hb.cell (p := ⟨w.heap.size, 1, none⟩) (by simp)
  have hf0 := hb.frozen (p := ⟨w.heap.size, 0, none⟩) (by simp)
  have hf1 := hb.frozen (p := ⟨w.heap.size, 1, none⟩) (by simp)
  simp at hc0 hc1 hf0 hf1
  have HO : Hid (w1.ownsRow (w.heap.size + 1) 3 1 (.slice a' N c') N (L.map (Value.int .i64))) := by
    have := ho
    simp only [World.size_alloc] at this
    exact this
  clear ho hb hs hb0 key
  go_wp2
  refine bodyPost_ret (v := .tuple #[.slice a' N c', .agg #[.int .i64 C, .int .i64 0]]) (by simp [results, Tryd.results28, go_sem, hc0, hc1]) rfl ⟨N, a', c', rfl, own_mono (own_setCell (own_setCell HO.out (by omega) _) (by omega) _) (by omega), (hb'.setCell (Nat.le_refl _) _).setCell (Nat.le_refl _) _⟩

end Go.Proofs.YtklpdpdjblakgaaDoor

/- Inv -/
namespace Go.Proofs.YtklpdpdjblakgaaDoor
open Go.RowKit
set_option linter.unusedVariables false

structure LawInv (w : World) (aw : Option Addr) (Nw cw : Nat) (L : List Int) (c1 : Nat) (C V : Int) (bx n : Nat) (X : List Int) (ag : Option Addr) (Ng cg : Nat) (G : List Int) (c2 : Nat) (W : World) : Prop where
  bel : Below w.heap.size w W
  ow : W.ownsRow w.heap.size 3 1 (.slice aw Nw cw) Nw (L.map (Value.int .i64))
  owlt : ∀ k, (Value.slice aw Nw cw).ownBlock = some k → k < c1
  c10 : W.cell? ⟨c1, 0, none⟩ = some (.int .i64 C)
  c11 : W.cell? ⟨c1, 1, none⟩ = some (.int .i64 V)
  lt0 : w.heap.size ≤ c1
  lt1 : c1 < bx
  ox : W.ownsRow w.heap.size 3 1 (.slice (some ⟨bx, 0, none⟩) n n) n (X.map (Value.int .i64))
  og : W.ownsRow (bx + 1) 3 1 (.slice ag Ng cg) Ng (G.map (Value.int .i64))
  oglt : ∀ k, (Value.slice ag Ng cg).ownBlock = some k → k < c2
  lt2 : bx < c2
  c20 : W.cell? ⟨c2, 0, none⟩ = some (.int .i64 C)
  c21 : W.cell? ⟨c2, 1, none⟩ = some (.int .i64 V)

theorem cell_kept {W W' : World} {b o : Nat} {v : Value} (hb : Below W.heap.size W W') (h : W.cell? ⟨b, o, none⟩ = some v) : W'.cell? ⟨b, o, none⟩ = some v :=
  (hb.cell (World.block_lt_of_cell? W ⟨b, o, none⟩ h)).trans h

section
variable {w : World} {aw : Option Addr} {Nw cw : Nat} {L : List Int} {c1 : Nat} {C V : Int} {bx n : Nat} {X : List Int} {ag : Option Addr} {Ng cg : Nat} {G : List Int} {c2 : Nat} {W W' : World}

theorem LawInv.below (h : LawInv w aw Nw cw L c1 C V bx n X ag Ng cg G c2 W) (hb : Below W.heap.size W W') : LawInv w aw Nw cw L c1 C V bx n X ag Ng cg G c2 W' :=
  { bel := below_trans' h.bel hb, ow := ownsRow_below h.ow hb, owlt := h.owlt, c10 := cell_kept hb h.c10, c11 := cell_kept hb h.c11, lt0 := h.lt0, lt1 := h.lt1,
    ox := ownsRow_below h.ox hb, og := ownsRow_below h.og hb, oglt := h.oglt, lt2 := h.lt2, c20 := cell_kept hb h.c20, c21 := cell_kept hb h.c21 }

theorem LawInv.markX (h : LawInv w aw Nw cw L c1 C V bx n X ag Ng cg G c2 W) {X' : List Int} (hg : W.grownBy W' (some bx)) (ho : W'.ownsRow w.heap.size 3 1 (.slice (some ⟨bx, 0, none⟩) n n) n (X'.map (Value.int .i64))) :
    LawInv w aw Nw cw L c1 C V bx n X' ag Ng cg G c2 W' :=
  { bel := h.bel.grown hg h.bel.size (fun k e => by cases e; have := h.lt0; have := h.lt1; omega),
    ow := h.ow.kept hg (by cases e : (Value.slice aw Nw cw).ownBlock with | none => exact .inl rfl | some k => exact .inr (fun e' => by cases e'; have := h.owlt _ e; have := h.lt1; omega)),
    owlt := h.owlt, c10 := hg.cell h.c10 (fun e => by cases e; exact Nat.lt_irrefl _ h.lt1), c11 := hg.cell h.c11 (fun e => by cases e; exact Nat.lt_irrefl _ h.lt1), lt0 := h.lt0, lt1 := h.lt1, ox := ho,
    og := h.og.kept hg (by cases e : (Value.slice ag Ng cg).ownBlock with | none => exact .inl rfl | some k => exact .inr (fun e' => by cases e'; have := (h.og.lt _ e).1; omega)),
    oglt := h.oglt, lt2 := h.lt2, c20 := hg.cell h.c20 (fun e => by cases e; exact Nat.lt_irrefl _ h.lt2), c21 := hg.cell h.c21 (fun e => by cases e; exact Nat.lt_irrefl _ h.lt2) }

theorem LawInv.markG (h : LawInv w aw Nw cw L c1 C V bx n X ag Ng cg G c2 W) {G' : List Int} (hg : W.grownBy W' (Value.slice ag Ng cg).ownBlock) (ho : W'.ownsRow (bx + 1) 3 1 (.slice ag Ng cg) Ng (G'.map (Value.int .i64))) :
    LawInv w aw Nw cw L c1 C V bx n X ag Ng cg G' c2 W' :=
  { bel := h.bel.grown hg h.bel.size (fun k e => by have := (h.og.lt _ e).1; have := h.lt0; have := h.lt1; omega),
    ow := h.ow.kept hg (by cases e : (Value.slice aw Nw cw).ownBlock with | none => exact .inl rfl | some k => exact .inr (fun e' => by have := h.owlt _ e; have := (h.og.lt _ e'.symm).1; have := h.lt1; omega)),
    owlt := h.owlt, c10 := hg.cell h.c10 (fun e => by have h2 : bx + 1 ≤ c1 := (h.og.lt _ e.symm).1; have := h.lt1; omega), c11 := hg.cell h.c11 (fun e => by have h2 : bx + 1 ≤ c1 := (h.og.lt _ e.symm).1; have := h.lt1; omega), lt0 := h.lt0, lt1 := h.lt1,
    ox := h.ox.kept hg (.inr (fun e' => by have h2 : bx + 1 ≤ bx := (h.og.lt _ e'.symm).1; omega)), og := ho, oglt := h.oglt, lt2 := h.lt2,
    c20 := hg.cell h.c20 (fun e => Nat.lt_irrefl c2 (h.oglt _ e.symm)), c21 := hg.cell h.c21 (fun e => Nat.lt_irrefl c2 (h.oglt _ e.symm)) }

end

/-- The facts behind the program's first call: all stands. -/
theorem law_inv {w w2 w4 w5 : World} {aw : Option Addr} {Nw cw : Nat} {L : List Int} {C V : Int} {n : Nat} {X : List Int} {ag : Option Addr} {Ng cg : Nat} {b : Nat}
    (hb2 : Below w.heap.size w w2) (hb : w.heap.size ≤ b) (ow : w2.ownsRow b 3 1 (.slice aw Nw cw) Nw (L.map (Value.int .i64)))
    (hb4 : Below (w2.heap.size + 1) (w2.alloc (.cells #[.int .i64 C, .int .i64 V] 37)) w4)
    (ox : w4.ownsRow (w2.heap.size + 1) 3 1 (.slice (some ⟨w2.heap.size + 1, 0, none⟩) n n) n (X.map (Value.int .i64)))
    (og : w5.ownsRow w4.heap.size 3 1 (.slice ag Ng cg) Ng (L.map (Value.int .i64))) (hb5 : Below w4.heap.size w4 w5) :
    LawInv w aw Nw cw L w2.heap.size C V (w2.heap.size + 1) n X ag Ng cg L w5.heap.size (w5.alloc (.cells #[.int .i64 C, .int .i64 V] 37)) := by
  have hA : Below w2.heap.size w2 (w2.alloc (.cells #[.int .i64 C, .int .i64 V] 37)) := (Below.refl _ _).alloc (Nat.le_refl _) _
  have hsz : (w2.alloc (.cells #[.int .i64 C, .int .i64 V] 37)).heap.size = w2.heap.size + 1 := by simp
  have hb4' : Below (w2.alloc (.cells #[.int .i64 C, .int .i64 V] 37)).heap.size (w2.alloc (.cells #[.int .i64 C, .int .i64 V] 37)) w4 := by rw [hsz]; exact hb4
  have hB : Below w5.heap.size w5 (w5.alloc (.cells #[.int .i64 C, .int .i64 V] 37)) := (Below.refl _ _).alloc (Nat.le_refl _) _
  have hall := below_trans' (below_trans' (below_trans' hA hb4') hb5) hB
  have h4s := hb4'.size
  have h5s := hb5.size
  have hx := ox.lt _ rfl
  have h2s := hb2.size
  exact
    { bel := below_trans' hb2 hall, ow := own_mono (ownsRow_below ow hall) hb, owlt := fun k e => (ow.lt k e).2,
      c10 := cell_kept (below_trans' (below_trans' hb4' hb5) hB) (by simp), c11 := cell_kept (below_trans' (below_trans' hb4' hb5) hB) (by simp),
      lt0 := h2s, lt1 := Nat.lt_succ_self _, ox := own_mono (ownsRow_below ox (below_trans' hb5 hB)) (by omega),
      og := own_mono (ownsRow_below og hB) (by omega), oglt := fun k e => (og.lt k e).2, lt2 := by omega, c20 := by simp, c21 := by simp }

end Go.Proofs.YtklpdpdjblakgaaDoor

/- Ents -/
namespace Go.Proofs.YtklpdpdjblakgaaDoor
open Go.RowKit
set_option linter.unusedVariables false

theorem Tryd.info84 : (Tryd.prog.info? 84).map (fun i => (i.zero, i.size, i.bytes)) = some (some (.agg #[.int .i64 0, .int .i64 0]), 2, 16) := by kernel_rfl

theorem own2_cell {w : World} {base : Nat} {e : TypeId} {g n cap : Nat} {zs : List Int} (h : w.ownsRow base e 2 (.slice (some ⟨g, 0, none⟩) n cap) n (zs.map (Value.int .i64))) {j : Nat} (hj : j < n * 2) :
    w.cell? ⟨g, j, none⟩ = some (.int .i64 (zs.getD j 0)) := by
  have hz : zs.length = n * 2 := by simpa using h.1
  rw [h.cellAt j hj]
  simp [List.getD, show j < zs.length by omega]

theorem own2_sints {w : World} {base : Nat} {e : TypeId} {a : Option Addr} {n cap : Nat} {zs : List Int} (h : w.ownsRow base e 2 (.slice a n cap) n (zs.map (Value.int .i64))) : SInts w a (n * 2) zs := by
  have hl : zs.length = n * 2 := by simpa using h.1
  rcases h.2 with ⟨e, rfl⟩ | ⟨g, cap', cur, e, hg, hh, hc, hm, hs, ht⟩
  · exact ⟨hl, .inl rfl⟩
  · cases e
    exact ⟨hl, .inr ⟨g, 0, rfl, fun i hi => by rw [Nat.zero_add]; exact own2_cell h hi⟩⟩

theorem own2_shape {w : World} {base : Nat} {e : TypeId} {v : Value} {n : Nat} {zs : List Int} (h : w.ownsRow base e 2 v n (zs.map (Value.int .i64))) : ∃ a cap, v = .slice a n cap ∧ n ≤ cap ∧ (a = none ∧ n = 0 ∧ cap = 0 ∨ ∃ g, a = some ⟨g, 0, none⟩) := by
  rcases h.2 with ⟨rfl, rfl⟩ | ⟨g, cap, cur, rfl, hg, hh, hc, hm, hs, ht⟩
  · exact ⟨none, 0, rfl, Nat.le_refl _, .inl ⟨rfl, rfl, rfl⟩⟩
  · exact ⟨_, cap, rfl, hc, .inr ⟨g, rfl⟩⟩

theorem cell_at (W : World) (cs : Array Value) (t : TypeId) (i : Nat) {b : Nat} (hb : b = W.heap.size) {v : Value} (hv : cs[i]? = some v) : (W.alloc (.cells cs t)).cell? ⟨b, i, none⟩ = some v := by
  subst hb
  simpa using hv

theorem frozen_at (W : World) (cs : Array Value) (t : TypeId) (i : Nat) {b : Nat} (hb : b = W.heap.size) : (W.alloc (.cells cs t)).frozen? ⟨b, i, none⟩ = false := by
  subst hb
  simp

set_option maxHeartbeats 400000 in
theorem toMapEntry_any (k v : Int) (w : World) :
    Calls Tryd.prog 91 #[.agg #[.int .i64 k, .int .i64 v]] w fun e w' => e = .returned (.agg #[.int .i64 k, .int .i64 v]) ∧ Below w.heap.size w w' := by
  go_enter Tryd.func91, Tryd.ntmps91
  go_wp2
  exact bodyPost_ret (v := .agg #[.int .i64 k, .int .i64 v]) (by simp [results, Tryd.results91, go_sem]) rfl ⟨rfl, (((Below.refl _ _).alloc (Nat.le_refl _) _).alloc (by simp) _).alloc (by simp; omega) _⟩

theorem made_ints (n : Nat) : (madeCells #[Value.int .i64 0, Value.int .i64 0] (n * 2)).toList = (List.replicate (n * 2) (0 : Int)).map (Value.int .i64) := by
  apply List.ext_getElem?
  intro i
  by_cases hi : i < n * 2
  · have h01 : i % 2 = 0 ∨ i % 2 = 1 := by omega
    rcases h01 with h | h <;> simp [madeCells, hi, h]
  · simp [madeCells, hi]

theorem take_set2 (ys zs : List Int) (k : Nat) (hy : k * 2 + 1 < ys.length) (hz : k * 2 + 1 < zs.length) (h : ys.take (k * 2) = zs.take (k * 2)) :
    (((ys.set (k * 2) (zs.getD (k * 2) 0)).set (k * 2 + 1) (zs.getD (k * 2 + 1) 0)).take ((k + 1) * 2)) = zs.take ((k + 1) * 2) := by
  rw [show (k + 1) * 2 = k * 2 + 1 + 1 by omega]
  rw [List.take_succ_eq_append_getElem (by simp; omega), List.take_succ_eq_append_getElem (by simp; omega), List.take_succ_eq_append_getElem (by omega), List.take_succ_eq_append_getElem (by omega)]
  rw [List.take_set, List.take_set, List.set_eq_of_length_le (by simp; omega), List.set_eq_of_length_le (by simp; omega), h]
  simp [List.getD, show k * 2 < zs.length by omega, hz]

set_option maxHeartbeats 400000 in
theorem toMapEntryS_any (a : Option Addr) (n cap : Nat) (zs : List Int) (w : World) (hs : SInts w a (n * 2) zs) (hn : n ≤ 1048576) :
    Calls Tryd.prog 77 #[.slice a n cap] w fun e w' => e = .returned (.slice (some ⟨w.heap.size, 0, none⟩) n n) ∧
      w'.ownsRow w.heap.size 84 2 (.slice (some ⟨w.heap.size, 0, none⟩) n n) n (zs.map (Value.int .i64)) ∧ Below w.heap.size w w' := by
  obtain ⟨i0, hi, hz0, hz1, hz2⟩ := info_parts Tryd.info84
  have hzl : Hid (zs.length = n * 2) := hs.1
  go_enter Tryd.func77, Tryd.ntmps77
  go_wp2_with (at_make; refine wpList_make_full _ rfl _ _ 31 rfl w.heap.size 84 i0 (.agg #[.int .i64 0, .int .i64 0]) 2 Tryd.underlying31 hi hz0 hz1 _ _ _ _ n rfl rfl rfl rfl ?b2 ?b3 (Nat.le_refl _) ?_)
  case b2 => rw [hz2]; omega
  case b3 => unfold maxLen; omega
  intro w0 hown0 hgrow0
  rw [made_ints] at hown0
  go_wp2
  go_loopw [4] (fun i wr => ∃ (k : Nat) (ys : List Int), k ≤ n ∧ i = .int .i64 k ∧ wr.ownsRow w.heap.size 84 2 (.slice (some ⟨w.heap.size, 0, none⟩) n n) n (ys.map (Value.int .i64)) ∧ ys.take (k * 2) = zs.take (k * 2) ∧ Below w.heap.size w wr)
    (fun i _ => n - (intOf i).toNat)
  case atStart => exact ⟨0, _, Nat.zero_le _, rfl, hown0, by simp, (Below.refl _ _).grown hgrow0 (Nat.le_refl _) (fun k h => by cases h)⟩
  case round =>
    obtain ⟨k, ys, hk, rfl, hown, htake, hbel⟩ := hrel
    by_cases hlt : k < n
    · obtain ⟨hz, h0 | ⟨b, off, rfl, hc⟩⟩ := hs
      · omega
      · have hyl : ys.length = n * 2 := by simpa using hown.1
        obtain ⟨x, hx⟩ : ∃ x, zs.getD (k * 2) 0 = x := ⟨_, rfl⟩
        obtain ⟨y, hy⟩ : ∃ y, zs.getD (k * 2 + 1) 0 = y := ⟨_, rfl⟩
        have h1 : wr.cell? ⟨b, off + k * 2, none⟩ = some (.int .i64 x) := by rw [← hx]; exact (hbel.cell (World.block_lt_of_cell? w ⟨b, off + k * 2, none⟩ (hc _ (by omega)))).trans (hc _ (by omega))
        have h2 : wr.cell? ⟨b, off + k * 2 + 1, none⟩ = some (.int .i64 y) := by rw [← hy]; exact (hbel.cell (World.block_lt_of_cell? w ⟨b, off + (k * 2 + 1), none⟩ (hc _ (by omega)))).trans (hc _ (by omega))
        have HS : Hid ((((ys.set (k * 2) x).set (k * 2 + 1) y).take ((k + 1) * 2)) = zs.take ((k + 1) * 2)) := by
          show _ = _
          rw [← hx, ← hy]
          exact take_set2 ys zs k (by omega) (by omega) htake
        clear hc hx hy hz htake
        go_wp2_with fail
        refine (toMapEntry_any _ _ _).mono ?_
        rintro e w1 ⟨rfl, hb1⟩
        have hown1 := ownsRow_below hown hb1
        have hbel1 := below_trans' hbel hb1
        have o0 := own2_cell hown1 (j := k * 2) (by omega)
        have o1 := own2_cell hown1 (j := k * 2 + 1) (by omega)
        have f0 := hown1.frozenAt (k * 2)
        have f1 := hown1.frozenAt (k * 2 + 1)
        have R : Hid (((w1.setCell ⟨w.heap.size, k * 2, none⟩ (.int .i64 x)).setCell ⟨w.heap.size, k * 2 + 1, none⟩ (.int .i64 y)).ownsRow w.heap.size 84 2 (.slice (some ⟨w.heap.size, 0, none⟩) n n) n (((ys.set (k * 2) x).set (k * 2 + 1) y).map (Value.int .i64)) ∧ Below w.heap.size w ((w1.setCell ⟨w.heap.size, k * 2, none⟩ (.int .i64 x)).setCell ⟨w.heap.size, k * 2 + 1, none⟩ (.int .i64 y))) :=
          ⟨by simpa using ((hown1.stored (k * 2) (.int .i64 x)).1.stored (k * 2 + 1) (.int .i64 y)).1, (hbel1.setCell (Nat.le_refl _) _).setCell (Nat.le_refl _) _⟩
        clear hown hown1 hbel hbel1 hb1 hyl
        go_wp2
        go_roundw
        case rel => exact ⟨k + 1, _, by omega, by go_num, R.out.1, HS.out, R.out.2⟩
        case measure => simp [intOf]; omega
    · obtain rfl : k = n := by omega
      have hyl : ys.length = k * 2 := by simpa using hown.1
      have e : ys = zs := by
        rw [List.take_of_length_le (by omega), List.take_of_length_le (by have := hzl.out; omega)] at htake
        exact htake
      subst e
      have HO : Hid (wr.ownsRow w.heap.size 84 2 (.slice (some ⟨w.heap.size, 0, none⟩) k k) k (ys.map (Value.int .i64))) := hown
      clear hown htake hyl hs
      go_wp2
      go_ret
      exact ⟨rfl, HO.out, hbel⟩

set_option maxHeartbeats 400000 in
theorem toMapMap_any (a : Option Addr) (n cap : Nat) (zs : List Int) (w : World) (hs : SInts w a (n * 2) zs) (hn : n ≤ 1048576) :
    Calls Tryd.prog 45 #[.agg #[.slice a n cap]] w fun e w' => ∃ g, w.heap.size ≤ g ∧ e = .returned (.agg #[.slice (some ⟨g, 0, none⟩) n n]) ∧
      w'.ownsRow w.heap.size 84 2 (.slice (some ⟨g, 0, none⟩) n n) n (zs.map (Value.int .i64)) ∧ Below w.heap.size w w' := by
  have hb0 : ∀ o o1 o2, Below w.heap.size w (((w.alloc o).alloc o1).alloc o2) := fun o o1 o2 => (((Below.refl _ _).alloc (Nat.le_refl _) o).alloc (by simp) o1).alloc (by simp; omega) o2
  go_enter Tryd.func45, Tryd.ntmps45
  go_wp2_with fail
  refine (toMapEntryS_any _ _ _ zs _ (hs.below (hb0 _ _ _)) hn).mono ?_
  rintro e w1 ⟨rfl, ho, hb⟩
  simp only [World.size_alloc] at ho hb ⊢
  have hb' := (hb0 (.cells #[.slice a n cap] 24) (.cells #[.slice none 0 0] 33) (.cells #[.slice none 0 0] 33)).trans (hb.mono (by omega))
  have c1 := hb.cell (p := ⟨w.heap.size + 1, 0, none⟩) (by show w.heap.size + 1 < w.heap.size + 1 + 1 + 1; omega)
  have c2 := hb.cell (p := ⟨w.heap.size + 1 + 1, 0, none⟩) (by show w.heap.size + 1 + 1 < w.heap.size + 1 + 1 + 1; omega)
  have f1 := hb.frozen (p := ⟨w.heap.size + 1, 0, none⟩) (by show w.heap.size + 1 < w.heap.size + 1 + 1 + 1; omega)
  have f2 := hb.frozen (p := ⟨w.heap.size + 1 + 1, 0, none⟩) (by show w.heap.size + 1 + 1 < w.heap.size + 1 + 1 + 1; omega)
  have al : ∀ (W : World) (o : Obj), Below W.heap.size W (W.alloc o) := fun W o => (Below.refl _ _).alloc (Nat.le_refl _) o
  rw [cell_kept (al _ _) (cell_at (w.alloc _) _ _ 0 (by simp) rfl)] at c1
  rw [cell_at ((w.alloc _).alloc _) _ _ 0 (by simp) rfl] at c2
  rw [(al _ _).frozen (p := ⟨w.heap.size + 1, 0, none⟩) (by simp), frozen_at (w.alloc _) _ _ 0 (by simp)] at f1
  rw [frozen_at ((w.alloc _).alloc _) _ _ 0 (by simp)] at f2
  clear al
  have HO : Hid (w1.ownsRow (w.heap.size + 1 + 1 + 1) 84 2 (.slice (some ⟨w.heap.size + 1 + 1 + 1, 0, none⟩) n n) n (zs.map (Value.int .i64))) := ho
  clear ho hb hs hb0
  go_wp2
  refine bodyPost_ret (v := .agg #[.slice (some ⟨w.heap.size + 1 + 1 + 1, 0, none⟩) n n]) (by simp [results, Tryd.results45, go_sem, c1]) rfl ⟨w.heap.size + 1 + 1 + 1, by omega, rfl, own_mono (own_setCell (own_setCell HO.out (by omega) _) (by omega) _) (by omega), (hb'.setCell (by show w.heap.size ≤ w.heap.size + 1 + 1; omega) _).setCell (by show w.heap.size ≤ w.heap.size + 1; omega) _⟩

set_option maxHeartbeats 400000 in
theorem eqMapEntry_yes (k v : Int) (w : World) :
    Calls Tryd.prog 92 #[.agg #[.int .i64 k, .int .i64 v], .agg #[.int .i64 k, .int .i64 v]] w fun e w' => e = .returned (.bool true) ∧ Below w.heap.size w w' := by
  go_enter Tryd.func92, Tryd.ntmps92
  go_wp2
  go_ret
  exact ⟨rfl, ((Below.refl _ _).alloc (Nat.le_refl _) _).alloc (by simp) _⟩

set_option maxHeartbeats 1000000 in
theorem eqMapEntryS_yes (a a' : Option Addr) (n cap cap' : Nat) (zs : List Int) (w : World) (hs : SInts w a (n * 2) zs) (hs' : SInts w a' (n * 2) zs) (hn : n ≤ 4000000000) :
    Calls Tryd.prog 79 #[.slice a n cap, .slice a' n cap'] w fun e w' => e = .returned (.bool true) ∧ Below w.heap.size w w' := by
  go_enter Tryd.func79, Tryd.ntmps79
  go_wp2
  go_loopw [5] (fun i wr => ∃ k : Nat, k ≤ n ∧ i = .int .i64 k ∧ Below w.heap.size w wr) (fun i _ => n - (intOf i).toNat)
  case atStart => exact ⟨0, Nat.zero_le _, rfl, Below.refl _ _⟩
  case round =>
    obtain ⟨k, hk, rfl, hbel⟩ := hrel
    by_cases hlt : k < n
    · obtain ⟨hz, h0 | ⟨b, off, rfl, hc⟩⟩ := hs
      · omega
      · obtain ⟨_, h0 | ⟨b', off', rfl, hc'⟩⟩ := hs'
        · omega
        · obtain ⟨x, hx⟩ : ∃ x, zs.getD (k * 2) 0 = x := ⟨_, rfl⟩
          obtain ⟨y, hy⟩ : ∃ y, zs.getD (k * 2 + 1) 0 = y := ⟨_, rfl⟩
          have h1 : wr.cell? ⟨b, off + k * 2, none⟩ = some (.int .i64 x) := by rw [← hx]; exact (hbel.cell (World.block_lt_of_cell? w ⟨b, off + k * 2, none⟩ (hc _ (by omega)))).trans (hc _ (by omega))
          have h2 : wr.cell? ⟨b, off + k * 2 + 1, none⟩ = some (.int .i64 y) := by rw [← hy]; exact (hbel.cell (World.block_lt_of_cell? w ⟨b, off + (k * 2 + 1), none⟩ (hc _ (by omega)))).trans (hc _ (by omega))
          have h3 : wr.cell? ⟨b', off' + k * 2, none⟩ = some (.int .i64 x) := by rw [← hx]; exact (hbel.cell (World.block_lt_of_cell? w ⟨b', off' + k * 2, none⟩ (hc' _ (by omega)))).trans (hc' _ (by omega))
          have h4 : wr.cell? ⟨b', off' + k * 2 + 1, none⟩ = some (.int .i64 y) := by rw [← hy]; exact (hbel.cell (World.block_lt_of_cell? w ⟨b', off' + (k * 2 + 1), none⟩ (hc' _ (by omega)))).trans (hc' _ (by omega))
          clear hc hc' hx hy hz
          go_wp2
          go_region_with (go_at_call 92; refine (eqMapEntry_yes _ _ _).mono ?_; rintro e w1 ⟨rfl, hb1⟩)
          all_goals
            have hb2 := below_trans' hbel (below_trans' (Below.refl _ _).drew hb1)
            clear hb1 hbel h1 h2 h3 h4
            go_wp2
            go_roundw
            case rel => exact ⟨k + 1, by omega, by go_num, hb2⟩
            case measure => simp [intOf]; omega
    · have : k = n := by omega
      subst this
      go_wp2
      go_ret
      exact ⟨rfl, hbel⟩

end Go.Proofs.YtklpdpdjblakgaaDoor

/- Ents2 -/
namespace Go.Proofs.YtklpdpdjblakgaaDoor
open Go.RowKit
set_option linter.unusedVariables false

set_option maxHeartbeats 400000 in
theorem eqMapMap_yes (a a' : Option Addr) (n cap cap' : Nat) (zs : List Int) (w : World) (hs : SInts w a (n * 2) zs) (hs' : SInts w a' (n * 2) zs) (hn : n ≤ 4000000000) :
    Calls Tryd.prog 51 #[.agg #[.slice a n cap], .agg #[.slice a' n cap']] w fun e w' => e = .returned (.bool true) ∧ Below w.heap.size w w' := by
  have hb0 : ∀ o o1, Below w.heap.size w ((w.alloc o).alloc o1) := fun o o1 => ((Below.refl _ _).alloc (Nat.le_refl _) o).alloc (by simp) o1
  go_enter Tryd.func51, Tryd.ntmps51
  go_wp2_with fail
  refine (eqMapEntryS_yes _ _ _ _ _ zs _ (hs.below (hb0 _ _)) (hs'.below (hb0 _ _)) hn).mono ?_
  rintro e w1 ⟨rfl, hb1⟩
  have hb := below_trans' (hb0 _ _) hb1
  clear hb1 hb0 hs hs'
  go_wp2
  go_ret
  exact ⟨rfl, hb⟩

set_option maxHeartbeats 400000 in
theorem szMapMap_any (a : Option Addr) (n cap : Nat) (l : Int) (w : World) (hn : n ≤ 9223372036854775807) (h0 : 0 ≤ l) (hl : l ≤ 1048576) :
    Calls Tryd.prog 33 #[.agg #[.slice a n cap], .int .i64 l] w fun e w' => e = .returned (.int .i64 (if (n : Int) ≤ l then l - n else -1)) ∧ Below w.heap.size w w' := by
  by_cases h : (n : Int) ≤ l
  · rw [if_pos h]
    go_enter Tryd.func33, Tryd.ntmps33
    go_wp2
    go_ret
    exact ⟨rfl, (Below.refl _ _).alloc (Nat.le_refl _) _⟩
  · rw [if_neg h]
    go_enter Tryd.func33, Tryd.ntmps33
    go_wp2
    go_ret
    exact ⟨rfl, (Below.refl _ _).alloc (Nat.le_refl _) _⟩

set_option maxHeartbeats 800000 in
theorem markMapEntryS_any (a : Option Addr) (n cap base : Nat) (zs : List Int) (k : Int) (w : World) (ho : w.ownsRow base 84 2 (.slice a n cap) n (zs.map (Value.int .i64))) (hk0 : 0 ≤ k) (hk : k + n ≤ 1000000000000) (hn : n ≤ 1000000000000) :
    Calls Tryd.prog 80 #[.slice a n cap, .int .i64 k] w fun e w' => e = .returned (.int .i64 (k + 2 * n)) ∧ w'.ownsRow base 84 2 (.slice a n cap) n ((marks k (n * 2)).map (Value.int .i64)) ∧ w.grownBy w' (Value.ownBlock (.slice a n cap)) ∧ w'.heap.size = w.heap.size := by
  have hz : zs.length = n * 2 := by simpa using ho.1
  by_cases hn0 : n = 0
  · subst hn0
    obtain rfl : zs = [] := List.eq_nil_of_length_eq_zero hz
    go_enter Tryd.func80, Tryd.ntmps80
    go_wp2
    go_loop [1, 5] (fun s i => s = .int .i64 k ∧ i = .int .i64 0) (fun _ _ => 0)
    case atStart => exact ⟨rfl, rfl⟩
    case round =>
      obtain ⟨rfl, rfl⟩ := hrel
      go_wp2
      go_ret
      exact ⟨by simp, by simpa [marks] using ho, World.grownBy.refl _ _, rfl⟩
  · obtain ⟨g, rfl⟩ : ∃ g, a = some ⟨g, 0, none⟩ := by
      rcases ho.2 with ⟨h, h0⟩ | ⟨g, c, cur, h, _⟩
      · exact absurd h0 hn0
      · cases h; exact ⟨g, rfl⟩
    go_enter Tryd.func80, Tryd.ntmps80
    go_wp2
    go_loopw [1, 5] (fun s i wr => ∃ (j : Nat) (ys : List Int), j ≤ n ∧ i = .int .i64 j ∧ s = .int .i64 (k + 2 * j) ∧ wr.ownsRow base 84 2 (.slice (some ⟨g, 0, none⟩) n cap) n (ys.map (Value.int .i64)) ∧ ys.take (j * 2) = (marks k (n * 2)).take (j * 2) ∧ w.grownBy wr (some g) ∧ wr.heap.size = w.heap.size)
      (fun _ i _ => n - (intOf i).toNat)
    case atStart => exact ⟨0, zs, Nat.zero_le _, rfl, by go_num, ho, by simp, World.grownBy.refl _ _, rfl⟩
    case round =>
      obtain ⟨j, ys, hj, rfl, rfl, hown, htake, hg, hsz⟩ := hrel
      by_cases hlt : j < n
      · have hyl : ys.length = n * 2 := by simpa using hown.1
        have o0 := own2_cell hown (j := j * 2) (by omega)
        have o1 := own2_cell hown (j := j * 2 + 1) (by omega)
        have f0 := hown.frozenAt (j * 2)
        have f1 := hown.frozenAt (j * 2 + 1)
        have st1 := hown.stored (j * 2) (.int .i64 (k + 2 * j))
        have st2 := st1.1.stored (j * 2 + 1) (.int .i64 (k + 2 * j + 1))
        have R : Hid (((wr.setCell ⟨g, j * 2, none⟩ (.int .i64 (k + 2 * j))).setCell ⟨g, j * 2 + 1, none⟩ (.int .i64 (k + 2 * j + 1))).ownsRow base 84 2 (.slice (some ⟨g, 0, none⟩) n cap) n (((ys.set (j * 2) (k + 2 * j)).set (j * 2 + 1) (k + 2 * j + 1)).map (Value.int .i64)) ∧
            ((ys.set (j * 2) (k + 2 * j)).set (j * 2 + 1) (k + 2 * j + 1)).take ((j + 1) * 2) = (marks k (n * 2)).take ((j + 1) * 2) ∧ w.grownBy ((wr.setCell ⟨g, j * 2, none⟩ (.int .i64 (k + 2 * j))).setCell ⟨g, j * 2 + 1, none⟩ (.int .i64 (k + 2 * j + 1))) (some g) ∧ ((wr.setCell ⟨g, j * 2, none⟩ (.int .i64 (k + 2 * j))).setCell ⟨g, j * 2 + 1, none⟩ (.int .i64 (k + 2 * j + 1))).heap.size = w.heap.size) := by
          refine ⟨by simpa using st2.1, ?_, ⟨st2.2.os.trans (st1.2.os.trans hg.os), st2.2.tape.trans (st1.2.tape.trans hg.tape), st2.2.output.trans (st1.2.output.trans hg.output), Nat.le_trans hg.size (Nat.le_trans st1.2.size st2.2.size), fun c hc hne => ?_⟩, by simpa using hsz⟩
          · have e0 : (marks k (n * 2)).getD (j * 2) 0 = k + 2 * j := by rw [marks_get k (by omega)]; omega
            have e1 : (marks k (n * 2)).getD (j * 2 + 1) 0 = k + 2 * j + 1 := by rw [marks_get k (by omega)]; omega
            have := take_set2 ys (marks k (n * 2)) j (by omega) (by rw [marks_len]; omega) htake
            rw [e0, e1] at this
            exact this
          · exact (st2.2.block c (Nat.lt_of_lt_of_le (by omega) st1.2.size) hne).trans ((st1.2.block c (by omega) hne).trans (hg.block c hc hne))
        clear hown htake hg st1 st2 hsz hyl
        go_wp2
        go_roundw
        case rel => exact ⟨j + 1, _, by omega, by go_num, by go_num, R.out⟩
        case measure => simp [intOf]; omega
      · obtain rfl : j = n := by omega
        have hyl : ys.length = j * 2 := by simpa using hown.1
        have e : ys = marks k (j * 2) := by
          rw [List.take_of_length_le (by omega), List.take_of_length_le (by rw [marks_len]; omega)] at htake
          exact htake
        subst e
        have HO : Hid (wr.ownsRow base 84 2 (.slice (some ⟨g, 0, none⟩) j cap) j ((marks k (j * 2)).map (Value.int .i64))) := hown
        clear hown htake hyl
        go_wp2
        go_ret
        exact ⟨rfl, HO.out, hg, hsz⟩

set_option maxHeartbeats 400000 in
theorem heldMapEntryS_any (a : Option Addr) (n cap : Nat) (k : Int) (w : World) (hs : SInts w a (n * 2) (marks k (n * 2))) (hk0 : 0 ≤ k) (hk : k + n ≤ 1000000000000) :
    Calls Tryd.prog 81 #[.slice a n cap, .int .i64 k] w fun e w' => e = .returned (.int .i64 (k + 2 * n)) ∧ w' = w := by
  go_enter Tryd.func81, Tryd.ntmps81
  go_wp2
  go_loop [1, 5] (fun s i => ∃ j : Nat, j ≤ n ∧ i = .int .i64 j ∧ s = .int .i64 (k + 2 * j)) (fun _ i => n - (intOf i).toNat)
  case atStart => exact ⟨0, Nat.zero_le _, rfl, by go_num⟩
  case round =>
    obtain ⟨j, hj, rfl, rfl⟩ := hrel
    by_cases hlt : j < n
    · obtain ⟨hz, h0 | ⟨b, off, rfl, hc⟩⟩ := hs
      · omega
      · have h1 : w.cell? ⟨b, off + j * 2, none⟩ = some (.int .i64 (k + 2 * j)) := by rw [hc _ (by omega), marks_get k (by omega)]; congr 2; omega
        have h2 : w.cell? ⟨b, off + j * 2 + 1, none⟩ = some (.int .i64 (k + 2 * j + 1)) := by rw [Nat.add_assoc, hc _ (by omega), marks_get k (by omega)]; congr 2; omega
        clear hc hz
        go_wp2
        go_round
        case rel => exact ⟨j + 1, by omega, by go_num, by go_num⟩
        case measure => simp [intOf]; omega
    · obtain rfl : j = n := by omega
      clear hs
      go_wp2
      go_ret
      exact ⟨rfl, rfl⟩

end Go.Proofs.YtklpdpdjblakgaaDoor
