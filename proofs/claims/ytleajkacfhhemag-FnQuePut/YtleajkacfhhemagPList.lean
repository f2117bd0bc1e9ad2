/- What the laws over drawn lists want: the argument's bytes, tgOk, ListTake at any capacity. -/
import Derived.Test.YtleajkacfhhemagVals
import Derived.Test.YtleajkacfhhemagFrame
import Derived.Test.YtleajkacfhhemagFirst
import Derived.Test.YtleajkacfhhemagTake
import Derived.Test.YtleajkacfhhemagMapOk
namespace Go.Proofs.Ytleajkacfhhemag
open Go.ChangeShapes Go.WideShapes Go.ChangeAt Go.RowKit
set_option linter.unusedVariables false

theorem Try.cells5 : Try.prog.cellsOf 5 = 1 := by kernel_rfl

/-- What the reading of an argument tells of a slice of bytes. -/
theorem sbytes_of_open {H : Type} {enc : TypeId × Value → H} {W : World} {a0 : Option Addr} {len0 cap0 : Nat} {d0 : DataW H} {p0 : List MemPlace}
    (h0 : DataW.Trod enc Try.prog W 0 (fun _ => true) true 22 (.slice a0 len0 cap0) d0 p0) : SBytes W a0 len0 ∧ len0 ≤ cap0 ∧ len0 ≤ 9223372036854775807 := by
  obtain ⟨fuel, hf⟩ := h0
  rcases open_ints Try.underlying22 Try.underlying5 Try.cells5 hf with ⟨hcs, _⟩ | ⟨x, l, c, zs, hcs, _, hl, hm, hz, _, hcell, hwz⟩
  · simp [Value.cells] at hcs
    obtain ⟨rfl, rfl, rfl⟩ := hcs
    exact ⟨.inl rfl, Nat.le_refl _, by omega⟩
  · simp [Value.cells] at hcs
    obtain ⟨rfl, rfl, rfl⟩ := hcs
    unfold maxLen at hm
    refine ⟨?_, hl, by omega⟩
    by_cases h0 : len0 = 0
    · exact .inl h0
    · obtain ⟨b, off, spot⟩ := x
      have hc := hcell 0 (by simp at hz; omega)
      have hspot : spot = none := by simpa [Addr.add] using World.cell?_spot hc
      subst hspot
      refine .inr ⟨b, off, rfl, fun i hi => ?_⟩
      have := hcell i (by simp at hz; omega)
      rw [Addr.add_lit] at this
      have hb := range_u8 hwz i
      rw [List.getD_eq_getElem?_getD] at this
      exact ⟨_, by omega, by omega, this⟩

/-- The reader behind l20Open. -/
theorem rd_open (w : World) (a : Option Addr) (n m c : Nat) (hs : SBytes w a n) (hm : m ≤ n) (h3 : m ≤ 3000) : Rd (w.alloc (.cells #[.slice a m c, .int .i64 0] 51)) w.heap.size 0 := by
  refine ⟨a, m, c, by show (w.heap.push _)[w.heap.size]? = _; simp, h3, ?_⟩
  rcases hs with h0 | ⟨b, off, ha, hc⟩
  · exact .inl (by omega)
  · by_cases h0 : m = 0
    · exact .inl h0
    · obtain ⟨x, _, _, hx⟩ := hc 0 (by omega)
      have hl := World.block_lt_of_cell? w ⟨b, off + 0, none⟩ hx
      refine .inr ⟨b, off, ha, hl, fun i hi => ?_⟩
      obtain ⟨x, x0, x1, hx⟩ := hc i (by omega)
      exact ⟨x, x0, x1, (World.cell?_alloc_lt w _ ⟨b, off + i, none⟩ hl).trans hx⟩

/-- What a draw of a list answers. -/
def DrawnL (w : World) (e : Ending) (w' : World) : Prop :=
  ∃ (L : List Int) (N : Nat) (a : Option Addr) (c : Nat), e = .returned (.slice a N c) ∧ w'.ownsRow w.heap.size 3 1 (.slice a N c) N (L.map (Value.int .i64)) ∧ N ≤ 9 ∧ (∀ x ∈ L, -1 ≤ x ∧ x ≤ 1000) ∧ (∃ g, a = some ⟨g, 0, none⟩) ∧ Below w.heap.size w w'

theorem drawn_of {w w1 w' : World} {e : Ending} {o : Obj} (h1 : w1 = w.alloc o) (h : Drawn w.heap.size 0 w1 e w') : DrawnL w e w' := by
  obtain ⟨L, N, a, c, q, he, I, hN, hq⟩ := h
  subst h1
  exact ⟨L, N, a, c, he, own_mono I.own (by simp), hN, I.rng, I.shape, ((Below.refl w.heap.size w).alloc (Nat.le_refl _) _).trans I.bel⟩

set_option maxHeartbeats 400000 in
theorem drawListTake_any (a : Option Addr) (n cap : Nat) (w : World) (hs : SBytes w a n) (hc : n ≤ cap) (hn : n ≤ 1048576) :
    Calls Try.prog 17 #[.slice a n cap] w (DrawnL w) := by
  go_enter Try.func17, Try.ntmps17
  go_wp2_with fail
  refine (open_any a n cap w hc hn).mono ?_
  rintro e w1 ⟨m, c, ⟨hm, h3⟩, rfl, hw1⟩
  have hrd : Rd w1 w.heap.size 0 := by rw [hw1]; exact rd_open w a n m c hs hm h3
  have hsz : w.heap.size < w1.heap.size := by rw [hw1]; simp
  have HW : Hid (w1 = w.alloc (.cells #[.slice a m c, .int .i64 0] 51)) := hw1
  clear hw1
  go_wp2_with fail
  refine (vals_any w.heap.size 0 6 w1 hrd hsz (by omega) (by omega) (by omega)).mono ?_
  rintro e w2 h2
  have HD := drawn_of HW.out h2
  obtain ⟨L, N, a2, c2, rfl, ho, hN, hrng, hg, hb⟩ := HD
  clear h2
  have HG : Hid (∃ g, a2 = some ⟨g, 0, none⟩) := hg
  clear hg
  go_wp2
  go_ret
  exact ⟨L, N, a2, c2, rfl, ho, hN, hrng, HG.out, hb⟩

set_option maxHeartbeats 400000 in
/-- tgInts of two slices with the same numbers says yes. -/
theorem tgInts_yes (a a' : Option Addr) (n cap cap' : Nat) (zs : List Int) (w : World) (hs : SInts w a n zs) (hs' : SInts w a' n zs) (hn : n ≤ 9223372036854775807) :
    Calls Try.prog 9 #[.slice a n cap, .slice a' n cap'] w fun e w' => e = .returned (.bool true) ∧ Below w.heap.size w w' := by
  go_enter Try.func9, Try.ntmps9
  go_wp2
  go_loopw [5] (fun i wr => ∃ k : Nat, k ≤ n ∧ i = .int .i64 k ∧ Below w.heap.size w wr) (fun i _ => n - (intOf i).toNat)
  case atStart => exact ⟨0, Nat.zero_le _, rfl, Below.refl _ _⟩
  case round =>
    obtain ⟨k, hk, rfl, hbel⟩ := hrel
    by_cases hlt : k < n
    · obtain ⟨hz, h0 | ⟨b, off, rfl, hc⟩⟩ := hs
      · omega
      · obtain ⟨_, h0 | ⟨b', off', rfl, hc'⟩⟩ := hs'
        · omega
        · obtain ⟨x, hx⟩ : ∃ x, zs.getD k 0 = x := ⟨_, rfl⟩
          have h1 : wr.cell? ⟨b, off + k, none⟩ = some (.int .i64 x) := by rw [← hx]; exact (hbel.cell (World.block_lt_of_cell? w ⟨b, off + k, none⟩ (hc k hlt))).trans (hc k hlt)
          have h2 : wr.cell? ⟨b', off' + k, none⟩ = some (.int .i64 x) := by rw [← hx]; exact (hbel.cell (World.block_lt_of_cell? w ⟨b', off' + k, none⟩ (hc' k hlt))).trans (hc' k hlt)
          clear hc hc' hx
          go_wp2
          go_region
          all_goals go_wp2
          all_goals
            go_roundw
            case rel => exact ⟨k + 1, by omega, by go_num, hbel.drew⟩
            case measure => simp [intOf]; omega
    · have : k = n := by omega
      subst this
      go_wp2
      go_ret
      exact ⟨rfl, hbel⟩

set_option maxHeartbeats 400000 in
theorem tgOk_any (w : World) : Calls Try.prog 12 #[] w fun e w' => e = .returned (.bool true) ∧ Below w.heap.size w w' := by
  have e0 : okM [] 0 = true := by decide
  go_enter Try.func12, Try.ntmps12
  go_wp2_with fail
  refine (implMapOk_any none 0 0 [] w ⟨rfl, .inl rfl⟩ (by omega)).mono ?_
  rintro e w1 ⟨rfl, hb⟩
  rw [e0]
  go_wp2
  go_ret
  exact ⟨rfl, hb⟩

/-- An own row: how long, and its room. -/
theorem own_room {w : World} {base : Nat} {a : Option Addr} {N c : Nat} {L : List Int} (h : w.ownsRow base 3 1 (.slice a N c) N (L.map (Value.int .i64))) : SInts w a N L ∧ N ≤ c ∧ c ≤ 9223372036854775807 := by
  obtain ⟨a', c', e, hs⟩ := own_shape h
  cases e
  refine ⟨hs, ?_⟩
  rcases h.2 with ⟨e, h0⟩ | ⟨g, cap, cur, e, hg, hh, hc, hm, _⟩
  · cases e; exact ⟨by omega, by omega⟩
  · cases e; unfold maxLen at hm; exact ⟨hc, by omega⟩

theorem take_first {zs : List Int} (h : okL zs = true) : takeC zs = firstC zs ∧ takeV zs = firstV zs := by
  cases zs with
  | nil => exact ⟨rfl, rfl⟩
  | cons x r => exact ⟨by simp [takeC, firstC, h], by simp [takeV, firstV, h]⟩

theorem implListTake_cap (a : Option Addr) (n cap : Nat) (zs : List Int) (w : World) (hs : SInts w a n zs) (hnc : n ≤ cap) (hcap : cap ≤ 9223372036854775807) (hn : n ≤ 1048576) (hok : okL zs = true) :
    Calls Try.prog 13 #[.slice a n cap] w fun e w' => ListRes (takeL zs) (takeC zs) (takeV zs) e w w' := by
  have hzl := hs.1
  match zs, hzl with
  | [], hzl =>
    have h0 : n = 0 := by simpa using hzl.symm
    subst h0
    exact implListTake_none _ cap w
  | x :: r, hzl =>
    have e1 : takeL (x :: r) = r := by simp [takeL, hok]
    have e2 : takeC (x :: r) = 2 := by simp [takeC, hok]
    have e3 : takeV (x :: r) = x := by simp [takeV, hok]
    rw [e1, e2, e3]
    exact implListTake_some a n cap x r w hs hnc ⟨hcap, by omega⟩ hok

end Go.Proofs.Ytleajkacfhhemag
