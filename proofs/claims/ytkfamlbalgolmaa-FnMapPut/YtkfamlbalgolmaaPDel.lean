/- What the laws over MapDel and MapPut of drawn entries want. -/
import Derived.Test.YtkfamlbalgolmaaPMap
import Derived.Test.YtkfamlbalgolmaaMapM
import Derived.Test.YtkfamlbalgolmaaSpecDel
namespace Go.Proofs.Ytkfamlbalgolmaa
open Go.ChangeShapes Go.WideShapes Go.ChangeAt Go.RowKit
set_option linter.unusedVariables false

theorem own2_room {w : World} {base : Nat} {a : Option Addr} {N c : Nat} {xs : List Value} (h : w.ownsRow base 41 2 (.slice a N c) N xs) : N ≤ c ∧ c ≤ 9223372036854775807 := by
  rcases h.2 with ⟨e, h0⟩ | ⟨g, cap, cur, e, hg, hh, hc, hm, _⟩
  · cases e; exact ⟨by omega, by omega⟩
  · cases e; unfold maxLen at hm; exact ⟨hc, by omega⟩

set_option maxHeartbeats 1000000 in
/-- tgMap of two with the same entries says yes. -/
theorem tgMap_yes (a a' : Option Addr) (n cap cap' : Nat) (zs : List Int) (w : World) (hs : SInts w a (n * 2) zs) (hs' : SInts w a' (n * 2) zs) (hn : n ≤ 1048576) :
    Calls Try.prog 12 #[.agg #[.slice a n cap], .agg #[.slice a' n cap']] w fun e w' => e = .returned (.bool true) ∧ Below w.heap.size w w' := by
  have B2 := below_trans' (al1 w (.cells #[.slice a n cap] 25)) (al1 _ (.cells #[.slice a' n cap'] 25))
  have c0 := cell_kept (al1 _ (.cells #[.slice a' n cap'] 25)) (cell_at w #[.slice a n cap] 25 0 rfl (v := .slice a n cap) rfl)
  have c1 := cell_at (w.alloc (.cells #[.slice a n cap] 25)) #[.slice a' n cap'] 25 0 (b := w.heap.size + 1) (by simp) (v := .slice a' n cap') rfl
  go_enter Try.func12, Try.ntmps12
  go_wp2
  have H0 : Hid (((w.alloc (.cells #[.slice a n cap] 25)).alloc (.cells #[.slice a' n cap'] 25)).cell? ⟨w.heap.size, 0, none⟩ = some (.slice a n cap) ∧ ((w.alloc (.cells #[.slice a n cap] 25)).alloc (.cells #[.slice a' n cap'] 25)).cell? ⟨w.heap.size + 1, 0, none⟩ = some (.slice a' n cap') ∧ Below w.heap.size w ((w.alloc (.cells #[.slice a n cap] 25)).alloc (.cells #[.slice a' n cap'] 25))) := ⟨c0, c1, B2⟩
  clear c0 c1 B2
  go_loopw [5] (fun i wr => ∃ k : Nat, k ≤ n ∧ i = .int .i64 k ∧ wr.cell? ⟨w.heap.size, 0, none⟩ = some (.slice a n cap) ∧ wr.cell? ⟨w.heap.size + 1, 0, none⟩ = some (.slice a' n cap') ∧ Below w.heap.size w wr) (fun i _ => n - (intOf i).toNat)
  case atStart => exact ⟨0, Nat.zero_le _, rfl, H0.out⟩
  case round =>
    obtain ⟨k, hk, rfl, p0, q0, hB⟩ := hrel
    clear H0
    have HB : Hid (wr.cell? ⟨w.heap.size, 0, none⟩ = some (.slice a n cap) ∧ wr.cell? ⟨w.heap.size + 1, 0, none⟩ = some (.slice a' n cap') ∧ Below w.heap.size w wr) := ⟨p0, q0, hB⟩
    by_cases hlt : k < n
    · obtain ⟨_, h0 | ⟨b, o, rfl, hc⟩⟩ := hs.below hB
      · omega
      obtain ⟨_, h0 | ⟨b', o', rfl, hc'⟩⟩ := hs'.below hB
      · omega
      obtain ⟨x, hx⟩ : ∃ x, zs.getD (k * 2) 0 = x := ⟨_, rfl⟩
      obtain ⟨y, hy⟩ : ∃ y, zs.getD (k * 2 + 1) 0 = y := ⟨_, rfl⟩
      have n0 : wr.cell? ⟨b, o + k * 2, none⟩ = some (.int .i64 x) := by rw [← hx]; exact hc (k * 2) (by omega)
      have n1 : wr.cell? ⟨b, o + k * 2 + 1, none⟩ = some (.int .i64 y) := by rw [← hy]; exact hc (k * 2 + 1) (by omega)
      have m0 : wr.cell? ⟨b', o' + k * 2, none⟩ = some (.int .i64 x) := by rw [← hx]; exact hc' (k * 2) (by omega)
      have m1 : wr.cell? ⟨b', o' + k * 2 + 1, none⟩ = some (.int .i64 y) := by rw [← hy]; exact hc' (k * 2 + 1) (by omega)
      clear hc hc' hx hy hB
      go_wp2
      go_region_held_law (fun V => V.cell? ⟨w.heap.size, 0, none⟩ = some (.slice (some ⟨b, o, none⟩) n cap) ∧ V.cell? ⟨w.heap.size + 1, 0, none⟩ = some (.slice (some ⟨b', o', none⟩) n cap') ∧ V.cell? ⟨b, o + k * 2, none⟩ = some (.int .i64 x) ∧ V.cell? ⟨b, o + k * 2 + 1, none⟩ = some (.int .i64 y) ∧ V.cell? ⟨b', o' + k * 2, none⟩ = some (.int .i64 x) ∧ V.cell? ⟨b', o' + k * 2 + 1, none⟩ = some (.int .i64 y)) (first | (go_keep; done)) (fail)
      go_wp2
      go_roundw
      case rel => exact ⟨k + 1, by omega, by go_num, HB.out.1, HB.out.2.1, HB.out.2.2.drew⟩
      case measure => simp [intOf]; omega
    · obtain rfl : k = n := by omega
      go_wp2
      go_ret
      exact ⟨rfl, hB⟩

/-- Entries in a variable, others in another, and an answer. -/
structure PD (w : World) (M : Nat) (a : Option Addr) (N c : Nat) (L : List Int) (X : Nat) (ax : Option Addr) (nx cx : Nat) (D : List Int) (Y : Nat) (C V : Int) (W : World) : Prop where
  bel : Below w.heap.size w W
  m : W.cell? ⟨M, 0, none⟩ = some (.slice a N c)
  s : SInts W a (N * 2) L
  x : W.cell? ⟨X, 0, none⟩ = some (.slice ax nx cx)
  sx : SInts W ax (nx * 2) D
  y0 : W.cell? ⟨Y, 0, none⟩ = some (.int .i64 C)
  y1 : W.cell? ⟨Y, 1, none⟩ = some (.int .i64 V)
theorem PD.below {w : World} {M : Nat} {a : Option Addr} {N c : Nat} {L : List Int} {X : Nat} {ax : Option Addr} {nx cx : Nat} {D : List Int} {Y : Nat} {C V : Int} {W W' : World} (h : PD w M a N c L X ax nx cx D Y C V W) (hb : Below W.heap.size W W') : PD w M a N c L X ax nx cx D Y C V W' :=
  ⟨below_trans' h.bel hb, cell_kept hb h.m, h.s.below hb, cell_kept hb h.x, h.sx.below hb, cell_kept hb h.y0, cell_kept hb h.y1⟩
theorem PD.cells {w : World} {M : Nat} {a : Option Addr} {N c : Nat} {L : List Int} {X : Nat} {ax : Option Addr} {nx cx : Nat} {D : List Int} {Y : Nat} {C V : Int} {W : World} (h : PD w M a N c L X ax nx cx D Y C V W) : W.cell? ⟨M, 0, none⟩ = some (.slice a N c) ∧ W.cell? ⟨X, 0, none⟩ = some (.slice ax nx cx) ∧ W.cell? ⟨Y, 0, none⟩ = some (.int .i64 C) ∧ W.cell? ⟨Y, 1, none⟩ = some (.int .i64 V) := ⟨h.m, h.x, h.y0, h.y1⟩

end Go.Proofs.Ytkfamlbalgolmaa
