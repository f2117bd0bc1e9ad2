/- What the laws over drawn entries want. -/
import Derived.Test.YtkfamlbalgolmaaLKey
import Derived.Test.YtkfamlbalgolmaaFrame
import Derived.Test.YtkfamlbalgolmaaGet
import Derived.Test.YtkfamlbalgolmaaCount
import Derived.Deep.RegionHeldLaw
namespace Go.Proofs.Ytkfamlbalgolmaa
open Go.ChangeShapes Go.WideShapes Go.ChangeAt Go.RowKit
set_option linter.unusedVariables false

theorem Try.cells5 : Try.prog.cellsOf 5 = 1 := by kernel_rfl

/-- What the reading of an argument tells of a slice of bytes. -/
theorem sbytes_of_open {H : Type} {enc : TypeId × Value → H} {W : World} {a0 : Option Addr} {len0 cap0 : Nat} {d0 : DataW H} {p0 : List MemPlace}
    (h0 : DataW.Trod enc Try.prog W 0 (fun _ => true) true 22 (.slice a0 len0 cap0) d0 p0) : SBytes W a0 len0 ∧ len0 ≤ cap0 ∧ len0 ≤ 9223372036854775807 := by
  obtain ⟨fuel, hf⟩ := h0
  rcases open_ints Try.underlying22 Try.underlying5 Try.cells5 hf with ⟨hcs, _⟩ | ⟨x, l, c, zs, hcs, _, hl, hm, hz, _, hcell, hwz⟩
  · simp [Value.cells] at hcs
    obtain ⟨rfl, rfl, rfl⟩ := hcs
    exact ⟨.inl rfl, Nat.le_refl _, by omega⟩
  · simp [Value.cells] at hcs
    obtain ⟨rfl, rfl, rfl⟩ := hcs
    unfold maxLen at hm
    refine ⟨?_, hl, by omega⟩
    by_cases h0 : len0 = 0
    · exact .inl h0
    · obtain ⟨b, off, spot⟩ := x
      have hc := hcell 0 (by simp at hz; omega)
      have hspot : spot = none := by simpa [Addr.add] using World.cell?_spot hc
      subst hspot
      refine .inr ⟨b, off, rfl, fun i hi => ?_⟩
      have := hcell i (by simp at hz; omega)
      rw [Addr.add_lit] at this
      have hb := range_u8 hwz i
      rw [List.getD_eq_getElem?_getD] at this
      exact ⟨_, by omega, by omega, this⟩

set_option maxHeartbeats 400000 in
theorem tgOk_any (w : World) : Calls Try.prog 15 #[] w fun e w' => e = .returned (.bool true) ∧ Below w.heap.size w w' := by
  have e0 : okM [] 0 = true := by decide
  go_enter Try.func15, Try.ntmps15
  go_wp2_with fail
  refine (implMapOk_any none 0 0 [] w ⟨rfl, .inl rfl⟩ (by omega)).mono ?_
  rintro e w1 ⟨rfl, hb⟩
  rw [e0]
  go_wp2
  go_ret
  exact ⟨rfl, hb⟩

set_option maxHeartbeats 400000 in
theorem drawMapNext_any (a : Option Addr) (n cap : Nat) (w : World) (hs : SBytes w a n) (hc : n ≤ cap) (hn : n ≤ 1048576) :
    Calls Try.prog 23 #[.slice a n cap] w (DrawnMK w) := by
  have A := al1 w (.cells #[.slice none 0 0] 25)
  have z0 := cell_at w #[.slice none 0 0] 25 0 rfl (v := .slice none 0 0) rfl
  have zf := frozen_at w #[.slice none 0 0] 25 0 rfl
  have hs1 := sbytes_below hs A
  have hwz : w.heap.size < (w.alloc (.cells #[.slice none 0 0] 25)).heap.size := by simp
  go_enter Try.func23, Try.ntmps23
  go_wp2_with fail
  refine (drawMapGet_any a n cap _ hs1 hc hn).mono ?_
  generalize w.alloc (.cells #[.slice none 0 0] 25) = w0 at A z0 zf hs1 hwz ⊢
  rintro e w2 ⟨L, N, a2, c2, x, rfl, ho2, hN, hb2⟩
  have z1 := cell_kept hb2 z0
  have f1 := (hb2.frozen (p := ⟨w.heap.size, 0, none⟩) hwz).trans zf
  have H3 : Hid (w2.ownsRow w0.heap.size 41 2 (.slice a2 N c2) N (L.map (Value.int .i64)) ∧ Below w.heap.size w w2 ∧ w.heap.size < w0.heap.size) := ⟨ho2, below_trans' A hb2, hwz⟩
  clear ho2 hb2 A z0 zf hs hs1
  go_wp2
  refine bodyPost_ret (v := .tuple #[.agg #[.slice a2 N c2], .int .i64 x]) (by simp [results, Try.results23, go_sem, z1]) rfl ⟨L, N, a2, c2, x, rfl, ?_, hN, H3.out.2.1.setCell (p := ⟨w.heap.size, 0, none⟩) (Nat.le_refl _) _⟩
  exact own_mono (ownsRow_setCell_other H3.out.1 (fun e => by have := (own_typed H3.out.1 e).1; have := H3.out.2.2; dsimp only at *; omega) _) (by have := H3.out.2.2; omega)

set_option maxHeartbeats 400000 in
theorem drawMapCount_any (a : Option Addr) (n cap : Nat) (w : World) (hs : SBytes w a n) (hc : n ≤ cap) (hn : n ≤ 1048576) :
    Calls Try.prog 26 #[.slice a n cap] w (DrawnMK w) := by
  have A := al1 w (.cells #[.slice none 0 0] 25)
  have z0 := cell_at w #[.slice none 0 0] 25 0 rfl (v := .slice none 0 0) rfl
  have zf := frozen_at w #[.slice none 0 0] 25 0 rfl
  have hs1 := sbytes_below hs A
  have hwz : w.heap.size < (w.alloc (.cells #[.slice none 0 0] 25)).heap.size := by simp
  go_enter Try.func26, Try.ntmps26
  go_wp2_with fail
  refine (drawMapGet_any a n cap _ hs1 hc hn).mono ?_
  generalize w.alloc (.cells #[.slice none 0 0] 25) = w0 at A z0 zf hs1 hwz ⊢
  rintro e w2 ⟨L, N, a2, c2, x, rfl, ho2, hN, hb2⟩
  have z1 := cell_kept hb2 z0
  have f1 := (hb2.frozen (p := ⟨w.heap.size, 0, none⟩) hwz).trans zf
  have H3 : Hid (w2.ownsRow w0.heap.size 41 2 (.slice a2 N c2) N (L.map (Value.int .i64)) ∧ Below w.heap.size w w2 ∧ w.heap.size < w0.heap.size) := ⟨ho2, below_trans' A hb2, hwz⟩
  clear ho2 hb2 A z0 zf hs hs1
  go_wp2
  refine bodyPost_ret (v := .tuple #[.agg #[.slice a2 N c2], .int .i64 x]) (by simp [results, Try.results26, go_sem, z1]) rfl ⟨L, N, a2, c2, x, rfl, ?_, hN, H3.out.2.1.setCell (p := ⟨w.heap.size, 0, none⟩) (Nat.le_refl _) _⟩
  exact own_mono (ownsRow_setCell_other H3.out.1 (fun e => by have := (own_typed H3.out.1 e).1; have := H3.out.2.2; dsimp only at *; omega) _) (by have := H3.out.2.2; omega)

set_option maxHeartbeats 400000 in
theorem drawMapDel_any (a : Option Addr) (n cap : Nat) (w : World) (hs : SBytes w a n) (hc : n ≤ cap) (hn : n ≤ 1048576) :
    Calls Try.prog 17 #[.slice a n cap] w (DrawnMK w) := by
  have A := al1 w (.cells #[.slice none 0 0] 25)
  have z0 := cell_at w #[.slice none 0 0] 25 0 rfl (v := .slice none 0 0) rfl
  have zf := frozen_at w #[.slice none 0 0] 25 0 rfl
  have hs1 := sbytes_below hs A
  have hwz : w.heap.size < (w.alloc (.cells #[.slice none 0 0] 25)).heap.size := by simp
  go_enter Try.func17, Try.ntmps17
  go_wp2_with fail
  refine (drawMapGet_any a n cap _ hs1 hc hn).mono ?_
  generalize w.alloc (.cells #[.slice none 0 0] 25) = w0 at A z0 zf hs1 hwz ⊢
  rintro e w2 ⟨L, N, a2, c2, x, rfl, ho2, hN, hb2⟩
  have z1 := cell_kept hb2 z0
  have f1 := (hb2.frozen (p := ⟨w.heap.size, 0, none⟩) hwz).trans zf
  have H3 : Hid (w2.ownsRow w0.heap.size 41 2 (.slice a2 N c2) N (L.map (Value.int .i64)) ∧ Below w.heap.size w w2 ∧ w.heap.size < w0.heap.size) := ⟨ho2, below_trans' A hb2, hwz⟩
  clear ho2 hb2 A z0 zf hs hs1
  go_wp2
  refine bodyPost_ret (v := .tuple #[.agg #[.slice a2 N c2], .int .i64 x]) (by simp [results, Try.results17, go_sem, z1]) rfl ⟨L, N, a2, c2, x, rfl, ?_, hN, H3.out.2.1.setCell (p := ⟨w.heap.size, 0, none⟩) (Nat.le_refl _) _⟩
  exact own_mono (ownsRow_setCell_other H3.out.1 (fun e => by have := (own_typed H3.out.1 e).1; have := H3.out.2.2; dsimp only at *; omega) _) (by have := H3.out.2.2; omega)

/-- Entries in a variable, and an answer in another. -/
structure GS (w : World) (M : Nat) (a : Option Addr) (N c : Nat) (L : List Int) (X : Nat) (C V : Int) (W : World) : Prop where
  bel : Below w.heap.size w W
  m : W.cell? ⟨M, 0, none⟩ = some (.slice a N c)
  s : SInts W a (N * 2) L
  x0 : W.cell? ⟨X, 0, none⟩ = some (.int .i64 C)
  x1 : W.cell? ⟨X, 1, none⟩ = some (.int .i64 V)
theorem GS.below {w : World} {M : Nat} {a : Option Addr} {N c : Nat} {L : List Int} {X : Nat} {C V : Int} {W W' : World} (h : GS w M a N c L X C V W) (hb : Below W.heap.size W W') : GS w M a N c L X C V W' :=
  ⟨below_trans' h.bel hb, cell_kept hb h.m, h.s.below hb, cell_kept hb h.x0, cell_kept hb h.x1⟩
theorem GS.cells {w : World} {M : Nat} {a : Option Addr} {N c : Nat} {L : List Int} {X : Nat} {C V : Int} {W : World} (h : GS w M a N c L X C V W) : W.cell? ⟨M, 0, none⟩ = some (.slice a N c) ∧ W.cell? ⟨X, 0, none⟩ = some (.int .i64 C) ∧ W.cell? ⟨X, 1, none⟩ = some (.int .i64 V) := ⟨h.m, h.x0, h.x1⟩

end Go.Proofs.Ytkfamlbalgolmaa
