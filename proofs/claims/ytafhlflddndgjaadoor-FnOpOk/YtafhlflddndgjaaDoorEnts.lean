/- Contracts of the law helpers over entries: entries lie two cells each; they are told by the flat list of their numbers. -/
import Derived.Test.YtafhlflddndgjaaDoorMarks
import Derived.Test.YtafhlflddndgjaaDoorPush
import Derived.Test.YtafhlflddndgjaaDoorInv
import Derived.Deep.RegionWith
namespace Go.Proofs.YtafhlflddndgjaaDoor
open Go.RowKit
set_option linter.unusedVariables false

theorem Tryd.info75 : (Tryd.prog.info? 75).map (fun i => (i.zero, i.size, i.bytes)) = some (some (.agg #[.int .i64 0, .int .i64 0]), 2, 16) := by kernel_rfl

theorem own2_cell {w : World} {base : Nat} {e : TypeId} {g n cap : Nat} {zs : List Int} (h : w.ownsRow base e 2 (.slice (some ⟨g, 0, none⟩) n cap) n (zs.map (Value.int .i64))) {j : Nat} (hj : j < n * 2) :
    w.cell? ⟨g, j, none⟩ = some (.int .i64 (zs.getD j 0)) := by
  have hz : zs.length = n * 2 := by simpa using h.1
  rw [h.cellAt j hj]
  simp [List.getD, show j < zs.length by omega]

theorem own2_sints {w : World} {base : Nat} {e : TypeId} {a : Option Addr} {n cap : Nat} {zs : List Int} (h : w.ownsRow base e 2 (.slice a n cap) n (zs.map (Value.int .i64))) : SInts w a (n * 2) zs := by
  have hl : zs.length = n * 2 := by simpa using h.1
  rcases h.2 with ⟨e, rfl⟩ | ⟨g, cap', cur, e, hg, hh, hc, hm, hs, ht⟩
  · exact ⟨hl, .inl rfl⟩
  · cases e
    exact ⟨hl, .inr ⟨g, 0, rfl, fun i hi => by rw [Nat.zero_add]; exact own2_cell h hi⟩⟩

theorem own2_shape {w : World} {base : Nat} {e : TypeId} {v : Value} {n : Nat} {zs : List Int} (h : w.ownsRow base e 2 v n (zs.map (Value.int .i64))) : ∃ a cap, v = .slice a n cap ∧ n ≤ cap ∧ (a = none ∧ n = 0 ∧ cap = 0 ∨ ∃ g, a = some ⟨g, 0, none⟩) := by
  rcases h.2 with ⟨rfl, rfl⟩ | ⟨g, cap, cur, rfl, hg, hh, hc, hm, hs, ht⟩
  · exact ⟨none, 0, rfl, Nat.le_refl _, .inl ⟨rfl, rfl, rfl⟩⟩
  · exact ⟨_, cap, rfl, hc, .inr ⟨g, rfl⟩⟩

theorem cell_at (W : World) (cs : Array Value) (t : TypeId) (i : Nat) {b : Nat} (hb : b = W.heap.size) {v : Value} (hv : cs[i]? = some v) : (W.alloc (.cells cs t)).cell? ⟨b, i, none⟩ = some v := by
  subst hb
  simpa using hv

theorem frozen_at (W : World) (cs : Array Value) (t : TypeId) (i : Nat) {b : Nat} (hb : b = W.heap.size) : (W.alloc (.cells cs t)).frozen? ⟨b, i, none⟩ = false := by
  subst hb
  simp

theorem made_ints (n : Nat) : (madeCells #[Value.int .i64 0, Value.int .i64 0] (n * 2)).toList = (List.replicate (n * 2) (0 : Int)).map (Value.int .i64) := by
  apply List.ext_getElem?
  intro i
  by_cases hi : i < n * 2
  · have h01 : i % 2 = 0 ∨ i % 2 = 1 := by omega
    rcases h01 with h | h <;> simp [madeCells, hi, h]
  · simp [madeCells, hi]

theorem take_set2 (ys zs : List Int) (k : Nat) (hy : k * 2 + 1 < ys.length) (hz : k * 2 + 1 < zs.length) (h : ys.take (k * 2) = zs.take (k * 2)) :
    (((ys.set (k * 2) (zs.getD (k * 2) 0)).set (k * 2 + 1) (zs.getD (k * 2 + 1) 0)).take ((k + 1) * 2)) = zs.take ((k + 1) * 2) := by
  rw [show (k + 1) * 2 = k * 2 + 1 + 1 by omega]
  rw [List.take_succ_eq_append_getElem (by simp; omega), List.take_succ_eq_append_getElem (by simp; omega), List.take_succ_eq_append_getElem (by omega), List.take_succ_eq_append_getElem (by omega)]
  rw [List.take_set, List.take_set, List.set_eq_of_length_le (by simp; omega), List.set_eq_of_length_le (by simp; omega), h]
  simp [List.getD, show k * 2 < zs.length by omega, hz]

end Go.Proofs.YtafhlflddndgjaaDoor
