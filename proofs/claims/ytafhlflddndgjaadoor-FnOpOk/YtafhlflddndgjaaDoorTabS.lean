/- The table of what may be asked, cell by cell, out of the row's condition on the program's variable. -/
import Derived.Test.YtafhlflddndgjaaDoorOpS
import Derived.Test.YtafhlflddndgjaaDoorRows
import Derived.LaidMore
import Derived.OpenVars
import Derived.OpenShut
import Derived.Stop.Joined
namespace Go.Proofs.YtafhlflddndgjaaDoor
open Go.ChangeShapes Go.WideShapes Go.ChangeAt Go.RowKit
set_option linter.unusedVariables false

theorem gMost : Tryd.prog.globalNamed "loop.example/tuggers/impl.askedMost" = some 0 := by kernel_rfl
theorem tMost : (Tryd.prog.globals[0]?).map (·.type) = some 50 := by kernel_rfl
theorem cellsOp : Tryd.prog.cellsOf 24 = 3 := by kernel_rfl
theorem cellsInt : Tryd.prog.cellsOf 3 = 1 := by kernel_rfl

theorem list3 {α : Type} {l : List α} (h : l.length = 3) : ∃ a b c, l = [a, b, c] := by
  match l, h with
  | [a, b, c], _ => exact ⟨a, b, c, rfl⟩

/-- What the reading of three numbers in a row tells of them, whatever the struct's type. -/
theorem op_of_trod {H : Type} {enc : TypeId × Value → H} {W : World} {base : Nat} {sp : Nat → Bool} {held : Bool} {fuel : Nat} {t : TypeId} {cs : List Value} {x : DataW H × List MemPlace} {fs : Array Field}
    (hu : Tryd.prog.underlying t = some (.struct fs)) (hfs : fs.size = 3) (f0 : fs[0]?.map (fun f => (f.type, f.offset)) = some (3, 0)) (f1 : fs[1]?.map (fun f => (f.type, f.offset)) = some (3, 1)) (f2 : fs[2]?.map (fun f => (f.type, f.offset)) = some (3, 2)) (hl : cs.length = 3)
    (h : DataW.trod enc Tryd.prog W base sp held fuel t cs = some x) :
    ∃ a b c : Int, cs = [.int .i64 a, .int .i64 b, .int .i64 c] ∧ x = (.agg [.lit (.int .i64 a), .lit (.int .i64 b), .lit (.int .i64 c)], []) := by
  obtain ⟨xs, k, hk, hxy, _, hxl, hf⟩ := DataW.trod_struct hu h
  obtain ⟨c0, c1, c2, rfl⟩ := list3 hl
  obtain ⟨y0, y1, y2, rfl⟩ := list3 (l := xs) (by rw [hxl, hfs])
  simp only [Option.map_eq_some_iff, Prod.mk.injEq] at f0 f1 f2
  obtain ⟨a0, h0, t0, o0⟩ := f0
  obtain ⟨a1, h1, t1, o1⟩ := f1
  obtain ⟨a2, h2, t2, o2⟩ := f2
  have g0 := hf 0 _ h0
  have g1 := hf 1 _ h1
  have g2 := hf 2 _ h2
  rw [t0, o0] at g0
  rw [t1, o1] at g1
  rw [t2, o2] at g2
  simp [cellsInt] at g0 g1 g2
  obtain ⟨u0, e0, z0, _⟩ := DataW.trod_int Tryd.underlying3 g0
  obtain ⟨u1, e1, z1, _⟩ := DataW.trod_int Tryd.underlying3 g1
  obtain ⟨u2, e2, z2, _⟩ := DataW.trod_int Tryd.underlying3 g2
  simp at e0 e1 e2
  subst e0 e1 e2 z0 z1 z2
  exact ⟨u0, u1, u2, rfl, by simpa using hxy⟩

theorem nth_of_part {α : Type} {l : List α} {i j : Nat} {a b c : α} (h : (l.drop (i * 3)).take 3 = [a, b, c]) (hj : j < 3) : l[3 * i + j]? = [a, b, c][j]? := by
  rw [← h, List.getElem?_take_of_lt hj, List.getElem?_drop]
  congr 1
  omega

/-- What the condition on the variable gives: the table's cells. -/
theorem tab_of_laid {W : World} (h : laidMetH Tryd.prog [("loop.example/tuggers/impl.askedMost", Rows.laid_loop_example_tuggers_impl_askedMost)] W) : Tab W := by
  rw [MakeChecks.laidMetH_plain _ _ _ (by kernel_rfl)] at h
  obtain ⟨ps, ⟨g, t, cs, fuel, p, q, hg, ht, hvar, hd, _, _⟩, _⟩ := h
  obtain rfl := Option.some.inj (gMost.symm.trans hg)
  obtain rfl := Option.some.inj (tMost.symm.trans ht)
  obtain ⟨xs, m, _, hx, hlen, hxl, hi⟩ := DataW.trod_array Tryd.underlying50 hd
  have hcs : cs.toList.length = 39 := hlen.trans (by kernel_rfl)
  have each : ∀ i, i < 13 → ∃ a b c : Int, (cs.toList.drop (i * 3)).take 3 = [.int .i64 a, .int .i64 b, .int .i64 c] ∧ (xs.map (·.1))[i]? = some (.agg [.lit (.int .i64 a), .lit (.int .i64 b), .lit (.int .i64 c)]) := fun i h13 => by
    have hq := hi i h13
    have hxi : i < xs.length := by omega
    rw [List.getElem?_eq_getElem hxi, cellsOp] at hq
    obtain ⟨a, b, c, e1, e2⟩ := op_of_trod Tryd.underlying24 rfl rfl rfl rfl (by rw [List.length_take, List.length_drop, hcs]; omega) hq
    exact ⟨a, b, c, e1, by rw [List.getElem?_map, List.getElem?_eq_getElem hxi, e2]; rfl⟩
  have hxs : xs.map (·.1) = [.agg [.lit (.int .i64 0), .lit (.int .i64 0), .lit (.int .i64 0)], .agg [.lit (.int .i64 0), .lit (.int .i64 99), .lit (.int .i64 0)], .agg [.lit (.int .i64 0), .lit (.int .i64 99), .lit (.int .i64 999)], .agg [.lit (.int .i64 0), .lit (.int .i64 99), .lit (.int .i64 0)], .agg [.lit (.int .i64 0), .lit (.int .i64 0), .lit (.int .i64 0)], .agg [.lit (.int .i64 0), .lit (.int .i64 0), .lit (.int .i64 999)], .agg [.lit (.int .i64 0), .lit (.int .i64 0), .lit (.int .i64 0)], .agg [.lit (.int .i64 0), .lit (.int .i64 0), .lit (.int .i64 999)], .agg [.lit (.int .i64 0), .lit (.int .i64 0), .lit (.int .i64 0)], .agg [.lit (.int .i64 0), .lit (.int .i64 99), .lit (.int .i64 0)], .agg [.lit (.int .i64 0), .lit (.int .i64 99), .lit (.int .i64 0)], .agg [.lit (.int .i64 0), .lit (.int .i64 0), .lit (.int .i64 0)], .agg [.lit (.int .i64 0), .lit (.int .i64 0), .lit (.int .i64 0)]] := by
    have := (Prod.mk.inj hx).1
    unfold Rows.laid_loop_example_tuggers_impl_askedMost at this
    injection this with this
    exact this.symm
  intro k hk
  obtain ⟨a, b, c, e, hq⟩ := each k (by omega)
  rw [hxs] at hq
  have w0 := World.var?_cell hg hvar (3 * k)
  have w1 := World.var?_cell hg hvar (3 * k + 1)
  have w2 := World.var?_cell hg hvar (3 * k + 2)
  have n0 := nth_of_part (j := 0) e (by omega)
  have n1 := nth_of_part (j := 1) e (by omega)
  have n2 := nth_of_part (j := 2) e (by omega)
  simp only [Array.getElem?_toList, Nat.add_zero] at n0 n1 n2
  rw [n0] at w0
  rw [n1] at w1
  rw [n2] at w2
  rw [w0, w1, w2]
  have hv : a = 0 ∧ b = kMost k ∧ c = vMost k := by
    have h13 : k = 0 ∨ k = 1 ∨ k = 2 ∨ k = 3 ∨ k = 4 ∨ k = 5 ∨ k = 6 ∨ k = 7 ∨ k = 8 ∨ k = 9 ∨ k = 10 ∨ k = 11 ∨ k = 12 := by omega
    rcases h13 with rfl | rfl | rfl | rfl | rfl | rfl | rfl | rfl | rfl | rfl | rfl | rfl | rfl <;>
      (simp at hq; obtain ⟨rfl, rfl, rfl⟩ := hq; exact ⟨rfl, by decide, by decide⟩)
  obtain ⟨rfl, rfl, rfl⟩ := hv
  exact ⟨rfl, rfl, rfl⟩

end Go.Proofs.YtafhlflddndgjaaDoor
