/- Contracts of the specification's StkPush and QuePut. -/
import Derived.Test.YtleajkacfhhemahPush
namespace Go.Proofs.Ytleajkacfhhemah
open Go.RowKit
set_option linter.unusedVariables false

theorem own_lit2 (w : World) (o : Obj) (cs : Array Value) (n : Nat) (hs : cs.size = n) (hn : n ≤ maxLen) :
    ((w.alloc o).alloc (.cells cs 3)).ownsRow (w.heap.size + 1) 3 1 (.slice (some ⟨w.heap.size + 1, 0, none⟩) n n) n cs.toList := by
  have := World.ownsRow_lit (base := w.heap.size + 1) (e := 3) (size := 1) (w.alloc o) cs n (by simp) hn (by simpa using hs)
  simpa using this

/-- What stays behind an append onto the second of two new blocks: the first one, and all that was there. -/
theorem behind_append {w w1 : World} {c0 c1 : Value} {cs : Array Value} (hg : ((w.alloc (.cells #[c0, c1] 34)).alloc (.cells cs 3)).grownBy w1 (some (w.heap.size + 1))) :
    w1.cell? ⟨w.heap.size, 0, none⟩ = some c0 ∧ w1.cell? ⟨w.heap.size, 1, none⟩ = some c1 ∧ w1.frozen? ⟨w.heap.size, 0, none⟩ = false ∧ w1.frozen? ⟨w.heap.size, 1, none⟩ = false ∧ Below w.heap.size w w1 := by
  have hblk := hg.block w.heap.size (by simp; omega) (by simp)
  refine ⟨?_, ?_, ?_, ?_, ?_⟩
  · rw [World.cell?_of_block (a := ⟨w.heap.size, 0, none⟩) hblk]; simp
  · rw [World.cell?_of_block (a := ⟨w.heap.size, 1, none⟩) hblk]; simp
  · rw [World.frozen?_of_block (a := ⟨w.heap.size, 0, none⟩) hblk]; simp
  · rw [World.frozen?_of_block (a := ⟨w.heap.size, 1, none⟩) hblk]; simp
  · exact (((Below.refl _ _).alloc (Nat.le_refl _) _).alloc (by simp) _).grown hg (by simp; omega) (fun k h => by cases h; omega)

/-- The cells of all the numbers, for an append. -/
theorem SInts.src_all {w : World} {b off n : Nat} {zs : List Int} (hs : SInts w (some ⟨b, off, none⟩) n zs) :
    ∀ j u, (zs.map (Value.int .i64))[j]? = some u → w.cell? ((⟨b, off, none⟩ : Addr).add j) = some u := by
  intro j u hj
  obtain ⟨hz, h0 | ⟨b', off', e, hc⟩⟩ := hs
  · rw [List.eq_nil_of_length_eq_zero (l := zs) (by omega)] at hj
    simp at hj
  · cases e
    have hjn : j < n := by
      have := (List.getElem?_eq_some_iff.1 hj).1
      simp at this
      omega
    rw [Addr.add_lit, hc j hjn]
    simpa [List.getD, show j < zs.length by omega] using hj

theorem putL_len (zs : List Int) (i : Nat) (x : Int) : (putL zs i x).length ≤ zs.length + 1 := by
  unfold putL
  split
  · split
    · omega
    · simp only [List.length_append, List.length_take, List.length_drop, List.length_cons, List.length_nil]; omega
  · simp

theorem okL_len {zs : List Int} (h : okL zs = true) : zs.length ≤ 8 := by simp [okL] at h; exact h.1

end Go.Proofs.Ytleajkacfhhemah
