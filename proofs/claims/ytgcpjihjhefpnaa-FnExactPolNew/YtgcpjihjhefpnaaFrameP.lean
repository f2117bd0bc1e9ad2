/- The opening of an argument that is a pool. -/
import Derived.Test.YtgcpjihjhefpnaaFrame
import Derived.Test.YtgcpjihjhefpnaaPool
import Derived.Lib.SmallJoins
import Derived.Deep.SlicePairs
namespace Go.Proofs.Ytgcpjihjhefpnaa
open Go.ChangeShapes Go.WideShapes Go.ChangeAt Go.RowKit Go.Joins Go.Deep
set_option linter.unusedVariables false

theorem array3 {α : Type} {cs : Array α} (h : cs.size = 3) : ∃ c0 c1 c2, cs = #[c0, c1, c2] := by
  obtain ⟨l⟩ := cs
  match l, h with
  | [c0, c1, c2], _ => exact ⟨c0, c1, c2, rfl⟩

theorem Try.cells32 : Try.prog.cellsOf 32 = 3 := by kernel_rfl
theorem Try.cells30 : Try.prog.cellsOf 30 = 1 := by kernel_rfl
theorem Try.cells64 : Try.prog.cellsOf 64 = 1 := by kernel_rfl
theorem Try.cells71 : Try.prog.cellsOf 71 = 2 := by kernel_rfl
theorem Try.cells22 : Try.prog.cellsOf 22 = 1 := by kernel_rfl
theorem Try.cells3 : Try.prog.cellsOf 3 = 1 := by kernel_rfl

/-- The numbers of pairs of cells, one behind the other. -/
def flatV (V0 V1 : Nat → Value) (n : Nat) : List Int := (List.range (n * 2)).map (fun j => intOf (if j % 2 = 0 then V0 (j / 2) else V1 (j / 2)))
theorem flatV_len (V0 V1 : Nat → Value) (n : Nat) : (flatV V0 V1 n).length = n * 2 := by simp [flatV]
theorem flatV_get (V0 V1 : Nat → Value) {n j : Nat} (h : j < n * 2) : (flatV V0 V1 n).getD j 0 = intOf (if j % 2 = 0 then V0 (j / 2) else V1 (j / 2)) := by simp [flatV, List.getD, h]

/-- What the reading of cells tells of a list of what was taken out. -/
theorem olds_of_open {H : Type} {enc : TypeId × Value → H} {W : World} {fuel : Nat} {c0 : Value} {y : DataW H × List MemPlace}
    (h1 : DataW.trod enc Try.prog W 0 (fun _ => true) true fuel 64 [c0] = some y) : ∃ a n cap os, c0 = .slice a n cap ∧ SOlds W a n os ∧ n ≤ 9223372036854775807 := by
  rcases open_slice_pairs Try.underlying64 Try.underlying71 Try.cells71 rfl rfl Try.cells3 Try.cells3 h1 with ⟨hcs, _⟩ | ⟨x, l, c, mm, nn, V0, V1, D0, D1, P0, P1, hcs, _, hl, hm, hmm, _, hcell⟩
  · simp at hcs
    subst hcs
    exact ⟨none, 0, 0, [], rfl, ⟨rfl, rfl, .inl rfl⟩, by omega⟩
  · simp at hcs
    subst hcs
    unfold maxLen at hm
    obtain ⟨os, ho1, ho2⟩ := unflat l (flatV V0 V1 l) (flatV_len _ _ _)
    refine ⟨_, l, c, os, rfl, ⟨ho1, ?_⟩, by omega⟩
    rw [ho2]
    refine ⟨flatV_len _ _ _, ?_⟩
    by_cases hl0 : l = 0
    · exact .inl (by omega)
    · obtain ⟨b, off, spot⟩ := x
      have hmm' : mm = c := by simpa using hmm
      have hz := (hcell 0 (by omega)).1
      have hspot : spot = none := by simpa [Addr.add] using World.cell?_spot hz
      subst hspot
      refine .inr ⟨b, off, rfl, fun i hi => ?_⟩
      obtain ⟨q0, q1, t0, t1⟩ := hcell (i / 2) (by omega)
      obtain ⟨u0, e0, _, _⟩ := DataW.trod_int Try.underlying3 t0
      obtain ⟨u1, e1, _, _⟩ := DataW.trod_int Try.underlying3 t1
      simp at e0 e1
      rw [flatV_get _ _ hi]
      by_cases hpar : i % 2 = 0
      · rw [if_pos hpar]
        rw [Addr.add_lit, show off + i / 2 * 2 = off + i by omega] at q0
        rw [q0, e0]
        rfl
      · rw [if_neg hpar]
        rw [Addr.add_lit, show off + (i / 2 * 2 + 1) = off + i by omega] at q1
        rw [q1, e1]
        rfl

/-- What the reading of cells tells of a list of numbers. -/
theorem ints_of_open {H : Type} {enc : TypeId × Value → H} {W : World} {fuel : Nat} {c0 : Value} {y : DataW H × List MemPlace}
    (h1 : DataW.trod enc Try.prog W 0 (fun _ => true) true fuel 22 [c0] = some y) : ∃ a n cap zs, c0 = .slice a n cap ∧ SInts W a n zs ∧ n ≤ 9223372036854775807 := by
  rcases open_ints Try.underlying22 Try.underlying3 (by kernel_rfl) h1 with ⟨hcs, _⟩ | ⟨x, l, c, zs, hcs, _, hl, hm, hz, _, hcell, hwz⟩
  · simp at hcs
    subst hcs
    exact ⟨none, 0, 0, [], rfl, ⟨rfl, .inl rfl⟩, by omega⟩
  · simp at hcs
    subst hcs
    unfold maxLen at hm
    refine ⟨_, l, c, zs.take l, rfl, ⟨by simp at hz ⊢; omega, ?_⟩, by omega⟩
    by_cases h0 : l = 0
    · exact .inl h0
    · obtain ⟨b, off, spot⟩ := x
      have hc := hcell 0 (by simp at hz; omega)
      have hspot : spot = none := by simpa [Addr.add] using World.cell?_spot hc
      subst hspot
      refine .inr ⟨b, off, rfl, fun i hi => ?_⟩
      have := hcell i (by simp at hz; omega)
      rw [Addr.add_lit] at this
      rw [this]
      simp [List.getD, hi]

/-- What the reading of cells tells of lists of what was taken out. -/
theorem limbo_of_open {H : Type} {enc : TypeId × Value → H} {W : World} {fuel : Nat} {c0 : Value} {y : DataW H × List MemPlace}
    (h1 : DataW.trod enc Try.prog W 0 (fun _ => true) true fuel 30 [c0] = some y) : ∃ a n cap oss, c0 = .slice a n cap ∧ SLimbo W a n oss ∧ n ≤ 9223372036854775807 ∧ ∀ (i : Nat) (os : List Od), oss[i]? = some os → os.length ≤ 9223372036854775807 := by
  rcases open_slice Try.underlying30 h1 with ⟨hcs, _⟩ | ⟨x, len, cap, mm, nn, D, Pl, hcs, hb, hl, hm, hmm, _, hcell⟩
  · simp at hcs
    subst hcs
    exact ⟨none, 0, 0, [], rfl, ⟨rfl, .inl rfl⟩, by omega, fun i os h => by simp at h⟩
  · simp at hcs
    subst hcs
    unfold maxLen at hm
    have hmm' : mm = cap := by simpa using hmm
    have each : ∀ i, i < len → ∃ os : List Od, os.length ≤ 9223372036854775807 ∧ ∃ ai ci, W.cell? (x.add i) = some (.slice ai os.length ci) ∧ SOlds W ai os.length os := by
      intro i hi
      obtain ⟨cs', h1, h2⟩ := hcell i (by omega)
      rw [Try.cells64] at h1
      obtain ⟨_, hlen, hc⟩ := World.cells?_some h1
      match cs', hlen with
      | [c1], _ =>
        obtain ⟨a, n, c, os, rfl, hs, hn⟩ := olds_of_open h2
        have := hc 0 (by omega)
        rw [Go.Deep.add_add] at this
        obtain rfl := hs.1
        exact ⟨os, hn, a, c, by simpa using this, hs⟩
    obtain ⟨F, hF⟩ : ∃ F : Nat → List Od, ∀ i, i < len → (F i).length ≤ 9223372036854775807 ∧ ∃ ai ci, W.cell? (x.add i) = some (.slice ai (F i).length ci) ∧ SOlds W ai (F i).length (F i) := by
      classical
      refine ⟨fun i => if h : i < len then Classical.choose (each i h) else [], fun i hi => ?_⟩
      simp only [hi, dif_pos]
      exact Classical.choose_spec (each i hi)
    have hget : ∀ (i : Nat) (os : List Od), ((List.range len).map F)[i]? = some os → i < len ∧ os = F i := by
      intro i os hi
      have h1 : i < len := by have := (List.getElem?_eq_some_iff.1 hi).1; simpa using this
      simp [h1] at hi
      exact ⟨h1, hi.symm⟩
    refine ⟨_, len, cap, (List.range len).map F, rfl, ⟨by simp, ?_⟩, by omega, fun i os hi => ?_⟩
    · by_cases hl0 : len = 0
      · exact .inl hl0
      · obtain ⟨b, off, spot⟩ := x
        obtain ⟨_, ai, ci, hz, _⟩ := hF 0 (by omega)
        have hspot : spot = none := by simpa [Addr.add] using World.cell?_spot hz
        subst hspot
        refine .inr ⟨b, off, rfl, fun i os hi => ?_⟩
        obtain ⟨h1, rfl⟩ := hget i os hi
        obtain ⟨_, ai, ci, hz, hs⟩ := hF i h1
        rw [Addr.add_lit] at hz
        exact ⟨ai, ci, hz, hs⟩
    · obtain ⟨h1, rfl⟩ := hget i os hi
      exact (hF i h1).1

theorem pool_of_open {H : Type} {enc : TypeId × Value → H} {W : World} {base : Nat} {v0 : Value} {d0 : DataW H} {p0 : List MemPlace} (hv : Value.okWide Try.prog W .any base 32 v0)
    (h0 : DataW.Trod enc Try.prog W 0 (fun _ => true) true 32 v0 d0 p0) :
    ∃ E pa np pc la nl lc ps oss, v0 = .agg #[.int .i64 E, .slice pa np pc, .slice la nl lc] ∧ SInts W pa np ps ∧ np ≤ 9223372036854775807 ∧ SLimbo W la nl oss ∧ nl ≤ 9223372036854775807 ∧ ∀ (i : Nat) (os : List Od), oss[i]? = some os → os.length ≤ 9223372036854775807 := by
  obtain ⟨cs, rfl, hsz⟩ := okWide_struct Try.underlying32 hv
  obtain ⟨c0, c1, c2, rfl⟩ := array3 (hsz.trans Try.cells32)
  obtain ⟨fuel, hf⟩ := h0
  obtain ⟨y0, y1, y2, m, hx, _, g0, g1, g2⟩ := trod_struct3 Try.underlying32 hf
  simp [Value.cells, Try.cells30, Try.cells22, Try.cells3] at g0 g1 g2
  obtain ⟨E, e0, _, _⟩ := DataW.trod_int Try.underlying3 g0
  simp at e0
  subst e0
  obtain ⟨pa, np, pc, ps, rfl, hs1, hn1⟩ := ints_of_open g1
  obtain ⟨la, nl, lc, oss, rfl, hs2, hn2, hm2⟩ := limbo_of_open g2
  exact ⟨E, pa, np, pc, la, nl, lc, ps, oss, rfl, hs1, hn1, hs2, hn2, hm2⟩

end Go.Proofs.Ytgcpjihjhefpnaa
