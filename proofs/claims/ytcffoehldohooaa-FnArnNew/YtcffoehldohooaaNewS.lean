/- The specification's PolNew. -/
import Derived.Test.YtcffoehldohooaaPB
import Derived.Test.YtcffoehldohooaaCopy
namespace Go.Proofs.Ytcffoehldohooaa
open Go.RowKit
set_option linter.unusedVariables false

/-- Rows of numbers and rows of slices do not lie in one block. -/
theorem own_apart {W : World} {b b' : Nat} {e : TypeId} {sp sl : Value} {k k' : Nat} {zs : List Int} {vs : List Value} (h1 : W.ownsRow b 3 1 sp k (zs.map (Value.int .i64))) (h2 : W.ownsRow b' e 1 sl k' vs) (hv : ∀ v ∈ vs, ∃ a c, v = .slice a 0 c)
    (n1 : k = 0 → sp = .slice none 0 0) (n2 : k' = 0 → sl = .slice none 0 0) : sp.ownBlock = none ∨ sp.ownBlock ≠ sl.ownBlock := by
  by_cases hk : k = 0
  · left
    rw [n1 hk]
    rfl
  · by_cases hk' : k' = 0
    · right
      rw [n2 hk']
      rcases h1.2 with ⟨_, h0⟩ | ⟨g, cap, cur, rfl, _⟩
      · exact absurd h0 hk
      · intro e
        cases e
    · right
      intro e
      rcases h1.2 with ⟨_, h0⟩ | ⟨g, cap, cur, rfl, _⟩
      · exact absurd h0 hk
      rcases h2.2 with ⟨_, h0⟩ | ⟨g', cap', cur', rfl, _⟩
      · exact absurd h0 hk'
      have e1 : g = g' := Option.some.inj e
      subst e1
      have c1 := h1.cellAt 0 (by omega)
      have c2 := h2.cellAt 0 (by omega)
      rw [c1] at c2
      have hl : vs.length = k' := by simpa using h2.1
      obtain ⟨a, c, hvv⟩ := hv vs[0] (List.getElem_mem (by omega))
      rw [List.getElem?_eq_getElem (show 0 < vs.length by omega), hvv, List.getElem?_map] at c2
      cases h : zs[0]? with
      | none => rw [h] at c2; simp at c2
      | some z => rw [h] at c2; simp at c2


/-- What stands in the loop: k pins, m lists. -/
structure NewP (w : World) (k m : Nat) (sp sl : Value) (W : World) : Prop where
  bel : Below w.heap.size w W
  zero : BoxP W w.heap.size 0 none 0 0 none 0 0
  fz : ∀ j, W.frozen? ⟨w.heap.size, j, none⟩ = false
  v0 : W.cell? ⟨w.heap.size + 1, 0, none⟩ = some (.int .i64 0)
  v1 : W.cell? ⟨w.heap.size + 1, 1, none⟩ = some sp
  v2 : W.cell? ⟨w.heap.size + 1, 2, none⟩ = some sl
  fv : ∀ j, W.frozen? ⟨w.heap.size + 1, j, none⟩ = false
  op : W.ownsRow (w.heap.size + 2) 3 1 sp k ((List.replicate k (0 : Int)).map (Value.int .i64))
  ol : ∃ vs, W.ownsRow (w.heap.size + 2) 61 1 sl m vs ∧ ∀ v ∈ vs, ∃ a c, v = .slice a 0 c
  np : k = 0 → sp = .slice none 0 0
  nl : m = 0 → sl = .slice none 0 0

theorem NewP.lt {w W : World} {k m : Nat} {sp sl : Value} (h : NewP w k m sp sl W) : w.heap.size + 1 < W.heap.size := World.block_lt_of_cell? W ⟨w.heap.size + 1, 0, none⟩ h.v0

theorem NewP.below {w W W' : World} {k m : Nat} {sp sl : Value} (h : NewP w k m sp sl W) (hb : Below W.heap.size W W') : NewP w k m sp sl W' := by
  have hlt := h.lt
  obtain ⟨vs, ol, hv⟩ := h.ol
  exact
  { bel := below_trans' h.bel hb, zero := h.zero.below hb, fz := fun j => (hb.frozen (p := ⟨w.heap.size, j, none⟩) (by show w.heap.size < _; omega)).trans (h.fz j),
    v0 := cell_kept hb h.v0, v1 := cell_kept hb h.v1, v2 := cell_kept hb h.v2, fv := fun j => (hb.frozen (p := ⟨w.heap.size + 1, j, none⟩) hlt).trans (h.fv j),
    op := ownsRow_below h.op hb, ol := ⟨vs, ownsRow_below ol hb, hv⟩, np := h.np, nl := h.nl }

theorem own_not {W : World} {b n x : Nat} {e : TypeId} {size : Nat} {v : Value} {xs : List Value} (h : W.ownsRow b e size v n xs) (hx : x < b) : some x ≠ v.ownBlock := fun e => by
  have := (h.lt x e.symm).1
  omega

/-- The one cell of the pool is written. -/
theorem NewP.pins {w W W' : World} {k m : Nat} {sp sl sp' : Value} (h : NewP w k m sp sl W) (hg : W.grownBy W' sp.ownBlock) (ho : W'.ownsRow (w.heap.size + 2) 3 1 sp' (k + 1) ((List.replicate (k + 1) (0 : Int)).map (Value.int .i64))) :
    NewP w (k + 1) m sp' sl (W'.setCell ⟨w.heap.size + 1, 1, none⟩ sp') := by
  have hlt := h.lt
  obtain ⟨vs, ol, hv⟩ := h.ol
  have n0 := own_not h.op (x := w.heap.size) (by omega)
  have n1 := own_not h.op (x := w.heap.size + 1) (by omega)
  have ap := own_apart h.op ol hv h.np h.nl
  have z0 := hg.cell h.zero.c0 n0
  have z1 := hg.cell h.zero.c1 n0
  have z2 := hg.cell h.zero.c2 n0
  have y0 := hg.cell h.v0 n1
  have y1 := hg.cell h.v1 n1
  have y2 := hg.cell h.v2 n1
  refine ⟨(h.bel.grown hg h.bel.size (fun k e => by have := (h.op.lt k e).1; omega)).setCell (p := ⟨w.heap.size + 1, 1, none⟩) (by show _ ≤ w.heap.size + 1; omega) _, ⟨?_, ?_, ?_⟩, fun j => ?_, ?_, ?_, ?_, fun j => ?_, ?_, ⟨vs, ?_, hv⟩, fun e => by omega, h.nl⟩
  · exact (World.cell?_setCell_other _ _ _ _ (by simp)).trans z0
  · exact (World.cell?_setCell_other _ _ _ _ (by simp)).trans z1
  · exact (World.cell?_setCell_other _ _ _ _ (by simp)).trans z2
  · rw [World.frozen?_setCell]; exact frozen_grown hg (by omega) n0 (h.fz j)
  · exact (World.cell?_setCell_other _ _ _ _ (by simp)).trans y0
  · exact World.cell?_setCell_same _ _ _ y1
  · exact (World.cell?_setCell_other _ _ _ _ (by simp)).trans y2
  · rw [World.frozen?_setCell]; exact frozen_grown hg hlt n1 (h.fv j)
  · exact ownsRow_setCell_other ho (fun e => own_not ho (x := w.heap.size + 1) (by omega) e.symm) _
  · refine ownsRow_setCell_other (ol.kept hg ?_) (fun e => own_not ol (x := w.heap.size + 1) (by omega) e.symm) _
    rcases ap with e | e
    · cases hsl : sl.ownBlock with
      | none => exact .inl rfl
      | some g => right; rw [e]; intro e'; cases e'
    · exact .inr (fun e' => e e'.symm)

theorem NewP.lists {w W W' : World} {k m : Nat} {sp sl sl' : Value} {vs' : List Value} (h : NewP w k m sp sl W) (hg : W.grownBy W' sl.ownBlock) (ho : W'.ownsRow (w.heap.size + 2) 61 1 sl' (m + 1) vs') (hv' : ∀ v ∈ vs', ∃ a c, v = .slice a 0 c) :
    NewP w k (m + 1) sp sl' (W'.setCell ⟨w.heap.size + 1, 2, none⟩ sl') := by
  have hlt := h.lt
  obtain ⟨vs, ol, hv⟩ := h.ol
  have n0 := own_not ol (x := w.heap.size) (by omega)
  have n1 := own_not ol (x := w.heap.size + 1) (by omega)
  have ap := own_apart h.op ol hv h.np h.nl
  have z0 := hg.cell h.zero.c0 n0
  have z1 := hg.cell h.zero.c1 n0
  have z2 := hg.cell h.zero.c2 n0
  have y0 := hg.cell h.v0 n1
  have y1 := hg.cell h.v1 n1
  have y2 := hg.cell h.v2 n1
  refine ⟨(h.bel.grown hg h.bel.size (fun k e => by have := (ol.lt k e).1; omega)).setCell (p := ⟨w.heap.size + 1, 2, none⟩) (by show _ ≤ w.heap.size + 1; omega) _, ⟨?_, ?_, ?_⟩, fun j => ?_, ?_, ?_, ?_, fun j => ?_, ?_, ⟨vs', ?_, hv'⟩, h.np, fun e => by omega⟩
  · exact (World.cell?_setCell_other _ _ _ _ (by simp)).trans z0
  · exact (World.cell?_setCell_other _ _ _ _ (by simp)).trans z1
  · exact (World.cell?_setCell_other _ _ _ _ (by simp)).trans z2
  · rw [World.frozen?_setCell]; exact frozen_grown hg (by omega) n0 (h.fz j)
  · exact (World.cell?_setCell_other _ _ _ _ (by simp)).trans y0
  · exact (World.cell?_setCell_other _ _ _ _ (by simp)).trans y1
  · exact World.cell?_setCell_same _ _ _ y2
  · rw [World.frozen?_setCell]; exact frozen_grown hg hlt n1 (h.fv j)
  · exact ownsRow_setCell_other (h.op.kept hg ap) (fun e => own_not h.op (x := w.heap.size + 1) (by omega) e.symm) _
  · exact ownsRow_setCell_other ho (fun e => own_not ho (x := w.heap.size + 1) (by omega) e.symm) _

theorem rep_succ (k : Nat) : List.replicate k (Value.int .i64 0) ++ [.int .i64 0] = (List.replicate (k + 1) (0 : Int)).map (Value.int .i64) := by
  rw [List.replicate_succ', List.map_append, List.map_replicate]
  rfl

/-- A row is none, or lies at the beginning of a block. -/
theorem own1_shape {W : World} {b n : Nat} {e : TypeId} {v : Value} {xs : List Value} (h : W.ownsRow b e 1 v n xs) : ∃ a c, v = .slice a n c := by
  rcases h.2 with ⟨rfl, h0⟩ | ⟨g, cap, cur, rfl, _⟩
  · subst h0; exact ⟨none, 0, rfl⟩
  · exact ⟨_, _, rfl⟩

/-- Three empty lists. -/
theorem limbo3 {W : World} {b : Nat} {a : Option Addr} {c : Nat} {vs : List Value} (h : W.ownsRow b 61 1 (.slice a 3 c) 3 vs) (hv : ∀ v ∈ vs, ∃ a c, v = .slice a 0 c) : SLimbo W a 3 [[], [], []] := by
  refine ⟨rfl, .inr ?_⟩
  rcases h.2 with ⟨_, h0⟩ | ⟨g, cap, cur, e, _⟩
  · omega
  cases e
  refine ⟨g, 0, rfl, fun i os hi => ?_⟩
  have hi3 : i < 3 := by
    have := (List.getElem?_eq_some_iff.1 hi).1
    simpa using this
  have hos : os = [] := by
    match i, hi3, hi with
    | 0, _, hi => simpa using hi.symm
    | 1, _, hi => simpa using hi.symm
    | 2, _, hi => simpa using hi.symm
  subst hos
  have hl : vs.length = 3 := by simpa using h.1
  have hc := h.cellAt i (by omega)
  obtain ⟨ai, ci, hvv⟩ := hv vs[i] (List.getElem_mem (by omega))
  rw [List.getElem?_eq_getElem (show i < vs.length by omega), hvv] at hc
  exact ⟨ai, ci, by rw [Nat.zero_add]; exact hc, rfl, rfl, .inl rfl⟩

set_option maxRecDepth 20000 in
set_option maxHeartbeats 4000000 in
theorem specPolNew_any (w : World) :
    Calls Try.prog 19 #[] w fun e w' => ∃ pa pc la lc, e = .returned (.agg #[.int .i64 0, .slice pa 3 pc, .slice la 3 lc]) ∧ SInts w' pa 3 [0, 0, 0] ∧ SLimbo w' la 3 [[], [], []] ∧ Below w.heap.size w w' := by
  obtain ⟨i0, hi, hz0, hz1, hz2⟩ := info_parts Try.info3
  obtain ⟨j0, hj, jz0, jz1, jz2⟩ := info_parts Try.info61
  have A := below_trans' (al1 w (.cells #[.int .i64 0, .slice none 0 0, .slice none 0 0] 38)) (al1 _ (.cells #[.int .i64 0, .slice none 0 0, .slice none 0 0] 38))
  have I0 : Hid (NewP w 0 0 (.slice none 0 0) (.slice none 0 0) ((w.alloc (.cells #[.int .i64 0, .slice none 0 0, .slice none 0 0] 38)).alloc (.cells #[.int .i64 0, .slice none 0 0, .slice none 0 0] 38))) := by
    have b0 := (boxP_new w 0 none 0 0 none 0 0 38 rfl).below (al1 _ (.cells #[.int .i64 0, .slice none 0 0, .slice none 0 0] 38))
    have b1 := boxP_new (w.alloc (.cells #[.int .i64 0, .slice none 0 0, .slice none 0 0] 38)) 0 none 0 0 none 0 0 38 (b := w.heap.size + 1) (by simp)
    refine ⟨A, b0, fun j => ?_, b1.c0, b1.c1, b1.c2, fun j => frozen_at' _ _ _ j (by simp), ⟨rfl, .inl ⟨rfl, rfl⟩⟩, ⟨[], ⟨rfl, .inl ⟨rfl, rfl⟩⟩, by simp⟩, fun _ => rfl, fun _ => rfl⟩
    rw [(al1 _ _).frozen (p := ⟨w.heap.size, j, none⟩) (by simp)]
    exact frozen_at' _ _ _ j rfl
  clear A
  go_enter Try.func19, Try.ntmps19
  go_wp2
  go_loopw [2] (fun i wr => ∃ (k : Nat) (sp sl : Value), k ≤ 3 ∧ i = .int .i64 k ∧ NewP w k k sp sl wr) (fun i _ => 3 - (intOf i).toNat)
  case atStart => exact ⟨0, _, _, Nat.zero_le _, rfl, I0.out⟩
  case round =>
    obtain ⟨k, sp, sl, hk, rfl, I⟩ := hrel
    clear I0
    by_cases hlt : k < 3
    · obtain ⟨pa, pc, rfl⟩ := own1_shape I.op
      have v1 := I.v1
      have I1 : Hid (NewP w k k (.slice pa k pc) sl (wr.alloc (.cells #[.int .i64 0] 3))) := I.below (al1 _ _)
      have hw1 : w.heap.size + 1 < wr.heap.size := I.lt
      clear I
      go_wp2_with (at_builtin; go_must (refine wpList_append_own _ rfl (.tmp 9) (.tmp 10) 35 rfl (w.heap.size + 2) 3 i0 (.int .i64 0) 1 8 Try.underlying35 hi hz0 hz1 hz2 rfl (by decide) (.slice pa k pc) k _ rfl I1.out.op ⟨wr.heap.size, 0, none⟩ 1 1 [.int .i64 0] rfl rfl (by intro jj u hjj; match jj, hjj with | 0, hjj => simp at hjj; subst hjj; exact cell_at wr _ _ 0 rfl rfl) (by intro u hu; simp at hu; subst hu; rfl) (by unfold maxLen; omega) (by omega) (by simp; omega) ?_))
      intro v' w2 hown hgrow _
      rw [rep_succ] at hown
      obtain ⟨pa', pc', rfl⟩ := own1_shape hown
      have I2 := I1.out.pins hgrow hown
      have f1 : w2.frozen? ⟨w.heap.size + 1, 1, none⟩ = false := by have := I2.fv 1; rwa [World.frozen?_setCell] at this
      have c1 : w2.cell? ⟨w.heap.size + 1, 1, none⟩ = some (.slice pa k pc) := hgrow.cell I1.out.v1 (own_not I1.out.op (by show w.heap.size + 1 < _; omega))
      have I3 : Hid (NewP w (k + 1) k (.slice pa' (k + 1) pc') sl (((w2.setCell ⟨w.heap.size + 1, 1, none⟩ (.slice pa' (k + 1) pc')).alloc (.cells #[] 63)).alloc (.cells #[.slice (some ⟨w2.heap.size, 0, none⟩) 0 0] 61))) := (I2.below (al1 _ _)).below (al1 _ _)
      obtain ⟨vs, ol2, hvs⟩ := I3.out.ol
      obtain ⟨la, lc, rfl⟩ := own1_shape ol2
      have c2 := I2.v2
      have HV : Hid ((∀ v ∈ vs, ∃ a c, v = .slice a 0 c) ∧ w.heap.size + 1 < w2.heap.size) := ⟨hvs, by have := I2.lt; simpa using this⟩
      have OL : Hid ((((w2.setCell ⟨w.heap.size + 1, 1, none⟩ (.slice pa' (k + 1) pc')).alloc (.cells #[] 63)).alloc (.cells #[.slice (some ⟨w2.heap.size, 0, none⟩) 0 0] 61)).ownsRow (w.heap.size + 2) 61 1 (.slice la k lc) k vs) := ol2
      clear hown hgrow I1 v1 hw1 I2 hvs ol2
      go_wp2_with (at_builtin; go_must (refine wpList_append_own _ rfl (.tmp 14) (.tmp 16) 36 rfl (w.heap.size + 2) 61 j0 (.slice none 0 0) 1 24 Try.underlying36 hj jz0 jz1 jz2 rfl (by decide) (.slice la k lc) k _ rfl OL.out ⟨w2.heap.size + 1, 0, none⟩ 1 1 [.slice (some ⟨w2.heap.size, 0, none⟩) 0 0] rfl rfl (by intro jj u hjj; match jj, hjj with | 0, hjj => simp at hjj; subst hjj; exact cell_at _ _ _ 0 (by simp) rfl) (by intro u hu; simp at hu; subst hu; rfl) (by unfold maxLen; omega) (by omega) (by have := HV.out.2; simp; omega) ?_))
      intro v' w3 hown hgrow _
      obtain ⟨la', lc', rfl⟩ := own1_shape hown
      have I4 := I3.out.lists hgrow hown (fun v hv => by
        rcases List.mem_append.1 hv with h | h
        · exact HV.out.1 v h
        · simp at h; exact ⟨_, _, h⟩)
      have f2 : w3.frozen? ⟨w.heap.size + 1, 2, none⟩ = false := by have := I4.fv 2; rwa [World.frozen?_setCell] at this
      have c3 : w3.cell? ⟨w.heap.size + 1, 2, none⟩ = some (.slice la k lc) := hgrow.cell I3.out.v2 (own_not OL.out (by show w.heap.size + 1 < _; omega))
      have I5 : Hid (NewP w (k + 1) (k + 1) (.slice pa' (k + 1) pc') (.slice la' (k + 1) lc') (w3.setCell ⟨w.heap.size + 1, 2, none⟩ (.slice la' (k + 1) lc'))) := I4
      clear hown hgrow I3 I4 OL HV c1 c2 f1
      go_wp2
      go_roundw
      case rel => exact ⟨k + 1, _, _, by omega, by go_num, I5.out⟩
      case measure => simp [intOf]; omega
    · obtain rfl : k = 3 := by omega
      obtain ⟨pa, pc, rfl⟩ := own1_shape I.op
      obtain ⟨vs, ol, hvs⟩ := I.ol
      obtain ⟨la, lc, rfl⟩ := own1_shape ol
      have v0 := I.v0
      have v1 := I.v1
      have v2 := I.v2
      have z0 := I.zero.c0
      have z1 := I.zero.c1
      have z2 := I.zero.c2
      have f0 := I.fz 0
      have f1 := I.fz 1
      have f2 := I.fz 2
      have R : Hid (SInts (putP wr w.heap.size 0 pa 3 pc la 3 lc) pa 3 [0, 0, 0] ∧ SLimbo (putP wr w.heap.size 0 pa 3 pc la 3 lc) la 3 [[], [], []] ∧ Below w.heap.size w (putP wr w.heap.size 0 pa 3 pc la 3 lc)) := by
        have q : ∀ (V : World) (e : TypeId) (v : Value) (xs : List Value) (j : Nat) (u : Value), V.ownsRow (w.heap.size + 2) e 1 v 3 xs → (V.setCell ⟨w.heap.size, j, none⟩ u).ownsRow (w.heap.size + 2) e 1 v 3 xs := fun V e v xs j u h => ownsRow_setCell_other h (fun e => own_not h (x := w.heap.size) (by omega) e.symm) _
        exact ⟨own_sints (q _ _ _ _ 2 _ (q _ _ _ _ 1 _ (q _ _ _ _ 0 _ I.op))), limbo3 (q _ _ _ _ 2 _ (q _ _ _ _ 1 _ (q _ _ _ _ 0 _ ol))) hvs, below_putP I.bel (Nat.le_refl _) _ _ _ _ _ _ _⟩
      clear I ol hvs
      go_wp2
      exact bodyPost_ret (v := .agg #[.int .i64 0, .slice pa 3 pc, .slice la 3 lc]) (by simp [results, Try.results19, go_sem, z0, z1, z2]) rfl ⟨pa, pc, la, lc, rfl, R.out.1, R.out.2.1, R.out.2.2⟩

end Go.Proofs.Ytcffoehldohooaa
