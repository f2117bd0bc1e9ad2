/- A ring for each hand. -/
import Derived.Test.YtcffoehldohooaaRing
namespace Go.Proofs.Ytcffoehldohooaa
open Go.RowKit
set_option linter.unusedVariables false

theorem Try.info78 : (Try.prog.info? 78).map (fun i => (i.zero, i.size, i.bytes)) = some (some (.agg #[.slice none 0 0, .int .i64 0, .int .i64 0]), 3, 40) := by kernel_rfl

/-- A ring's cells: where its room is, how long it is. -/
def ringC (p : Nat × Nat) : List Value := [.slice (some ⟨p.1, 0, none⟩) p.2 p.2, .int .i64 0, .int .i64 p.2]
def flatR (gs : List (Nat × Nat)) : List Value := gs.flatMap ringC
theorem flatR_cons (p : Nat × Nat) (gs : List (Nat × Nat)) : flatR (p :: gs) = ringC p ++ flatR gs := rfl
theorem flatR_app (gs : List (Nat × Nat)) (p : Nat × Nat) : flatR (gs ++ [p]) = flatR gs ++ ringC p := by simp [flatR]
theorem flatR_len (gs : List (Nat × Nat)) : (flatR gs).length = gs.length * 3 := by
  induction gs with
  | nil => rfl
  | cons x gs ih => rw [flatR_cons, List.length_append, ih]; simp [ringC]; omega
theorem flatR_get : ∀ (gs : List (Nat × Nat)) (i j : Nat), j < 3 → (flatR gs)[i * 3 + j]? = (gs[i]?).bind (fun x => (ringC x)[j]?)
  | [], i, j, _ => by simp [flatR]
  | x :: gs, 0, j, h => by
    rw [flatR_cons, List.getElem?_append_left (by simp [ringC]; omega)]
    simp
  | x :: gs, i + 1, j, h => by
    rw [flatR_cons, List.getElem?_append_right (by simp [ringC]; omega), show (i + 1) * 3 + j - (ringC x).length = i * 3 + j by simp [ringC]; omega, flatR_get gs i j h]
    simp

theorem SOlds.grown {w w' : World} {b n g : Nat} {os : List Od} (h : SOlds w (some ⟨b, 0, none⟩) n os) (hg : w.grownBy w' (some g)) (hne : b ≠ g) : SOlds w' (some ⟨b, 0, none⟩) n os := by
  obtain ⟨hl, hz, h0 | ⟨b', off, e, hc⟩⟩ := h
  · exact ⟨hl, hz, .inl h0⟩
  · cases e
    exact ⟨hl, hz, .inr ⟨b, 0, rfl, fun i hi => hg.cell (hc i hi) (fun e => hne (Option.some.inj e))⟩⟩

/-- Rings lie from the beginning of a block on, each with what a hand took out in its room. -/
def SRings (w : World) (g n : Nat) (oss : List (List Od)) : Prop :=
  oss.length = n ∧ ∀ (i : Nat) (os : List Od), oss[i]? = some os → ∃ gi : Nat, w.cell? ⟨g, i * 3, none⟩ = some (.slice (some ⟨gi, 0, none⟩) os.length os.length) ∧ w.cell? ⟨g, i * 3 + 1, none⟩ = some (.int .i64 0) ∧ w.cell? ⟨g, i * 3 + 2, none⟩ = some (.int .i64 os.length) ∧ SOlds w (some ⟨gi, 0, none⟩) os.length os ∧ gi < w.heap.size
theorem SRings.below {w w' : World} {g n : Nat} {oss : List (List Od)} (h : SRings w g n oss) (hb : Below w.heap.size w w') : SRings w' g n oss := by
  refine ⟨h.1, fun i os hi => ?_⟩
  obtain ⟨gi, h0, h1, h2, h3, h4⟩ := h.2 i os hi
  exact ⟨gi, cell_kept hb h0, cell_kept hb h1, cell_kept hb h2, h3.below hb, Nat.lt_of_lt_of_le h4 hb.size⟩

/-- What stands in the loop of rings. -/
structure RingsAt (w : World) (E : Int) (pa : Option Addr) (np pc : Nat) (la : Option Addr) (nl lc : Nat) (oss : List (List Od)) (k : Nat) (gs : List (Nat × Nat)) (W : World) : Prop where
  bel : Below w.heap.size w W
  box : BoxP W w.heap.size E pa np pc la nl lc
  own : W.ownsRow (w.heap.size + 1) 78 3 (.slice (some ⟨w.heap.size + 1, 0, none⟩) k nl) k (flatR gs)
  rooms : ∀ (i : Nat) (p : Nat × Nat) (os : List Od), gs[i]? = some p → oss[i]? = some os → p.2 = os.length ∧ w.heap.size + 1 < p.1 ∧ p.1 < W.heap.size ∧ SOlds W (some ⟨p.1, 0, none⟩) os.length os
theorem RingsAt.len {w : World} {E : Int} {pa : Option Addr} {np pc : Nat} {la : Option Addr} {nl lc : Nat} {oss : List (List Od)} {k : Nat} {gs : List (Nat × Nat)} {W : World} (h : RingsAt w E pa np pc la nl lc oss k gs W) : gs.length = k := by
  have := h.own.1
  rw [flatR_len] at this
  omega
theorem RingsAt.below {w : World} {E : Int} {pa : Option Addr} {np pc : Nat} {la : Option Addr} {nl lc : Nat} {oss : List (List Od)} {k : Nat} {gs : List (Nat × Nat)} {W W' : World} (h : RingsAt w E pa np pc la nl lc oss k gs W) (hb : Below W.heap.size W W') : RingsAt w E pa np pc la nl lc oss k gs W' :=
  ⟨below_trans' h.bel hb, h.box.below hb, ownsRow_below h.own hb, fun i p os h1 h2 => by
    obtain ⟨a, b, c, d⟩ := h.rooms i p os h1 h2
    exact ⟨a, b, Nat.lt_of_lt_of_le c hb.size, d.below hb⟩⟩
theorem RingsAt.more {w : World} {E : Int} {pa : Option Addr} {np pc : Nat} {la : Option Addr} {nl lc : Nat} {oss : List (List Od)} {k : Nat} {gs : List (Nat × Nat)} {W W' : World} (h : RingsAt w E pa np pc la nl lc oss k gs W) (hg : W.grownBy W' (some (w.heap.size + 1))) {gk : Nat} {os : List Od} (ho : oss[k]? = some os)
    (hown : W'.ownsRow (w.heap.size + 1) 78 3 (.slice (some ⟨w.heap.size + 1, 0, none⟩) (k + 1) nl) (k + 1) (flatR (gs ++ [(gk, os.length)]))) (h1 : w.heap.size + 1 < gk) (h2 : gk < W.heap.size) (h3 : SOlds W (some ⟨gk, 0, none⟩) os.length os) : RingsAt w E pa np pc la nl lc oss (k + 1) (gs ++ [(gk, os.length)]) W' := by
  have hl := h.len
  refine ⟨h.bel.grown hg h.bel.size (fun k e => by cases e; omega), ⟨hg.cell h.box.c0 (fun e => by have h : w.heap.size = w.heap.size + 1 := Option.some.inj e; omega), hg.cell h.box.c1 (fun e => by have h : w.heap.size = w.heap.size + 1 := Option.some.inj e; omega), hg.cell h.box.c2 (fun e => by have h : w.heap.size = w.heap.size + 1 := Option.some.inj e; omega)⟩, hown, fun i p os' hp ho' => ?_⟩
  by_cases e : i = k
  · subst e
    rw [List.getElem?_append_right (by omega), hl, Nat.sub_self] at hp
    simp at hp
    subst hp
    obtain rfl : os' = os := by rw [ho] at ho'; cases ho'; rfl
    exact ⟨rfl, h1, Nat.lt_of_lt_of_le h2 hg.size, h3.grown hg (by omega)⟩
  · have hi : i < k := by have := (List.getElem?_eq_some_iff.1 hp).1; simp at this; omega
    rw [List.getElem?_append_left (by omega)] at hp
    obtain ⟨a, b, c, d⟩ := h.rooms i p os' hp ho'
    exact ⟨a, b, Nat.lt_of_lt_of_le c hg.size, d.grown hg (by omega)⟩
theorem RingsAt.done {w : World} {E : Int} {pa : Option Addr} {np pc : Nat} {la : Option Addr} {nl lc : Nat} {oss : List (List Od)} {gs : List (Nat × Nat)} {W : World} (h : RingsAt w E pa np pc la nl lc oss nl gs W) (hl : oss.length = nl) : SRings W (w.heap.size + 1) nl oss := by
  refine ⟨hl, fun i os hi => ?_⟩
  have hin : i < nl := by have := (List.getElem?_eq_some_iff.1 hi).1; omega
  have hgl := h.len
  have hp : gs[i]? = some gs[i] := List.getElem?_eq_getElem (by omega)
  obtain ⟨a, b, c, d⟩ := h.rooms i _ os hp hi
  have key : ∀ j, j < 3 → W.cell? ⟨w.heap.size + 1, i * 3 + j, none⟩ = (ringC gs[i])[j]? := fun j hj => by
    rw [h.own.cellAt (i * 3 + j) (by omega), flatR_get gs i j hj, hp]; rfl
  refine ⟨gs[i].1, ?_, key 1 (by omega), ?_, d, c⟩
  · have h0 : W.cell? ⟨w.heap.size + 1, i * 3, none⟩ = (ringC gs[i])[0]? := key 0 (by omega)
    rw [h0, ← a]
    rfl
  · have := key 2 (by omega)
    rw [this, ← a]
    rfl

set_option maxRecDepth 20000 in
set_option maxHeartbeats 4000000 in
theorem rings_any (E : Int) (pa : Option Addr) (np pc : Nat) (la : Option Addr) (nl lc : Nat) (oss : List (List Od)) (w : World) (hs : SLimbo w la nl oss) (h2 : nl ≤ 1048576) (h3 : sumL oss ≤ 1048576) :
    Calls Try.prog 53 #[.agg #[.int .i64 E, .slice pa np pc, .slice la nl lc]] w fun e w' => ∃ g, w.heap.size ≤ g ∧ g < w'.heap.size ∧ e = .returned (.slice (some ⟨g, 0, none⟩) nl nl) ∧ SRings w' g nl oss ∧ Below w.heap.size w w' := by
  obtain ⟨i0, hi, hz0, hz1, hz2⟩ := info_parts Try.info78
  have A := al1 w (.cells #[.int .i64 E, .slice pa np pc, .slice la nl lc] 38)
  have bx := boxP_new w E pa np pc la nl lc 38 rfl
  have HS : Hid (SLimbo w la nl oss ∧ sumL oss ≤ 1048576 ∧ oss.length = nl) := ⟨hs, h3, hs.1⟩
  clear hs h3
  go_enter Try.func53, Try.ntmps53
  go_wp2_with (at_make; refine wpList_make_own _ rfl _ _ 75 rfl (w.heap.size + 1) 78 i0 (.agg #[.slice none 0 0, .int .i64 0, .int .i64 0]) 3 Try.underlying75 hi hz0 hz1 _ _ _ nl rfl rfl (by omega) ?b2 ?b3 (by simp) ?_)
  case b2 => rw [hz2]; omega
  case b3 => unfold maxLen; omega
  intro w0 hown0 hgrow0
  have B1 : Below (w.alloc (.cells #[.int .i64 E, .slice pa np pc, .slice la nl lc] 38)).heap.size (w.alloc (.cells #[.int .i64 E, .slice pa np pc, .slice la nl lc] 38)) w0 := (Below.refl _ _).grown hgrow0 (Nat.le_refl _) (fun k h => by cases h)
  have I0 : Hid (RingsAt w E pa np pc la nl lc oss 0 [] w0) := ⟨below_trans' A B1, bx.below B1, hown0, fun i p os h => by simp at h⟩
  have c2 := I0.out.box.c2
  clear hown0 hgrow0 B1 A bx
  go_wp2
  clear c2
  go_loopw [3, 5, 13] (fun s _ i wr => ∃ (k : Nat) (gs : List (Nat × Nat)), k ≤ nl ∧ i = .int .i64 k ∧ s = .slice (some ⟨w.heap.size + 1, 0, none⟩) k nl ∧ RingsAt w E pa np pc la nl lc oss k gs wr) (fun _ _ i _ => nl - (intOf i).toNat)
  case atStart => exact ⟨0, _, Nat.zero_le _, rfl, rfl, I0.out⟩
  case round =>
    obtain ⟨k, gs, hk, rfl, rfl, I⟩ := hrel
    clear I0
    have HI : Hid (RingsAt w E pa np pc la nl lc oss k gs wr) := I
    clear I
    by_cases hlt : k < nl
    · obtain ⟨b, off, os, ai, ci, rfl, ho, hc, hO⟩ := (HS.out.1.below HI.out.bel).at hlt
      have hml : os.length ≤ 1048576 := Nat.le_trans (sumL_mem ho) HS.out.2.1
      have HO : Hid (oss[k]? = some os ∧ SOlds wr ai os.length os) := ⟨ho, hO⟩
      obtain ⟨m, e⟩ : ∃ m, os.length = m := ⟨_, rfl⟩
      have HE : Hid (os.length = m) := e
      rw [e] at hc hml
      clear ho e hO
      go_wp2_with fail
      refine (ringOf_any _ m _ os _ (HE.out ▸ HO.out.2) hml).mono ?_
      rintro e w1 ⟨gk, hgk, rfl, ho1, hb1⟩
      have I1 := (HI.out.below hb1).below (al1 w1 (.cells #[.slice (some ⟨gk, 0, none⟩) m m, .int .i64 0, .int .i64 m] 78))
      have hsz := (HI.out.own.lt _ rfl).2
      have HH : Hid (RingsAt w E pa np pc (some ⟨b, off, none⟩) nl lc oss k gs (w1.alloc (.cells #[.slice (some ⟨gk, 0, none⟩) m m, .int .i64 0, .int .i64 m] 78)) ∧ w.heap.size + 1 < gk ∧ gk < w1.heap.size ∧ SOlds w1 (some ⟨gk, 0, none⟩) os.length os) := ⟨I1, Nat.lt_of_lt_of_le hsz hgk, (ho1.lt _ rfl).2, by rw [HE.out]; exact own_solds ho1⟩
      have hnews : Hid (∀ j u, (ringC (gk, m))[j]? = some u → (w1.alloc (.cells #[.slice (some ⟨gk, 0, none⟩) m m, .int .i64 0, .int .i64 m] 78)).cell? ((⟨w1.heap.size, 0, none⟩ : Addr).add j) = some u) := by
        intro j u hj
        match j, hj with
        | 0, hj => simp [ringC] at hj; subst hj; exact cell_at w1 _ _ 0 rfl rfl
        | 1, hj => simp [ringC] at hj; subst hj; exact cell_at w1 _ _ 1 rfl rfl
        | 2, hj => simp [ringC] at hj; subst hj; exact cell_at w1 _ _ 2 rfl rfl
      clear ho1 hb1 I1 hc hsz
      go_wp2_with (at_builtin; go_must (refine wpList_append_fits_two _ rfl (.tmp 17) (.tmp 20) 75 75 rfl (w.heap.size + 1) 78 78 i0 3 Try.underlying75 Try.underlying75 hi hz1 _ _ _ _ rfl HH.out.1.own _ _ _ (ringC (gk, m)) rfl rfl (.inr ⟨_, rfl, hnews.out⟩) (by intro u hu; simp [ringC] at hu; rcases hu with rfl | rfl | rfl <;> rfl) (by omega) ?_))
      intro w2 hown2 hg2
      have R : Hid (RingsAt w E pa np pc (some ⟨b, off, none⟩) nl lc oss (k + 1) (gs ++ [(gk, os.length)]) w2) := by
        refine HH.out.1.more hg2 HO.out.1 ?_ HH.out.2.1 (by simp; have := HH.out.2.2.1; omega) (HH.out.2.2.2.below (al1 _ _))
        rw [HE.out, flatR_app]
        exact hown2
      clear hown2 hg2
      go_wp2
      go_roundw
      case rel => exact ⟨k + 1, _, by omega, by go_num, rfl, R.out⟩
      case measure => simp [intOf]; omega
    · obtain rfl : k = nl := by omega
      go_wp2
      go_ret
      exact ⟨w.heap.size + 1, by omega, (HI.out.own.lt _ rfl).2, rfl, HI.out.done HS.out.2.2, HI.out.bel⟩

end Go.Proofs.Ytcffoehldohooaa
