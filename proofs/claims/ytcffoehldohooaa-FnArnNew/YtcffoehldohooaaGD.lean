/- Several texts in one: Olds, Limbo, Limbo2, Pool, Give2. -/
import Derived.Test.YtcffoehldohooaaEnts
import Derived.Test.YtcffoehldohooaaGB
import Derived.Test.YtcffoehldohooaaGive
/- Olds -/
namespace Go.Proofs.Ytcffoehldohooaa
open Go.RowKit
set_option linter.unusedVariables false


/-- A place that was taken out, and in which epoch. -/
abbrev Od := Int × Int
def flatO (os : List Od) : List Int := os.flatMap (fun o => [o.1, o.2])
theorem flatO_nil : flatO [] = [] := rfl
theorem flatO_cons (o : Od) (os : List Od) : flatO (o :: os) = o.1 :: o.2 :: flatO os := rfl
theorem flatO_len (os : List Od) : (flatO os).length = os.length * 2 := by
  induction os with
  | nil => rfl
  | cons o os ih => rw [flatO_cons]; simp [ih]; omega
theorem flatO_get : ∀ (os : List Od) (k : Nat) (o : Od), os[k]? = some o → (flatO os).getD (k * 2) 0 = o.1 ∧ (flatO os).getD (k * 2 + 1) 0 = o.2
  | [], k, o, h => by simp at h
  | x :: os, 0, o, h => by
    simp at h
    subst h
    exact ⟨rfl, rfl⟩
  | x :: os, k + 1, o, h => by
    have := flatO_get os k o (by simpa using h)
    rw [flatO_cons, show (k + 1) * 2 = k * 2 + 1 + 1 by omega, show k * 2 + 1 + 1 + 1 = (k * 2 + 1) + 1 + 1 by omega]
    simpa [List.getD] using this
theorem unflat : ∀ (n : Nat) (zs : List Int), zs.length = n * 2 → ∃ os, os.length = n ∧ flatO os = zs
  | 0, zs, h => ⟨[], rfl, (List.eq_nil_of_length_eq_zero (by omega)).symm⟩
  | n + 1, zs, h => by
    match zs, h with
    | [_], h => exact absurd h (by simp; omega)
    | x :: y :: zs, h =>
      obtain ⟨os, h1, h2⟩ := unflat n zs (by simp at h; omega)
      exact ⟨(x, y) :: os, by simp [h1], by rw [flatO_cons, h2]⟩

/-- The slice of length n at a reads as what was taken out. -/
def SOlds (w : World) (a : Option Addr) (n : Nat) (os : List Od) : Prop := os.length = n ∧ SInts w a (n * 2) (flatO os)
theorem SOlds.below {w w' : World} {a : Option Addr} {n : Nat} {os : List Od} (h : SOlds w a n os) (hb : Below w.heap.size w w') : SOlds w' a n os := ⟨h.1, h.2.below hb⟩
theorem SOlds.at {w : World} {a : Option Addr} {n : Nat} {os : List Od} (h : SOlds w a n os) {k : Nat} (hk : k < n) :
    ∃ b off x y, a = some ⟨b, off, none⟩ ∧ os[k]? = some (x, y) ∧ w.cell? ⟨b, off + k * 2, none⟩ = some (.int .i64 x) ∧ w.cell? ⟨b, off + k * 2 + 1, none⟩ = some (.int .i64 y) := by
  obtain ⟨hl, hz, h0 | ⟨b, off, rfl, hc⟩⟩ := h
  · omega
  · have ho : os[k]? = some os[k] := List.getElem?_eq_getElem (by omega)
    obtain ⟨g0, g1⟩ := flatO_get os k _ ho
    have c0 := hc (k * 2) (by omega)
    have c1 := hc (k * 2 + 1) (by omega)
    rw [g0] at c0
    rw [g1] at c1
    exact ⟨b, off, os[k].1, os[k].2, rfl, ho, c0, c1⟩
theorem own_solds {w : World} {base : Nat} {e : TypeId} {a : Option Addr} {n cap : Nat} {os : List Od} (h : w.ownsRow base e 2 (.slice a n cap) n ((flatO os).map (Value.int .i64))) : SOlds w a n os :=
  ⟨by have := h.1; rw [List.length_map, flatO_len] at this; omega, own2_sints h⟩

theorem Try.info63 : (Try.prog.info? 63).map (fun i => (i.zero, i.size, i.bytes)) = some (some (.agg #[.int .i64 0, .int .i64 0]), 2, 16) := by kernel_rfl

end Go.Proofs.Ytcffoehldohooaa

/- Limbo -/
namespace Go.Proofs.Ytcffoehldohooaa
open Go.RowKit
set_option linter.unusedVariables false

/-- The slice of length n at a reads as lists of what was taken out. -/
def SLimbo (w : World) (a : Option Addr) (n : Nat) (oss : List (List Od)) : Prop :=
  oss.length = n ∧ (n = 0 ∨ ∃ b off, a = some ⟨b, off, none⟩ ∧ ∀ i os, oss[i]? = some os → ∃ ai ci, w.cell? ⟨b, off + i, none⟩ = some (.slice ai os.length ci) ∧ SOlds w ai os.length os)
theorem SLimbo.below {w w' : World} {a : Option Addr} {n : Nat} {oss : List (List Od)} (h : SLimbo w a n oss) (hb : Below w.heap.size w w') : SLimbo w' a n oss := by
  obtain ⟨hz, h0 | ⟨b, off, rfl, hc⟩⟩ := h
  · exact ⟨hz, .inl h0⟩
  · refine ⟨hz, .inr ⟨b, off, rfl, fun i os hi => ?_⟩⟩
    obtain ⟨ai, ci, h1, h2⟩ := hc i os hi
    exact ⟨ai, ci, cell_kept hb h1, h2.below hb⟩
theorem SLimbo.at {w : World} {a : Option Addr} {n : Nat} {oss : List (List Od)} (h : SLimbo w a n oss) {k : Nat} (hk : k < n) :
    ∃ b off os ai ci, a = some ⟨b, off, none⟩ ∧ oss[k]? = some os ∧ w.cell? ⟨b, off + k, none⟩ = some (.slice ai os.length ci) ∧ SOlds w ai os.length os := by
  obtain ⟨hz, h0 | ⟨b, off, rfl, hc⟩⟩ := h
  · omega
  · have hx : oss[k]? = some oss[k] := List.getElem?_eq_getElem (by omega)
    obtain ⟨ai, ci, h1, h2⟩ := hc k _ hx
    exact ⟨b, off, _, ai, ci, rfl, hx, h1, h2⟩

/-- How much there is in all. -/
def sumL : List (List Od) → Nat
  | [] => 0
  | os :: r => os.length + sumL r
theorem sumL_app (xs ys : List (List Od)) : sumL (xs ++ ys) = sumL xs + sumL ys := by
  induction xs with
  | nil => simp [sumL]
  | cons x xs ih => simp [sumL, ih]; omega
theorem take_one {α : Type} {xs : List α} {k : Nat} {x : α} (h : xs[k]? = some x) : xs.take (k + 1) = xs.take k ++ [x] := by
  rw [List.take_add_one, h]; rfl
theorem sumL_next {oss : List (List Od)} {k : Nat} {os : List Od} (h : oss[k]? = some os) : sumL (oss.take (k + 1)) = sumL (oss.take k) + os.length := by
  rw [take_one h, sumL_app]; simp [sumL]
theorem sumL_take (oss : List (List Od)) (k : Nat) : sumL (oss.take k) ≤ sumL oss := by
  have := sumL_app (oss.take k) (oss.drop k)
  rw [List.take_append_drop] at this
  omega
theorem sumL_mem {oss : List (List Od)} {k : Nat} {os : List Od} (h : oss[k]? = some os) : os.length ≤ sumL oss := by
  have := sumL_next h
  have := sumL_take oss (k + 1)
  omega

/-- What is left of a measure. -/
def leftR (n l : Int) : Int := if n ≤ l then l - n else -1
theorem leftR_pos {n l : Int} (h : n ≤ l) : leftR n l = l - n := if_pos h
theorem leftR_neg {n l : Int} (h : ¬ n ≤ l) : leftR n l = -1 := if_neg h

end Go.Proofs.Ytcffoehldohooaa

/- Limbo2 -/
namespace Go.Proofs.Ytcffoehldohooaa
open Go.RowKit
set_option linter.unusedVariables false

theorem Try.info61 : (Try.prog.info? 61).map (fun i => (i.zero, i.size, i.bytes)) = some (some (.slice none 0 0), 1, 24) := by kernel_rfl

/-- Lists in memory of their own, each in a block of its own. -/
def OLim (lo hi : Nat) (w : World) (g n : Nat) (ls : List Nat) : Prop :=
  ∃ vs : List Value, w.ownsRow lo 61 1 (.slice (some ⟨g, 0, none⟩) n n) n vs ∧ ls.length = n ∧ g < hi ∧
    (∀ (i m : Nat), ls[i]? = some m → ∃ (gi : Nat) (zs : List Int), vs[i]? = some (.slice (some ⟨gi, 0, none⟩) m m) ∧ w.ownsRow lo 63 2 (.slice (some ⟨gi, 0, none⟩) m m) m (zs.map (Value.int .i64)) ∧ g < gi ∧ gi < hi) ∧
    (∀ (i j gi gj mi mj ci cj : Nat), i < j → j < n → vs[i]? = some (.slice (some ⟨gi, 0, none⟩) mi ci) → vs[j]? = some (.slice (some ⟨gj, 0, none⟩) mj cj) → gi < gj)

theorem ne_block {g g' m c : Nat} (h : g ≠ g') : (Value.slice (some ⟨g, 0, none⟩) m c).ownBlock ≠ some g' := fun e => h (Option.some.inj e)

/-- What stands in the loop of the copy. -/
structure CopyAt (w : World) (n : Nat) (oss : List (List Od)) (k : Nat) (vs : List Value) (wr : World) : Prop where
  bel : Below w.heap.size w wr
  own : wr.ownsRow w.heap.size 61 1 (.slice (some ⟨w.heap.size, 0, none⟩) n n) n vs
  rows : ∀ (i : Nat) (os : List Od), i < k → oss[i]? = some os → ∃ gi : Nat, vs[i]? = some (.slice (some ⟨gi, 0, none⟩) os.length os.length) ∧ wr.ownsRow w.heap.size 63 2 (.slice (some ⟨gi, 0, none⟩) os.length os.length) os.length ((flatO os).map (Value.int .i64)) ∧ w.heap.size < gi
  ups : ∀ (i j gi gj mi mj ci cj : Nat), i < j → j < k → vs[i]? = some (.slice (some ⟨gi, 0, none⟩) mi ci) → vs[j]? = some (.slice (some ⟨gj, 0, none⟩) mj cj) → gi < gj

theorem CopyAt.below {w : World} {n : Nat} {oss : List (List Od)} {k : Nat} {vs : List Value} {wr wr' : World} (h : CopyAt w n oss k vs wr) (hb : Below wr.heap.size wr wr') : CopyAt w n oss k vs wr' :=
  ⟨below_trans' h.bel hb, ownsRow_below h.own hb, fun i os hi ho => by
    obtain ⟨gi, h1, h2, h3⟩ := h.rows i os hi ho
    exact ⟨gi, h1, ownsRow_below h2 hb, h3⟩, h.ups⟩

theorem CopyAt.put {w : World} {n : Nat} {oss : List (List Od)} {k : Nat} {vs : List Value} {wr : World} (h : CopyAt w n oss k vs wr) (hl : oss.length = n) (hk : k < n) {os : List Od} (ho : oss[k]? = some os) {gk : Nat}
    (hr : wr.ownsRow w.heap.size 63 2 (.slice (some ⟨gk, 0, none⟩) os.length os.length) os.length ((flatO os).map (Value.int .i64))) (hg : w.heap.size < gk)
    (hup : ∀ (i gi mi ci : Nat), i < k → vs[i]? = some (.slice (some ⟨gi, 0, none⟩) mi ci) → gi < gk) :
    CopyAt w n oss (k + 1) (vs.set k (.slice (some ⟨gk, 0, none⟩) os.length os.length)) (wr.setCell ⟨w.heap.size, k, none⟩ (.slice (some ⟨gk, 0, none⟩) os.length os.length)) := by
  have st := h.own.stored k (.slice (some ⟨gk, 0, none⟩) os.length os.length)
  have hvl : vs.length = n := by simpa using h.own.1
  refine ⟨h.bel.setCell (Nat.le_refl _) _, st.1, fun i os' hi ho' => ?_, fun i j gi gj mi mj ci cj hij hj hi' hj' => ?_⟩
  · by_cases e : i = k
    · subst e
      obtain rfl : os' = os := by rw [ho] at ho'; cases ho'; rfl
      exact ⟨gk, by simp [hvl, hk], hr.kept st.2 (.inr (ne_block (by omega))), hg⟩
    · obtain ⟨gi, h1, h2, h3⟩ := h.rows i os' (by omega) ho'
      exact ⟨gi, by rw [List.getElem?_set_ne (by omega)]; exact h1, h2.kept st.2 (.inr (ne_block (by omega))), h3⟩
  · by_cases e : j = k
    · subst e
      rw [List.getElem?_set_ne (by omega)] at hi'
      rw [List.getElem?_set_self (by omega)] at hj'
      cases hj'
      exact hup i gi mi ci hij hi'
    · rw [List.getElem?_set_ne (by omega)] at hi' hj'
      exact h.ups i j gi gj mi mj ci cj hij (by omega) hi' hj'

/-- Lists in memory of their own, each in a block of its own, and what they hold. -/
def OLimO (lo hi : Nat) (w : World) (g n : Nat) (oss : List (List Od)) : Prop :=
  ∃ vs : List Value, w.ownsRow lo 61 1 (.slice (some ⟨g, 0, none⟩) n n) n vs ∧ oss.length = n ∧ g < hi ∧
    (∀ (i : Nat) (os : List Od), oss[i]? = some os → ∃ gi : Nat, vs[i]? = some (.slice (some ⟨gi, 0, none⟩) os.length os.length) ∧ w.ownsRow lo 63 2 (.slice (some ⟨gi, 0, none⟩) os.length os.length) os.length ((flatO os).map (Value.int .i64)) ∧ g < gi ∧ gi < hi) ∧
    (∀ (i j gi gj mi mj ci cj : Nat), i < j → j < n → vs[i]? = some (.slice (some ⟨gi, 0, none⟩) mi ci) → vs[j]? = some (.slice (some ⟨gj, 0, none⟩) mj cj) → gi < gj)

theorem CopyAt.done {w : World} {n : Nat} {oss : List (List Od)} {vs : List Value} {wr : World} (h : CopyAt w n oss n vs wr) (hl : oss.length = n) :
    OLimO w.heap.size wr.heap.size wr w.heap.size n oss := by
  refine ⟨vs, h.own, hl, (h.own.lt _ rfl).2, fun i os hi => ?_, h.ups⟩
  have hin : i < n := by have := (List.getElem?_eq_some_iff.1 hi).1; omega
  obtain ⟨gi, h1, h2, h3⟩ := h.rows i os hin hi
  exact ⟨gi, h1, h2, h3, (h2.lt _ rfl).2⟩

theorem OLimO.sl {lo hi : Nat} {w : World} {g n : Nat} {oss : List (List Od)} (h : OLimO lo hi w g n oss) : SLimbo w (some ⟨g, 0, none⟩) n oss := by
  obtain ⟨vs, h1, h2, h3, h4, h5⟩ := h
  refine ⟨h2, .inr ⟨_, _, rfl, fun i os hi => ?_⟩⟩
  have hin : i < n := by have := (List.getElem?_eq_some_iff.1 hi).1; omega
  obtain ⟨gi, k1, k2, k3, k4⟩ := h4 i os hi
  refine ⟨some ⟨gi, 0, none⟩, os.length, ?_, own_solds k2⟩
  rw [Nat.zero_add, h1.cellAt i (by omega), k1]
theorem OLimO.ol {lo hi : Nat} {w : World} {g n : Nat} {oss : List (List Od)} (h : OLimO lo hi w g n oss) : OLim lo hi w g n (oss.map List.length) := by
  obtain ⟨vs, h1, h2, h3, h4, h5⟩ := h
  refine ⟨vs, h1, by simpa using h2, h3, fun i m hm => ?_, h5⟩
  rw [List.getElem?_map] at hm
  cases e : oss[i]? with
  | none => rw [e] at hm; simp at hm
  | some os =>
    rw [e] at hm
    simp at hm
    subst hm
    obtain ⟨gi, k1, k2, k3, k4⟩ := h4 i os e
    exact ⟨gi, _, k1, k2, k3, k4⟩
theorem OLimO.mono {lo hi lo' hi' : Nat} {w : World} {g n : Nat} {oss : List (List Od)} (h : OLimO lo hi w g n oss) (hl : lo' ≤ lo) (hh : hi ≤ hi') : OLimO lo' hi' w g n oss := by
  obtain ⟨vs, h1, h2, h3, h4, h5⟩ := h
  refine ⟨vs, own_mono h1 hl, h2, by omega, fun i m hm => ?_, h5⟩
  obtain ⟨gi, k1, k2, k3, k4⟩ := h4 i m hm
  exact ⟨gi, k1, own_mono k2 hl, k3, by omega⟩
theorem OLimO.only {lo hi : Nat} {g n : Nat} {oss : List (List Od)} : OnlyB lo hi (fun w => OLimO lo hi w g n oss) := by
  intro W W' h hk
  obtain ⟨vs, h1, h2, h3, h4, h5⟩ := h
  have key : ∀ {e : TypeId} {sz gi m : Nat} {xs : List Value}, W.ownsRow lo e sz (.slice (some ⟨gi, 0, none⟩) m m) m xs → gi < hi → W'.ownsRow lo e sz (.slice (some ⟨gi, 0, none⟩) m m) m xs := by
    intro e sz gi m xs ho hg
    exact (onlyB_row lo hi e sz _ m xs W W' ⟨ho, fun k e => Nat.lt_of_le_of_lt (Nat.le_of_eq (Option.some.inj e).symm) hg⟩ hk).1
  refine ⟨vs, key h1 h3, h2, h3, fun i m hm => ?_, h5⟩
  obtain ⟨gi, k1, k2, k3, k4⟩ := h4 i m hm
  exact ⟨gi, k1, key k2 k4, k3, k4⟩

/-- Just blocks from lo to hi have turned. -/
structure TurnIn (lo hi : Nat) (w w' : World) : Prop where
  os : w'.os = w.os
  tape : w'.tape = w.tape
  output : w'.output = w.output
  size : w.heap.size ≤ w'.heap.size
  block : ∀ k, k < w.heap.size → (k < lo ∨ hi ≤ k) → w'.heap[k]? = w.heap[k]?
theorem TurnIn.refl (lo hi : Nat) (w : World) : TurnIn lo hi w w := ⟨rfl, rfl, rfl, Nat.le_refl _, fun _ _ _ => rfl⟩
theorem TurnIn.trans {lo hi : Nat} {w w1 w2 : World} (h : TurnIn lo hi w w1) (k : TurnIn lo hi w1 w2) : TurnIn lo hi w w2 :=
  ⟨k.os.trans h.os, k.tape.trans h.tape, k.output.trans h.output, Nat.le_trans h.size k.size, fun i hi ho => (k.block i (Nat.lt_of_lt_of_le hi h.size) ho).trans (h.block i hi ho)⟩
theorem turnIn_grown {lo hi : Nat} {w w' : World} {row : Option Nat} (h : w.grownBy w' row) (hr : ∀ k, row = some k → lo ≤ k ∧ k < hi) : TurnIn lo hi w w' :=
  ⟨h.os, h.tape, h.output, h.size, fun k hk ho => h.block k hk (fun e => by have := hr k e.symm; omega)⟩
theorem TurnIn.below {lo hi B : Nat} {w w' : World} (h : TurnIn lo hi w w') (hB : B ≤ lo) (hw : B ≤ w.heap.size) : Below B w w' :=
  ⟨h.os, h.tape, h.output, h.size, fun k hk => h.block k (by omega) (by omega)⟩

end Go.Proofs.Ytcffoehldohooaa

/- Pool -/
namespace Go.Proofs.Ytcffoehldohooaa
open Go.RowKit
set_option linter.unusedVariables false

/-- The three cells of a pool lie at the beginning of a block. -/
structure BoxP (W : World) (b : Nat) (E : Int) (pa : Option Addr) (np pc : Nat) (la : Option Addr) (nl lc : Nat) : Prop where
  c0 : W.cell? ⟨b, 0, none⟩ = some (.int .i64 E)
  c1 : W.cell? ⟨b, 1, none⟩ = some (.slice pa np pc)
  c2 : W.cell? ⟨b, 2, none⟩ = some (.slice la nl lc)
theorem BoxP.below {W W' : World} {b : Nat} {E : Int} {pa : Option Addr} {np pc : Nat} {la : Option Addr} {nl lc : Nat} (h : BoxP W b E pa np pc la nl lc) (hb : Below W.heap.size W W') : BoxP W' b E pa np pc la nl lc :=
  ⟨cell_kept hb h.c0, cell_kept hb h.c1, cell_kept hb h.c2⟩
theorem BoxP.lt {W : World} {b : Nat} {E : Int} {pa : Option Addr} {np pc : Nat} {la : Option Addr} {nl lc : Nat} (h : BoxP W b E pa np pc la nl lc) : b < W.heap.size := World.block_lt_of_cell? W ⟨b, 0, none⟩ h.c0
theorem BoxP.cells {W : World} {b : Nat} {E : Int} {pa : Option Addr} {np pc : Nat} {la : Option Addr} {nl lc : Nat} (h : BoxP W b E pa np pc la nl lc) : W.cell? ⟨b, 0, none⟩ = some (.int .i64 E) ∧ W.cell? ⟨b, 1, none⟩ = some (.slice pa np pc) ∧ W.cell? ⟨b, 2, none⟩ = some (.slice la nl lc) := ⟨h.c0, h.c1, h.c2⟩
theorem boxP_new (W : World) (E : Int) (pa : Option Addr) (np pc : Nat) (la : Option Addr) (nl lc : Nat) (t : TypeId) {b : Nat} (hb : b = W.heap.size) : BoxP (W.alloc (.cells #[.int .i64 E, .slice pa np pc, .slice la nl lc] t)) b E pa np pc la nl lc := by
  subst hb
  exact ⟨by simp, by simp, by simp⟩
theorem onlyB_boxP {lo hi b : Nat} (E : Int) (pa : Option Addr) (np pc : Nat) (la : Option Addr) (nl lc : Nat) (h1 : lo ≤ b) (h2 : b < hi) : OnlyB lo hi (fun W => BoxP W b E pa np pc la nl lc) :=
  fun W W' h hk => ⟨onlyB_cell h1 h2 W W' h.c0 hk, onlyB_cell h1 h2 W W' h.c1 hk, onlyB_cell h1 h2 W W' h.c2 hk⟩

/-- A pool's pins and lists, in memory of its own. -/
def OPool (lo hi : Nat) (gp np : Nat) (ps : List Int) (gl nl : Nat) (oss : List (List Od)) (w : World) : Prop :=
  RowIn lo hi 3 1 (.slice (some ⟨gp, 0, none⟩) np np) np (ps.map (Value.int .i64)) w ∧ OLimO lo hi w gl nl oss ∧ gp < gl
theorem OPool.only {lo hi gp np : Nat} {ps : List Int} {gl nl : Nat} {oss : List (List Od)} : OnlyB lo hi (OPool lo hi gp np ps gl nl oss) :=
  fun W W' h hk => ⟨onlyB_row _ _ _ _ _ _ _ W W' h.1 hk, OLimO.only W W' h.2.1 hk, h.2.2⟩
theorem OPool.mono {lo hi lo' hi' gp np : Nat} {ps : List Int} {gl nl : Nat} {oss : List (List Od)} {w : World} (h : OPool lo hi gp np ps gl nl oss w) (hl : lo' ≤ lo) (hh : hi ≤ hi') : OPool lo' hi' gp np ps gl nl oss w :=
  ⟨⟨own_mono h.1.1 hl, fun k e => Nat.lt_of_lt_of_le (h.1.2 k e) hh⟩, h.2.1.mono hl hh, h.2.2⟩
theorem OPool.below {lo hi gp np : Nat} {ps : List Int} {gl nl : Nat} {oss : List (List Od)} {w w' : World} (h : OPool lo hi gp np ps gl nl oss w) (hh : hi ≤ w.heap.size) (hb : Below w.heap.size w w') : OPool lo hi gp np ps gl nl oss w' :=
  OPool.only w w' h (fun k _ hk => hb.block k (by omega))
theorem OPool.sp {lo hi gp np : Nat} {ps : List Int} {gl nl : Nat} {oss : List (List Od)} {w : World} (h : OPool lo hi gp np ps gl nl oss w) : SInts w (some ⟨gp, 0, none⟩) np ps := own_sints h.1.1
theorem OPool.sl {lo hi gp np : Nat} {ps : List Int} {gl nl : Nat} {oss : List (List Od)} {w : World} (h : OPool lo hi gp np ps gl nl oss w) : SLimbo w (some ⟨gl, 0, none⟩) nl oss := h.2.1.sl

/-- The world with a pool's three cells written. -/
abbrev putP (W : World) (b : Nat) (E : Int) (pa : Option Addr) (np pc : Nat) (la : Option Addr) (nl lc : Nat) : World :=
  ((W.setCell ⟨b, 0, none⟩ (.int .i64 E)).setCell ⟨b, 1, none⟩ (.slice pa np pc)).setCell ⟨b, 2, none⟩ (.slice la nl lc)
theorem below_putP {w W : World} {B : Nat} (h : Below B w W) {b : Nat} (hb : B ≤ b) (E : Int) (pa : Option Addr) (np pc : Nat) (la : Option Addr) (nl lc : Nat) : Below B w (putP W b E pa np pc la nl lc) :=
  ((h.setCell (p := ⟨b, 0, none⟩) hb _).setCell (p := ⟨b, 1, none⟩) hb _).setCell (p := ⟨b, 2, none⟩) hb _

theorem own_raise {w : World} {base : Nat} {e : TypeId} {sz g m c n : Nat} {xs : List Value} (h : w.ownsRow base e sz (.slice (some ⟨g, 0, none⟩) m c) n xs) {b : Nat} (hb : b ≤ g) : w.ownsRow b e sz (.slice (some ⟨g, 0, none⟩) m c) n xs := by
  refine ⟨h.1, ?_⟩
  rcases h.2 with ⟨e, _⟩ | ⟨g', cap, cur, hv, hg, r⟩
  · cases e
  · cases hv
    exact .inr ⟨g, c, cur, rfl, hb, r⟩
theorem OLimO.raise {lo hi : Nat} {w : World} {g n : Nat} {oss : List (List Od)} (h : OLimO lo hi w g n oss) : OLimO g hi w g n oss := by
  obtain ⟨vs, h1, h2, h3, h4, h5⟩ := h
  refine ⟨vs, own_raise h1 (Nat.le_refl _), h2, h3, fun i m hm => ?_, h5⟩
  obtain ⟨gi, k1, k2, k3, k4⟩ := h4 i m hm
  exact ⟨gi, k1, own_raise k2 (by omega), k3, k4⟩

end Go.Proofs.Ytcffoehldohooaa

/- Give2 -/
namespace Go.Proofs.Ytcffoehldohooaa
open Go.RowKit
set_option linter.unusedVariables false

theorem snodes_some {w : World} {a : Option Addr} {n : Nat} {ns : List Nd} (hs : SNodes w a n ns) (h : ns.length = 10) : n = 10 ∧ ∃ b off, a = some ⟨b, off, none⟩ := by
  obtain ⟨hz, h0 | ⟨b, off, rfl, hc⟩⟩ := hs
  · omega
  · exact ⟨by omega, b, off, rfl⟩

end Go.Proofs.Ytcffoehldohooaa
