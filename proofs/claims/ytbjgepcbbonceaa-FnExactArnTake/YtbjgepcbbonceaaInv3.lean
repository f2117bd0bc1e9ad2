/- What a law keeps from call to call, in general: three things, each in blocks of its own: the specification's answer, the copy that is handed in, the program's answer. -/
import Derived.Test.YtbjgepcbbonceaaNodes2
namespace Go.Proofs.Ytbjgepcbbonceaa
open Go.RowKit
set_option linter.unusedVariables false

/-- It hangs on the blocks from lo to hi alone. -/
def OnlyB (lo hi : Nat) (P : World → Prop) : Prop := ∀ W W' : World, P W → (∀ k, lo ≤ k → k < hi → W'.heap[k]? = W.heap[k]?) → P W'

theorem OnlyB.and {lo hi : Nat} {P Q : World → Prop} (h : OnlyB lo hi P) (k : OnlyB lo hi Q) : OnlyB lo hi (fun W => P W ∧ Q W) :=
  fun W W' hp hk => ⟨h W W' hp.1 hk, k W W' hp.2 hk⟩
theorem OnlyB.wide {lo hi lo' hi' : Nat} {P : World → Prop} (h : OnlyB lo hi P) (h1 : lo' ≤ lo) (h2 : hi ≤ hi') : OnlyB lo' hi' P :=
  fun W W' hp hk => h W W' hp (fun k a b => hk k (by omega) (by omega))
theorem onlyB_const (lo hi : Nat) (p : Prop) : OnlyB lo hi (fun _ => p) := fun _ _ h _ => h
theorem onlyB_cell {lo hi b o : Nat} {v : Value} (h1 : lo ≤ b) (h2 : b < hi) : OnlyB lo hi (fun W => W.cell? ⟨b, o, none⟩ = some v) :=
  fun W W' h hk => (World.cell?_of_block (w := W) (a := ⟨b, o, none⟩) (hk b h1 h2)).trans h

/-- A row of its own, in blocks from lo to hi. -/
def RowIn (lo hi : Nat) (e : TypeId) (sz : Nat) (v : Value) (n : Nat) (xs : List Value) (W : World) : Prop :=
  W.ownsRow lo e sz v n xs ∧ ∀ k, v.ownBlock = some k → k < hi

theorem onlyB_row (lo hi : Nat) (e : TypeId) (sz : Nat) (v : Value) (n : Nat) (xs : List Value) : OnlyB lo hi (RowIn lo hi e sz v n xs) := by
  intro W W' h hk
  refine ⟨⟨h.1.1, ?_⟩, h.2⟩
  rcases h.1.2 with h2 | ⟨g, cap, cur, hv, hg, hh, r⟩
  · exact .inl h2
  · exact .inr ⟨g, cap, cur, hv, hg, (hk g hg (h.2 g (by subst hv; rfl))).trans hh, r⟩

theorem rowIn_of {lo hi : Nat} {e : TypeId} {sz : Nat} {v : Value} {n : Nat} {xs : List Value} {W : World} (h : W.ownsRow lo e sz v n xs) (hh : W.heap.size ≤ hi) : RowIn lo hi e sz v n xs W :=
  ⟨h, fun k hk => Nat.lt_of_lt_of_le (h.lt k hk).2 hh⟩

theorem frozen_at' (W : World) (cs : Array Value) (t : TypeId) (i : Nat) {b : Nat} (hb : b = W.heap.size) : (W.alloc (.cells cs t)).frozen? ⟨b, i, none⟩ = false := by
  subst hb
  simp

structure Inv3 (w : World) (s1 s2 s3 : Nat) (Pw Px Pg : World → Prop) (W : World) : Prop where
  bel : Below w.heap.size w W
  l0 : w.heap.size ≤ s1
  l1 : s1 ≤ s2
  l2 : s2 ≤ s3
  l3 : s3 ≤ W.heap.size
  fw : OnlyB w.heap.size s1 Pw
  fx : OnlyB s1 s2 Px
  fg : OnlyB s2 s3 Pg
  hw : Pw W
  hx : Px W
  hg : Pg W

theorem Inv3.start {w W0 W1 W2 : World} {Pw Px Pg : World → Prop} (hb : Below w.heap.size w W0) (hw : Pw W0) (fw : OnlyB w.heap.size W0.heap.size Pw) (hb1 : Below W0.heap.size W0 W1) (hx : Px W1) (fx : OnlyB W0.heap.size W1.heap.size Px)
    (hb2 : Below W1.heap.size W1 W2) (hg : Pg W2) (fg : OnlyB W1.heap.size W2.heap.size Pg) : Inv3 w W0.heap.size W1.heap.size W2.heap.size Pw Px Pg W2 :=
  { bel := below_trans' (below_trans' hb hb1) hb2, l0 := hb.size, l1 := hb1.size, l2 := hb2.size, l3 := Nat.le_refl _, fw := fw, fx := fx, fg := fg,
    hw := fw W0 W2 hw (fun k _ h => ((below_trans' hb1 hb2).block k h)), hx := fx W1 W2 hx (fun k _ h => hb2.block k h), hg := hg }

theorem Inv3.below {w W W' : World} {s1 s2 s3 : Nat} {Pw Px Pg : World → Prop} (h : Inv3 w s1 s2 s3 Pw Px Pg W) (hb : Below W.heap.size W W') : Inv3 w s1 s2 s3 Pw Px Pg W' :=
  { bel := below_trans' h.bel hb, l0 := h.l0, l1 := h.l1, l2 := h.l2, l3 := Nat.le_trans h.l3 hb.size, fw := h.fw, fx := h.fx, fg := h.fg,
    hw := h.fw W W' h.hw (fun k _ hk => hb.block k (by have := h.l1; have := h.l2; have := h.l3; omega)),
    hx := h.fx W W' h.hx (fun k _ hk => hb.block k (by have := h.l2; have := h.l3; omega)),
    hg := h.fg W W' h.hg (fun k _ hk => hb.block k (by have := h.l3; omega)) }

theorem Inv3.markX {w W W' : World} {s1 s2 s3 : Nat} {Pw Px Pg Px' : World → Prop} (h : Inv3 w s1 s2 s3 Pw Px Pg W) {row : Option Nat} (hg : W.grownBy W' row) (hr : ∀ k, row = some k → s1 ≤ k ∧ k < s2) (hx : Px' W') (fx : OnlyB s1 s2 Px') : Inv3 w s1 s2 s3 Pw Px' Pg W' :=
  { bel := h.bel.grown hg h.bel.size (fun k e => by have := hr k e; have := h.l0; omega), l0 := h.l0, l1 := h.l1, l2 := h.l2, l3 := Nat.le_trans h.l3 hg.size, fw := h.fw, fx := fx, fg := h.fg,
    hw := h.fw W W' h.hw (fun k _ hk => hg.block k (by have := h.l1; have := h.l2; have := h.l3; omega) (fun e => by have := hr k e.symm; omega)),
    hx := hx,
    hg := h.fg W W' h.hg (fun k hk1 hk => hg.block k (by have := h.l3; omega) (fun e => by have := hr k e.symm; omega)) }

theorem Inv3.markG {w W W' : World} {s1 s2 s3 : Nat} {Pw Px Pg Pg' : World → Prop} (h : Inv3 w s1 s2 s3 Pw Px Pg W) {row : Option Nat} (hg : W.grownBy W' row) (hr : ∀ k, row = some k → s2 ≤ k ∧ k < s3) (hx : Pg' W') (fx : OnlyB s2 s3 Pg') : Inv3 w s1 s2 s3 Pw Px Pg' W' :=
  { bel := h.bel.grown hg h.bel.size (fun k e => by have := hr k e; have := h.l0; have := h.l1; omega), l0 := h.l0, l1 := h.l1, l2 := h.l2, l3 := Nat.le_trans h.l3 hg.size, fw := h.fw, fx := h.fx, fg := fx,
    hw := h.fw W W' h.hw (fun k _ hk => hg.block k (by have := h.l1; have := h.l2; have := h.l3; omega) (fun e => by have := hr k e.symm; have := h.l1; omega)),
    hx := h.fx W W' h.hx (fun k _ hk => hg.block k (by have := h.l2; have := h.l3; omega) (fun e => by have := hr k e.symm; omega)),
    hg := hx }

/-- The six cells of a place in a block. -/
structure BoxN (W : World) (b : Nat) (k v o r : Int) (u : Bool) (g : Int) : Prop where
  c0 : W.cell? ⟨b, 0, none⟩ = some (.int .i64 k)
  c1 : W.cell? ⟨b, 1, none⟩ = some (.int .i64 v)
  c2 : W.cell? ⟨b, 2, none⟩ = some (.int .i64 o)
  c3 : W.cell? ⟨b, 3, none⟩ = some (.int .i64 r)
  c4 : W.cell? ⟨b, 4, none⟩ = some (.bool u)
  c5 : W.cell? ⟨b, 5, none⟩ = some (.int .i64 g)
theorem BoxN.below {W W' : World} {b : Nat} {k v o r : Int} {u : Bool} {g : Int} (h : BoxN W b k v o r u g) (hb : Below W.heap.size W W') : BoxN W' b k v o r u g :=
  ⟨cell_kept hb h.c0, cell_kept hb h.c1, cell_kept hb h.c2, cell_kept hb h.c3, cell_kept hb h.c4, cell_kept hb h.c5⟩
theorem boxN_new (W : World) (k v o r : Int) (u : Bool) (g : Int) (ty : TypeId) {b : Nat} (hb : b = W.heap.size) : BoxN (W.alloc (.cells #[.int .i64 k, .int .i64 v, .int .i64 o, .int .i64 r, .bool u, .int .i64 g] ty)) b k v o r u g := by
  subst hb
  exact ⟨by simp, by simp, by simp, by simp, by simp, by simp⟩

/-- The four cells of all places in a block. -/
structure BoxA (W : World) (b : Nat) (a : Option Addr) (n cap : Nat) (t f l : Int) : Prop where
  c0 : W.cell? ⟨b, 0, none⟩ = some (.slice a n cap)
  c1 : W.cell? ⟨b, 1, none⟩ = some (.int .i64 t)
  c2 : W.cell? ⟨b, 2, none⟩ = some (.int .i64 f)
  c3 : W.cell? ⟨b, 3, none⟩ = some (.int .i64 l)

theorem BoxA.below {W W' : World} {b : Nat} {a : Option Addr} {n cap : Nat} {t f l : Int} (h : BoxA W b a n cap t f l) (hb : Below W.heap.size W W') : BoxA W' b a n cap t f l :=
  ⟨cell_kept hb h.c0, cell_kept hb h.c1, cell_kept hb h.c2, cell_kept hb h.c3⟩
theorem BoxA.lt {W : World} {b : Nat} {a : Option Addr} {n cap : Nat} {t f l : Int} (h : BoxA W b a n cap t f l) : b < W.heap.size := World.block_lt_of_cell? W ⟨b, 0, none⟩ h.c0
theorem boxA_new (W : World) (a : Option Addr) (n cap : Nat) (t f l : Int) (ty : TypeId) {b : Nat} (hb : b = W.heap.size) : BoxA (W.alloc (.cells #[.slice a n cap, .int .i64 t, .int .i64 f, .int .i64 l] ty)) b a n cap t f l := by
  subst hb
  exact ⟨by simp, by simp, by simp, by simp⟩
theorem onlyB_box {lo hi b : Nat} (a : Option Addr) (n cap : Nat) (t f l : Int) (h1 : lo ≤ b) (h2 : b < hi) : OnlyB lo hi (fun W => BoxA W b a n cap t f l) :=
  fun W W' h hk => ⟨onlyB_cell h1 h2 W W' h.c0 hk, onlyB_cell h1 h2 W W' h.c1 hk, onlyB_cell h1 h2 W W' h.c2 hk, onlyB_cell h1 h2 W W' h.c3 hk⟩

/-- The world with the four cells of all places written. -/
abbrev putA (W : World) (b : Nat) (a : Option Addr) (n cap : Nat) (t f l : Int) : World :=
  (((W.setCell ⟨b, 0, none⟩ (.slice a n cap)).setCell ⟨b, 1, none⟩ (.int .i64 t)).setCell ⟨b, 2, none⟩ (.int .i64 f)).setCell ⟨b, 3, none⟩ (.int .i64 l)
theorem own_putA {W : World} {base : Nat} {e : TypeId} {size : Nat} {v : Value} {m : Nat} {xs : List Value} (h : W.ownsRow base e size v m xs) {b : Nat} (hb : b < base) (a : Option Addr) (n cap : Nat) (t f l : Int) : (putA W b a n cap t f l).ownsRow base e size v m xs :=
  ownsRow_setCell_below (ownsRow_setCell_below (ownsRow_setCell_below (ownsRow_setCell_below h (a := ⟨b, 0, none⟩) hb _) (a := ⟨b, 1, none⟩) hb _) (a := ⟨b, 2, none⟩) hb _) (a := ⟨b, 3, none⟩) hb _
theorem below_putA {w W : World} {B : Nat} (h : Below B w W) {b : Nat} (hb : B ≤ b) (a : Option Addr) (n cap : Nat) (t f l : Int) : Below B w (putA W b a n cap t f l) :=
  (((h.setCell (p := ⟨b, 0, none⟩) hb _).setCell (p := ⟨b, 1, none⟩) hb _).setCell (p := ⟨b, 2, none⟩) hb _).setCell (p := ⟨b, 3, none⟩) hb _

/-- All places in memory of their own, in blocks from lo to hi. -/
def ArIn (lo hi b : Nat) (a : Option Addr) (n cap : Nat) (ns : List Nd) (t f l : Int) (W : World) : Prop :=
  BoxA W b a n cap t f l ∧ RowIn lo hi 46 6 (.slice a n cap) n (flatN ns) W
theorem onlyB_ar {lo hi b : Nat} (a : Option Addr) (n cap : Nat) (ns : List Nd) (t f l : Int) (h1 : lo ≤ b) (h2 : b < hi) : OnlyB lo hi (ArIn lo hi b a n cap ns t f l) :=
  (onlyB_box a n cap t f l h1 h2).and (onlyB_row lo hi _ _ _ _ _)

end Go.Proofs.Ytbjgepcbbonceaa
