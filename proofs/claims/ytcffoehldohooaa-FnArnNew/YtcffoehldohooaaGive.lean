/- Contracts of ArnGive, of the specification's and of the program's. -/
import Derived.Test.YtcffoehldohooaaCopy
namespace Go.Proofs.Ytcffoehldohooaa
open Go.RowKit
set_option linter.unusedVariables false

/-- The first two blocks of a function over all places: the argument's, and the answer's. -/
structure LocA (w : World) (a : Option Addr) (n cap : Nat) (t f l : Int) (W : World) : Prop where
  bel : Below w.heap.size w W
  box : BoxA W w.heap.size a n cap t f l
  res : BoxA W (w.heap.size + 1) none 0 0 0 0 0
  fz : ∀ j, W.frozen? ⟨w.heap.size + 1, j, none⟩ = false

theorem locA_start (w : World) (a : Option Addr) (n cap : Nat) (t f l : Int) : LocA w a n cap t f l ((w.alloc (.cells #[.slice a n cap, .int .i64 t, .int .i64 f, .int .i64 l] 33)).alloc (.cells #[.slice none 0 0, .int .i64 0, .int .i64 0, .int .i64 0] 33)) :=
  { bel := below_trans' (al1 w _) (al1 _ _), box := (boxA_new w a n cap t f l 33 rfl).below (al1 _ _), res := boxA_new _ none 0 0 0 0 0 33 (by simp), fz := fun j => frozen_at' _ _ _ j (by simp) }

theorem LocA.sz {w : World} {a : Option Addr} {n cap : Nat} {t f l : Int} {W : World} (h : LocA w a n cap t f l W) : w.heap.size + 1 < W.heap.size := h.res.lt

theorem LocA.below {w : World} {a : Option Addr} {n cap : Nat} {t f l : Int} {W W' : World} (h : LocA w a n cap t f l W) (hb : Below W.heap.size W W') : LocA w a n cap t f l W' :=
  { bel := below_trans' h.bel hb, box := h.box.below hb, res := h.res.below hb, fz := fun j => (hb.frozen (p := ⟨w.heap.size + 1, j, none⟩) h.sz).trans (h.fz j) }

theorem LocA.grown {w : World} {a : Option Addr} {n cap : Nat} {t f l : Int} {W W' : World} (h : LocA w a n cap t f l W) {g : Nat} (hg : W.grownBy W' (some g)) (hlt : w.heap.size + 1 < g) : LocA w a n cap t f l W' :=
  { bel := h.bel.grown hg h.bel.size (fun k e => by cases e; omega), box := h.box.grown hg (fun e => by cases e; omega), res := h.res.grown hg (fun e => by cases e; omega),
    fz := fun j => frozen_grown hg h.sz (fun e => by cases e; omega) (h.fz j) }

/-- A copy of all places, in a variable X. -/
structure CopyA (w : World) (a0 : Option Addr) (n0 cap0 : Nat) (t f l : Int) (X g c : Nat) (ns : List Nd) (W : World) : Prop where
  loc : LocA w a0 n0 cap0 t f l W
  x : BoxA W X (some ⟨g, 0, none⟩) 10 c t f l
  own : W.ownsRow (w.heap.size + 1 + 1) 59 6 (.slice (some ⟨g, 0, none⟩) 10 c) 10 (flatN ns)
  lt0 : w.heap.size + 1 < g
  lt1 : g < X

theorem CopyA.put {w : World} {a0 : Option Addr} {n0 cap0 : Nat} {t f l : Int} {X g c : Nat} {ns : List Nd} {W : World} (h : CopyA w a0 n0 cap0 t f l X g c ns W) (k : Nat) (y : Nd) : CopyA w a0 n0 cap0 t f l X g c (ns.set k y) (put6 W g (k * 6) y) := by
  obtain ⟨h1, h2, h3⟩ := own6_put h.own k y
  exact { loc := h.loc.grown h2 h.lt0, x := h.x.grown h2 (fun e => by have h1 : X = g := Option.some.inj e; have := h.lt1; omega), own := h1, lt0 := h.lt0, lt1 := h.lt1 }

theorem CopyA.below {w : World} {a0 : Option Addr} {n0 cap0 : Nat} {t f l : Int} {X g c : Nat} {ns : List Nd} {W W' : World} (h : CopyA w a0 n0 cap0 t f l X g c ns W) (hb : Below W.heap.size W W') : CopyA w a0 n0 cap0 t f l X g c ns W' :=
  { loc := h.loc.below hb, x := h.x.below hb, own := ownsRow_below h.own hb, lt0 := h.lt0, lt1 := h.lt1 }

theorem CopyA.drew {w : World} {a0 : Option Addr} {n0 cap0 : Nat} {t f l : Int} {X g c : Nat} {ns : List Nd} {W : World} (h : CopyA w a0 n0 cap0 t f l X g c ns W) : CopyA w a0 n0 cap0 t f l X g c ns W.drew :=
  h.below (Below.refl _ _).drew

theorem copyA_start {w : World} {a0 : Option Addr} {n0 cap0 : Nat} {t f l : Int} {W W' : World} (h : LocA w a0 n0 cap0 t f l W) {ns : List Nd} {a : Option Addr} {c : Nat} (ho : W'.ownsRow W.heap.size 59 6 (.slice a 10 c) 10 (flatN ns)) (hb : Below W.heap.size W W') :
    ∃ g, a = some ⟨g, 0, none⟩ ∧ CopyA w a0 n0 cap0 t f l W'.heap.size g c ns (W'.alloc (.cells #[.slice a 10 c, .int .i64 t, .int .i64 f, .int .i64 l] 33)) := by
  obtain ⟨a', c', e, _, h0 | ⟨g, rfl⟩⟩ := own6_shape ho
  · omega
  · cases e
    have hlt := ho.lt g rfl
    have := h.sz
    exact ⟨g, rfl, { loc := (h.below hb).below (al1 _ _), x := boxA_new _ _ _ _ _ _ _ _ rfl, own := own_mono (ownsRow_below ho (al1 _ _)) (by omega), lt0 := by omega, lt1 := hlt.2 }⟩

theorem CopyA.res {w : World} {a0 : Option Addr} {n0 cap0 : Nat} {t f l : Int} {X g c : Nat} {ns : List Nd} {W : World} (h : CopyA w a0 n0 cap0 t f l X g c ns W) :
    (putA W (w.heap.size + 1) (some ⟨g, 0, none⟩) 10 c t f l).ownsRow w.heap.size 59 6 (.slice (some ⟨g, 0, none⟩) 10 c) 10 (flatN ns) ∧ Below w.heap.size w (putA W (w.heap.size + 1) (some ⟨g, 0, none⟩) 10 c t f l) :=
  ⟨own_mono (own_putA h.own (by omega) _ _ _ _ _ _) (by omega), below_putA h.loc.bel (by omega) _ _ _ _ _ _⟩

/-- What ArnGive leaves at a place. -/
def gaveN (x : Nd) : Nd := ⟨0, 0, 0, 0, false, x.gen⟩
/-- What ArnGive leaves. -/
def giveL (ns : List Nd) (at_ : Int) : List Nd := if inP at_ && (ns.getD at_.toNat Nd.zero).used then ns.set at_.toNat (gaveN (ns.getD at_.toNat Nd.zero)) else ns

end Go.Proofs.Ytcffoehldohooaa
