/- What a law over all places, whose answer is entries, keeps from call to call. -/
import Derived.Test.YtbefjhcokmmeoaaMapS
import Derived.Test.YtbefjhcokmmeoaaLInv
import Derived.Test.YtbefjhcokmmeoaaEnts2
namespace Go.Proofs.Ytbefjhcokmmeoaa
open Go.RowKit
set_option linter.unusedVariables false

set_option maxHeartbeats 400000 in
theorem markMapMap_any (a : Option Addr) (n cap base : Nat) (zs : List Int) (k : Int) (w : World) (ho : w.ownsRow base 51 2 (.slice a n cap) n (zs.map (Value.int .i64))) (hk0 : 0 ≤ k) (hk : k + n ≤ 1000000000000) (hn : n ≤ 1000000000000) :
    Calls Try.prog 13 #[.agg #[.slice a n cap], .int .i64 k] w fun e w' => e = .returned (.int .i64 (k + 2 * n)) ∧ w'.ownsRow base 51 2 (.slice a n cap) n ((marks k (n * 2)).map (Value.int .i64)) ∧ w.grownBy w' (Value.ownBlock (.slice a n cap)) := by
  go_enter Try.func13, Try.ntmps13
  go_wp2_with fail
  refine (markMapEntryS_any _ _ _ _ zs _ _ (ho.alloc _) hk0 hk hn).mono ?_
  rintro e w1 ⟨rfl, ho1, hg1, _⟩
  have hg := grown_trans (World.grownBy_alloc w _ _) hg1
  have HO : Hid (w1.ownsRow base 51 2 (.slice a n cap) n ((marks k (n * 2)).map (Value.int .i64))) := ho1
  clear ho ho1 hg1
  go_wp2
  go_ret
  exact ⟨rfl, HO.out, hg⟩

set_option maxHeartbeats 400000 in
theorem heldMapMap_any (a : Option Addr) (n cap : Nat) (k : Int) (w : World) (hs : SInts w a (n * 2) (marks k (n * 2))) (hk0 : 0 ≤ k) (hk : k + n ≤ 1000000000000) :
    Calls Try.prog 14 #[.agg #[.slice a n cap], .int .i64 k] w fun e w' => e = .returned (.int .i64 (k + 2 * n)) ∧ Below w.heap.size w w' := by
  have hb0 : ∀ o, Below w.heap.size w (w.alloc o) := fun o => (Below.refl _ _).alloc (Nat.le_refl _) o
  go_enter Try.func14, Try.ntmps14
  go_wp2_with fail
  refine (heldMapEntryS_any _ _ _ _ _ (hs.below (hb0 _)) hk0 hk).mono ?_
  rintro e w1 ⟨rfl, rfl⟩
  clear hs
  go_wp2
  go_ret
  exact ⟨rfl, hb0 _⟩

structure EInv (w : World) (a : Option Addr) (n cap : Nat) (t f l : Int) (S1 S2 S3 : Nat) (b1 : Nat) (aw : Option Addr) (N cw : Nat) (L : List Int) (bx gx : Nat) (X : List Nd) (b3 : Nat) (ag : Option Addr) (cg : Nat) (G : List Int) (W : World) : Prop where
  inv : Inv3 w S1 S2 S3 (fun W => (BoxA W w.heap.size a n cap t f l ∧ W.cell? ⟨b1, 0, none⟩ = some (.slice aw N cw)) ∧ RowIn w.heap.size S1 51 2 (.slice aw N cw) N (L.map (Value.int .i64)) W) (ArIn S1 S2 bx (some ⟨gx, 0, none⟩) n n X t f l) (fun W => W.cell? ⟨b3, 0, none⟩ = some (.slice ag N cg) ∧ RowIn S2 S3 51 2 (.slice ag N cg) N (G.map (Value.int .i64)) W) W
  x1 : S1 ≤ bx
  x2 : bx < S2
  xr : ∀ k, (Value.slice (some ⟨gx, 0, none⟩) n n).ownBlock = some k → S1 ≤ k ∧ k < S2
  xn : ∀ k, (Value.slice (some ⟨gx, 0, none⟩) n n).ownBlock = some k → k < bx
  gr : ∀ k, (Value.slice ag N cg).ownBlock = some k → S2 ≤ k ∧ k < S3
  gn : ∀ k, (Value.slice ag N cg).ownBlock = some k → k < b3
  g3 : S2 ≤ b3 ∧ b3 < S3

section
variable {w : World} {a : Option Addr} {n cap : Nat} {t f l : Int} {S1 S2 S3 b1 : Nat} {aw : Option Addr} {N cw : Nat} {L : List Int} {bx gx : Nat} {X : List Nd} {b3 : Nat} {ag : Option Addr} {cg : Nat} {G : List Int} {W W' : World}

theorem EInv.bel (h : EInv w a n cap t f l S1 S2 S3 b1 aw N cw L bx gx X b3 ag cg G W) : Below w.heap.size w W := h.inv.bel
theorem EInv.bp_ (h : EInv w a n cap t f l S1 S2 S3 b1 aw N cw L bx gx X b3 ag cg G W) : BoxA W w.heap.size a n cap t f l := h.inv.hw.1.1
theorem EInv.c1 (h : EInv w a n cap t f l S1 S2 S3 b1 aw N cw L bx gx X b3 ag cg G W) : W.cell? ⟨b1, 0, none⟩ = some (.slice aw N cw) := h.inv.hw.1.2
theorem EInv.ow (h : EInv w a n cap t f l S1 S2 S3 b1 aw N cw L bx gx X b3 ag cg G W) : W.ownsRow w.heap.size 51 2 (.slice aw N cw) N (L.map (Value.int .i64)) := h.inv.hw.2.1
theorem EInv.bx_ (h : EInv w a n cap t f l S1 S2 S3 b1 aw N cw L bx gx X b3 ag cg G W) : BoxA W bx (some ⟨gx, 0, none⟩) n n t f l := h.inv.hx.1
theorem EInv.ox (h : EInv w a n cap t f l S1 S2 S3 b1 aw N cw L bx gx X b3 ag cg G W) : W.ownsRow S1 48 6 (.slice (some ⟨gx, 0, none⟩) n n) n (flatN X) := h.inv.hx.2.1
theorem EInv.c3 (h : EInv w a n cap t f l S1 S2 S3 b1 aw N cw L bx gx X b3 ag cg G W) : W.cell? ⟨b3, 0, none⟩ = some (.slice ag N cg) := h.inv.hg.1
theorem EInv.og (h : EInv w a n cap t f l S1 S2 S3 b1 aw N cw L bx gx X b3 ag cg G W) : W.ownsRow S2 51 2 (.slice ag N cg) N (G.map (Value.int .i64)) := h.inv.hg.2.1

theorem EInv.below (h : EInv w a n cap t f l S1 S2 S3 b1 aw N cw L bx gx X b3 ag cg G W) (hb : Below W.heap.size W W') : EInv w a n cap t f l S1 S2 S3 b1 aw N cw L bx gx X b3 ag cg G W' :=
  { inv := h.inv.below hb, x1 := h.x1, x2 := h.x2, xr := h.xr, xn := h.xn, gr := h.gr, gn := h.gn, g3 := h.g3 }

theorem EInv.markX (h : EInv w a n cap t f l S1 S2 S3 b1 aw N cw L bx gx X b3 ag cg G W) {X' : List Nd} (hg : W.grownBy W' (Value.slice (some ⟨gx, 0, none⟩) n n).ownBlock) (ho : W'.ownsRow S1 48 6 (.slice (some ⟨gx, 0, none⟩) n n) n (flatN X')) : EInv w a n cap t f l S1 S2 S3 b1 aw N cw L bx gx X' b3 ag cg G W' :=
  { inv := h.inv.markX hg h.xr ⟨h.bx_.grown hg (fun e => by have := h.xn _ e.symm; omega), ho, fun k e => (h.xr k e).2⟩ (onlyB_ar _ _ _ _ _ _ _ h.x1 h.x2), x1 := h.x1, x2 := h.x2, xr := h.xr, xn := h.xn, gr := h.gr, gn := h.gn, g3 := h.g3 }

theorem EInv.markG (h : EInv w a n cap t f l S1 S2 S3 b1 aw N cw L bx gx X b3 ag cg G W) {G' : List Int} (hg : W.grownBy W' (Value.slice ag N cg).ownBlock) (ho : W'.ownsRow S2 51 2 (.slice ag N cg) N (G'.map (Value.int .i64))) : EInv w a n cap t f l S1 S2 S3 b1 aw N cw L bx gx X b3 ag cg G' W' :=
  { inv := h.inv.markG hg h.gr ⟨hg.cell h.c3 (fun e => by have := h.gn b3 e.symm; omega), ho, fun k e => (h.gr k e).2⟩ ((onlyB_cell h.g3.1 h.g3.2).and (onlyB_row _ _ _ _ _ _ _)), x1 := h.x1, x2 := h.x2, xr := h.xr, xn := h.xn, gr := h.gr, gn := h.gn, g3 := h.g3 }

end

theorem einv_start {w w1 w2 w4 w6 : World} {a : Option Addr} {n cap : Nat} {t f l : Int} {aw : Option Addr} {N cw : Nat} {L : List Int} {gx : Nat} {ns : List Nd} {ag : Option Addr} {cg : Nat}
    (hA1 : Below w.heap.size w w1) (bx1 : BoxA w1 w.heap.size a n cap t f l) (hb2 : Below w1.heap.size w1 w2) (ow : w2.ownsRow w1.heap.size 51 2 (.slice aw N cw) N (L.map (Value.int .i64)))
    (hb4 : Below (w2.alloc (.cells #[.slice aw N cw] 28)).heap.size (w2.alloc (.cells #[.slice aw N cw] 28)) w4) (ox : w4.ownsRow (w2.alloc (.cells #[.slice aw N cw] 28)).heap.size 48 6 (.slice (some ⟨gx, 0, none⟩) n n) n (flatN ns))
    (hb6 : Below (w4.alloc (.cells #[.slice (some ⟨gx, 0, none⟩) n n, .int .i64 t, .int .i64 f, .int .i64 l] 32)).heap.size (w4.alloc (.cells #[.slice (some ⟨gx, 0, none⟩) n n, .int .i64 t, .int .i64 f, .int .i64 l] 32)) w6)
    (og : w6.ownsRow (w4.alloc (.cells #[.slice (some ⟨gx, 0, none⟩) n n, .int .i64 t, .int .i64 f, .int .i64 l] 32)).heap.size 51 2 (.slice ag N cg) N (L.map (Value.int .i64))) :
    ∃ S1 S2 S3, EInv w a n cap t f l S1 S2 S3 w2.heap.size aw N cw L w4.heap.size gx ns w6.heap.size ag cg L (w6.alloc (.cells #[.slice ag N cg] 28)) := by
  have T3 := al1 w2 (.cells #[.slice aw N cw] 28)
  have T5 := al1 w4 (.cells #[.slice (some ⟨gx, 0, none⟩) n n, .int .i64 t, .int .i64 f, .int .i64 l] 32)
  have T7 := al1 w6 (.cells #[.slice ag N cg] 28)
  have bx3 := (bx1.below hb2).below T3
  refine ⟨_, _, _,
    { inv := Inv3.start (below_trans' (below_trans' hA1 hb2) T3) ⟨⟨bx3, cell_at w2 _ _ 0 rfl rfl⟩, rowIn_of (ownsRow_below (own_mono ow hA1.size) T3) (Nat.le_refl _)⟩
        (((onlyB_box a n cap t f l (Nat.le_refl _) bx3.lt).and (onlyB_cell (Nat.le_trans hA1.size hb2.size) (by simp))).and (onlyB_row _ _ _ _ _ _ _))
        (below_trans' hb4 T5) ⟨boxA_new w4 _ _ _ _ _ _ 32 rfl, rowIn_of (ownsRow_below ox T5) (Nat.le_refl _)⟩ (onlyB_ar _ _ _ _ _ _ _ hb4.size (by simp))
        (below_trans' hb6 T7) ⟨cell_at w6 _ _ 0 rfl rfl, rowIn_of (ownsRow_below og T7) (Nat.le_refl _)⟩ ((onlyB_cell hb6.size (by simp)).and (onlyB_row _ _ _ _ _ _ _)),
      x1 := hb4.size, x2 := by simp, xr := fun k e => ⟨(ox.lt k e).1, by have := (ox.lt k e).2; simp; omega⟩, xn := fun k e => (ox.lt k e).2,
      gr := fun k e => ⟨(og.lt k e).1, by have := (og.lt k e).2; simp; omega⟩, gn := fun k e => (og.lt k e).2, g3 := ⟨hb6.size, by simp⟩ }⟩

end Go.Proofs.Ytbefjhcokmmeoaa
