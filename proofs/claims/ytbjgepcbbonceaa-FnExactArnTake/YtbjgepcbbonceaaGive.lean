/- Contracts of ArnGive, of the specification's and of the program's. -/
import Derived.Test.YtbjgepcbbonceaaCopy
namespace Go.Proofs.Ytbjgepcbbonceaa
open Go.RowKit
set_option linter.unusedVariables false

/-- The first two blocks of a function over all places: the argument's, and the answer's. -/
structure LocA (w : World) (a : Option Addr) (n cap : Nat) (t f l : Int) (W : World) : Prop where
  bel : Below w.heap.size w W
  box : BoxA W w.heap.size a n cap t f l
  res : BoxA W (w.heap.size + 1) none 0 0 0 0 0
  fz : ∀ j, W.frozen? ⟨w.heap.size + 1, j, none⟩ = false

theorem locA_start (w : World) (a : Option Addr) (n cap : Nat) (t f l : Int) : LocA w a n cap t f l ((w.alloc (.cells #[.slice a n cap, .int .i64 t, .int .i64 f, .int .i64 l] 28)).alloc (.cells #[.slice none 0 0, .int .i64 0, .int .i64 0, .int .i64 0] 28)) :=
  { bel := below_trans' (al1 w _) (al1 _ _), box := (boxA_new w a n cap t f l 28 rfl).below (al1 _ _), res := boxA_new _ none 0 0 0 0 0 28 (by simp), fz := fun j => frozen_at' _ _ _ j (by simp) }

theorem LocA.sz {w : World} {a : Option Addr} {n cap : Nat} {t f l : Int} {W : World} (h : LocA w a n cap t f l W) : w.heap.size + 1 < W.heap.size := h.res.lt

theorem LocA.below {w : World} {a : Option Addr} {n cap : Nat} {t f l : Int} {W W' : World} (h : LocA w a n cap t f l W) (hb : Below W.heap.size W W') : LocA w a n cap t f l W' :=
  { bel := below_trans' h.bel hb, box := h.box.below hb, res := h.res.below hb, fz := fun j => (hb.frozen (p := ⟨w.heap.size + 1, j, none⟩) h.sz).trans (h.fz j) }

theorem LocA.grown {w : World} {a : Option Addr} {n cap : Nat} {t f l : Int} {W W' : World} (h : LocA w a n cap t f l W) {g : Nat} (hg : W.grownBy W' (some g)) (hlt : w.heap.size + 1 < g) : LocA w a n cap t f l W' :=
  { bel := h.bel.grown hg h.bel.size (fun k e => by cases e; omega), box := h.box.grown hg (fun e => by cases e; omega), res := h.res.grown hg (fun e => by cases e; omega),
    fz := fun j => frozen_grown hg h.sz (fun e => by cases e; omega) (h.fz j) }

/-- A copy of all places, in a variable X. -/
structure CopyA (w : World) (a0 : Option Addr) (n0 cap0 : Nat) (t f l : Int) (X g c : Nat) (ns : List Nd) (W : World) : Prop where
  loc : LocA w a0 n0 cap0 t f l W
  x : BoxA W X (some ⟨g, 0, none⟩) 10 c t f l
  own : W.ownsRow (w.heap.size + 1 + 1) 46 6 (.slice (some ⟨g, 0, none⟩) 10 c) 10 (flatN ns)
  lt0 : w.heap.size + 1 < g
  lt1 : g < X

theorem CopyA.put {w : World} {a0 : Option Addr} {n0 cap0 : Nat} {t f l : Int} {X g c : Nat} {ns : List Nd} {W : World} (h : CopyA w a0 n0 cap0 t f l X g c ns W) (k : Nat) (y : Nd) : CopyA w a0 n0 cap0 t f l X g c (ns.set k y) (put6 W g (k * 6) y) := by
  obtain ⟨h1, h2, h3⟩ := own6_put h.own k y
  exact { loc := h.loc.grown h2 h.lt0, x := h.x.grown h2 (fun e => by have h1 : X = g := Option.some.inj e; have := h.lt1; omega), own := h1, lt0 := h.lt0, lt1 := h.lt1 }

theorem CopyA.below {w : World} {a0 : Option Addr} {n0 cap0 : Nat} {t f l : Int} {X g c : Nat} {ns : List Nd} {W W' : World} (h : CopyA w a0 n0 cap0 t f l X g c ns W) (hb : Below W.heap.size W W') : CopyA w a0 n0 cap0 t f l X g c ns W' :=
  { loc := h.loc.below hb, x := h.x.below hb, own := ownsRow_below h.own hb, lt0 := h.lt0, lt1 := h.lt1 }

theorem CopyA.drew {w : World} {a0 : Option Addr} {n0 cap0 : Nat} {t f l : Int} {X g c : Nat} {ns : List Nd} {W : World} (h : CopyA w a0 n0 cap0 t f l X g c ns W) : CopyA w a0 n0 cap0 t f l X g c ns W.drew :=
  h.below (Below.refl _ _).drew

theorem copyA_start {w : World} {a0 : Option Addr} {n0 cap0 : Nat} {t f l : Int} {W W' : World} (h : LocA w a0 n0 cap0 t f l W) {ns : List Nd} {a : Option Addr} {c : Nat} (ho : W'.ownsRow W.heap.size 46 6 (.slice a 10 c) 10 (flatN ns)) (hb : Below W.heap.size W W') :
    ∃ g, a = some ⟨g, 0, none⟩ ∧ CopyA w a0 n0 cap0 t f l W'.heap.size g c ns (W'.alloc (.cells #[.slice a 10 c, .int .i64 t, .int .i64 f, .int .i64 l] 28)) := by
  obtain ⟨a', c', e, _, h0 | ⟨g, rfl⟩⟩ := own6_shape ho
  · omega
  · cases e
    have hlt := ho.lt g rfl
    have := h.sz
    exact ⟨g, rfl, { loc := (h.below hb).below (al1 _ _), x := boxA_new _ _ _ _ _ _ _ _ rfl, own := own_mono (ownsRow_below ho (al1 _ _)) (by omega), lt0 := by omega, lt1 := hlt.2 }⟩

theorem CopyA.res {w : World} {a0 : Option Addr} {n0 cap0 : Nat} {t f l : Int} {X g c : Nat} {ns : List Nd} {W : World} (h : CopyA w a0 n0 cap0 t f l X g c ns W) :
    (putA W (w.heap.size + 1) (some ⟨g, 0, none⟩) 10 c t f l).ownsRow w.heap.size 46 6 (.slice (some ⟨g, 0, none⟩) 10 c) 10 (flatN ns) ∧ Below w.heap.size w (putA W (w.heap.size + 1) (some ⟨g, 0, none⟩) 10 c t f l) :=
  ⟨own_mono (own_putA h.own (by omega) _ _ _ _ _ _) (by omega), below_putA h.loc.bel (by omega) _ _ _ _ _ _⟩

/-- What ArnGive leaves at a place. -/
def gaveN (x : Nd) : Nd := ⟨0, 0, 0, 0, false, x.gen⟩
/-- What ArnGive leaves. -/
def giveL (ns : List Nd) (at_ : Int) : List Nd := if inP at_ && (ns.getD at_.toNat Nd.zero).used then ns.set at_.toNat (gaveN (ns.getD at_.toNat Nd.zero)) else ns

set_option maxHeartbeats 2000000 in
theorem specArnGive_bad (a : Option Addr) (n cap : Nat) (ns : List Nd) (t f l at_ : Int) (w : World) (hs : SNodes w a n ns) (hn : n ≤ 9223372036854775807) (hsh : shapeB ns t f l = false) :
    Calls Try.prog 15 #[.agg #[.slice a n cap, .int .i64 t, .int .i64 f, .int .i64 l], .int .i64 at_] w fun e w' => ArenaRes [] 0 0 0 0 e w w' := by
  have I0 := locA_start w a n cap t f l
  go_enter Try.func15, Try.ntmps15
  go_wp2_with fail
  refine (l2Shape_any _ _ _ ns t f l _ (hs.below I0.bel) hn).mono ?_
  rintro e w1 ⟨rfl, hb1⟩
  have I1 := I0.below hb1
  have p0 := I1.box.c0
  have p1 := I1.box.c1
  have p2 := I1.box.c2
  have p3 := I1.box.c3
  have q0 := I1.res.c0
  have q1 := I1.res.c1
  have q2 := I1.res.c2
  have q3 := I1.res.c3
  have f0 := I1.fz 0
  have f1 := I1.fz 1
  have f2 := I1.fz 2
  have f3 := I1.fz 3
  have hbel := I1.bel
  rw [hsh]
  clear hs I0 I1 hb1
  go_wp2
  exact bodyPost_ret (v := .agg #[.slice none 0 0, .int .i64 0, .int .i64 0, .int .i64 0]) (by simp [results, Try.results15, go_sem, q0, q1, q2, q3]) rfl ⟨none, 0, rfl, World.ownsRow_nil _ _ _ _, below_putA hbel (by omega) _ _ _ _ _ _⟩

set_option maxHeartbeats 2000000 in
theorem specArnGive_out (b off cap : Nat) (ns : List Nd) (t f l at_ : Int) (w : World) (hs : SNodes w (some ⟨b, off, none⟩) 10 ns) (hnc : 10 ≤ cap) (hcap : cap ≤ 9223372036854775807) (hsh : shapeB ns t f l = true) (hp : inR at_ 1 9 = false) :
    Calls Try.prog 15 #[.agg #[.slice (some ⟨b, off, none⟩) 10 cap, .int .i64 t, .int .i64 f, .int .i64 l], .int .i64 at_] w fun e w' => ArenaRes ns 10 t f l e w w' := by
  have I0 := locA_start w (some ⟨b, off, none⟩) 10 cap t f l
  go_enter Try.func15, Try.ntmps15
  go_wp2_with fail
  refine (l2Shape_any _ _ _ ns t f l _ (hs.below I0.bel) (by omega)).mono ?_
  rintro e w1 ⟨rfl, hb1⟩
  have I1 := I0.below hb1
  have p0 := I1.box.c0
  have p1 := I1.box.c1
  have p2 := I1.box.c2
  have p3 := I1.box.c3
  rw [hsh]
  have s1 := hs.below I1.bel
  clear hb1 I0
  go_wp2_with fail
  refine (l2Copy_any b off cap ns t f l _ s1).mono ?_
  rintro e w2 ⟨a2, c2, rfl, ho2, hb2⟩
  obtain ⟨g, rfl, I⟩ := copyA_start I1 ho2 hb2
  clear I1 ho2 hb2 p0 p1 p2 p3 s1
  have p0 := I.loc.box.c0
  have q0 := I.loc.res.c0
  have q1 := I.loc.res.c1
  have q2 := I.loc.res.c2
  have q3 := I.loc.res.c3
  have f0 := I.loc.fz 0
  have f1 := I.loc.fz 1
  have f2 := I.loc.fz 2
  have f3 := I.loc.fz 3
  have x0 := I.x.c0
  have x1 := I.x.c1
  have x2 := I.x.c2
  have x3 := I.x.c3
  have R : Hid (CopyA w (some ⟨b, off, none⟩) 10 cap t f l w2.heap.size g c2 ns (w2.alloc (.cells #[.slice (some ⟨g, 0, none⟩) 10 c2, .int .i64 t, .int .i64 f, .int .i64 l] 28))) := I
  clear I hs
  go_wp2_with (go_at_call 19; refine (l1InR_any _ _ _ _).mono ?_; rintro e w' ⟨rfl, rfl⟩)
  refine bodyPost_ret (v := .agg #[.slice (some ⟨g, 0, none⟩) 10 c2, .int .i64 t, .int .i64 f, .int .i64 l]) (by simp [results, Try.results15, go_sem, q0, q1, q2, q3]) rfl ⟨_, c2, rfl, R.out.res⟩

set_option maxHeartbeats 400000 in
theorem specArnGive_in (b off cap : Nat) (ns : List Nd) (t f l : Int) (k : Nat) (x0' x1' x2' x3' : Int) (u : Bool) (x5' : Int) (w : World) (hs : SNodes w (some ⟨b, off, none⟩) 10 ns) (hnc : 10 ≤ cap) (hcap : cap ≤ 9223372036854775807) (hsh : shapeB ns t f l = true) (hk : k < 10) (hp : inR k 1 9 = true) (hx : ns[k]? = some ⟨x0', x1', x2', x3', u, x5'⟩) :
    Calls Try.prog 15 #[.agg #[.slice (some ⟨b, off, none⟩) 10 cap, .int .i64 t, .int .i64 f, .int .i64 l], .int .i64 k] w fun e w' => ArenaRes (if u then ns.set k ⟨0, 0, 0, 0, false, x5'⟩ else ns) 10 t f l e w w' := by
  have I0 := locA_start w (some ⟨b, off, none⟩) 10 cap t f l
  go_enter Try.func15, Try.ntmps15
  go_wp2_with fail
  refine (l2Shape_any _ _ _ ns t f l _ (hs.below I0.bel) (by omega)).mono ?_
  rintro e w1 ⟨rfl, hb1⟩
  have I1 := I0.below hb1
  have p0 := I1.box.c0
  have p1 := I1.box.c1
  have p2 := I1.box.c2
  have p3 := I1.box.c3
  rw [hsh]
  have s1 := hs.below I1.bel
  clear hb1 I0
  go_wp2_with fail
  refine (l2Copy_any b off cap ns t f l _ s1).mono ?_
  rintro e w2 ⟨a2, c2, rfl, ho2, hb2⟩
  obtain ⟨g, rfl, I⟩ := copyA_start I1 ho2 hb2
  clear I1 ho2 hb2 p0 p1 p2 p3 s1
  have p0 := I.loc.box.c0
  have q0 := I.loc.res.c0
  have q1 := I.loc.res.c1
  have q2 := I.loc.res.c2
  have q3 := I.loc.res.c3
  have f0 := I.loc.fz 0
  have f1 := I.loc.fz 1
  have f2 := I.loc.fz 2
  have f3 := I.loc.fz 3
  have x0 := I.x.c0
  have x1 := I.x.c1
  have x2 := I.x.c2
  have x3 := I.x.c3
  have hN := own6_cell I.own hx
  have n0 := hN.c0
  have n1 := hN.c1
  have n2 := hN.c2
  have n3 := hN.c3
  have n4 := hN.c4
  have n5 := hN.c5
  dsimp only at n0 n1 n2 n3 n4 n5
  have R : Hid (CopyA w (some ⟨b, off, none⟩) 10 cap t f l w2.heap.size g c2 ns (w2.alloc (.cells #[.slice (some ⟨g, 0, none⟩) 10 c2, .int .i64 t, .int .i64 f, .int .i64 l] 28))) := I
  have R2 : Hid (CopyA w (some ⟨b, off, none⟩) 10 cap t f l w2.heap.size g c2 (ns.set k ⟨0, 0, 0, 0, false, x5'⟩) (put6 (w2.alloc (.cells #[.slice (some ⟨g, 0, none⟩) 10 c2, .int .i64 t, .int .i64 f, .int .i64 l] 28)) g (k * 6) ⟨0, 0, 0, 0, false, x5'⟩).drew) := (I.put k _).drew
  have KP : Hid ((put6 (w2.alloc (.cells #[.slice (some ⟨g, 0, none⟩) 10 c2, .int .i64 t, .int .i64 f, .int .i64 l] 28)) g (k * 6) ⟨0, 0, 0, 0, false, x5'⟩).drew.cell? ⟨w2.heap.size, 0, none⟩ = some (.slice (some ⟨g, 0, none⟩) 10 c2) ∧ (put6 (w2.alloc (.cells #[.slice (some ⟨g, 0, none⟩) 10 c2, .int .i64 t, .int .i64 f, .int .i64 l] 28)) g (k * 6) ⟨0, 0, 0, 0, false, x5'⟩).drew.cell? ⟨g, k * 6 + 5, none⟩ = some (.int .i64 x5')) := ⟨R2.out.x.c0, (own6_cell (i := k) (x := ⟨0, 0, 0, 0, false, x5'⟩) R2.out.own (by have h9 := (List.getElem?_eq_some_iff.1 hx).1; simp [h9])).c5⟩
  have fn0 := I.own.frozenAt (k * 6)
  have fn1 := I.own.frozenAt (k * 6 + 1)
  have fn2 := I.own.frozenAt (k * 6 + 2)
  have fn3 := I.own.frozenAt (k * 6 + 3)
  have fn4 := I.own.frozenAt (k * 6 + 4)
  have fn5 := I.own.frozenAt (k * 6 + 5)
  clear I hN hx
  cases u
  · go_wp2_with (go_at_call 19; refine (l1InR_any _ _ _ _).mono ?_; rintro e w' ⟨rfl, rfl⟩)
    refine bodyPost_ret (v := .agg #[.slice (some ⟨g, 0, none⟩) 10 c2, .int .i64 t, .int .i64 f, .int .i64 l]) (by simp [results, Try.results15, go_sem, q0, q1, q2, q3]) rfl ⟨_, c2, rfl, by simpa using R.out.res⟩
  · go_wp2_with (go_at_call 19; refine (l1InR_any _ _ _ _).mono ?_; rintro e w' ⟨rfl, rfl⟩)
    go_region_held (fun w' => w'.cell? ⟨w2.heap.size, 0, none⟩ = some (.slice (some ⟨g, 0, none⟩) 10 c2) ∧ w'.cell? ⟨g, k * 6 + 5, none⟩ = some (.int .i64 x5')) (first | (go_keep; done) | exact KP.out) (fail)
    have K3 := R2.out
    clear R2 KP q0 q1 q2 q3 f0 f1 f2 f3 x0 x1 x2 x3 n0 n1 n2 n3 n4 n5 fn0 fn1 fn2 fn3 fn4 fn5 R p0
    generalize (put6 (w2.alloc (.cells #[.slice (some ⟨g, 0, none⟩) 10 c2, .int .i64 t, .int .i64 f, .int .i64 l] 28)) g (k * 6) ⟨0, 0, 0, 0, false, x5'⟩).drew = W3 at K3 ⊢
    have q0 := K3.loc.res.c0
    have q1 := K3.loc.res.c1
    have q2 := K3.loc.res.c2
    have q3 := K3.loc.res.c3
    have f0 := K3.loc.fz 0
    have f1 := K3.loc.fz 1
    have f2 := K3.loc.fz 2
    have f3 := K3.loc.fz 3
    have x0 := K3.x.c0
    have x1 := K3.x.c1
    have x2 := K3.x.c2
    have x3 := K3.x.c3
    go_wp2
    refine bodyPost_ret (v := .agg #[.slice (some ⟨g, 0, none⟩) 10 c2, .int .i64 t, .int .i64 f, .int .i64 l]) (by simp [results, Try.results15, go_sem, q0, q1, q2, q3]) rfl ⟨_, c2, rfl, ?_⟩
    exact K3.res

set_option maxHeartbeats 2000000 in
theorem implArnGive_bad (a : Option Addr) (n cap : Nat) (ns : List Nd) (t f l at_ : Int) (w : World) (hs : SNodes w a n ns) (hn : n ≤ 9223372036854775807) (hsh : shapeB ns t f l = false) :
    Calls Try.prog 16 #[.agg #[.slice a n cap, .int .i64 t, .int .i64 f, .int .i64 l], .int .i64 at_] w fun e w' => ArenaRes [] 0 0 0 0 e w w' := by
  have I0 := locA_start w a n cap t f l
  go_enter Try.func16, Try.ntmps16
  go_wp2_with fail
  refine (shaped_any _ _ _ ns t f l _ (hs.below I0.bel) hn).mono ?_
  rintro e w1 ⟨rfl, hb1⟩
  have I1 := I0.below hb1
  have p0 := I1.box.c0
  have p1 := I1.box.c1
  have p2 := I1.box.c2
  have p3 := I1.box.c3
  have q0 := I1.res.c0
  have q1 := I1.res.c1
  have q2 := I1.res.c2
  have q3 := I1.res.c3
  have f0 := I1.fz 0
  have f1 := I1.fz 1
  have f2 := I1.fz 2
  have f3 := I1.fz 3
  have hbel := I1.bel
  rw [hsh]
  clear hs I0 I1 hb1
  go_wp2
  exact bodyPost_ret (v := .agg #[.slice none 0 0, .int .i64 0, .int .i64 0, .int .i64 0]) (by simp [results, Try.results16, go_sem, q0, q1, q2, q3]) rfl ⟨none, 0, rfl, World.ownsRow_nil _ _ _ _, below_putA hbel (by omega) _ _ _ _ _ _⟩

set_option maxHeartbeats 2000000 in
theorem given_out (b off cap : Nat) (ns : List Nd) (t f l at_ : Int) (w : World) (hs : SNodes w (some ⟨b, off, none⟩) 10 ns) (hnc : 10 ≤ cap) (hcap : cap ≤ 9223372036854775807) (hp : inP at_ = false) :
    Calls Try.prog 33 #[.agg #[.slice (some ⟨b, off, none⟩) 10 cap, .int .i64 t, .int .i64 f, .int .i64 l], .int .i64 at_] w fun e w' => ArenaRes ns 10 t f l e w w' := by
  have I0 := locA_start w (some ⟨b, off, none⟩) 10 cap t f l
  go_enter Try.func33, Try.ntmps33
  have I1 := I0
  have p0 := I1.box.c0
  have p1 := I1.box.c1
  have p2 := I1.box.c2
  have p3 := I1.box.c3
  have s1 := hs.below I1.bel
  clear I0
  go_wp2_with fail
  refine (sameA_any b off cap ns t f l _ s1 hnc hcap).mono ?_
  rintro e w2 ⟨a2, c2, rfl, ho2, hb2⟩
  obtain ⟨g, rfl, I⟩ := copyA_start I1 ho2 hb2
  clear I1 ho2 hb2 p0 p1 p2 p3 s1
  have p0 := I.loc.box.c0
  have q0 := I.loc.res.c0
  have q1 := I.loc.res.c1
  have q2 := I.loc.res.c2
  have q3 := I.loc.res.c3
  have f0 := I.loc.fz 0
  have f1 := I.loc.fz 1
  have f2 := I.loc.fz 2
  have f3 := I.loc.fz 3
  have x0 := I.x.c0
  have x1 := I.x.c1
  have x2 := I.x.c2
  have x3 := I.x.c3
  have R : Hid (CopyA w (some ⟨b, off, none⟩) 10 cap t f l w2.heap.size g c2 ns (w2.alloc (.cells #[.slice (some ⟨g, 0, none⟩) 10 c2, .int .i64 t, .int .i64 f, .int .i64 l] 28))) := I
  clear I hs
  go_wp2_with (go_at_call 37; refine (isPlace_any _ _).mono ?_; rintro e w' ⟨rfl, rfl⟩)
  refine bodyPost_ret (v := .agg #[.slice (some ⟨g, 0, none⟩) 10 c2, .int .i64 t, .int .i64 f, .int .i64 l]) (by simp [results, Try.results33, go_sem, q0, q1, q2, q3]) rfl ⟨_, c2, rfl, R.out.res⟩

set_option maxHeartbeats 400000 in
theorem given_in (b off cap : Nat) (ns : List Nd) (t f l : Int) (k : Nat) (x0' x1' x2' x3' : Int) (u : Bool) (x5' : Int) (w : World) (hs : SNodes w (some ⟨b, off, none⟩) 10 ns) (hnc : 10 ≤ cap) (hcap : cap ≤ 9223372036854775807) (hk : k < 10) (hp : inP k = true) (hx : ns[k]? = some ⟨x0', x1', x2', x3', u, x5'⟩) :
    Calls Try.prog 33 #[.agg #[.slice (some ⟨b, off, none⟩) 10 cap, .int .i64 t, .int .i64 f, .int .i64 l], .int .i64 k] w fun e w' => ArenaRes (if u then ns.set k ⟨0, 0, 0, 0, false, x5'⟩ else ns) 10 t f l e w w' := by
  have I0 := locA_start w (some ⟨b, off, none⟩) 10 cap t f l
  go_enter Try.func33, Try.ntmps33
  have I1 := I0
  have p0 := I1.box.c0
  have p1 := I1.box.c1
  have p2 := I1.box.c2
  have p3 := I1.box.c3
  have s1 := hs.below I1.bel
  clear I0
  go_wp2_with fail
  refine (sameA_any b off cap ns t f l _ s1 hnc hcap).mono ?_
  rintro e w2 ⟨a2, c2, rfl, ho2, hb2⟩
  obtain ⟨g, rfl, I⟩ := copyA_start I1 ho2 hb2
  clear I1 ho2 hb2 p0 p1 p2 p3 s1
  have p0 := I.loc.box.c0
  have q0 := I.loc.res.c0
  have q1 := I.loc.res.c1
  have q2 := I.loc.res.c2
  have q3 := I.loc.res.c3
  have f0 := I.loc.fz 0
  have f1 := I.loc.fz 1
  have f2 := I.loc.fz 2
  have f3 := I.loc.fz 3
  have x0 := I.x.c0
  have x1 := I.x.c1
  have x2 := I.x.c2
  have x3 := I.x.c3
  have hN := own6_cell I.own hx
  have n0 := hN.c0
  have n1 := hN.c1
  have n2 := hN.c2
  have n3 := hN.c3
  have n4 := hN.c4
  have n5 := hN.c5
  dsimp only at n0 n1 n2 n3 n4 n5
  have R : Hid (CopyA w (some ⟨b, off, none⟩) 10 cap t f l w2.heap.size g c2 ns (w2.alloc (.cells #[.slice (some ⟨g, 0, none⟩) 10 c2, .int .i64 t, .int .i64 f, .int .i64 l] 28))) := I
  have R2 : Hid (CopyA w (some ⟨b, off, none⟩) 10 cap t f l w2.heap.size g c2 (ns.set k ⟨0, 0, 0, 0, false, x5'⟩) (put6 (w2.alloc (.cells #[.slice (some ⟨g, 0, none⟩) 10 c2, .int .i64 t, .int .i64 f, .int .i64 l] 28)) g (k * 6) ⟨0, 0, 0, 0, false, x5'⟩).drew) := (I.put k _).drew
  have KP : Hid ((put6 (w2.alloc (.cells #[.slice (some ⟨g, 0, none⟩) 10 c2, .int .i64 t, .int .i64 f, .int .i64 l] 28)) g (k * 6) ⟨0, 0, 0, 0, false, x5'⟩).drew.cell? ⟨w2.heap.size, 0, none⟩ = some (.slice (some ⟨g, 0, none⟩) 10 c2) ∧ (put6 (w2.alloc (.cells #[.slice (some ⟨g, 0, none⟩) 10 c2, .int .i64 t, .int .i64 f, .int .i64 l] 28)) g (k * 6) ⟨0, 0, 0, 0, false, x5'⟩).drew.cell? ⟨w.heap.size, 0, none⟩ = some (.slice (some ⟨b, off, none⟩) 10 cap) ∧ (put6 (w2.alloc (.cells #[.slice (some ⟨g, 0, none⟩) 10 c2, .int .i64 t, .int .i64 f, .int .i64 l] 28)) g (k * 6) ⟨0, 0, 0, 0, false, x5'⟩).drew.cell? ⟨b, off + k * 6 + 5, none⟩ = some (.int .i64 x5')) := ⟨R2.out.x.c0, R2.out.loc.box.c0, by
    obtain ⟨b', off', y, eb, hy, hM⟩ := (hs.below R2.out.loc.bel).at (k := k) (by omega)
    cases eb
    obtain rfl : y = ⟨x0', x1', x2', x3', u, x5'⟩ := by rw [hx] at hy; cases hy; rfl
    exact hM.c5⟩
  have fn0 := I.own.frozenAt (k * 6)
  have fn1 := I.own.frozenAt (k * 6 + 1)
  have fn2 := I.own.frozenAt (k * 6 + 2)
  have fn3 := I.own.frozenAt (k * 6 + 3)
  have fn4 := I.own.frozenAt (k * 6 + 4)
  have fn5 := I.own.frozenAt (k * 6 + 5)
  obtain ⟨b', off', y, eb, hy, hM⟩ := (hs.below I.loc.bel).at (k := k) (by omega)
  cases eb
  obtain rfl : y = ⟨x0', x1', x2', x3', u, x5'⟩ := by rw [hx] at hy; cases hy; rfl
  have m5 := hM.c5
  dsimp only at m5
  clear hM hy
  clear I hN hx
  cases u
  · go_wp2_with (go_at_call 37; refine (isPlace_any _ _).mono ?_; rintro e w' ⟨rfl, rfl⟩)
    refine bodyPost_ret (v := .agg #[.slice (some ⟨g, 0, none⟩) 10 c2, .int .i64 t, .int .i64 f, .int .i64 l]) (by simp [results, Try.results33, go_sem, q0, q1, q2, q3]) rfl ⟨_, c2, rfl, by simpa using R.out.res⟩
  · go_wp2_with (go_at_call 37; refine (isPlace_any _ _).mono ?_; rintro e w' ⟨rfl, rfl⟩)
    go_region_held (fun w' => w'.cell? ⟨w2.heap.size, 0, none⟩ = some (.slice (some ⟨g, 0, none⟩) 10 c2) ∧ w'.cell? ⟨w.heap.size, 0, none⟩ = some (.slice (some ⟨b, off, none⟩) 10 cap) ∧ w'.cell? ⟨b, off + k * 6 + 5, none⟩ = some (.int .i64 x5')) (first | (go_keep; done) | exact KP.out) (fail)
    have K3 := R2.out
    clear R2 KP q0 q1 q2 q3 f0 f1 f2 f3 x0 x1 x2 x3 n0 n1 n2 n3 n4 n5 fn0 fn1 fn2 fn3 fn4 fn5 R p0 m5
    generalize (put6 (w2.alloc (.cells #[.slice (some ⟨g, 0, none⟩) 10 c2, .int .i64 t, .int .i64 f, .int .i64 l] 28)) g (k * 6) ⟨0, 0, 0, 0, false, x5'⟩).drew = W3 at K3 ⊢
    have q0 := K3.loc.res.c0
    have q1 := K3.loc.res.c1
    have q2 := K3.loc.res.c2
    have q3 := K3.loc.res.c3
    have f0 := K3.loc.fz 0
    have f1 := K3.loc.fz 1
    have f2 := K3.loc.fz 2
    have f3 := K3.loc.fz 3
    have x0 := K3.x.c0
    have x1 := K3.x.c1
    have x2 := K3.x.c2
    have x3 := K3.x.c3
    go_wp2
    refine bodyPost_ret (v := .agg #[.slice (some ⟨g, 0, none⟩) 10 c2, .int .i64 t, .int .i64 f, .int .i64 l]) (by simp [results, Try.results33, go_sem, q0, q1, q2, q3]) rfl ⟨_, c2, rfl, ?_⟩
    exact K3.res

set_option maxHeartbeats 400000 in
theorem implArnGive_ok (b off cap : Nat) (ns M : List Nd) (t f l at_ : Int) (w : World) (hs : SNodes w (some ⟨b, off, none⟩) 10 ns) (hcap : cap ≤ 9223372036854775807) (hsh : shapeB ns t f l = true)
    (hg : Hid (∀ W : World, SNodes W (some ⟨b, off, none⟩) 10 ns → Calls Try.prog 33 #[.agg #[.slice (some ⟨b, off, none⟩) 10 cap, .int .i64 t, .int .i64 f, .int .i64 l], .int .i64 at_] W fun e w' => ArenaRes M 10 t f l e W w')) :
    Calls Try.prog 16 #[.agg #[.slice (some ⟨b, off, none⟩) 10 cap, .int .i64 t, .int .i64 f, .int .i64 l], .int .i64 at_] w fun e w' => ArenaRes M 10 t f l e w w' := by
  have I0 := locA_start w (some ⟨b, off, none⟩) 10 cap t f l
  go_enter Try.func16, Try.ntmps16
  go_wp2_with fail
  refine (shaped_any _ _ _ ns t f l _ (hs.below I0.bel) (by omega)).mono ?_
  rintro e w1 ⟨rfl, hb1⟩
  have I1 := I0.below hb1
  have p0 := I1.box.c0
  have p1 := I1.box.c1
  have p2 := I1.box.c2
  have p3 := I1.box.c3
  rw [hsh]
  have s1 := hs.below I1.bel
  clear hb1 I0
  go_wp2_with fail
  refine (hg.out _ s1).mono ?_
  rintro e w2 ⟨a2, c2, rfl, ho2, hb2⟩
  have I2 := I1.below hb2
  have hz := I1.sz
  have q0 := I2.res.c0
  have q1 := I2.res.c1
  have q2 := I2.res.c2
  have q3 := I2.res.c3
  have f0 := I2.fz 0
  have f1 := I2.fz 1
  have f2 := I2.fz 2
  have f3 := I2.fz 3
  have B2 : Hid (Below w.heap.size w w2) := I2.bel
  clear I1 I2 hb2 p0 p1 p2 p3 s1
  go_wp2
  refine bodyPost_ret (v := .agg #[.slice a2 10 c2, .int .i64 t, .int .i64 f, .int .i64 l]) (by simp [results, Try.results16, go_sem, q0, q1, q2, q3]) rfl ⟨a2, c2, rfl, own_mono (own_putA (own_mono ho2 (show w.heap.size + 1 + 1 ≤ _ by omega)) (by omega) _ _ _ _ _ _) (by omega), below_putA B2.out (by omega) _ _ _ _ _ _⟩

set_option maxHeartbeats 2000000 in
theorem implArnGive_out (b off cap : Nat) (ns : List Nd) (t f l at_ : Int) (w : World) (hs : SNodes w (some ⟨b, off, none⟩) 10 ns) (hnc : 10 ≤ cap) (hcap : cap ≤ 9223372036854775807) (hsh : shapeB ns t f l = true) (hp : inP at_ = false) :
    Calls Try.prog 16 #[.agg #[.slice (some ⟨b, off, none⟩) 10 cap, .int .i64 t, .int .i64 f, .int .i64 l], .int .i64 at_] w fun e w' => ArenaRes ns 10 t f l e w w' :=
  implArnGive_ok b off cap ns ns t f l at_ w hs hcap hsh (fun W h => given_out b off cap ns t f l at_ W h hnc hcap hp)

set_option maxHeartbeats 400000 in
theorem implArnGive_in (b off cap : Nat) (ns : List Nd) (t f l : Int) (k : Nat) (x0' x1' x2' x3' : Int) (u : Bool) (x5' : Int) (w : World) (hs : SNodes w (some ⟨b, off, none⟩) 10 ns) (hnc : 10 ≤ cap) (hcap : cap ≤ 9223372036854775807) (hsh : shapeB ns t f l = true) (hk : k < 10) (hp : inP k = true) (hx : ns[k]? = some ⟨x0', x1', x2', x3', u, x5'⟩) :
    Calls Try.prog 16 #[.agg #[.slice (some ⟨b, off, none⟩) 10 cap, .int .i64 t, .int .i64 f, .int .i64 l], .int .i64 k] w fun e w' => ArenaRes (if u then ns.set k ⟨0, 0, 0, 0, false, x5'⟩ else ns) 10 t f l e w w' :=
  implArnGive_ok b off cap ns _ t f l k w hs hcap hsh (fun W h => given_in b off cap ns t f l k x0' x1' x2' x3' u x5' W h hnc hcap hk hp hx)

end Go.Proofs.Ytbjgepcbbonceaa
