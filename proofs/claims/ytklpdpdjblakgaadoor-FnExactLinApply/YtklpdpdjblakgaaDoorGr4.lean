/- Several texts in one: LinB, LinO, LinS, LinU. -/
import Derived.Test.YtklpdpdjblakgaaDoorGr3
import Derived.Test.YtklpdpdjblakgaaDoorGr1
import Derived.Lib.SmallJoins
import Derived.Deep.SlicePairs
import Derived.RegionTactic
import Derived.Deep.RegionHeld
/- LinB -/
namespace Go.Proofs.YtklpdpdjblakgaaDoor
open Go.RowKit
set_option linter.unusedVariables false

/-- What hangs on the blocks from lo to hi alone. -/
def OnlyB (lo hi : Nat) (P : World → Prop) : Prop := ∀ W W' : World, P W → (∀ k, lo ≤ k → k < hi → W'.heap[k]? = W.heap[k]?) → P W'

theorem OnlyB.and {lo hi : Nat} {P Q : World → Prop} (h : OnlyB lo hi P) (k : OnlyB lo hi Q) : OnlyB lo hi (fun W => P W ∧ Q W) :=
  fun W W' hp hk => ⟨h W W' hp.1 hk, k W W' hp.2 hk⟩
theorem onlyB_const (lo hi : Nat) (p : Prop) : OnlyB lo hi (fun _ => p) := fun _ _ h _ => h
theorem onlyB_cell {lo hi b o : Nat} {v : Value} (h1 : lo ≤ b) (h2 : b < hi) : OnlyB lo hi (fun W => W.cell? ⟨b, o, none⟩ = some v) :=
  fun W W' h hk => (World.cell?_of_block (w := W) (a := ⟨b, o, none⟩) (hk b h1 h2)).trans h

/-- A row of its own, in blocks from lo to hi. -/
def RowIn (lo hi : Nat) (e : TypeId) (sz : Nat) (v : Value) (n : Nat) (xs : List Value) (W : World) : Prop :=
  W.ownsRow lo e sz v n xs ∧ ∀ k, v.ownBlock = some k → k < hi

theorem onlyB_row (lo hi : Nat) (e : TypeId) (sz : Nat) (v : Value) (n : Nat) (xs : List Value) : OnlyB lo hi (RowIn lo hi e sz v n xs) := by
  intro W W' h hk
  refine ⟨⟨h.1.1, ?_⟩, h.2⟩
  rcases h.1.2 with h2 | ⟨g, cap, cur, hv, hg, hh, r⟩
  · exact .inl h2
  · exact .inr ⟨g, cap, cur, hv, hg, (hk g hg (h.2 g (by subst hv; rfl))).trans hh, r⟩

theorem rowIn_of {lo hi : Nat} {e : TypeId} {sz : Nat} {v : Value} {n : Nat} {xs : List Value} {W : World} (h : W.ownsRow lo e sz v n xs) (hh : W.heap.size ≤ hi) : RowIn lo hi e sz v n xs W :=
  ⟨h, fun k hk => Nat.lt_of_lt_of_le (h.lt k hk).2 hh⟩
theorem RowIn.mono {lo hi lo' hi' : Nat} {e : TypeId} {sz : Nat} {v : Value} {n : Nat} {xs : List Value} {W : World} (h : RowIn lo hi e sz v n xs W) (h1 : lo' ≤ lo) (h2 : hi ≤ hi') : RowIn lo' hi' e sz v n xs W :=
  ⟨own_mono h.1 h1, fun k hk => Nat.lt_of_lt_of_le (h.2 k hk) h2⟩

/-- Just blocks from lo to hi have turned. -/
structure TurnIn (lo hi : Nat) (w w' : World) : Prop where
  os : w'.os = w.os
  tape : w'.tape = w.tape
  output : w'.output = w.output
  size : w.heap.size ≤ w'.heap.size
  block : ∀ k, k < w.heap.size → (k < lo ∨ hi ≤ k) → w'.heap[k]? = w.heap[k]?
theorem TurnIn.trans {lo hi : Nat} {w w1 w2 : World} (h : TurnIn lo hi w w1) (k : TurnIn lo hi w1 w2) : TurnIn lo hi w w2 :=
  ⟨k.os.trans h.os, k.tape.trans h.tape, k.output.trans h.output, Nat.le_trans h.size k.size, fun i hi ho => (k.block i (Nat.lt_of_lt_of_le hi h.size) ho).trans (h.block i hi ho)⟩
theorem turnIn_grown {lo hi : Nat} {w w' : World} {row : Option Nat} (h : w.grownBy w' row) (hr : ∀ k, row = some k → lo ≤ k ∧ k < hi) : TurnIn lo hi w w' :=
  ⟨h.os, h.tape, h.output, h.size, fun k hk ho => h.block k hk (fun e => by have := hr k e.symm; omega)⟩
theorem turnIn_below {lo hi : Nat} {w w' : World} (h : Below w.heap.size w w') : TurnIn lo hi w w' :=
  ⟨h.os, h.tape, h.output, h.size, fun k hk _ => h.block k hk⟩
theorem TurnIn.below {lo hi B : Nat} {w w' : World} (h : TurnIn lo hi w w') (hB : B ≤ lo) (hw : B ≤ w.heap.size) : Below B w w' :=
  ⟨h.os, h.tape, h.output, h.size, fun k hk => h.block k (by omega) (by omega)⟩

/-- A state in numbers: how many entries, the entries, the stack, the queue. -/
structure LD where
  n : Nat
  zs : List Int
  s : List Int
  q : List Int

/-- A state's three slices: where they begin, and their room. -/
structure SV where
  ma : Option Addr
  mc : Nat
  sa : Option Addr
  sc : Nat
  qa : Option Addr
  qc : Nat

abbrev SV.m (v : SV) (d : LD) : Value := .slice v.ma d.n v.mc
abbrev SV.s (v : SV) (d : LD) : Value := .slice v.sa d.s.length v.sc
abbrev SV.q (v : SV) (d : LD) : Value := .slice v.qa d.q.length v.qc
abbrev stV (v : SV) (d : LD) : Value := .agg #[v.m d, v.s d, v.q d]

/-- The state can be read. -/
structure SS (W : World) (v : SV) (d : LD) : Prop where
  m : SInts W v.ma (d.n * 2) d.zs
  s : SInts W v.sa d.s.length d.s
  q : SInts W v.qa d.q.length d.q
theorem SS.below {W W' : World} {v : SV} {d : LD} (h : SS W v d) (hb : Below W.heap.size W W') : SS W' v d := ⟨h.m.below hb, h.s.below hb, h.q.below hb⟩

/-- There is room for what is there. -/
structure Room (v : SV) (d : LD) : Prop where
  m : d.n ≤ v.mc ∧ v.mc ≤ 9223372036854775807
  s : d.s.length ≤ v.sc ∧ v.sc ≤ 9223372036854775807
  q : d.q.length ≤ v.qc ∧ v.qc ≤ 9223372036854775807
/-- Not too much is there. -/
structure Few (d : LD) : Prop where
  m : d.n ≤ 1048576
  s : d.s.length ≤ 1048576
  q : d.q.length ≤ 1048576

/-- The state in memory of its own, in blocks from lo to hi. -/
structure St (lo hi : Nat) (v : SV) (d : LD) (W : World) : Prop where
  m : RowIn lo hi 84 2 (v.m d) d.n (d.zs.map (Value.int .i64)) W
  s : RowIn lo hi 3 1 (v.s d) d.s.length (d.s.map (Value.int .i64)) W
  q : RowIn lo hi 3 1 (v.q d) d.q.length (d.q.map (Value.int .i64)) W
/-- No two of its lists share a block. -/
structure Apart (v : SV) (d : LD) : Prop where
  ms : ∀ k, (v.m d).ownBlock = some k → (v.s d).ownBlock ≠ some k
  mq : ∀ k, (v.m d).ownBlock = some k → (v.q d).ownBlock ≠ some k
  sq : ∀ k, (v.s d).ownBlock = some k → (v.q d).ownBlock ≠ some k

theorem St.only {lo hi : Nat} {v : SV} {d : LD} : OnlyB lo hi (St lo hi v d) :=
  fun W W' h hk => ⟨onlyB_row _ _ _ _ _ _ _ W W' h.m hk, onlyB_row _ _ _ _ _ _ _ W W' h.s hk, onlyB_row _ _ _ _ _ _ _ W W' h.q hk⟩
theorem St.mono {lo hi lo' hi' : Nat} {v : SV} {d : LD} {W : World} (h : St lo hi v d W) (h1 : lo' ≤ lo) (h2 : hi ≤ hi') : St lo' hi' v d W := ⟨h.m.mono h1 h2, h.s.mono h1 h2, h.q.mono h1 h2⟩
theorem St.below {lo hi : Nat} {v : SV} {d : LD} {W W' : World} (h : St lo hi v d W) (hh : hi ≤ W.heap.size) (hb : Below W.heap.size W W') : St lo hi v d W' :=
  St.only W W' h (fun k _ hk => hb.block k (by omega))
theorem St.ss {lo hi : Nat} {v : SV} {d : LD} {W : World} (h : St lo hi v d W) : SS W v d := ⟨own2_sints h.m.1, own_sints h.s.1, own_sints h.q.1⟩
theorem own_cap {W : World} {base : Nat} {e : TypeId} {sz : Nat} {a : Option Addr} {n c : Nat} {xs : List Value} (h : W.ownsRow base e sz (.slice a n c) n xs) : n ≤ c ∧ c ≤ 9223372036854775807 := by
  rcases h.2 with ⟨e, _⟩ | ⟨g, cap, cur, hv, hg, hh, hc, hm, hs, ht⟩
  · injection e with _ e1 e2
    subst e1 e2
    exact ⟨Nat.le_refl _, by omega⟩
  · injection hv with _ _ e2
    subst e2
    unfold maxLen at hm
    exact ⟨hc, by omega⟩
theorem St.room {lo hi : Nat} {v : SV} {d : LD} {W : World} (h : St lo hi v d W) : Room v d := ⟨own_cap h.m.1, own_cap h.s.1, own_cap h.q.1⟩

/-- Three cells at the beginning of a block. -/
structure B3 (W : World) (b : Nat) (x y z : Value) : Prop where
  c0 : W.cell? ⟨b, 0, none⟩ = some x
  c1 : W.cell? ⟨b, 1, none⟩ = some y
  c2 : W.cell? ⟨b, 2, none⟩ = some z
  f : ∀ j, W.frozen? ⟨b, j, none⟩ = false
section
variable {W W' : World} {b : Nat} {x y z v : Value}
theorem B3.lt (h : B3 W b x y z) : b < W.heap.size := World.block_lt_of_cell? W ⟨b, 0, none⟩ h.c0
theorem B3.below (h : B3 W b x y z) (hb : Below W.heap.size W W') : B3 W' b x y z :=
  ⟨cell_kept hb h.c0, cell_kept hb h.c1, cell_kept hb h.c2, fun j => (hb.frozen (p := ⟨b, j, none⟩) h.lt).trans (h.f j)⟩
theorem b3_new (W : World) (x y z : Value) (t : TypeId) {b : Nat} (hb : b = W.heap.size) : B3 (W.alloc (.cells #[x, y, z] t)) b x y z := by
  subst hb
  exact ⟨by simp, by simp, by simp, fun j => frozen_at _ _ _ j rfl⟩
theorem B3.set0 (h : B3 W b x y z) : B3 (W.setCell ⟨b, 0, none⟩ v) b v y z :=
  ⟨World.cell?_setCell_same _ _ _ h.c0, (World.cell?_setCell_other _ _ _ _ (by simp)).trans h.c1, (World.cell?_setCell_other _ _ _ _ (by simp)).trans h.c2, fun j => by rw [World.frozen?_setCell]; exact h.f j⟩
theorem B3.set1 (h : B3 W b x y z) : B3 (W.setCell ⟨b, 1, none⟩ v) b x v z :=
  ⟨(World.cell?_setCell_other _ _ _ _ (by simp)).trans h.c0, World.cell?_setCell_same _ _ _ h.c1, (World.cell?_setCell_other _ _ _ _ (by simp)).trans h.c2, fun j => by rw [World.frozen?_setCell]; exact h.f j⟩
theorem B3.set2 (h : B3 W b x y z) : B3 (W.setCell ⟨b, 2, none⟩ v) b x y v :=
  ⟨(World.cell?_setCell_other _ _ _ _ (by simp)).trans h.c0, (World.cell?_setCell_other _ _ _ _ (by simp)).trans h.c1, World.cell?_setCell_same _ _ _ h.c2, fun j => by rw [World.frozen?_setCell]; exact h.f j⟩
theorem B3.far (h : B3 W b x y z) {g i : Nat} (hg : g ≠ b) : B3 (W.setCell ⟨g, i, none⟩ v) b x y z :=
  ⟨(World.cell?_setCell_other _ _ _ _ (fun e => by have := congrArg Addr.block e; dsimp only at this; omega)).trans h.c0, (World.cell?_setCell_other _ _ _ _ (fun e => by have := congrArg Addr.block e; dsimp only at this; omega)).trans h.c1, (World.cell?_setCell_other _ _ _ _ (fun e => by have := congrArg Addr.block e; dsimp only at this; omega)).trans h.c2, fun j => by rw [World.frozen?_setCell]; exact h.f j⟩
theorem B3.only {lo hi : Nat} (h1 : lo ≤ b) (h2 : b < hi) : OnlyB lo hi (fun W => B3 W b x y z) :=
  fun W W' h hk => ⟨onlyB_cell h1 h2 W W' h.c0 hk, onlyB_cell h1 h2 W W' h.c1 hk, onlyB_cell h1 h2 W W' h.c2 hk, fun j => (World.frozen?_of_block (w := W) (a := ⟨b, j, none⟩) (hk b h1 h2)).trans (h.f j)⟩
theorem B3.cells (h : B3 W b x y z) : W.cell? ⟨b, 0, none⟩ = some x ∧ W.cell? ⟨b, 1, none⟩ = some y ∧ W.cell? ⟨b, 2, none⟩ = some z := ⟨h.c0, h.c1, h.c2⟩
theorem B3.frees (h : B3 W b x y z) : W.frozen? ⟨b, 0, none⟩ = false ∧ W.frozen? ⟨b, 1, none⟩ = false ∧ W.frozen? ⟨b, 2, none⟩ = false := ⟨h.f 0, h.f 1, h.f 2⟩
end
theorem own_far {W : World} {base : Nat} {e : TypeId} {sz : Nat} {v : Value} {n : Nat} {xs : List Value} (h : W.ownsRow base e sz v n xs) {g i : Nat} (hg : g < base) (u : Value) : (W.setCell ⟨g, i, none⟩ u).ownsRow base e sz v n xs :=
  ownsRow_setCell_below h (a := ⟨g, i, none⟩) hg u

/-- How much is left. -/
def leftS (n l : Int) : Int := if n ≤ l then l - n else -1

set_option maxHeartbeats 400000 in
theorem szIntS_any (a : Option Addr) (n cap : Nat) (l : Int) (w : World) (hn : n ≤ 9223372036854775807) (h0 : 0 ≤ l) (hl : l ≤ 1048576) :
    Calls Tryd.prog 34 #[.slice a n cap, .int .i64 l] w fun e w' => e = .returned (.int .i64 (leftS n l)) ∧ w' = w := by
  by_cases h : (n : Int) ≤ l
  · have e : leftS n l = l - n := by simp [leftS, h]
    rw [e]
    go_enter Tryd.func34, Tryd.ntmps34
    go_wp2
    go_ret
    exact ⟨rfl, rfl⟩
  · have e : leftS n l = -1 := by simp [leftS, h]
    rw [e]
    go_enter Tryd.func34, Tryd.ntmps34
    go_wp2
    go_ret
    exact ⟨rfl, rfl⟩

set_option maxHeartbeats 800000 in
/-- What is measured: no more than a bound, or the answer says so. -/
theorem szLinState_any (v : SV) (d : LD) (w : World) (h1 : d.n ≤ 9223372036854775807) (h2 : d.s.length ≤ 9223372036854775807) (h3 : d.q.length ≤ 9223372036854775807) :
    Calls Tryd.prog 8 #[stV v d, .int .i64 1048576] w fun e w' => (∃ l : Int, 0 ≤ l ∧ e = .returned (.int .i64 l) ∧ d.n ≤ 1048576 ∧ d.s.length ≤ 1048576 ∧ d.q.length ≤ 1048576 ∨ e = .returned (.int .i64 (-1))) ∧ Below w.heap.size w w' := by
  have A := al1 w (.cells #[v.m d, v.s d, v.q d] 27)
  have bx := b3_new w (v.m d) (v.s d) (v.q d) 27 rfl
  go_enter Tryd.func8, Tryd.ntmps8
  go_wp2_with fail
  refine (szMapMap_any _ _ _ _ _ h1 (by omega) (by omega)).mono ?_
  rintro e w1 ⟨rfl, hb1⟩
  have hA := below_trans' A hb1
  obtain ⟨c0, c1, c2⟩ := (bx.below hb1).cells
  clear A bx hb1
  by_cases k1 : (d.n : Int) ≤ 1048576
  · rw [if_pos k1]
    go_wp2_with fail
    refine (szIntS_any _ _ _ _ _ h2 (by omega) (by omega)).mono ?_
    rintro e w2 ⟨rfl, rfl⟩
    by_cases k2 : (d.s.length : Int) ≤ 1048576 - d.n
    · rw [show leftS d.s.length (1048576 - d.n) = 1048576 - d.n - d.s.length by simp [leftS, k2]]
      go_wp2_with fail
      refine (szIntS_any _ _ _ _ _ h3 (by omega) (by omega)).mono ?_
      rintro e w3 ⟨rfl, rfl⟩
      by_cases k3 : (d.q.length : Int) ≤ 1048576 - d.n - d.s.length
      · rw [show leftS d.q.length (1048576 - d.n - d.s.length) = 1048576 - d.n - d.s.length - d.q.length by simp [leftS, k3]]
        go_wp2
        go_ret
        exact ⟨⟨_, .inl ⟨by omega, rfl, by omega, by omega, by omega⟩⟩, hA⟩
      · rw [show leftS d.q.length (1048576 - d.n - d.s.length) = -1 by simp [leftS, k3]]
        go_wp2
        go_ret
        exact ⟨⟨0, .inr rfl⟩, hA⟩
    · rw [show leftS d.s.length (1048576 - d.n) = -1 by simp [leftS, k2]]
      go_wp2
      go_ret
      exact ⟨⟨0, .inr rfl⟩, hA⟩
  · rw [if_neg k1]
    go_wp2
    go_ret
    exact ⟨⟨0, .inr rfl⟩, hA⟩

set_option maxHeartbeats 800000 in
theorem eqLinState_yes (v v' : SV) (d : LD) (w : World) (h : SS w v d) (h' : SS w v' d) (hf : Few d) :
    Calls Tryd.prog 13 #[stV v d, stV v' d] w fun e w' => e = .returned (.bool true) ∧ Below w.heap.size w w' := by
  have A := below_trans' (al1 w (.cells #[v.m d, v.s d, v.q d] 35)) (al1 _ (.cells #[v'.m d, v'.s d, v'.q d] 35))
  have bx := (b3_new w (v.m d) (v.s d) (v.q d) 35 rfl).below (al1 _ (.cells #[v'.m d, v'.s d, v'.q d] 35))
  have by' := b3_new (w.alloc (.cells #[v.m d, v.s d, v.q d] 35)) (v'.m d) (v'.s d) (v'.q d) 35 (b := w.heap.size + 1) (by simp)
  have H0 := h.below A
  have H0' := h'.below A
  obtain ⟨f1, f2, f3⟩ := hf
  clear h h'
  go_enter Tryd.func13, Tryd.ntmps13
  go_wp2_with fail
  refine (eqMapMap_yes _ _ _ _ _ d.zs _ H0.m H0'.m (by omega)).mono ?_
  rintro e w1 ⟨rfl, hb1⟩
  have hA := below_trans' A hb1
  obtain ⟨c0, c1, c2⟩ := (bx.below hb1).cells
  obtain ⟨d0, d1, d2⟩ := (by'.below hb1).cells
  have H1 : Hid (SS w1 v d ∧ SS w1 v' d) := ⟨H0.below hb1, H0'.below hb1⟩
  clear A bx by' hb1 H0 H0'
  go_wp2_with fail
  refine (eqIntS_yes _ _ _ _ _ d.s _ H1.out.1.s H1.out.2.s (by omega)).mono ?_
  rintro e w2 ⟨rfl, hb2⟩
  have hB := below_trans' hA hb2
  have e0 := cell_kept hb2 c0
  have e2 := cell_kept hb2 c2
  have g2 := cell_kept hb2 d2
  have H2 : Hid (SS w2 v d ∧ SS w2 v' d) := ⟨H1.out.1.below hb2, H1.out.2.below hb2⟩
  clear hA c0 c1 c2 d0 d1 d2 H1 hb2
  go_wp2_with fail
  refine (eqIntS_yes _ _ _ _ _ d.q _ H2.out.1.q H2.out.2.q (by omega)).mono ?_
  rintro e w3 ⟨rfl, hb3⟩
  have hC := below_trans' hB hb3
  clear hB e0 e2 g2 H2 hb3
  go_wp2
  go_ret
  exact ⟨rfl, hC⟩

/-- The numbers that are written in. -/
def markD (d : LD) : LD := ⟨d.n, marks 1 (d.n * 2), marks (1 + 2 * (d.n : Int)) d.s.length, marks (1 + 2 * (d.n : Int) + d.s.length) d.q.length⟩
theorem own_len (a : Option Addr) (n m c : Nat) : (Value.slice a n c).ownBlock = (Value.slice a m c).ownBlock := by cases a <;> rfl

set_option maxHeartbeats 800000 in
theorem markLinState_any (lo hi : Nat) (v : SV) (d : LD) (w : World) (h : St lo hi v d w) (hp : Apart v d) (hf : Few d) (hlo : lo ≤ w.heap.size) (hh : hi ≤ w.heap.size) :
    Calls Tryd.prog 15 #[stV v d, .int .i64 1] w fun e w' => e = .returned (.int .i64 (1 + 2 * (d.n : Int) + d.s.length + d.q.length)) ∧ St lo hi v (markD d) w' ∧ TurnIn lo hi w w' := by
  have A := al1 w (.cells #[v.m d, v.s d, v.q d] 35)
  have bx := b3_new w (v.m d) (v.s d) (v.q d) 35 rfl
  have H0 := h.below hh A
  obtain ⟨f1, f2, f3⟩ := hf
  go_enter Tryd.func15, Tryd.ntmps15
  go_wp2_with fail
  refine (markMapMap_any _ _ _ lo d.zs 1 _ H0.m.1 (by omega) (by omega) (by omega)).mono ?_
  rintro e w1 ⟨rfl, o1, g1⟩
  have s1 := own_grown g1 H0.s.1 (fun k j e e' hkj => by subst hkj; exact hp.ms _ e e')
  have q1 := own_grown g1 H0.q.1 (fun k j e e' hkj => by subst hkj; exact hp.mq _ e e')
  have T1 : TurnIn lo hi w w1 := (turnIn_below A).trans (turnIn_grown g1 (fun k e => ⟨(H0.m.1.lt k e).1, h.m.2 k e⟩))
  have nb : ∀ k, (v.m d).ownBlock = some k → k ≠ w.heap.size := fun k e => by have := h.m.2 k e; omega
  have b1 := cell_grown g1 bx.c1 nb
  have b2 := cell_grown g1 bx.c2 nb
  have H1 : Hid (w1.ownsRow lo 3 1 (v.q d) d.q.length (d.q.map (Value.int .i64)) ∧ w1.ownsRow lo 84 2 (v.m d) d.n ((marks 1 (d.n * 2)).map (Value.int .i64)) ∧ TurnIn lo hi w w1 ∧ w.heap.size < w1.heap.size) := ⟨q1, o1, T1, World.block_lt_of_cell? w1 ⟨w.heap.size, 1, none⟩ b1⟩
  clear g1 nb q1 o1 T1 A bx H0
  go_wp2_with fail
  refine (markIntS_any _ _ _ lo d.s _ _ s1 (by omega) (by omega)).mono ?_
  rintro e w2 ⟨rfl, o2, g2, z2⟩
  have q2 := own_grown g2 H1.out.1 (fun k j e e' hkj => by subst hkj; exact hp.sq _ e e')
  have m2 := own_grown g2 H1.out.2.1 (fun k j e e' hkj => by subst hkj; exact hp.ms _ e' e)
  have T2 : TurnIn lo hi w w2 := H1.out.2.2.1.trans (turnIn_grown g2 (fun k e => ⟨(s1.lt k e).1, h.s.2 k e⟩))
  have nb : ∀ k, (v.s d).ownBlock = some k → k ≠ w.heap.size := fun k e => by have := h.s.2 k e; omega
  have e2 := cell_grown g2 b2 nb
  have H2 : Hid (w2.ownsRow lo 3 1 (v.s d) d.s.length ((marks (1 + 2 * (d.n : Int)) d.s.length).map (Value.int .i64)) ∧ w2.ownsRow lo 84 2 (v.m d) d.n ((marks 1 (d.n * 2)).map (Value.int .i64)) ∧ TurnIn lo hi w w2) := ⟨o2, m2, T2⟩
  clear g2 nb o2 m2 T2 H1 s1 b1 b2 z2
  go_wp2_with fail
  refine (markIntS_any _ _ _ lo d.q _ _ q2 (by omega) (by omega)).mono ?_
  rintro e w3 ⟨rfl, o3, g3, z3⟩
  have m3 := own_grown g3 H2.out.2.1 (fun k j e e' hkj => by subst hkj; exact hp.mq _ e' e)
  have s3 := own_grown g3 H2.out.1 (fun k j e e' hkj => by subst hkj; exact hp.sq _ e' e)
  have T3 : TurnIn lo hi w w3 := H2.out.2.2.trans (turnIn_grown g3 (fun k e => ⟨(q2.lt k e).1, h.q.2 k e⟩))
  have H3 : Hid (St lo hi v (markD d) w3 ∧ TurnIn lo hi w w3) := by
    refine ⟨⟨⟨m3, h.m.2⟩, ⟨?_, fun k e => h.s.2 k ((own_len _ _ _ _).trans e)⟩, ⟨?_, fun k e => h.q.2 k ((own_len _ _ _ _).trans e)⟩⟩, T3⟩
    · show w3.ownsRow lo 3 1 (.slice v.sa (marks (1 + 2 * (d.n : Int)) d.s.length).length v.sc) (marks (1 + 2 * (d.n : Int)) d.s.length).length _
      rw [marks_len]
      exact s3
    · show w3.ownsRow lo 3 1 (.slice v.qa (marks (1 + 2 * (d.n : Int) + d.s.length) d.q.length).length v.qc) (marks (1 + 2 * (d.n : Int) + d.s.length) d.q.length).length _
      rw [marks_len]
      exact o3
  clear m3 s3 T3 o3 g3 z3 H2 q2 e2
  go_wp2
  go_ret
  exact ⟨rfl, H3.out.1, H3.out.2⟩

set_option maxHeartbeats 800000 in
theorem heldLinState_any (v : SV) (d : LD) (w : World) (h : SS w v (markD d)) (hf : Few d) :
    Calls Tryd.prog 16 #[stV v d, .int .i64 1] w fun e w' => e = .returned (.int .i64 (1 + 2 * (d.n : Int) + d.s.length + d.q.length)) ∧ Below w.heap.size w w' := by
  have A := al1 w (.cells #[v.m d, v.s d, v.q d] 35)
  have bx := b3_new w (v.m d) (v.s d) (v.q d) 35 rfl
  have H0 := h.below A
  obtain ⟨f1, f2, f3⟩ := hf
  have hs0 : SInts (w.alloc (.cells #[v.m d, v.s d, v.q d] 35)) v.sa d.s.length (marks (1 + 2 * (d.n : Int)) d.s.length) := by
    have := H0.s
    simp only [markD, marks_len] at this
    exact this
  have hq0 : SInts (w.alloc (.cells #[v.m d, v.s d, v.q d] 35)) v.qa d.q.length (marks (1 + 2 * (d.n : Int) + d.s.length) d.q.length) := by
    have := H0.q
    simp only [markD, marks_len] at this
    exact this
  go_enter Tryd.func16, Tryd.ntmps16
  go_wp2_with fail
  refine (heldMapMap_any v.ma d.n v.mc 1 _ H0.m (by omega) (by omega)).mono ?_
  rintro e w1 ⟨rfl, hb1⟩
  have hA := below_trans' A hb1
  obtain ⟨c0, c1, c2⟩ := (bx.below hb1).cells
  have hs1 := hs0.below hb1
  have hq1 := hq0.below hb1
  clear A bx H0 hs0 hq0 hb1 h
  go_wp2_with fail
  refine (heldIntS_any _ _ _ _ _ hs1 (by omega) (by omega)).mono ?_
  rintro e w2 ⟨rfl, rfl⟩
  go_wp2_with fail
  refine (heldIntS_any _ _ _ _ _ hq1 (by omega) (by omega)).mono ?_
  rintro e w3 ⟨rfl, rfl⟩
  clear hs1 hq1
  go_wp2
  go_ret
  exact ⟨rfl, hA⟩

end Go.Proofs.YtklpdpdjblakgaaDoor

/- LinO -/
namespace Go.Proofs.YtklpdpdjblakgaaDoor
open Go.ChangeShapes Go.WideShapes Go.ChangeAt Go.RowKit Go.Joins Go.Deep
set_option linter.unusedVariables false

theorem arrayOf3 {α : Type} {cs : Array α} (h : cs.size = 3) : ∃ c0 c1 c2, cs = #[c0, c1, c2] := by
  obtain ⟨l⟩ := cs
  match l, h with
  | [c0, c1, c2], _ => exact ⟨c0, c1, c2, rfl⟩
theorem cMapMap : Tryd.prog.cellsOf 24 = 1 := by kernel_rfl
theorem cEntries : Tryd.prog.cellsOf 22 = 1 := by kernel_rfl
theorem cMapEntry : Tryd.prog.cellsOf 130 = 2 := by kernel_rfl
theorem cIntsL : Tryd.prog.cellsOf 25 = 1 := by kernel_rfl
theorem cInt : Tryd.prog.cellsOf 3 = 1 := by kernel_rfl
theorem cLinState : Tryd.prog.cellsOf 27 = 3 := by kernel_rfl

/-- The numbers of pairs of cells, one behind the other. -/
def flatW (V0 V1 : Nat → Value) (n : Nat) : List Int := (List.range (n * 2)).map (fun j => intOf (if j % 2 = 0 then V0 (j / 2) else V1 (j / 2)))
theorem flatW_len (V0 V1 : Nat → Value) (n : Nat) : (flatW V0 V1 n).length = n * 2 := by simp [flatW]
theorem flatW_get (V0 V1 : Nat → Value) {n j : Nat} (h : j < n * 2) : (flatW V0 V1 n).getD j 0 = intOf (if j % 2 = 0 then V0 (j / 2) else V1 (j / 2)) := by simp [flatW, List.getD, h]

/-- What the reading of cells tells of a list of entries. -/
theorem lents_of_open {H : Type} {enc : TypeId × Value → H} {W : World} {fuel : Nat} {c0 : Value} {y : DataW H × List MemPlace}
    (h1 : DataW.trod enc Tryd.prog W 0 (fun _ => true) true fuel 22 [c0] = some y) : ∃ a n cap zs, c0 = .slice a n cap ∧ SInts W a (n * 2) zs ∧ n ≤ 9223372036854775807 := by
  rcases open_slice_pairs Tryd.underlying22 Tryd.underlying130 cMapEntry rfl rfl cInt cInt h1 with ⟨hcs, _⟩ | ⟨x, l, c, mm, nn, V0, V1, D0, D1, P0, P1, hcs, _, hl, hm, hmm, _, hcell⟩
  · simp at hcs
    subst hcs
    exact ⟨none, 0, 0, [], rfl, ⟨rfl, .inl rfl⟩, by omega⟩
  · simp at hcs
    subst hcs
    unfold maxLen at hm
    refine ⟨_, l, c, flatW V0 V1 l, rfl, ⟨flatW_len _ _ _, ?_⟩, by omega⟩
    by_cases hl0 : l = 0
    · exact .inl (by omega)
    · obtain ⟨b, off, spot⟩ := x
      have hmm' : mm = c := by simpa using hmm
      have hz := (hcell 0 (by omega)).1
      have hspot : spot = none := by simpa [Addr.add] using World.cell?_spot hz
      subst hspot
      refine .inr ⟨b, off, rfl, fun i hi => ?_⟩
      obtain ⟨q0, q1, t0, t1⟩ := hcell (i / 2) (by omega)
      obtain ⟨u0, e0, _, _⟩ := DataW.trod_int Tryd.underlying3 t0
      obtain ⟨u1, e1, _, _⟩ := DataW.trod_int Tryd.underlying3 t1
      simp at e0 e1
      rw [flatW_get _ _ hi]
      by_cases hpar : i % 2 = 0
      · rw [if_pos hpar]
        rw [Addr.add_lit, show off + i / 2 * 2 = off + i by omega] at q0
        rw [q0, e0]
        rfl
      · rw [if_neg hpar]
        rw [Addr.add_lit, show off + (i / 2 * 2 + 1) = off + i by omega] at q1
        rw [q1, e1]
        rfl

theorem lints_of_open {H : Type} {enc : TypeId × Value → H} {W : World} {fuel : Nat} {c0 : Value} {y : DataW H × List MemPlace}
    (h1 : DataW.trod enc Tryd.prog W 0 (fun _ => true) true fuel 25 [c0] = some y) : ∃ a n cap zs, c0 = .slice a n cap ∧ SInts W a n zs ∧ n ≤ 9223372036854775807 := by
  rcases open_ints Tryd.underlying25 Tryd.underlying3 (by kernel_rfl) h1 with ⟨hcs, _⟩ | ⟨x, l, c, zs, hcs, _, hl, hm, hz, _, hcell, hwz⟩
  · simp at hcs
    subst hcs
    exact ⟨none, 0, 0, [], rfl, ⟨rfl, .inl rfl⟩, by omega⟩
  · simp at hcs
    subst hcs
    unfold maxLen at hm
    refine ⟨_, l, c, zs.take l, rfl, ⟨by simp at hz ⊢; omega, ?_⟩, by omega⟩
    by_cases h0 : l = 0
    · exact .inl h0
    · obtain ⟨b, off, spot⟩ := x
      have hc := hcell 0 (by simp at hz; omega)
      have hspot : spot = none := by simpa [Addr.add] using World.cell?_spot hc
      subst hspot
      refine .inr ⟨b, off, rfl, fun i hi => ?_⟩
      have := hcell i (by simp at hz; omega)
      rw [Addr.add_lit] at this
      rw [this]
      simp [List.getD, hi]

set_option maxRecDepth 100000 in
theorem lop_of_open {H : Type} {enc : TypeId × Value → H} {W : World} {base : Nat} {v0 : Value} {d0 : DataW H} {p0 : List MemPlace} (hv : Value.okWide Tryd.prog W .any base 29 v0)
    (h0 : DataW.Trod enc Tryd.prog W 0 (fun _ => true) true 29 v0 d0 p0) : ∃ k key val : Int, v0 = .agg #[.int .i64 k, .int .i64 key, .int .i64 val] := by
  obtain ⟨cs, rfl, hsz⟩ := okWide_struct Tryd.underlying29 hv
  obtain ⟨fuel, hf⟩ := h0
  have hs3 : cs.size = 3 := hsz.trans (by kernel_rfl)
  obtain ⟨a, b, c, e, _⟩ := op_of_trod Tryd.underlying29 rfl rfl rfl rfl (by simpa [Value.cells] using hs3) hf
  refine ⟨a, b, c, ?_⟩
  congr 1
  apply Array.ext'
  simpa [Value.cells] using e

set_option maxRecDepth 100000 in
theorem state_of_open {H : Type} {enc : TypeId × Value → H} {W : World} {base : Nat} {v0 : Value} {d0 : DataW H} {p0 : List MemPlace} (hv : Value.okWide Tryd.prog W .any base 27 v0)
    (h0 : DataW.Trod enc Tryd.prog W 0 (fun _ => true) true 27 v0 d0 p0) :
    ∃ v d, v0 = stV v d ∧ SS W v d ∧ d.n ≤ 9223372036854775807 ∧ d.s.length ≤ 9223372036854775807 ∧ d.q.length ≤ 9223372036854775807 := by
  obtain ⟨cs, rfl, hsz⟩ := okWide_struct Tryd.underlying27 hv
  obtain ⟨c0, c1, c2, rfl⟩ := arrayOf3 (hsz.trans cLinState)
  obtain ⟨fuel, hf⟩ := h0
  obtain ⟨y0, y1, y2, m, hx, _, g0, g1, g2⟩ := trod_struct3 Tryd.underlying27 hf
  simp [Value.cells, cMapMap, cIntsL] at g0 g1 g2
  obtain ⟨z0, m', hx', _, g3⟩ := trod_struct1 Tryd.underlying24 g0
  have g4 : DataW.trod enc Tryd.prog W 0 (fun _ => true) true m' 22 [c0] = some z0 := by
    simpa [Value.cells, cEntries] using g3
  obtain ⟨ma, n, mc, zs, rfl, hs0, hn0⟩ := lents_of_open g4
  obtain ⟨sa, ns, sc, ss, rfl, hs1, hn1⟩ := lints_of_open g1
  obtain ⟨qa, nq, qc, qs, rfl, hs2, hn2⟩ := lints_of_open g2
  obtain rfl : ss.length = ns := hs1.1
  obtain rfl : qs.length = nq := hs2.1
  exact ⟨⟨ma, mc, sa, sc, qa, qc⟩, ⟨n, zs, ss, qs⟩, rfl, ⟨hs0, hs1, hs2⟩, hn0, hn1, hn2⟩

end Go.Proofs.YtklpdpdjblakgaaDoor

/- LinS -/
namespace Go.Proofs.YtklpdpdjblakgaaDoor
open Go.RowKit
set_option linter.unusedVariables false
set_option linter.unusedSimpArgs false

/-- An append onto a new literal of nothing, whatever the shape of what is appended: nothing that was there turns. -/
theorem run_app_lit {P : Program} (w : World) (B : Nat) (t ty e : TypeId) (i : TypeInfo) (z : Value) (size bytes : Nat) (ht : P.underlying t = some (.slice e)) (hi : P.info? e = some i) (hz : i.zero = some z) (hsize : i.size = size) (hby : i.bytes = bytes) (hzs : z.cells.size = size) (hsz : 0 < size)
    (g : Nat) (hown : w.ownsRow B e size (.slice (some ⟨g, 0, none⟩) 0 0) 0 []) (ao : Option Addr) (m c : Nat) (news : List Value) (hl : news.length = m * size) (hn : m = 0 ∨ ∃ ad, ao = some ad ∧ ∀ j u, news[j]? = some u → w.cell? (ad.add j) = some u)
    (h63 : m ≤ maxLen) (hbytes : m * bytes ≤ 140737488355328) (hB : B ≤ w.heap.size) :
    ∃ a' c' w', (Builtin.append_ #[t, t] ty #[.slice (some ⟨g, 0, none⟩) 0 0, .slice ao m c]).run P w = .ok (.slice a' m c') w' ∧ w'.ownsRow B e size (.slice a' m c') m news ∧ Below w.heap.size w w' := by
  by_cases h0 : m = 0
  · subst h0
    obtain rfl : news = [] := List.eq_nil_of_length_eq_zero (by simpa using hl)
    refine ⟨some ⟨g, 0, none⟩, 0, w, ?_, hown, Below.refl _ _⟩
    cases ao <;> simp [Builtin.append_, run_underlying ht, sizeOf, typeInfo, hi, Builtin.lenOf, Builtin.firstCells, storeCells, loadCells, loadCellsFrom]
  · obtain ⟨ad, rfl, hc⟩ := hn.resolve_left h0
    obtain ⟨v', w', hrun, r1, r2⟩ := run_append_arg_grows (P := P) (w := w) t ty e i z size bytes ht hi hz hsize hby hzs hsz ⟨g, 0, none⟩ 0 0 [] (by simp) (fun j u hj => by simp at hj) ad m c news hl hc (by omega) (by omega) (by simpa using hbytes)
    simp only [Nat.zero_add, List.nil_append] at r1
    rcases r1.2 with ⟨rfl, hm⟩ | ⟨g', cap, cur, rfl, r⟩
    · exact absurd hm h0
    · exact ⟨_, cap, w', hrun, own_mono r1 hB, (Below.refl _ _).grown r2 (Nat.le_refl _) (fun k e => by cases e)⟩

def opsC : Array Oper := #[{ dst := some 3, op := Op.buildSlice 31 0 #[], type := 31, pos := "l7_order.go:48", after := #[], guard := none }, { dst := some 4, op := Op.fieldAddr 35 (Operand.tmp 1) 0, type := 0, pos := "l7_order.go:48", after := #[], guard := none }, { dst := some 5, op := Op.fieldAddr 33 (Operand.tmp 4) 0, type := 0, pos := "l7_order.go:48", after := #[{ on := 1, ground := Ground.data }], guard := none }, { dst := some 6, op := Op.load 31 (Operand.tmp 5), type := 31, pos := "l7_order.go:48", after := #[{ on := 2, ground := Ground.data }], guard := none }, { dst := some 7, op := Op.call { callee := Callee.builtin Builtin.append, args := #[Operand.tmp 3, Operand.tmp 6], argTypes := #[31, 31] }, type := 31, pos := "l7_order.go:48", after := #[{ on := 0, ground := Ground.data }, { on := 3, ground := Ground.data }], guard := none }, { dst := some 8, op := Op.build 33 #[(0, Operand.tmp 7)], type := 33, pos := "l7_order.go:48", after := #[{ on := 4, ground := Ground.data }], guard := none }, { dst := some 9, op := Op.buildSlice 25 0 #[], type := 25, pos := "l7_order.go:48", after := #[], guard := none }, { dst := some 10, op := Op.fieldAddr 35 (Operand.tmp 1) 1, type := 0, pos := "l7_order.go:48", after := #[], guard := none }, { dst := some 11, op := Op.load 25 (Operand.tmp 10), type := 25, pos := "l7_order.go:48", after := #[{ on := 7, ground := Ground.data }], guard := none }, { dst := some 12, op := Op.call { callee := Callee.builtin Builtin.append, args := #[Operand.tmp 9, Operand.tmp 11], argTypes := #[25, 25] }, type := 25, pos := "l7_order.go:48", after := #[{ on := 6, ground := Ground.data }, { on := 8, ground := Ground.data }, { on := 4, ground := Ground.chain }], guard := none }, { dst := some 13, op := Op.buildSlice 25 0 #[], type := 25, pos := "l7_order.go:48", after := #[], guard := none }, { dst := some 14, op := Op.fieldAddr 35 (Operand.tmp 1) 2, type := 0, pos := "l7_order.go:48", after := #[], guard := none }, { dst := some 15, op := Op.load 25 (Operand.tmp 14), type := 25, pos := "l7_order.go:48", after := #[{ on := 11, ground := Ground.data }], guard := none }, { dst := some 16, op := Op.call { callee := Callee.builtin Builtin.append, args := #[Operand.tmp 13, Operand.tmp 15], argTypes := #[25, 25] }, type := 25, pos := "l7_order.go:48", after := #[{ on := 10, ground := Ground.data }, { on := 12, ground := Ground.data }, { on := 9, ground := Ground.chain }], guard := none }, { dst := some 17, op := Op.build 35 #[(0, Operand.tmp 8), (1, Operand.tmp 12), (2, Operand.tmp 16)], type := 35, pos := "l7_order.go:48", after := #[{ on := 5, ground := Ground.data }, { on := 9, ground := Ground.data }, { on := 13, ground := Ground.data }], guard := none }, { dst := none, op := Op.store 35 (Operand.tmp 2) (Operand.tmp 17), type := 0, pos := "l7_order.go:48", after := #[{ on := 14, ground := Ground.data }, { on := 13, ground := Ground.chain }, { on := 0, ground := Ground.phase }, { on := 1, ground := Ground.phase }, { on := 2, ground := Ground.phase }, { on := 3, ground := Ground.phase }, { on := 4, ground := Ground.phase }, { on := 5, ground := Ground.phase }, { on := 6, ground := Ground.phase }, { on := 7, ground := Ground.phase }, { on := 8, ground := Ground.phase }, { on := 9, ground := Ground.phase }, { on := 10, ground := Ground.phase }, { on := 11, ground := Ground.phase }, { on := 12, ground := Ground.phase }, { on := 13, ground := Ground.phase }, { on := 14, ground := Ground.phase }], guard := none }]

/-- What each leaves. -/
def VC (A B : Nat) (v : SV) (d : LD) : Nat → Value → World → Prop
  | 0, x, W => ∃ g, x = .slice (some ⟨g, 0, none⟩) 0 0 ∧ W.ownsRow B 84 2 (.slice (some ⟨g, 0, none⟩) 0 0) 0 []
  | 1, x, _ => x = .pointer (some ⟨A, 0, none⟩)
  | 2, x, _ => x = .pointer (some ⟨A, 0, none⟩)
  | 3, x, _ => x = v.m d
  | 4, x, W => ∃ a c, x = .slice a d.n c ∧ W.ownsRow B 84 2 (.slice a d.n c) d.n (d.zs.map (Value.int .i64))
  | 5, x, W => ∃ a c, x = .agg #[.slice a d.n c] ∧ W.ownsRow B 84 2 (.slice a d.n c) d.n (d.zs.map (Value.int .i64))
  | 6, x, W => ∃ g, x = .slice (some ⟨g, 0, none⟩) 0 0 ∧ W.ownsRow B 3 1 (.slice (some ⟨g, 0, none⟩) 0 0) 0 []
  | 7, x, _ => x = .pointer (some ⟨A, 1, none⟩)
  | 8, x, _ => x = v.s d
  | 9, x, W => ∃ a c, x = .slice a d.s.length c ∧ W.ownsRow B 3 1 (.slice a d.s.length c) d.s.length (d.s.map (Value.int .i64))
  | 10, x, W => ∃ g, x = .slice (some ⟨g, 0, none⟩) 0 0 ∧ W.ownsRow B 3 1 (.slice (some ⟨g, 0, none⟩) 0 0) 0 []
  | 11, x, _ => x = .pointer (some ⟨A, 2, none⟩)
  | 12, x, _ => x = v.q d
  | 13, x, W => ∃ a c, x = .slice a d.q.length c ∧ W.ownsRow B 3 1 (.slice a d.q.length c) d.q.length (d.q.map (Value.int .i64))
  | 14, x, W => ∃ u : SV, x = stV u d ∧ W.ownsRow B 84 2 (u.m d) d.n (d.zs.map (Value.int .i64)) ∧ W.ownsRow B 3 1 (u.s d) d.s.length (d.s.map (Value.int .i64)) ∧ W.ownsRow B 3 1 (u.q d) d.q.length (d.q.map (Value.int .i64))
  | _, _, _ => True

theorem VC_keep {A B : Nat} {v : SV} {d : LD} : ∀ i x W W', VC A B v d i x W → Below W.heap.size W W' → VC A B v d i x W' := by
  intro i x W W' h t
  unfold VC at h ⊢
  split at h <;> first
    | exact h
    | exact (let ⟨g, e, o⟩ := h; ⟨g, e, ownsRow_below o t⟩)
    | exact (let ⟨a, c, e, o⟩ := h; ⟨a, c, e, ownsRow_below o t⟩)
    | exact (let ⟨u, e, o1, o2, o3⟩ := h; ⟨u, e, ownsRow_below o1 t, ownsRow_below o2 t, ownsRow_below o3 t⟩)

theorem lt15 {i : Nat} (h : i < 15) : i = 0 ∨ i = 1 ∨ i = 2 ∨ i = 3 ∨ i = 4 ∨ i = 5 ∨ i = 6 ∨ i = 7 ∨ i = 8 ∨ i = 9 ∨ i = 10 ∨ i = 11 ∨ i = 12 ∨ i = 13 ∨ i = 14 := by omega
theorem SInts.srcC {w : World} {a : Option Addr} {n : Nat} {zs : List Int} (hs : SInts w a n zs) : n = 0 ∨ ∃ ad, a = some ad ∧ ∀ j u, (zs.map (Value.int .i64))[j]? = some u → w.cell? (ad.add j) = some u := by
  have := hs.src_take (f := n) (Nat.le_refl _)
  rwa [List.take_of_length_le (by have := hs.1; omega)] at this
theorem SInts.srcC2 {w : World} {a : Option Addr} {n : Nat} {zs : List Int} (hs : SInts w a (n * 2) zs) : n = 0 ∨ ∃ ad, a = some ad ∧ ∀ j u, (zs.map (Value.int .i64))[j]? = some u → w.cell? (ad.add j) = some u := by
  rcases hs.srcC with h | h
  · exact .inl (by omega)
  · exact .inr h

set_option maxRecDepth 20000 in
set_option maxHeartbeats 8000000 in
theorem hopC {A B : Nat} {v : SV} {d : LD} {wb : World} {a0 : Act} {Q : Exit → Act → World → Prop} (hbx : B3 wb A (v.m d) (v.s d) (v.q d)) (hss : SS wb v d) (hfe : Few d) (hB : B ≤ wb.heap.size) (e1 : a0.eval (.tmp 1) = .pointer (some ⟨A, 0, none⟩)) :
    ∀ (i : Nat) (o : Oper) (f : Nat) (W1 : Act) (W : World), i < 15 → opsC[i]? = some o → Below wb.heap.size wb W →
      (∀ e ∈ o.after, Region.binds .any e = true → ∀ oj, opsC[e.on]? = some oj → ∃ x, VC A B v d e.on x W ∧ ∀ t, oj.dst = some t → W1.eval (.tmp t) = x) →
      (∀ t, (∀ oj ∈ opsC.toList, oj.dst ≠ some t) → W1.eval (.tmp t) = a0.eval (.tmp t)) → Oper.wp Tryd.prog o W1 W (fun a' w' => ∃ x, a' = W1.put o.dst x ∧ VC A B v d i x w' ∧ Below wb.heap.size wb w' ∧ Below W.heap.size W w') Q := by
  intro i o f W1 W hi ho hI hdep hfix
  have h1 := eval_tmp ((hfix 1 (dst_none (by kernel_rfl))).trans e1)
  obtain ⟨c0, c1, c2⟩ := (hbx.below hI).cells
  have HS : Hid (SS W v d) := hss.below hI
  have HF : Hid (Few d) := hfe
  have hBW : B ≤ W.heap.size := Nat.le_trans hB hI.size
  obtain ⟨j0, hj, hjz0, hjz1, hjz2⟩ := info_parts Tryd.info84
  obtain ⟨i0, hi3, hiz0, hiz1, hiz2⟩ := info_parts Tryd.info3
  clear hfix e1 hbx hss hfe
  generalize hKK : (fun (a' : Act) (w' : World) => ∃ x, a' = W1.put o.dst x ∧ VC A B v d i x w' ∧ Below wb.heap.size wb w' ∧ Below W.heap.size W w') = KK
  have HK : Hid (∀ x w', VC A B v d i x w' → Below W.heap.size W w' → KK (W1.put o.dst x) w') := by
    subst hKK
    exact fun x w' h1 h2 => ⟨x, rfl, h1, below_trans' hI h2, h2⟩
  clear hKK hI
  rcases lt15 hi with rfl | rfl | rfl | rfl | rfl | rfl | rfl | rfl | rfl | rfl | rfl | rfl | rfl | rfl | rfl
  · obtain rfl : ({ dst := some 3, op := Op.buildSlice 31 0 #[], type := 31, pos := "l7_order.go:48", after := #[], guard := none } : Oper) = o := Option.some.inj ho
    clear ho hi
    clear hdep
    clear c0 c1 c2 h1
    have hlit := World.ownsRow_lit (base := B) (e := 84) (size := 2) W #[] 0 hBW (by decide) (by simp)
    have hal := al1 W (.cells #[] 84)
    go_simp
    exact HK.out _ _ ⟨W.heap.size, rfl, hlit⟩ hal
  · obtain rfl : ({ dst := some 4, op := Op.fieldAddr 35 (Operand.tmp 1) 0, type := 0, pos := "l7_order.go:48", after := #[], guard := none } : Oper) = o := Option.some.inj ho
    clear ho hi
    clear hdep
    clear c0 c1 c2
    go_simp
    exact HK.out _ _ rfl (Below.refl _ _)
  · obtain rfl : ({ dst := some 5, op := Op.fieldAddr 33 (Operand.tmp 4) 0, type := 0, pos := "l7_order.go:48", after := #[{ on := 1, ground := Ground.data }], guard := none } : Oper) = o := Option.some.inj ho
    clear ho hi
    obtain ⟨v1, hv1, he1'⟩ := hdep { on := 1, ground := .data } (by simp) rfl _ rfl
    have he1 := eval_tmp (he1' 4 rfl)
    clear he1'
    clear hdep
    obtain rfl : v1 = .pointer (some ⟨A, 0, none⟩) := hv1
    clear c0 c1 c2
    go_simp
    exact HK.out _ _ rfl (Below.refl _ _)
  · obtain rfl : ({ dst := some 6, op := Op.load 31 (Operand.tmp 5), type := 31, pos := "l7_order.go:48", after := #[{ on := 2, ground := Ground.data }], guard := none } : Oper) = o := Option.some.inj ho
    clear ho hi
    obtain ⟨v2, hv2, he2'⟩ := hdep { on := 2, ground := .data } (by simp) rfl _ rfl
    have he2 := eval_tmp (he2' 5 rfl)
    clear he2'
    clear hdep
    obtain rfl : v2 = .pointer (some ⟨A, 0, none⟩) := hv2
    go_simp
    exact HK.out _ _ rfl (Below.refl _ _)
  · obtain rfl : ({ dst := some 7, op := Op.call { callee := Callee.builtin Builtin.append, args := #[Operand.tmp 3, Operand.tmp 6], argTypes := #[31, 31] }, type := 31, pos := "l7_order.go:48", after := #[{ on := 0, ground := Ground.data }, { on := 3, ground := Ground.data }], guard := none } : Oper) = o := Option.some.inj ho
    clear ho hi
    obtain ⟨v0, hv0, he0'⟩ := hdep { on := 0, ground := .data } (by simp) rfl _ rfl
    have he0 := eval_tmp (he0' 3 rfl)
    clear he0'
    obtain ⟨v3, hv3, he3'⟩ := hdep { on := 3, ground := .data } (by simp) rfl _ rfl
    have he3 := eval_tmp (he3' 6 rfl)
    clear he3'
    clear hdep
    obtain ⟨g, rfl, hown⟩ := hv0
    obtain rfl : v3 = v.m d := hv3
    clear c0 c1 c2 h1
    obtain ⟨a', c', w', hrun, r1, r2⟩ := run_app_lit (P := Tryd.prog) W B 31 31 84 j0 (.agg #[.int .i64 0, .int .i64 0]) 2 16 Tryd.underlying31 hj hjz0 hjz1 hjz2 rfl (by decide) g hown v.ma d.n v.mc (d.zs.map (Value.int .i64)) (by have := HS.out.m.1; simpa using this) HS.out.m.srcC2 (by have := HF.out.m; unfold maxLen; omega) (by have := HF.out.m; omega) hBW
    unfold Oper.wp
    simp [execOp, resolve, invoke, builtin, Act.eval, he0, he3, hrun, Result.andThen]
    exact HK.out _ _ ⟨a', c', rfl, r1⟩ r2
  · obtain rfl : ({ dst := some 8, op := Op.build 33 #[(0, Operand.tmp 7)], type := 33, pos := "l7_order.go:48", after := #[{ on := 4, ground := Ground.data }], guard := none } : Oper) = o := Option.some.inj ho
    clear ho hi
    obtain ⟨v4, hv4, he4'⟩ := hdep { on := 4, ground := .data } (by simp) rfl _ rfl
    have he4 := eval_tmp (he4' 7 rfl)
    clear he4'
    clear hdep
    obtain ⟨a, c, rfl, hown⟩ := hv4
    clear c0 c1 c2 h1
    go_simp
    exact HK.out _ _ ⟨a, c, rfl, hown⟩ (Below.refl _ _)
  · obtain rfl : ({ dst := some 9, op := Op.buildSlice 25 0 #[], type := 25, pos := "l7_order.go:48", after := #[], guard := none } : Oper) = o := Option.some.inj ho
    clear ho hi
    clear hdep
    clear c0 c1 c2 h1
    have hlit := World.ownsRow_lit (base := B) (e := 3) (size := 1) W #[] 0 hBW (by decide) (by simp)
    have hal := al1 W (.cells #[] 3)
    go_simp
    exact HK.out _ _ ⟨W.heap.size, rfl, hlit⟩ hal
  · obtain rfl : ({ dst := some 10, op := Op.fieldAddr 35 (Operand.tmp 1) 1, type := 0, pos := "l7_order.go:48", after := #[], guard := none } : Oper) = o := Option.some.inj ho
    clear ho hi
    clear hdep
    clear c0 c1 c2
    go_simp
    exact HK.out _ _ rfl (Below.refl _ _)
  · obtain rfl : ({ dst := some 11, op := Op.load 25 (Operand.tmp 10), type := 25, pos := "l7_order.go:48", after := #[{ on := 7, ground := Ground.data }], guard := none } : Oper) = o := Option.some.inj ho
    clear ho hi
    obtain ⟨v7, hv7, he7'⟩ := hdep { on := 7, ground := .data } (by simp) rfl _ rfl
    have he7 := eval_tmp (he7' 10 rfl)
    clear he7'
    clear hdep
    obtain rfl : v7 = .pointer (some ⟨A, 1, none⟩) := hv7
    go_simp
    exact HK.out _ _ rfl (Below.refl _ _)
  · obtain rfl : ({ dst := some 12, op := Op.call { callee := Callee.builtin Builtin.append, args := #[Operand.tmp 9, Operand.tmp 11], argTypes := #[25, 25] }, type := 25, pos := "l7_order.go:48", after := #[{ on := 6, ground := Ground.data }, { on := 8, ground := Ground.data }, { on := 4, ground := Ground.chain }], guard := none } : Oper) = o := Option.some.inj ho
    clear ho hi
    obtain ⟨v6, hv6, he6'⟩ := hdep { on := 6, ground := .data } (by simp) rfl _ rfl
    have he6 := eval_tmp (he6' 9 rfl)
    clear he6'
    obtain ⟨v8, hv8, he8'⟩ := hdep { on := 8, ground := .data } (by simp) rfl _ rfl
    have he8 := eval_tmp (he8' 11 rfl)
    clear he8'
    clear hdep
    obtain ⟨g, rfl, hown⟩ := hv6
    obtain rfl : v8 = v.s d := hv8
    clear c0 c1 c2 h1
    obtain ⟨a', c', w', hrun, r1, r2⟩ := run_app_lit (P := Tryd.prog) W B 25 25 3 i0 (.int .i64 0) 1 8 Tryd.underlying25 hi3 hiz0 hiz1 hiz2 rfl (by decide) g hown v.sa d.s.length v.sc (d.s.map (Value.int .i64)) (by simp) HS.out.s.srcC (by have := HF.out.s; unfold maxLen; omega) (by have := HF.out.s; omega) hBW
    unfold Oper.wp
    simp [execOp, resolve, invoke, builtin, Act.eval, he6, he8, hrun, Result.andThen]
    exact HK.out _ _ ⟨a', c', rfl, r1⟩ r2
  · obtain rfl : ({ dst := some 13, op := Op.buildSlice 25 0 #[], type := 25, pos := "l7_order.go:48", after := #[], guard := none } : Oper) = o := Option.some.inj ho
    clear ho hi
    clear hdep
    clear c0 c1 c2 h1
    have hlit := World.ownsRow_lit (base := B) (e := 3) (size := 1) W #[] 0 hBW (by decide) (by simp)
    have hal := al1 W (.cells #[] 3)
    go_simp
    exact HK.out _ _ ⟨W.heap.size, rfl, hlit⟩ hal
  · obtain rfl : ({ dst := some 14, op := Op.fieldAddr 35 (Operand.tmp 1) 2, type := 0, pos := "l7_order.go:48", after := #[], guard := none } : Oper) = o := Option.some.inj ho
    clear ho hi
    clear hdep
    clear c0 c1 c2
    go_simp
    exact HK.out _ _ rfl (Below.refl _ _)
  · obtain rfl : ({ dst := some 15, op := Op.load 25 (Operand.tmp 14), type := 25, pos := "l7_order.go:48", after := #[{ on := 11, ground := Ground.data }], guard := none } : Oper) = o := Option.some.inj ho
    clear ho hi
    obtain ⟨v11, hv11, he11'⟩ := hdep { on := 11, ground := .data } (by simp) rfl _ rfl
    have he11 := eval_tmp (he11' 14 rfl)
    clear he11'
    clear hdep
    obtain rfl : v11 = .pointer (some ⟨A, 2, none⟩) := hv11
    go_simp
    exact HK.out _ _ rfl (Below.refl _ _)
  · obtain rfl : ({ dst := some 16, op := Op.call { callee := Callee.builtin Builtin.append, args := #[Operand.tmp 13, Operand.tmp 15], argTypes := #[25, 25] }, type := 25, pos := "l7_order.go:48", after := #[{ on := 10, ground := Ground.data }, { on := 12, ground := Ground.data }, { on := 9, ground := Ground.chain }], guard := none } : Oper) = o := Option.some.inj ho
    clear ho hi
    obtain ⟨v10, hv10, he10'⟩ := hdep { on := 10, ground := .data } (by simp) rfl _ rfl
    have he10 := eval_tmp (he10' 13 rfl)
    clear he10'
    obtain ⟨v12, hv12, he12'⟩ := hdep { on := 12, ground := .data } (by simp) rfl _ rfl
    have he12 := eval_tmp (he12' 15 rfl)
    clear he12'
    clear hdep
    obtain ⟨g, rfl, hown⟩ := hv10
    obtain rfl : v12 = v.q d := hv12
    clear c0 c1 c2 h1
    obtain ⟨a', c', w', hrun, r1, r2⟩ := run_app_lit (P := Tryd.prog) W B 25 25 3 i0 (.int .i64 0) 1 8 Tryd.underlying25 hi3 hiz0 hiz1 hiz2 rfl (by decide) g hown v.qa d.q.length v.qc (d.q.map (Value.int .i64)) (by simp) HS.out.q.srcC (by have := HF.out.q; unfold maxLen; omega) (by have := HF.out.q; omega) hBW
    unfold Oper.wp
    simp [execOp, resolve, invoke, builtin, Act.eval, he10, he12, hrun, Result.andThen]
    exact HK.out _ _ ⟨a', c', rfl, r1⟩ r2
  · obtain rfl : ({ dst := some 17, op := Op.build 35 #[(0, Operand.tmp 8), (1, Operand.tmp 12), (2, Operand.tmp 16)], type := 35, pos := "l7_order.go:48", after := #[{ on := 5, ground := Ground.data }, { on := 9, ground := Ground.data }, { on := 13, ground := Ground.data }], guard := none } : Oper) = o := Option.some.inj ho
    clear ho hi
    obtain ⟨v5, hv5, he5'⟩ := hdep { on := 5, ground := .data } (by simp) rfl _ rfl
    have he5 := eval_tmp (he5' 8 rfl)
    clear he5'
    obtain ⟨v9, hv9, he9'⟩ := hdep { on := 9, ground := .data } (by simp) rfl _ rfl
    have he9 := eval_tmp (he9' 12 rfl)
    clear he9'
    obtain ⟨v13, hv13, he13'⟩ := hdep { on := 13, ground := .data } (by simp) rfl _ rfl
    have he13 := eval_tmp (he13' 16 rfl)
    clear he13'
    clear hdep
    obtain ⟨a, c, rfl, ho1⟩ := hv5
    obtain ⟨a', c', rfl, ho2⟩ := hv9
    obtain ⟨a'', c'', rfl, ho3⟩ := hv13
    clear c0 c1 c2 h1
    go_simp
    exact HK.out _ _ ⟨⟨a, c, a', c', a'', c''⟩, rfl, ho1, ho2, ho3⟩ (Below.refl _ _)

/-- What stands behind it: the state, in memory of its own. -/
def StRes (d : LD) (w : World) (e : Ending) (w' : World) : Prop := ∃ u : SV, e = .returned (stV u d) ∧ St w.heap.size w'.heap.size u d w' ∧ Below w.heap.size w w'

set_option maxRecDepth 20000 in
set_option maxHeartbeats 2000000 in
theorem l7Copy_any (v : SV) (d : LD) (w : World) (h : SS w v d) (hf : Few d) : Calls Tryd.prog 35 #[stV v d] w (StRes d w) := by
  have A1 := al1 w (.cells #[v.m d, v.s d, v.q d] 35)
  have A2 := al1 (w.alloc (.cells #[v.m d, v.s d, v.q d] 35)) (.cells #[.slice none 0 0, .slice none 0 0, .slice none 0 0] 35)
  have bx := (b3_new w (v.m d) (v.s d) (v.q d) 35 rfl).below A2
  have br := b3_new (w.alloc (.cells #[v.m d, v.s d, v.q d] 35)) (.slice none 0 0) (.slice none 0 0) (.slice none 0 0) 35 (b := w.heap.size + 1) (by simp)
  have hA := below_trans' A1 A2
  have hs := h.below hA
  have hB : w.heap.size + 2 ≤ ((w.alloc (.cells #[v.m d, v.s d, v.q d] 35)).alloc (.cells #[.slice none 0 0, .slice none 0 0, .slice none 0 0] 35)).heap.size := by simp
  clear A1 A2 h
  go_enter Tryd.func35, Tryd.ntmps35
  go_wp2
  generalize hw0 : (w.alloc (.cells #[v.m d, v.s d, v.q d] 35)).alloc (.cells #[.slice none 0 0, .slice none 0 0, .slice none 0 0] 35) = w0 at bx br hA hs hB ⊢
  clear hw0
  refine region_inv (ops := opsC) (m := 15) (I := fun f W => Below w0.heap.size w0 W) (V := VC w.heap.size (w.heap.size + 2) v d) (T := fun W W' => Below W.heap.size W W') (by kernel_rfl) (by decide) (by kernel_rfl) (by kernel_rfl) VC_keep (Below.refl _ _).drew (hopC bx hs hf hB rfl) ?hend
  case hend =>
    intro vs W hv hn hI'
    have hI : Below w0.heap.size w0 W := hI'
    obtain ⟨v0, e0, -⟩ := hv 0 (by omega)
    obtain ⟨v1, e1, -⟩ := hv 1 (by omega)
    obtain ⟨v2, e2, -⟩ := hv 2 (by omega)
    obtain ⟨v3, e3, -⟩ := hv 3 (by omega)
    obtain ⟨v4, e4, -⟩ := hv 4 (by omega)
    obtain ⟨v5, e5, -⟩ := hv 5 (by omega)
    obtain ⟨v6, e6, -⟩ := hv 6 (by omega)
    obtain ⟨v7, e7, -⟩ := hv 7 (by omega)
    obtain ⟨v8, e8, -⟩ := hv 8 (by omega)
    obtain ⟨v9, e9, -⟩ := hv 9 (by omega)
    obtain ⟨v10, e10, -⟩ := hv 10 (by omega)
    obtain ⟨v11, e11, -⟩ := hv 11 (by omega)
    obtain ⟨v12, e12, -⟩ := hv 12 (by omega)
    obtain ⟨v13, e13, -⟩ := hv 13 (by omega)
    obtain ⟨v14, e14, hx⟩ := hv 14 (by omega)
    have e15 := hn 15 (by omega)
    obtain ⟨u, rfl, o1, o2, o3⟩ := hx
    have b4 := br.below hI
    obtain ⟨k0, k1, k2⟩ := b4.cells
    obtain ⟨f0, f1, f2⟩ := b4.frees
    have HE : Hid (Below w.heap.size w W ∧ W.ownsRow (w.heap.size + 2) 84 2 (u.m d) d.n (d.zs.map (Value.int .i64)) ∧ W.ownsRow (w.heap.size + 2) 3 1 (u.s d) d.s.length (d.s.map (Value.int .i64)) ∧ W.ownsRow (w.heap.size + 2) 3 1 (u.q d) d.q.length (d.q.map (Value.int .i64))) := ⟨below_trans' hA hI, o1, o2, o3⟩
    clear hv hn bx br hs hA hI hI' o1 o2 o3 b4
    refine wpAny_ready (rs := [15]) (by kernel_rfl) (by simp) ?_
    refine AllReady.cons (o := { dst := none, op := Op.store 35 (Operand.tmp 2) (Operand.tmp 17), type := 0, pos := "l7_order.go:48", after := #[{ on := 14, ground := Ground.data }, { on := 13, ground := Ground.chain }, { on := 0, ground := Ground.phase }, { on := 1, ground := Ground.phase }, { on := 2, ground := Ground.phase }, { on := 3, ground := Ground.phase }, { on := 4, ground := Ground.phase }, { on := 5, ground := Ground.phase }, { on := 6, ground := Ground.phase }, { on := 7, ground := Ground.phase }, { on := 8, ground := Ground.phase }, { on := 9, ground := Ground.phase }, { on := 10, ground := Ground.phase }, { on := 11, ground := Ground.phase }, { on := 12, ground := Ground.phase }, { on := 13, ground := Ground.phase }, { on := 14, ground := Ground.phase }], guard := none }) rfl ?_ AllReady.nil
    intro K' hK'
    rw [if_pos (by simp [Region.wanted])]
    unfold opsC
    simp only [putsF, e0, e1, e2, e3, e4, e5, e6, e7, e8, e9, e10, e11, e12, e13, e14, e15, Nat.zero_add, Nat.reduceAdd, Act.put, List.setIfInBounds_toArray, List.set_cons_zero, List.set_cons_succ]
    go_simp
    refine hK' _ _ ⟨by kernel_rfl, ?_⟩
    go_wp2
    refine bodyPost_ret (v := stV u d) (by simp [results, Tryd.results35, go_sem, k0, k1, k2]) rfl ⟨u, rfl, ?_, ((HE.out.1.setCell (p := ⟨w.heap.size + 1, 0, none⟩) (by show w.heap.size ≤ w.heap.size + 1; omega) _).setCell (p := ⟨w.heap.size + 1, 1, none⟩) (by show w.heap.size ≤ w.heap.size + 1; omega) _).setCell (p := ⟨w.heap.size + 1, 2, none⟩) (by show w.heap.size ≤ w.heap.size + 1; omega) _⟩
    have up : ∀ (e : TypeId) (sz : Nat) (x : Value) (n : Nat) (xs : List Value), W.ownsRow (w.heap.size + 2) e sz x n xs → RowIn w.heap.size (((W.setCell ⟨w.heap.size + 1, 0, none⟩ (u.m d)).setCell ⟨w.heap.size + 1, 1, none⟩ (u.s d)).setCell ⟨w.heap.size + 1, 2, none⟩ (u.q d)).heap.size e sz x n xs (((W.setCell ⟨w.heap.size + 1, 0, none⟩ (u.m d)).setCell ⟨w.heap.size + 1, 1, none⟩ (u.s d)).setCell ⟨w.heap.size + 1, 2, none⟩ (u.q d)) := fun e sz x n xs ho =>
      rowIn_of (own_mono (own_far (own_far (own_far ho (by omega) _) (by omega) _) (by omega) _) (by omega)) (Nat.le_refl _)
    exact ⟨up _ _ _ _ _ HE.out.2.1, up _ _ _ _ _ HE.out.2.2.1, up _ _ _ _ _ HE.out.2.2.2⟩

end Go.Proofs.YtklpdpdjblakgaaDoor

/- LinU -/
namespace Go.Proofs.YtklpdpdjblakgaaDoor
open Go.RowKit
set_option linter.unusedVariables false

theorem implListTake_capL (a : Option Addr) (n cap : Nat) (zs : List Int) (w : World) (hs : SInts w a n zs) (hnc : n ≤ cap) (hcap : cap ≤ 9223372036854775807) (hn : n ≤ 1048576) :
    Calls Tryd.prog 27 #[.slice a n cap] w fun e w' => ListRes (takeL zs) (takeC zs) (takeV zs) e w w' := by
  have hzl := hs.1
  cases hok : okL zs
  · have e1 : takeL zs = [] := by simp [takeL, hok]
    have e2 : takeC zs = 0 := by simp [takeC, hok]
    have e3 : takeV zs = 0 := by simp [takeV, hok]
    rw [e1, e2, e3]
    exact implListTake_bad _ n cap zs w hs (by omega) hok
  · match zs, hzl with
    | [], hzl =>
      have h0 : n = 0 := by simpa using hzl.symm
      subst h0
      exact implListTake_none _ cap w
    | x :: r, hzl =>
      have e1 : takeL (x :: r) = r := by simp [takeL, hok]
      have e2 : takeC (x :: r) = 2 := by simp [takeC, hok]
      have e3 : takeV (x :: r) = x := by simp [takeV, hok]
      rw [e1, e2, e3]
      exact implListTake_some a n cap x r w hs hnc ⟨hcap, by omega⟩ hok

/-- What one of the asked makes: the state in memory of its own, no two lists in one block, and the answer. -/
def OfRes (lo : Nat) (d' : LD) (C V : Int) (w : World) (e : Ending) (w' : World) : Prop :=
  ∃ u : SV, e = .returned (.tuple #[stV u d', .agg #[.int .i64 C, .int .i64 V]]) ∧ St lo w'.heap.size u d' w' ∧ Apart u d' ∧ Below w.heap.size w w'

section
variable {lo hi : Nat} {v : SV} {d : LD} {w w' : World}
theorem St.newM (h : St lo hi v d w) (hp : Apart v d) (hl : lo ≤ w.heap.size) (hh : hi ≤ w.heap.size) (hb : Below w.heap.size w w') {a : Option Addr} {n c : Nat} {zs : List Int} (ho : w'.ownsRow w.heap.size 84 2 (.slice a n c) n (zs.map (Value.int .i64))) :
    St lo w'.heap.size ⟨a, c, v.sa, v.sc, v.qa, v.qc⟩ ⟨n, zs, d.s, d.q⟩ w' ∧ Apart ⟨a, c, v.sa, v.sc, v.qa, v.qc⟩ ⟨n, zs, d.s, d.q⟩ := by
  have h' := h.below hh hb
  have hw := hb.size
  refine ⟨⟨rowIn_of (own_mono ho hl) (Nat.le_refl _), h'.s.mono (Nat.le_refl _) (by omega), h'.q.mono (Nat.le_refl _) (by omega)⟩, ⟨fun k e e' => ?_, fun k e e' => ?_, hp.sq⟩⟩
  · have := (ho.lt k e).1
    have := h.s.2 k e'
    omega
  · have := (ho.lt k e).1
    have := h.q.2 k e'
    omega
theorem St.newS (h : St lo hi v d w) (hp : Apart v d) (hl : lo ≤ w.heap.size) (hh : hi ≤ w.heap.size) (hb : Below w.heap.size w w') {a : Option Addr} {n c : Nat} {zs : List Int} (hn : zs.length = n) (ho : w'.ownsRow w.heap.size 3 1 (.slice a n c) n (zs.map (Value.int .i64))) :
    St lo w'.heap.size ⟨v.ma, v.mc, a, c, v.qa, v.qc⟩ ⟨d.n, d.zs, zs, d.q⟩ w' ∧ Apart ⟨v.ma, v.mc, a, c, v.qa, v.qc⟩ ⟨d.n, d.zs, zs, d.q⟩ := by
  subst hn
  have h' := h.below hh hb
  have hw := hb.size
  refine ⟨⟨h'.m.mono (Nat.le_refl _) (by omega), rowIn_of (own_mono ho hl) (Nat.le_refl _), h'.q.mono (Nat.le_refl _) (by omega)⟩, ⟨fun k e e' => ?_, hp.mq, fun k e e' => ?_⟩⟩
  · have := (ho.lt k e').1
    have := h.m.2 k e
    omega
  · have := (ho.lt k e).1
    have := h.q.2 k e'
    omega
theorem St.newQ (h : St lo hi v d w) (hp : Apart v d) (hl : lo ≤ w.heap.size) (hh : hi ≤ w.heap.size) (hb : Below w.heap.size w w') {a : Option Addr} {n c : Nat} {zs : List Int} (hn : zs.length = n) (ho : w'.ownsRow w.heap.size 3 1 (.slice a n c) n (zs.map (Value.int .i64))) :
    St lo w'.heap.size ⟨v.ma, v.mc, v.sa, v.sc, a, c⟩ ⟨d.n, d.zs, d.s, zs⟩ w' ∧ Apart ⟨v.ma, v.mc, v.sa, v.sc, a, c⟩ ⟨d.n, d.zs, d.s, zs⟩ := by
  subst hn
  have h' := h.below hh hb
  have hw := hb.size
  refine ⟨⟨h'.m.mono (Nat.le_refl _) (by omega), h'.s.mono (Nat.le_refl _) (by omega), rowIn_of (own_mono ho hl) (Nat.le_refl _)⟩, ⟨hp.ms, fun k e e' => ?_, fun k e e' => ?_⟩⟩
  · have := (ho.lt k e').1
    have := h.m.2 k e
    omega
  · have := (ho.lt k e').1
    have := h.s.2 k e
    omega
end

theorem OfRes.drew {lo : Nat} {d' : LD} {C V : Int} {w : World} {e : Ending} {w' : World} (h : OfRes lo d' C V w e w') : OfRes lo d' C V w e w'.drew := by
  obtain ⟨u, he, h1, h2, h3⟩ := h
  exact ⟨u, he, ⟨h1.m, h1.s, h1.q⟩, h2, h3.drew⟩

/-- Two cells at the beginning of a block. -/
structure B2 (W : World) (b : Nat) (x y : Value) : Prop where
  c0 : W.cell? ⟨b, 0, none⟩ = some x
  c1 : W.cell? ⟨b, 1, none⟩ = some y
  f : ∀ j, W.frozen? ⟨b, j, none⟩ = false
theorem B2.lt {W : World} {b : Nat} {x y : Value} (h : B2 W b x y) : b < W.heap.size := World.block_lt_of_cell? W ⟨b, 0, none⟩ h.c0
theorem B2.below {W W' : World} {b : Nat} {x y : Value} (h : B2 W b x y) (hb : Below W.heap.size W W') : B2 W' b x y :=
  ⟨cell_kept hb h.c0, cell_kept hb h.c1, fun j => (hb.frozen (p := ⟨b, j, none⟩) h.lt).trans (h.f j)⟩
theorem b2_new (W : World) (x y : Value) (t : TypeId) {b : Nat} (hb : b = W.heap.size) : B2 (W.alloc (.cells #[x, y] t)) b x y := by
  subst hb
  exact ⟨by simp, by simp, fun j => frozen_at _ _ _ j rfl⟩

/-- What stands behind the boxes that each of the asked opens with: what it has, the state, and room for both answers. -/
structure F4 (w w0 : World) (v : SV) (d : LD) : Prop where
  st : B3 w0 (w.heap.size + 1) (v.m d) (v.s d) (v.q d)
  rs : B3 w0 (w.heap.size + 1 + 1) (.slice none 0 0) (.slice none 0 0) (.slice none 0 0)
  rr : B2 w0 (w.heap.size + 1 + 1 + 1) (.int .i64 0) (.int .i64 0)
  bel : Below w.heap.size w w0
  sz : w0.heap.size = w.heap.size + 4
theorem f4_new (w : World) (xs : Array Value) (t : TypeId) (v : SV) (d : LD) : F4 w ((((w.alloc (.cells xs t)).alloc (.cells #[v.m d, v.s d, v.q d] 35)).alloc (.cells #[.slice none 0 0, .slice none 0 0, .slice none 0 0] 35)).alloc (.cells #[.int .i64 0, .int .i64 0] 37)) v d := by
  refine ⟨?_, ?_, b2_new _ _ _ _ (by simp), below_trans' (below_trans' (below_trans' (al1 _ _) (al1 _ _)) (al1 _ _)) (al1 _ _), by simp⟩
  · exact ((b3_new _ _ _ _ _ (by simp)).below (al1 _ _)).below (al1 _ _)
  · exact (b3_new _ _ _ _ _ (by simp)).below (al1 _ _)

theorem cell_drew {W : World} {p : Addr} {v : Option Value} (h : W.cell? p = v) : W.drew.cell? p = v := h
theorem cell_far {W : World} {b o g i : Nat} {v u : Value} (hg : g ≠ b) (h : W.cell? ⟨b, o, none⟩ = some v) : (W.setCell ⟨g, i, none⟩ u).cell? ⟨b, o, none⟩ = some v :=
  (World.cell?_setCell_other _ _ _ _ (fun e => by have := congrArg Addr.block e; dsimp only at this; omega)).trans h

/-- Both answers written. -/
abbrev put5 (W : World) (A : Nat) (x y z c e : Value) : World :=
  ((((W.setCell ⟨A + 1 + 1, 0, none⟩ x).setCell ⟨A + 1 + 1, 1, none⟩ y).setCell ⟨A + 1 + 1, 2, none⟩ z).setCell ⟨A + 1 + 1 + 1, 0, none⟩ c).setCell ⟨A + 1 + 1 + 1, 1, none⟩ e
theorem below_put5 {w W : World} {A : Nat} (h : Below A w W) (x y z c e : Value) : Below A w (put5 W A x y z c e) :=
  ((((h.setCell (p := ⟨A + 1 + 1, 0, none⟩) (by show A ≤ A + 1 + 1; omega) _).setCell (p := ⟨A + 1 + 1, 1, none⟩) (by show A ≤ A + 1 + 1; omega) _).setCell (p := ⟨A + 1 + 1, 2, none⟩) (by show A ≤ A + 1 + 1; omega) _).setCell (p := ⟨A + 1 + 1 + 1, 0, none⟩) (by show A ≤ A + 1 + 1 + 1; omega) _).setCell (p := ⟨A + 1 + 1 + 1, 1, none⟩) (by show A ≤ A + 1 + 1 + 1; omega) _
theorem own_put5 {W : World} {A base : Nat} {t : TypeId} {sz : Nat} {v : Value} {n : Nat} {xs : List Value} (h : W.ownsRow base t sz v n xs) (hA : A + 4 ≤ base) (x y z c e : Value) : (put5 W A x y z c e).ownsRow base t sz v n xs :=
  own_far (own_far (own_far (own_far (own_far h (by omega) _) (by omega) _) (by omega) _) (by omega) _) (by omega) _

set_option maxRecDepth 20000 in
set_option maxHeartbeats 1000000 in
theorem of1 (lo hi : Nat) (v : SV) (d : LD) (x y : Int) (w : World) (h : St lo hi v d w) (hp : Apart v d) (hf : Few d) (hl : lo ≤ w.heap.size) (hh : hi ≤ w.heap.size) :
    Calls Tryd.prog 111 #[.agg #[.int .i64 x], stV v d] w (OfRes lo d (getC d.zs d.n x) (getV d.zs d.n x) w) := by
  have F := f4_new w #[.int .i64 x] 102 v d
  have HF : Hid (Few d) := hf
  have A0 : ∀ (i : Nat) (u : Value), (#[.int .i64 x] : Array Value)[i]? = some u → ((((w.alloc (.cells #[.int .i64 x] 102)).alloc (.cells #[v.m d, v.s d, v.q d] 35)).alloc (.cells #[.slice none 0 0, .slice none 0 0, .slice none 0 0] 35)).alloc (.cells #[.int .i64 0, .int .i64 0] 37)).cell? ⟨w.heap.size, i, none⟩ = some u := fun i u hu => cell_kept (below_trans' (below_trans' (al1 _ _) (al1 _ _)) (al1 _ _)) (cell_at w _ _ i rfl hu)
  clear hf
  go_enter Tryd.func111, Tryd.ntmps111
  go_wp2
  generalize hw0 : ((((w.alloc (.cells #[.int .i64 x] 102)).alloc (.cells #[v.m d, v.s d, v.q d] 35)).alloc (.cells #[.slice none 0 0, .slice none 0 0, .slice none 0 0] 35)).alloc (.cells #[.int .i64 0, .int .i64 0] 37)) = w0 at F A0 ⊢
  clear hw0
  have a0 : w0.cell? ⟨w.heap.size, 0, none⟩ = some (.int .i64 x) := A0 0 _ rfl
  clear A0
  obtain ⟨s0, s1, s2⟩ := F.st.cells
  obtain ⟨g0, g1, g2⟩ := F.rs.frees
  obtain ⟨k0, k1, k2⟩ := F.rs.cells
  have q0 := F.rr.c0
  have q1 := F.rr.c1
  have p0 := F.rr.f 0
  have p1 := F.rr.f 1
  have HS : Hid (St lo hi v d w0 ∧ F4 w w0 v d ∧ St lo hi v d w) := ⟨h.below hh F.bel, F, h⟩
  clear h F
  go_region_held (fun w' => w'.cell? ⟨w.heap.size, 0, none⟩ = some (.int .i64 x) ∧ w'.cell? ⟨w.heap.size + 1, 0, none⟩ = some (v.m d) ∧ w'.cell? ⟨w.heap.size + 1, 1, none⟩ = some (v.s d) ∧ w'.cell? ⟨w.heap.size + 1, 2, none⟩ = some (v.q d)) (first | (go_keep; done) | (refine ⟨?_, ?_, ?_, ?_⟩ <;> (repeat (refine cell_far (by omega) ?_)) <;> (first | assumption | (simp [*]; done)))) ((go_at_call 23; refine (implMapGet_any _ _ _ d.zs x _ (HS.out.1.ss.below (Below.refl _ _).drew).m (by have := HF.out.m; omega)).mono ?_; rintro e w1 ⟨rfl, hb1⟩; have hc : Below w0.heap.size w0 w1 := below_trans' (Below.refl w0.heap.size w0).drew hb1; have b0 := cell_kept hc a0; have t0 := cell_kept hc s0; have t1 := cell_kept hc s1; have t2 := cell_kept hc s2; obtain ⟨l0, l1, l2⟩ := (HS.out.2.1.rs.below hc).frees; obtain ⟨m0, m1, m2⟩ := (HS.out.2.1.rs.below hc).cells; have i0 := (HS.out.2.1.rr.below hc).c0; have i1 := (HS.out.2.1.rr.below hc).c1; have j0 := (HS.out.2.1.rr.below hc).f 0; have j1 := (HS.out.2.1.rr.below hc).f 1; have HC : Hid (Below w0.heap.size w0 w1) := hc; clear hb1 hc))
  all_goals
    go_wp2
    refine bodyPost_ret (v := .tuple #[stV v d, .agg #[.int .i64 (getC d.zs d.n x), .int .i64 (getV d.zs d.n x)]]) (by simp [results, Tryd.results111, go_sem, m0, m1, m2, i0, i1]) rfl ⟨v, rfl, ?_, hp, ?_⟩
    · exact (HS.out.2.2.below hh (below_put5 (below_trans' HS.out.2.1.bel HC.out) _ _ _ _ _)).mono (Nat.le_refl _) (Nat.le_trans hh (below_put5 (below_trans' HS.out.2.1.bel HC.out) _ _ _ _ _).size)
    · exact below_put5 (below_trans' HS.out.2.1.bel HC.out) _ _ _ _ _

set_option maxRecDepth 20000 in
set_option maxHeartbeats 1000000 in
theorem of9 (lo hi : Nat) (v : SV) (d : LD) (x y : Int) (w : World) (h : St lo hi v d w) (hp : Apart v d) (hf : Few d) (hl : lo ≤ w.heap.size) (hh : hi ≤ w.heap.size) :
    Calls Tryd.prog 119 #[.agg #[.int .i64 x], stV v d] w (OfRes lo d (nextC d.zs d.n x) (nextV d.zs d.n x) w) := by
  have F := f4_new w #[.int .i64 x] 113 v d
  have HF : Hid (Few d) := hf
  have A0 : ∀ (i : Nat) (u : Value), (#[.int .i64 x] : Array Value)[i]? = some u → ((((w.alloc (.cells #[.int .i64 x] 113)).alloc (.cells #[v.m d, v.s d, v.q d] 35)).alloc (.cells #[.slice none 0 0, .slice none 0 0, .slice none 0 0] 35)).alloc (.cells #[.int .i64 0, .int .i64 0] 37)).cell? ⟨w.heap.size, i, none⟩ = some u := fun i u hu => cell_kept (below_trans' (below_trans' (al1 _ _) (al1 _ _)) (al1 _ _)) (cell_at w _ _ i rfl hu)
  clear hf
  go_enter Tryd.func119, Tryd.ntmps119
  go_wp2
  generalize hw0 : ((((w.alloc (.cells #[.int .i64 x] 113)).alloc (.cells #[v.m d, v.s d, v.q d] 35)).alloc (.cells #[.slice none 0 0, .slice none 0 0, .slice none 0 0] 35)).alloc (.cells #[.int .i64 0, .int .i64 0] 37)) = w0 at F A0 ⊢
  clear hw0
  have a0 : w0.cell? ⟨w.heap.size, 0, none⟩ = some (.int .i64 x) := A0 0 _ rfl
  clear A0
  obtain ⟨s0, s1, s2⟩ := F.st.cells
  obtain ⟨g0, g1, g2⟩ := F.rs.frees
  obtain ⟨k0, k1, k2⟩ := F.rs.cells
  have q0 := F.rr.c0
  have q1 := F.rr.c1
  have p0 := F.rr.f 0
  have p1 := F.rr.f 1
  have HS : Hid (St lo hi v d w0 ∧ F4 w w0 v d ∧ St lo hi v d w) := ⟨h.below hh F.bel, F, h⟩
  clear h F
  go_region_held (fun w' => w'.cell? ⟨w.heap.size, 0, none⟩ = some (.int .i64 x) ∧ w'.cell? ⟨w.heap.size + 1, 0, none⟩ = some (v.m d) ∧ w'.cell? ⟨w.heap.size + 1, 1, none⟩ = some (v.s d) ∧ w'.cell? ⟨w.heap.size + 1, 2, none⟩ = some (v.q d)) (first | (go_keep; done) | (refine ⟨?_, ?_, ?_, ?_⟩ <;> (repeat (refine cell_far (by omega) ?_)) <;> (first | assumption | (simp [*]; done)))) ((go_at_call 29; refine (implMapNext_any _ _ _ d.zs x _ (HS.out.1.ss.below (Below.refl _ _).drew).m (by have := HF.out.m; omega)).mono ?_; rintro e w1 ⟨rfl, hb1⟩; have hc : Below w0.heap.size w0 w1 := below_trans' (Below.refl w0.heap.size w0).drew hb1; have b0 := cell_kept hc a0; have t0 := cell_kept hc s0; have t1 := cell_kept hc s1; have t2 := cell_kept hc s2; obtain ⟨l0, l1, l2⟩ := (HS.out.2.1.rs.below hc).frees; obtain ⟨m0, m1, m2⟩ := (HS.out.2.1.rs.below hc).cells; have i0 := (HS.out.2.1.rr.below hc).c0; have i1 := (HS.out.2.1.rr.below hc).c1; have j0 := (HS.out.2.1.rr.below hc).f 0; have j1 := (HS.out.2.1.rr.below hc).f 1; have HC : Hid (Below w0.heap.size w0 w1) := hc; clear hb1 hc))
  all_goals
    go_wp2
    refine bodyPost_ret (v := .tuple #[stV v d, .agg #[.int .i64 (nextC d.zs d.n x), .int .i64 (nextV d.zs d.n x)]]) (by simp [results, Tryd.results119, go_sem, m0, m1, m2, i0, i1]) rfl ⟨v, rfl, ?_, hp, ?_⟩
    · exact (HS.out.2.2.below hh (below_put5 (below_trans' HS.out.2.1.bel HC.out) _ _ _ _ _)).mono (Nat.le_refl _) (Nat.le_trans hh (below_put5 (below_trans' HS.out.2.1.bel HC.out) _ _ _ _ _).size)
    · exact below_put5 (below_trans' HS.out.2.1.bel HC.out) _ _ _ _ _

set_option maxRecDepth 20000 in
set_option maxHeartbeats 1000000 in
theorem of10 (lo hi : Nat) (v : SV) (d : LD) (x y : Int) (w : World) (h : St lo hi v d w) (hp : Apart v d) (hf : Few d) (hl : lo ≤ w.heap.size) (hh : hi ≤ w.heap.size) :
    Calls Tryd.prog 120 #[.agg #[.int .i64 x], stV v d] w (OfRes lo d (2) (cntV d.zs d.n x) w) := by
  have F := f4_new w #[.int .i64 x] 114 v d
  have HF : Hid (Few d) := hf
  have A0 : ∀ (i : Nat) (u : Value), (#[.int .i64 x] : Array Value)[i]? = some u → ((((w.alloc (.cells #[.int .i64 x] 114)).alloc (.cells #[v.m d, v.s d, v.q d] 35)).alloc (.cells #[.slice none 0 0, .slice none 0 0, .slice none 0 0] 35)).alloc (.cells #[.int .i64 0, .int .i64 0] 37)).cell? ⟨w.heap.size, i, none⟩ = some u := fun i u hu => cell_kept (below_trans' (below_trans' (al1 _ _) (al1 _ _)) (al1 _ _)) (cell_at w _ _ i rfl hu)
  clear hf
  go_enter Tryd.func120, Tryd.ntmps120
  go_wp2
  generalize hw0 : ((((w.alloc (.cells #[.int .i64 x] 114)).alloc (.cells #[v.m d, v.s d, v.q d] 35)).alloc (.cells #[.slice none 0 0, .slice none 0 0, .slice none 0 0] 35)).alloc (.cells #[.int .i64 0, .int .i64 0] 37)) = w0 at F A0 ⊢
  clear hw0
  have a0 : w0.cell? ⟨w.heap.size, 0, none⟩ = some (.int .i64 x) := A0 0 _ rfl
  clear A0
  obtain ⟨s0, s1, s2⟩ := F.st.cells
  obtain ⟨g0, g1, g2⟩ := F.rs.frees
  obtain ⟨k0, k1, k2⟩ := F.rs.cells
  have q0 := F.rr.c0
  have q1 := F.rr.c1
  have p0 := F.rr.f 0
  have p1 := F.rr.f 1
  have HS : Hid (St lo hi v d w0 ∧ F4 w w0 v d ∧ St lo hi v d w) := ⟨h.below hh F.bel, F, h⟩
  clear h F
  go_region_held (fun w' => w'.cell? ⟨w.heap.size, 0, none⟩ = some (.int .i64 x) ∧ w'.cell? ⟨w.heap.size + 1, 0, none⟩ = some (v.m d) ∧ w'.cell? ⟨w.heap.size + 1, 1, none⟩ = some (v.s d) ∧ w'.cell? ⟨w.heap.size + 1, 2, none⟩ = some (v.q d)) (first | (go_keep; done) | (refine ⟨?_, ?_, ?_, ?_⟩ <;> (repeat (refine cell_far (by omega) ?_)) <;> (first | assumption | (simp [*]; done)))) ((go_at_call 30; refine (implMapCount_any _ _ _ d.zs x _ (HS.out.1.ss.below (Below.refl _ _).drew).m (by have := HF.out.m; omega)).mono ?_; rintro e w1 ⟨rfl, hb1⟩; have hc : Below w0.heap.size w0 w1 := below_trans' (Below.refl w0.heap.size w0).drew hb1; have b0 := cell_kept hc a0; have t0 := cell_kept hc s0; have t1 := cell_kept hc s1; have t2 := cell_kept hc s2; obtain ⟨l0, l1, l2⟩ := (HS.out.2.1.rs.below hc).frees; obtain ⟨m0, m1, m2⟩ := (HS.out.2.1.rs.below hc).cells; have i0 := (HS.out.2.1.rr.below hc).c0; have i1 := (HS.out.2.1.rr.below hc).c1; have j0 := (HS.out.2.1.rr.below hc).f 0; have j1 := (HS.out.2.1.rr.below hc).f 1; have HC : Hid (Below w0.heap.size w0 w1) := hc; clear hb1 hc))
  all_goals
    go_wp2
    refine bodyPost_ret (v := .tuple #[stV v d, .agg #[.int .i64 (2), .int .i64 (cntV d.zs d.n x)]]) (by simp [results, Tryd.results120, go_sem, m0, m1, m2, i0, i1]) rfl ⟨v, rfl, ?_, hp, ?_⟩
    · exact (HS.out.2.2.below hh (below_put5 (below_trans' HS.out.2.1.bel HC.out) _ _ _ _ _)).mono (Nat.le_refl _) (Nat.le_trans hh (below_put5 (below_trans' HS.out.2.1.bel HC.out) _ _ _ _ _).size)
    · exact below_put5 (below_trans' HS.out.2.1.bel HC.out) _ _ _ _ _

set_option maxRecDepth 20000 in
set_option maxHeartbeats 1000000 in
theorem of11 (lo hi : Nat) (v : SV) (d : LD) (x y : Int) (w : World) (h : St lo hi v d w) (hp : Apart v d) (hf : Few d) (hl : lo ≤ w.heap.size) (hh : hi ≤ w.heap.size) :
    Calls Tryd.prog 121 #[.agg #[], stV v d] w (OfRes lo d (firstC d.s) (firstV d.s) w) := by
  have F := f4_new w #[] 115 v d
  have HF : Hid (Few d) := hf
  have A0 : ∀ (i : Nat) (u : Value), (#[] : Array Value)[i]? = some u → ((((w.alloc (.cells #[] 115)).alloc (.cells #[v.m d, v.s d, v.q d] 35)).alloc (.cells #[.slice none 0 0, .slice none 0 0, .slice none 0 0] 35)).alloc (.cells #[.int .i64 0, .int .i64 0] 37)).cell? ⟨w.heap.size, i, none⟩ = some u := fun i u hu => cell_kept (below_trans' (below_trans' (al1 _ _) (al1 _ _)) (al1 _ _)) (cell_at w _ _ i rfl hu)
  clear hf
  go_enter Tryd.func121, Tryd.ntmps121
  go_wp2
  generalize hw0 : ((((w.alloc (.cells #[] 115)).alloc (.cells #[v.m d, v.s d, v.q d] 35)).alloc (.cells #[.slice none 0 0, .slice none 0 0, .slice none 0 0] 35)).alloc (.cells #[.int .i64 0, .int .i64 0] 37)) = w0 at F A0 ⊢
  clear hw0
  clear A0
  obtain ⟨s0, s1, s2⟩ := F.st.cells
  obtain ⟨g0, g1, g2⟩ := F.rs.frees
  obtain ⟨k0, k1, k2⟩ := F.rs.cells
  have q0 := F.rr.c0
  have q1 := F.rr.c1
  have p0 := F.rr.f 0
  have p1 := F.rr.f 1
  have HS : Hid (St lo hi v d w0 ∧ F4 w w0 v d ∧ St lo hi v d w) := ⟨h.below hh F.bel, F, h⟩
  clear h F
  go_region_held (fun w' => w'.cell? ⟨w.heap.size + 1, 0, none⟩ = some (v.m d) ∧ w'.cell? ⟨w.heap.size + 1, 1, none⟩ = some (v.s d) ∧ w'.cell? ⟨w.heap.size + 1, 2, none⟩ = some (v.q d)) (first | (go_keep; done) | (refine ⟨?_, ?_, ?_⟩ <;> (repeat (refine cell_far (by omega) ?_)) <;> (first | assumption | (simp [*]; done)))) ((go_at_call 31; refine (implListFirst_any _ _ _ d.s _ (HS.out.1.ss.below (Below.refl _ _).drew).s (by have := HF.out.s; omega)).mono ?_; rintro e w1 ⟨rfl, hb1⟩; have hc : Below w0.heap.size w0 w1 := below_trans' (Below.refl w0.heap.size w0).drew hb1; have t0 := cell_kept hc s0; have t1 := cell_kept hc s1; have t2 := cell_kept hc s2; obtain ⟨l0, l1, l2⟩ := (HS.out.2.1.rs.below hc).frees; obtain ⟨m0, m1, m2⟩ := (HS.out.2.1.rs.below hc).cells; have i0 := (HS.out.2.1.rr.below hc).c0; have i1 := (HS.out.2.1.rr.below hc).c1; have j0 := (HS.out.2.1.rr.below hc).f 0; have j1 := (HS.out.2.1.rr.below hc).f 1; have HC : Hid (Below w0.heap.size w0 w1) := hc; clear hb1 hc))
  all_goals
    go_wp2
    refine bodyPost_ret (v := .tuple #[stV v d, .agg #[.int .i64 (firstC d.s), .int .i64 (firstV d.s)]]) (by simp [results, Tryd.results121, go_sem, m0, m1, m2, i0, i1]) rfl ⟨v, rfl, ?_, hp, ?_⟩
    · exact (HS.out.2.2.below hh (below_put5 (below_trans' HS.out.2.1.bel HC.out) _ _ _ _ _)).mono (Nat.le_refl _) (Nat.le_trans hh (below_put5 (below_trans' HS.out.2.1.bel HC.out) _ _ _ _ _).size)
    · exact below_put5 (below_trans' HS.out.2.1.bel HC.out) _ _ _ _ _

set_option maxRecDepth 20000 in
set_option maxHeartbeats 1000000 in
theorem of12 (lo hi : Nat) (v : SV) (d : LD) (x y : Int) (w : World) (h : St lo hi v d w) (hp : Apart v d) (hf : Few d) (hl : lo ≤ w.heap.size) (hh : hi ≤ w.heap.size) :
    Calls Tryd.prog 122 #[.agg #[], stV v d] w (OfRes lo d (firstC d.q) (firstV d.q) w) := by
  have F := f4_new w #[] 116 v d
  have HF : Hid (Few d) := hf
  have A0 : ∀ (i : Nat) (u : Value), (#[] : Array Value)[i]? = some u → ((((w.alloc (.cells #[] 116)).alloc (.cells #[v.m d, v.s d, v.q d] 35)).alloc (.cells #[.slice none 0 0, .slice none 0 0, .slice none 0 0] 35)).alloc (.cells #[.int .i64 0, .int .i64 0] 37)).cell? ⟨w.heap.size, i, none⟩ = some u := fun i u hu => cell_kept (below_trans' (below_trans' (al1 _ _) (al1 _ _)) (al1 _ _)) (cell_at w _ _ i rfl hu)
  clear hf
  go_enter Tryd.func122, Tryd.ntmps122
  go_wp2
  generalize hw0 : ((((w.alloc (.cells #[] 116)).alloc (.cells #[v.m d, v.s d, v.q d] 35)).alloc (.cells #[.slice none 0 0, .slice none 0 0, .slice none 0 0] 35)).alloc (.cells #[.int .i64 0, .int .i64 0] 37)) = w0 at F A0 ⊢
  clear hw0
  clear A0
  obtain ⟨s0, s1, s2⟩ := F.st.cells
  obtain ⟨g0, g1, g2⟩ := F.rs.frees
  obtain ⟨k0, k1, k2⟩ := F.rs.cells
  have q0 := F.rr.c0
  have q1 := F.rr.c1
  have p0 := F.rr.f 0
  have p1 := F.rr.f 1
  have HS : Hid (St lo hi v d w0 ∧ F4 w w0 v d ∧ St lo hi v d w) := ⟨h.below hh F.bel, F, h⟩
  clear h F
  go_region_held (fun w' => w'.cell? ⟨w.heap.size + 1, 0, none⟩ = some (v.m d) ∧ w'.cell? ⟨w.heap.size + 1, 1, none⟩ = some (v.s d) ∧ w'.cell? ⟨w.heap.size + 1, 2, none⟩ = some (v.q d)) (first | (go_keep; done) | (refine ⟨?_, ?_, ?_⟩ <;> (repeat (refine cell_far (by omega) ?_)) <;> (first | assumption | (simp [*]; done)))) ((go_at_call 31; refine (implListFirst_any _ _ _ d.q _ (HS.out.1.ss.below (Below.refl _ _).drew).q (by have := HF.out.q; omega)).mono ?_; rintro e w1 ⟨rfl, hb1⟩; have hc : Below w0.heap.size w0 w1 := below_trans' (Below.refl w0.heap.size w0).drew hb1; have t0 := cell_kept hc s0; have t1 := cell_kept hc s1; have t2 := cell_kept hc s2; obtain ⟨l0, l1, l2⟩ := (HS.out.2.1.rs.below hc).frees; obtain ⟨m0, m1, m2⟩ := (HS.out.2.1.rs.below hc).cells; have i0 := (HS.out.2.1.rr.below hc).c0; have i1 := (HS.out.2.1.rr.below hc).c1; have j0 := (HS.out.2.1.rr.below hc).f 0; have j1 := (HS.out.2.1.rr.below hc).f 1; have HC : Hid (Below w0.heap.size w0 w1) := hc; clear hb1 hc))
  all_goals
    go_wp2
    refine bodyPost_ret (v := .tuple #[stV v d, .agg #[.int .i64 (firstC d.q), .int .i64 (firstV d.q)]]) (by simp [results, Tryd.results122, go_sem, m0, m1, m2, i0, i1]) rfl ⟨v, rfl, ?_, hp, ?_⟩
    · exact (HS.out.2.2.below hh (below_put5 (below_trans' HS.out.2.1.bel HC.out) _ _ _ _ _)).mono (Nat.le_refl _) (Nat.le_trans hh (below_put5 (below_trans' HS.out.2.1.bel HC.out) _ _ _ _ _).size)
    · exact below_put5 (below_trans' HS.out.2.1.bel HC.out) _ _ _ _ _

set_option maxRecDepth 20000 in
set_option maxHeartbeats 1000000 in
theorem of4 (lo hi : Nat) (v : SV) (d : LD) (x y : Int) (w : World) (h : St lo hi v d w) (hp : Apart v d) (hf : Few d) (hl : lo ≤ w.heap.size) (hh : hi ≤ w.heap.size) :
    Calls Tryd.prog 114 #[.agg #[], stV v d] w (OfRes lo d (2) (0) w) := by
  have F := f4_new w #[] 107 v d
  have HF : Hid (Few d) := hf
  have BB : ∀ cs cs' : Array Value, Below w.heap.size w ((((w.alloc (.cells #[] 107)).alloc (.cells #[v.m d, v.s d, v.q d] 35)).alloc (.cells cs 35)).alloc (.cells cs' 37)) := fun cs cs' => below_trans' (below_trans' (below_trans' (al1 _ _) (al1 _ _)) (al1 _ _)) (al1 _ _)
  clear hf F
  go_enter Tryd.func114, Tryd.ntmps114
  go_wp2
  refine bodyPost_ret (v := .tuple #[stV v d, .agg #[.int .i64 2, .int .i64 0]]) (by simp [results, Tryd.results114, go_sem]) rfl ⟨v, rfl, ?_, hp, ?_⟩
  · exact (h.below hh (BB _ _)).mono (Nat.le_refl _) (Nat.le_trans hh (BB _ _).size)
  · exact BB _ _

set_option maxRecDepth 20000 in
set_option maxHeartbeats 1000000 in
theorem of2 (lo hi : Nat) (v : SV) (d : LD) (x y : Int) (w : World) (h : St lo hi v d w) (hp : Apart v d) (hf : Few d) (hl : lo ≤ w.heap.size) (hh : hi ≤ w.heap.size) :
    Calls Tryd.prog 112 #[.agg #[.int .i64 x, .int .i64 y], stV v d] w (OfRes lo ⟨ptN d.zs d.n x y, ptL d.zs d.n x y, d.s, d.q⟩ (ptC d.zs d.n x y) (0) w) := by
  have F := f4_new w #[.int .i64 x, .int .i64 y] 104 v d
  have HF : Hid (Few d) := hf
  have A0 : ∀ (i : Nat) (u : Value), (#[.int .i64 x, .int .i64 y] : Array Value)[i]? = some u → ((((w.alloc (.cells #[.int .i64 x, .int .i64 y] 104)).alloc (.cells #[v.m d, v.s d, v.q d] 35)).alloc (.cells #[.slice none 0 0, .slice none 0 0, .slice none 0 0] 35)).alloc (.cells #[.int .i64 0, .int .i64 0] 37)).cell? ⟨w.heap.size, i, none⟩ = some u := fun i u hu => cell_kept (below_trans' (below_trans' (al1 _ _) (al1 _ _)) (al1 _ _)) (cell_at w _ _ i rfl hu)
  clear hf
  generalize hN : ptN d.zs d.n x y = N
  generalize hZ : ptL d.zs d.n x y = Z
  generalize hC : ptC d.zs d.n x y = C
  go_enter Tryd.func112, Tryd.ntmps112
  go_wp2_with fail
  generalize hw0 : ((((w.alloc (.cells #[.int .i64 x, .int .i64 y] 104)).alloc (.cells #[v.m d, v.s d, v.q d] 35)).alloc (.cells #[.slice none 0 0, .slice none 0 0, .slice none 0 0] 35)).alloc (.cells #[.int .i64 0, .int .i64 0] 37)) = w0 at F A0 ⊢
  clear hw0
  have a0 : w0.cell? ⟨w.heap.size, 0, none⟩ = some (.int .i64 x) := A0 0 _ rfl
  have a1 : w0.cell? ⟨w.heap.size, 1, none⟩ = some (.int .i64 y) := A0 1 _ rfl
  clear A0
  obtain ⟨s0, s1, s2⟩ := F.st.cells
  obtain ⟨g0, g1, g2⟩ := F.rs.frees
  obtain ⟨k0, k1, k2⟩ := F.rs.cells
  have q0 := F.rr.c0
  have q1 := F.rr.c1
  have p0 := F.rr.f 0
  have p1 := F.rr.f 1
  have HS : Hid (St lo hi v d w0 ∧ F4 w w0 v d ∧ St lo hi v d w) := ⟨h.below hh F.bel, F, h⟩
  clear h F
  have R := HS.out.1.room
  refine (implMapPut_cap _ _ _ d.zs x y _ HS.out.1.ss.m (by have := HF.out.m; omega) R.m.1 R.m.2).mono ?_
  rw [hN, hZ, hC]
  clear hN hZ hC
  rintro e w1 ⟨a', c', rfl, ho, hc⟩
  obtain ⟨t0, t1, t2⟩ := (HS.out.2.1.st.below hc).cells
  obtain ⟨u0, u1, u2⟩ := (HS.out.2.1.st.below hc).frees
  have n0 : w.heap.size + 4 ≤ w1.heap.size := by have := hc.size; have := HS.out.2.1.sz; omega
  have n1 : w.heap.size + 1 < w1.heap.size := by omega
  have n2 : w.heap.size + 1 < w1.heap.size + 1 := by omega
  have TT : (w1.setCell ⟨w.heap.size + 1, 0, none⟩ (.slice a' N c')).heap.size = w1.heap.size := by simp
  have BB : Below (w1.setCell ⟨w.heap.size + 1, 0, none⟩ (.slice a' N c')).heap.size (w1.setCell ⟨w.heap.size + 1, 0, none⟩ (.slice a' N c')) (((w1.setCell ⟨w.heap.size + 1, 0, none⟩ (.slice a' N c')).alloc (.cells #[(.slice a' N c')] 33)).alloc (.cells #[.int .i64 (C), .int .i64 (0)] 37)) := below_trans' (al1 _ _) (al1 _ _)
  have x3 : B3 (((w1.setCell ⟨w.heap.size + 1, 0, none⟩ (.slice a' N c')).alloc (.cells #[(.slice a' N c')] 33)).alloc (.cells #[.int .i64 (C), .int .i64 (0)] 37)) (w.heap.size + 1) (.slice a' N c') (v.s d) (v.q d) := (HS.out.2.1.st.below hc).set0.below BB
  have x2 : B2 (((w1.setCell ⟨w.heap.size + 1, 0, none⟩ (.slice a' N c')).alloc (.cells #[(.slice a' N c')] 33)).alloc (.cells #[.int .i64 (C), .int .i64 (0)] 37)) (w1.heap.size + 1) (.int .i64 (C)) (.int .i64 (0)) := b2_new _ _ _ _ (by simp)
  have xs : B3 (((w1.setCell ⟨w.heap.size + 1, 0, none⟩ (.slice a' N c')).alloc (.cells #[(.slice a' N c')] 33)).alloc (.cells #[.int .i64 (C), .int .i64 (0)] 37)) (w.heap.size + 1 + 1) (.slice none 0 0) (.slice none 0 0) (.slice none 0 0) := ((HS.out.2.1.rs.below hc).far (by omega)).below BB
  have xr : B2 (((w1.setCell ⟨w.heap.size + 1, 0, none⟩ (.slice a' N c')).alloc (.cells #[(.slice a' N c')] 33)).alloc (.cells #[.int .i64 (C), .int .i64 (0)] 37)) (w.heap.size + 1 + 1 + 1) (.int .i64 0) (.int .i64 0) := by
    have hr := HS.out.2.1.rr.below hc
    exact B2.below ⟨cell_far (by omega) hr.c0, cell_far (by omega) hr.c1, fun j => by rw [World.frozen?_setCell]; exact hr.f j⟩ BB
  have xo : (((w1.setCell ⟨w.heap.size + 1, 0, none⟩ (.slice a' N c')).alloc (.cells #[(.slice a' N c')] 33)).alloc (.cells #[.int .i64 (C), .int .i64 (0)] 37)).ownsRow (w.heap.size + 4) 84 2 (.slice a' N c') N (Z.map (Value.int .i64)) := ownsRow_below (own_far (own_mono ho (by have := HS.out.2.1.sz; omega)) (by omega) _) BB
  have xb : Below w.heap.size w (((w1.setCell ⟨w.heap.size + 1, 0, none⟩ (.slice a' N c')).alloc (.cells #[(.slice a' N c')] 33)).alloc (.cells #[.int .i64 (C), .int .i64 (0)] 37)) := ((below_trans' HS.out.2.1.bel hc).setCell (p := ⟨w.heap.size + 1, 0, none⟩) (by show w.heap.size ≤ w.heap.size + 1; omega) _).trans (BB.mono (by rw [TT]; omega))
  have XX : Hid (_ ∧ _ ∧ _ ∧ _ ∧ _ ∧ _) := ⟨x3, x2, xs, xr, xo, xb⟩
  clear s0 s1 s2 k0 k1 k2 g0 g1 g2 q0 q1 p0 p1 ho hc R BB TT x3 x2 xs xr xo xb
  go_wp2
  obtain ⟨x3, x2, xs, xr, xo, xb⟩ := XX.out
  clear XX
  generalize hw2 : ((w1.setCell ⟨w.heap.size + 1, 0, none⟩ (.slice a' N c')).alloc (.cells #[(.slice a' N c')] 33)).alloc (.cells #[.int .i64 (C), .int .i64 (0)] 37) = w2 at x3 x2 xs xr xo xb ⊢
  clear hw2 t0 t1 t2 u0 u1 u2
  obtain ⟨t0, t1, t2⟩ := x3.cells
  have r0 := x2.c0
  have r1 := x2.c1
  obtain ⟨m0, m1, m2⟩ := xs.cells
  obtain ⟨l0, l1, l2⟩ := xs.frees
  have i0 := xr.c0
  have i1 := xr.c1
  have j0 := xr.f 0
  have j1 := xr.f 1
  have HX : Hid ((w2.ownsRow (w.heap.size + 4) 84 2 (.slice a' N c') N (Z.map (Value.int .i64))) ∧ Below w.heap.size w w2) := ⟨xo, xb⟩
  clear x3 x2 xs xr xo xb
  go_region_held (fun w' => w'.cell? ⟨w.heap.size + 1, 0, none⟩ = some (.slice a' N c') ∧ w'.cell? ⟨w.heap.size + 1, 1, none⟩ = some (v.s d) ∧ w'.cell? ⟨w.heap.size + 1, 2, none⟩ = some (v.q d) ∧ w'.cell? ⟨w1.heap.size + 1, 0, none⟩ = some (.int .i64 (C)) ∧ w'.cell? ⟨w1.heap.size + 1, 1, none⟩ = some (.int .i64 (0))) ((refine ⟨?_, ?_, ?_, ?_, ?_⟩ <;> (try (with_reducible (refine cell_drew ?_))) <;> (repeat (with_reducible (refine cell_far (by omega) ?_))) <;> (with_reducible assumption))) (fail)
  all_goals
    go_wp2
    refine bodyPost_ret (v := .tuple #[.agg #[(.slice a' N c'), (v.s d), (v.q d)], .agg #[.int .i64 (C), .int .i64 (0)]]) (by simp [results, Tryd.results112, go_sem, m0, m1, m2, i0, i1]) rfl ?_
    have hN := St.newM (w' := put5 w2 w.heap.size (.slice a' N c') (v.s d) (v.q d) (.int .i64 (C)) (.int .i64 (0))) HS.out.2.2 hp hl hh (below_put5 HX.out.2 _ _ _ _ _) (own_mono (own_put5 HX.out.1 (Nat.le_refl _) _ _ _ _ _) (by omega))
    exact OfRes.drew ⟨⟨a', c', v.sa, v.sc, v.qa, v.qc⟩, rfl, hN.1, hN.2, below_put5 HX.out.2 _ _ _ _ _⟩

set_option maxRecDepth 20000 in
set_option maxHeartbeats 1000000 in
theorem of3 (lo hi : Nat) (v : SV) (d : LD) (x y : Int) (w : World) (h : St lo hi v d w) (hp : Apart v d) (hf : Few d) (hl : lo ≤ w.heap.size) (hh : hi ≤ w.heap.size) :
    Calls Tryd.prog 113 #[.agg #[.int .i64 x], stV v d] w (OfRes lo ⟨delN d.zs d.n x, delL d.zs d.n x, d.s, d.q⟩ (delC d.zs d.n x) (delV d.zs d.n x) w) := by
  have F := f4_new w #[.int .i64 x] 105 v d
  have HF : Hid (Few d) := hf
  have A0 : ∀ (i : Nat) (u : Value), (#[.int .i64 x] : Array Value)[i]? = some u → ((((w.alloc (.cells #[.int .i64 x] 105)).alloc (.cells #[v.m d, v.s d, v.q d] 35)).alloc (.cells #[.slice none 0 0, .slice none 0 0, .slice none 0 0] 35)).alloc (.cells #[.int .i64 0, .int .i64 0] 37)).cell? ⟨w.heap.size, i, none⟩ = some u := fun i u hu => cell_kept (below_trans' (below_trans' (al1 _ _) (al1 _ _)) (al1 _ _)) (cell_at w _ _ i rfl hu)
  clear hf
  generalize hN : delN d.zs d.n x = N
  generalize hZ : delL d.zs d.n x = Z
  generalize hC : delC d.zs d.n x = C
  generalize hV : delV d.zs d.n x = V
  go_enter Tryd.func113, Tryd.ntmps113
  go_wp2_with fail
  generalize hw0 : ((((w.alloc (.cells #[.int .i64 x] 105)).alloc (.cells #[v.m d, v.s d, v.q d] 35)).alloc (.cells #[.slice none 0 0, .slice none 0 0, .slice none 0 0] 35)).alloc (.cells #[.int .i64 0, .int .i64 0] 37)) = w0 at F A0 ⊢
  clear hw0
  have a0 : w0.cell? ⟨w.heap.size, 0, none⟩ = some (.int .i64 x) := A0 0 _ rfl
  clear A0
  obtain ⟨s0, s1, s2⟩ := F.st.cells
  obtain ⟨g0, g1, g2⟩ := F.rs.frees
  obtain ⟨k0, k1, k2⟩ := F.rs.cells
  have q0 := F.rr.c0
  have q1 := F.rr.c1
  have p0 := F.rr.f 0
  have p1 := F.rr.f 1
  have HS : Hid (St lo hi v d w0 ∧ F4 w w0 v d ∧ St lo hi v d w) := ⟨h.below hh F.bel, F, h⟩
  clear h F
  have R := HS.out.1.room
  refine (implMapDel_cap _ _ _ d.zs x _ HS.out.1.ss.m (by have := HF.out.m; omega) R.m.1 R.m.2).mono ?_
  rw [hN, hZ, hC, hV]
  clear hN hZ hC hV
  rintro e w1 ⟨a', c', rfl, ho, hc⟩
  obtain ⟨t0, t1, t2⟩ := (HS.out.2.1.st.below hc).cells
  obtain ⟨u0, u1, u2⟩ := (HS.out.2.1.st.below hc).frees
  have n0 : w.heap.size + 4 ≤ w1.heap.size := by have := hc.size; have := HS.out.2.1.sz; omega
  have n1 : w.heap.size + 1 < w1.heap.size := by omega
  have n2 : w.heap.size + 1 < w1.heap.size + 1 := by omega
  have TT : (w1.setCell ⟨w.heap.size + 1, 0, none⟩ (.slice a' N c')).heap.size = w1.heap.size := by simp
  have BB : Below (w1.setCell ⟨w.heap.size + 1, 0, none⟩ (.slice a' N c')).heap.size (w1.setCell ⟨w.heap.size + 1, 0, none⟩ (.slice a' N c')) (((w1.setCell ⟨w.heap.size + 1, 0, none⟩ (.slice a' N c')).alloc (.cells #[(.slice a' N c')] 33)).alloc (.cells #[.int .i64 (C), .int .i64 (V)] 37)) := below_trans' (al1 _ _) (al1 _ _)
  have x3 : B3 (((w1.setCell ⟨w.heap.size + 1, 0, none⟩ (.slice a' N c')).alloc (.cells #[(.slice a' N c')] 33)).alloc (.cells #[.int .i64 (C), .int .i64 (V)] 37)) (w.heap.size + 1) (.slice a' N c') (v.s d) (v.q d) := (HS.out.2.1.st.below hc).set0.below BB
  have x2 : B2 (((w1.setCell ⟨w.heap.size + 1, 0, none⟩ (.slice a' N c')).alloc (.cells #[(.slice a' N c')] 33)).alloc (.cells #[.int .i64 (C), .int .i64 (V)] 37)) (w1.heap.size + 1) (.int .i64 (C)) (.int .i64 (V)) := b2_new _ _ _ _ (by simp)
  have xs : B3 (((w1.setCell ⟨w.heap.size + 1, 0, none⟩ (.slice a' N c')).alloc (.cells #[(.slice a' N c')] 33)).alloc (.cells #[.int .i64 (C), .int .i64 (V)] 37)) (w.heap.size + 1 + 1) (.slice none 0 0) (.slice none 0 0) (.slice none 0 0) := ((HS.out.2.1.rs.below hc).far (by omega)).below BB
  have xr : B2 (((w1.setCell ⟨w.heap.size + 1, 0, none⟩ (.slice a' N c')).alloc (.cells #[(.slice a' N c')] 33)).alloc (.cells #[.int .i64 (C), .int .i64 (V)] 37)) (w.heap.size + 1 + 1 + 1) (.int .i64 0) (.int .i64 0) := by
    have hr := HS.out.2.1.rr.below hc
    exact B2.below ⟨cell_far (by omega) hr.c0, cell_far (by omega) hr.c1, fun j => by rw [World.frozen?_setCell]; exact hr.f j⟩ BB
  have xo : (((w1.setCell ⟨w.heap.size + 1, 0, none⟩ (.slice a' N c')).alloc (.cells #[(.slice a' N c')] 33)).alloc (.cells #[.int .i64 (C), .int .i64 (V)] 37)).ownsRow (w.heap.size + 4) 84 2 (.slice a' N c') N (Z.map (Value.int .i64)) := ownsRow_below (own_far (own_mono ho (by have := HS.out.2.1.sz; omega)) (by omega) _) BB
  have xb : Below w.heap.size w (((w1.setCell ⟨w.heap.size + 1, 0, none⟩ (.slice a' N c')).alloc (.cells #[(.slice a' N c')] 33)).alloc (.cells #[.int .i64 (C), .int .i64 (V)] 37)) := ((below_trans' HS.out.2.1.bel hc).setCell (p := ⟨w.heap.size + 1, 0, none⟩) (by show w.heap.size ≤ w.heap.size + 1; omega) _).trans (BB.mono (by rw [TT]; omega))
  have XX : Hid (_ ∧ _ ∧ _ ∧ _ ∧ _ ∧ _) := ⟨x3, x2, xs, xr, xo, xb⟩
  clear s0 s1 s2 k0 k1 k2 g0 g1 g2 q0 q1 p0 p1 ho hc R BB TT x3 x2 xs xr xo xb
  go_wp2
  obtain ⟨x3, x2, xs, xr, xo, xb⟩ := XX.out
  clear XX
  generalize hw2 : ((w1.setCell ⟨w.heap.size + 1, 0, none⟩ (.slice a' N c')).alloc (.cells #[(.slice a' N c')] 33)).alloc (.cells #[.int .i64 (C), .int .i64 (V)] 37) = w2 at x3 x2 xs xr xo xb ⊢
  clear hw2 t0 t1 t2 u0 u1 u2
  obtain ⟨t0, t1, t2⟩ := x3.cells
  have r0 := x2.c0
  have r1 := x2.c1
  obtain ⟨m0, m1, m2⟩ := xs.cells
  obtain ⟨l0, l1, l2⟩ := xs.frees
  have i0 := xr.c0
  have i1 := xr.c1
  have j0 := xr.f 0
  have j1 := xr.f 1
  have HX : Hid ((w2.ownsRow (w.heap.size + 4) 84 2 (.slice a' N c') N (Z.map (Value.int .i64))) ∧ Below w.heap.size w w2) := ⟨xo, xb⟩
  clear x3 x2 xs xr xo xb
  go_region_held (fun w' => w'.cell? ⟨w.heap.size + 1, 0, none⟩ = some (.slice a' N c') ∧ w'.cell? ⟨w.heap.size + 1, 1, none⟩ = some (v.s d) ∧ w'.cell? ⟨w.heap.size + 1, 2, none⟩ = some (v.q d) ∧ w'.cell? ⟨w1.heap.size + 1, 0, none⟩ = some (.int .i64 (C)) ∧ w'.cell? ⟨w1.heap.size + 1, 1, none⟩ = some (.int .i64 (V))) ((refine ⟨?_, ?_, ?_, ?_, ?_⟩ <;> (try (with_reducible (refine cell_drew ?_))) <;> (repeat (with_reducible (refine cell_far (by omega) ?_))) <;> (with_reducible assumption))) (fail)
  all_goals
    go_wp2
    refine bodyPost_ret (v := .tuple #[.agg #[(.slice a' N c'), (v.s d), (v.q d)], .agg #[.int .i64 (C), .int .i64 (V)]]) (by simp [results, Tryd.results113, go_sem, m0, m1, m2, i0, i1]) rfl ?_
    have hN := St.newM (w' := put5 w2 w.heap.size (.slice a' N c') (v.s d) (v.q d) (.int .i64 (C)) (.int .i64 (V))) HS.out.2.2 hp hl hh (below_put5 HX.out.2 _ _ _ _ _) (own_mono (own_put5 HX.out.1 (Nat.le_refl _) _ _ _ _ _) (by omega))
    exact OfRes.drew ⟨⟨a', c', v.sa, v.sc, v.qa, v.qc⟩, rfl, hN.1, hN.2, below_put5 HX.out.2 _ _ _ _ _⟩

set_option maxRecDepth 20000 in
set_option maxHeartbeats 1000000 in
theorem of5 (lo hi : Nat) (v : SV) (d : LD) (x y : Int) (w : World) (h : St lo hi v d w) (hp : Apart v d) (hf : Few d) (hl : lo ≤ w.heap.size) (hh : hi ≤ w.heap.size) :
    Calls Tryd.prog 115 #[.agg #[.int .i64 y], stV v d] w (OfRes lo ⟨d.n, d.zs, putL d.s 0 y, d.q⟩ (putC d.s y) (0) w) := by
  have F := f4_new w #[.int .i64 y] 109 v d
  have HF : Hid (Few d) := hf
  have A0 : ∀ (i : Nat) (u : Value), (#[.int .i64 y] : Array Value)[i]? = some u → ((((w.alloc (.cells #[.int .i64 y] 109)).alloc (.cells #[v.m d, v.s d, v.q d] 35)).alloc (.cells #[.slice none 0 0, .slice none 0 0, .slice none 0 0] 35)).alloc (.cells #[.int .i64 0, .int .i64 0] 37)).cell? ⟨w.heap.size, i, none⟩ = some u := fun i u hu => cell_kept (below_trans' (below_trans' (al1 _ _) (al1 _ _)) (al1 _ _)) (cell_at w _ _ i rfl hu)
  clear hf
  generalize hZ : putL d.s 0 y = Z
  generalize hC : putC d.s y = C
  go_enter Tryd.func115, Tryd.ntmps115
  go_wp2_with fail
  generalize hw0 : ((((w.alloc (.cells #[.int .i64 y] 109)).alloc (.cells #[v.m d, v.s d, v.q d] 35)).alloc (.cells #[.slice none 0 0, .slice none 0 0, .slice none 0 0] 35)).alloc (.cells #[.int .i64 0, .int .i64 0] 37)) = w0 at F A0 ⊢
  clear hw0
  have a0 : w0.cell? ⟨w.heap.size, 0, none⟩ = some (.int .i64 y) := A0 0 _ rfl
  clear A0
  obtain ⟨s0, s1, s2⟩ := F.st.cells
  obtain ⟨g0, g1, g2⟩ := F.rs.frees
  obtain ⟨k0, k1, k2⟩ := F.rs.cells
  have q0 := F.rr.c0
  have q1 := F.rr.c1
  have p0 := F.rr.f 0
  have p1 := F.rr.f 1
  have HS : Hid (St lo hi v d w0 ∧ F4 w w0 v d ∧ St lo hi v d w) := ⟨h.below hh F.bel, F, h⟩
  clear h F
  have R := HS.out.1.room
  refine (implStkPush_any _ _ _ d.s y _ HS.out.1.ss.s R.s.1 ⟨R.s.2, by have := HF.out.s; omega⟩).mono ?_
  rw [hZ, hC]
  clear hZ hC
  rintro e w1 ⟨N, a', c', rfl, ho, hc⟩
  obtain ⟨t0, t1, t2⟩ := (HS.out.2.1.st.below hc).cells
  obtain ⟨u0, u1, u2⟩ := (HS.out.2.1.st.below hc).frees
  have n0 : w.heap.size + 4 ≤ w1.heap.size := by have := hc.size; have := HS.out.2.1.sz; omega
  have n1 : w.heap.size + 1 < w1.heap.size := by omega
  have n2 : w.heap.size + 1 < w1.heap.size + 1 := by omega
  have TT : (w1.setCell ⟨w.heap.size + 1, 1, none⟩ (.slice a' N c')).heap.size = w1.heap.size := by simp
  have BB : Below (w1.setCell ⟨w.heap.size + 1, 1, none⟩ (.slice a' N c')).heap.size (w1.setCell ⟨w.heap.size + 1, 1, none⟩ (.slice a' N c')) ((w1.setCell ⟨w.heap.size + 1, 1, none⟩ (.slice a' N c')).alloc (.cells #[.int .i64 (C), .int .i64 (0)] 37)) := al1 _ _
  have x3 : B3 ((w1.setCell ⟨w.heap.size + 1, 1, none⟩ (.slice a' N c')).alloc (.cells #[.int .i64 (C), .int .i64 (0)] 37)) (w.heap.size + 1) (v.m d) (.slice a' N c') (v.q d) := (HS.out.2.1.st.below hc).set1.below BB
  have x2 : B2 ((w1.setCell ⟨w.heap.size + 1, 1, none⟩ (.slice a' N c')).alloc (.cells #[.int .i64 (C), .int .i64 (0)] 37)) (w1.heap.size) (.int .i64 (C)) (.int .i64 (0)) := b2_new _ _ _ _ (by simp)
  have xs : B3 ((w1.setCell ⟨w.heap.size + 1, 1, none⟩ (.slice a' N c')).alloc (.cells #[.int .i64 (C), .int .i64 (0)] 37)) (w.heap.size + 1 + 1) (.slice none 0 0) (.slice none 0 0) (.slice none 0 0) := ((HS.out.2.1.rs.below hc).far (by omega)).below BB
  have xr : B2 ((w1.setCell ⟨w.heap.size + 1, 1, none⟩ (.slice a' N c')).alloc (.cells #[.int .i64 (C), .int .i64 (0)] 37)) (w.heap.size + 1 + 1 + 1) (.int .i64 0) (.int .i64 0) := by
    have hr := HS.out.2.1.rr.below hc
    exact B2.below ⟨cell_far (by omega) hr.c0, cell_far (by omega) hr.c1, fun j => by rw [World.frozen?_setCell]; exact hr.f j⟩ BB
  have xo : ((w1.setCell ⟨w.heap.size + 1, 1, none⟩ (.slice a' N c')).alloc (.cells #[.int .i64 (C), .int .i64 (0)] 37)).ownsRow (w.heap.size + 4) 3 1 (.slice a' N c') N (Z.map (Value.int .i64)) := ownsRow_below (own_far (own_mono ho (by have := HS.out.2.1.sz; omega)) (by omega) _) BB
  have xb : Below w.heap.size w ((w1.setCell ⟨w.heap.size + 1, 1, none⟩ (.slice a' N c')).alloc (.cells #[.int .i64 (C), .int .i64 (0)] 37)) := ((below_trans' HS.out.2.1.bel hc).setCell (p := ⟨w.heap.size + 1, 1, none⟩) (by show w.heap.size ≤ w.heap.size + 1; omega) _).trans (BB.mono (by rw [TT]; omega))
  have XX : Hid (_ ∧ _ ∧ _ ∧ _ ∧ _ ∧ _) := ⟨x3, x2, xs, xr, xo, xb⟩
  clear s0 s1 s2 k0 k1 k2 g0 g1 g2 q0 q1 p0 p1 ho hc R BB TT x3 x2 xs xr xo xb
  go_wp2
  obtain ⟨x3, x2, xs, xr, xo, xb⟩ := XX.out
  clear XX
  generalize hw2 : (w1.setCell ⟨w.heap.size + 1, 1, none⟩ (.slice a' N c')).alloc (.cells #[.int .i64 (C), .int .i64 (0)] 37) = w2 at x3 x2 xs xr xo xb ⊢
  clear hw2 t0 t1 t2 u0 u1 u2
  obtain ⟨t0, t1, t2⟩ := x3.cells
  have r0 := x2.c0
  have r1 := x2.c1
  obtain ⟨m0, m1, m2⟩ := xs.cells
  obtain ⟨l0, l1, l2⟩ := xs.frees
  have i0 := xr.c0
  have i1 := xr.c1
  have j0 := xr.f 0
  have j1 := xr.f 1
  have HX : Hid ((w2.ownsRow (w.heap.size + 4) 3 1 (.slice a' N c') N (Z.map (Value.int .i64))) ∧ Below w.heap.size w w2) := ⟨xo, xb⟩
  clear x3 x2 xs xr xo xb
  go_region_held (fun w' => w'.cell? ⟨w.heap.size + 1, 0, none⟩ = some (v.m d) ∧ w'.cell? ⟨w.heap.size + 1, 1, none⟩ = some (.slice a' N c') ∧ w'.cell? ⟨w.heap.size + 1, 2, none⟩ = some (v.q d) ∧ w'.cell? ⟨w1.heap.size, 0, none⟩ = some (.int .i64 (C)) ∧ w'.cell? ⟨w1.heap.size, 1, none⟩ = some (.int .i64 (0))) ((refine ⟨?_, ?_, ?_, ?_, ?_⟩ <;> (try (with_reducible (refine cell_drew ?_))) <;> (repeat (with_reducible (refine cell_far (by omega) ?_))) <;> (with_reducible assumption))) (fail)
  all_goals
    go_wp2
    refine bodyPost_ret (v := .tuple #[.agg #[(v.m d), (.slice a' N c'), (v.q d)], .agg #[.int .i64 (C), .int .i64 (0)]]) (by simp [results, Tryd.results115, go_sem, m0, m1, m2, i0, i1]) rfl ?_
    have hN := St.newS (w' := put5 w2 w.heap.size (v.m d) (.slice a' N c') (v.q d) (.int .i64 (C)) (.int .i64 (0))) HS.out.2.2 hp hl hh (below_put5 HX.out.2 _ _ _ _ _) (by simpa using HX.out.1.1) (own_mono (own_put5 HX.out.1 (Nat.le_refl _) _ _ _ _ _) (by omega))
    have eN : N = Z.length := by have := HX.out.1.1; simpa using this.symm
    exact OfRes.drew ⟨⟨v.ma, v.mc, a', c', v.qa, v.qc⟩, by rw [eN], hN.1, hN.2, below_put5 HX.out.2 _ _ _ _ _⟩

set_option maxRecDepth 20000 in
set_option maxHeartbeats 1000000 in
theorem of6 (lo hi : Nat) (v : SV) (d : LD) (x y : Int) (w : World) (h : St lo hi v d w) (hp : Apart v d) (hf : Few d) (hl : lo ≤ w.heap.size) (hh : hi ≤ w.heap.size) :
    Calls Tryd.prog 116 #[.agg #[], stV v d] w (OfRes lo ⟨d.n, d.zs, takeL d.s, d.q⟩ (takeC d.s) (takeV d.s) w) := by
  have F := f4_new w #[] 110 v d
  have HF : Hid (Few d) := hf
  have A0 : ∀ (i : Nat) (u : Value), (#[] : Array Value)[i]? = some u → ((((w.alloc (.cells #[] 110)).alloc (.cells #[v.m d, v.s d, v.q d] 35)).alloc (.cells #[.slice none 0 0, .slice none 0 0, .slice none 0 0] 35)).alloc (.cells #[.int .i64 0, .int .i64 0] 37)).cell? ⟨w.heap.size, i, none⟩ = some u := fun i u hu => cell_kept (below_trans' (below_trans' (al1 _ _) (al1 _ _)) (al1 _ _)) (cell_at w _ _ i rfl hu)
  clear hf
  generalize hZ : takeL d.s = Z
  generalize hC : takeC d.s = C
  generalize hV : takeV d.s = V
  go_enter Tryd.func116, Tryd.ntmps116
  go_wp2_with fail
  generalize hw0 : ((((w.alloc (.cells #[] 110)).alloc (.cells #[v.m d, v.s d, v.q d] 35)).alloc (.cells #[.slice none 0 0, .slice none 0 0, .slice none 0 0] 35)).alloc (.cells #[.int .i64 0, .int .i64 0] 37)) = w0 at F A0 ⊢
  clear hw0
  clear A0
  obtain ⟨s0, s1, s2⟩ := F.st.cells
  obtain ⟨g0, g1, g2⟩ := F.rs.frees
  obtain ⟨k0, k1, k2⟩ := F.rs.cells
  have q0 := F.rr.c0
  have q1 := F.rr.c1
  have p0 := F.rr.f 0
  have p1 := F.rr.f 1
  have HS : Hid (St lo hi v d w0 ∧ F4 w w0 v d ∧ St lo hi v d w) := ⟨h.below hh F.bel, F, h⟩
  clear h F
  have R := HS.out.1.room
  refine (implListTake_capL _ _ _ d.s _ HS.out.1.ss.s R.s.1 R.s.2 (by have := HF.out.s; omega)).mono ?_
  rw [hZ, hC, hV]
  clear hZ hC hV
  rintro e w1 ⟨N, a', c', rfl, ho, hc⟩
  obtain ⟨t0, t1, t2⟩ := (HS.out.2.1.st.below hc).cells
  obtain ⟨u0, u1, u2⟩ := (HS.out.2.1.st.below hc).frees
  have n0 : w.heap.size + 4 ≤ w1.heap.size := by have := hc.size; have := HS.out.2.1.sz; omega
  have n1 : w.heap.size + 1 < w1.heap.size := by omega
  have n2 : w.heap.size + 1 < w1.heap.size + 1 := by omega
  have TT : (w1.setCell ⟨w.heap.size + 1, 1, none⟩ (.slice a' N c')).heap.size = w1.heap.size := by simp
  have BB : Below (w1.setCell ⟨w.heap.size + 1, 1, none⟩ (.slice a' N c')).heap.size (w1.setCell ⟨w.heap.size + 1, 1, none⟩ (.slice a' N c')) ((w1.setCell ⟨w.heap.size + 1, 1, none⟩ (.slice a' N c')).alloc (.cells #[.int .i64 (C), .int .i64 (V)] 37)) := al1 _ _
  have x3 : B3 ((w1.setCell ⟨w.heap.size + 1, 1, none⟩ (.slice a' N c')).alloc (.cells #[.int .i64 (C), .int .i64 (V)] 37)) (w.heap.size + 1) (v.m d) (.slice a' N c') (v.q d) := (HS.out.2.1.st.below hc).set1.below BB
  have x2 : B2 ((w1.setCell ⟨w.heap.size + 1, 1, none⟩ (.slice a' N c')).alloc (.cells #[.int .i64 (C), .int .i64 (V)] 37)) (w1.heap.size) (.int .i64 (C)) (.int .i64 (V)) := b2_new _ _ _ _ (by simp)
  have xs : B3 ((w1.setCell ⟨w.heap.size + 1, 1, none⟩ (.slice a' N c')).alloc (.cells #[.int .i64 (C), .int .i64 (V)] 37)) (w.heap.size + 1 + 1) (.slice none 0 0) (.slice none 0 0) (.slice none 0 0) := ((HS.out.2.1.rs.below hc).far (by omega)).below BB
  have xr : B2 ((w1.setCell ⟨w.heap.size + 1, 1, none⟩ (.slice a' N c')).alloc (.cells #[.int .i64 (C), .int .i64 (V)] 37)) (w.heap.size + 1 + 1 + 1) (.int .i64 0) (.int .i64 0) := by
    have hr := HS.out.2.1.rr.below hc
    exact B2.below ⟨cell_far (by omega) hr.c0, cell_far (by omega) hr.c1, fun j => by rw [World.frozen?_setCell]; exact hr.f j⟩ BB
  have xo : ((w1.setCell ⟨w.heap.size + 1, 1, none⟩ (.slice a' N c')).alloc (.cells #[.int .i64 (C), .int .i64 (V)] 37)).ownsRow (w.heap.size + 4) 3 1 (.slice a' N c') N (Z.map (Value.int .i64)) := ownsRow_below (own_far (own_mono ho (by have := HS.out.2.1.sz; omega)) (by omega) _) BB
  have xb : Below w.heap.size w ((w1.setCell ⟨w.heap.size + 1, 1, none⟩ (.slice a' N c')).alloc (.cells #[.int .i64 (C), .int .i64 (V)] 37)) := ((below_trans' HS.out.2.1.bel hc).setCell (p := ⟨w.heap.size + 1, 1, none⟩) (by show w.heap.size ≤ w.heap.size + 1; omega) _).trans (BB.mono (by rw [TT]; omega))
  have XX : Hid (_ ∧ _ ∧ _ ∧ _ ∧ _ ∧ _) := ⟨x3, x2, xs, xr, xo, xb⟩
  clear s0 s1 s2 k0 k1 k2 g0 g1 g2 q0 q1 p0 p1 ho hc R BB TT x3 x2 xs xr xo xb
  go_wp2
  obtain ⟨x3, x2, xs, xr, xo, xb⟩ := XX.out
  clear XX
  generalize hw2 : (w1.setCell ⟨w.heap.size + 1, 1, none⟩ (.slice a' N c')).alloc (.cells #[.int .i64 (C), .int .i64 (V)] 37) = w2 at x3 x2 xs xr xo xb ⊢
  clear hw2 t0 t1 t2 u0 u1 u2
  obtain ⟨t0, t1, t2⟩ := x3.cells
  have r0 := x2.c0
  have r1 := x2.c1
  obtain ⟨m0, m1, m2⟩ := xs.cells
  obtain ⟨l0, l1, l2⟩ := xs.frees
  have i0 := xr.c0
  have i1 := xr.c1
  have j0 := xr.f 0
  have j1 := xr.f 1
  have HX : Hid ((w2.ownsRow (w.heap.size + 4) 3 1 (.slice a' N c') N (Z.map (Value.int .i64))) ∧ Below w.heap.size w w2) := ⟨xo, xb⟩
  clear x3 x2 xs xr xo xb
  go_region_held (fun w' => w'.cell? ⟨w.heap.size + 1, 0, none⟩ = some (v.m d) ∧ w'.cell? ⟨w.heap.size + 1, 1, none⟩ = some (.slice a' N c') ∧ w'.cell? ⟨w.heap.size + 1, 2, none⟩ = some (v.q d) ∧ w'.cell? ⟨w1.heap.size, 0, none⟩ = some (.int .i64 (C)) ∧ w'.cell? ⟨w1.heap.size, 1, none⟩ = some (.int .i64 (V))) ((refine ⟨?_, ?_, ?_, ?_, ?_⟩ <;> (try (with_reducible (refine cell_drew ?_))) <;> (repeat (with_reducible (refine cell_far (by omega) ?_))) <;> (with_reducible assumption))) (fail)
  all_goals
    go_wp2
    refine bodyPost_ret (v := .tuple #[.agg #[(v.m d), (.slice a' N c'), (v.q d)], .agg #[.int .i64 (C), .int .i64 (V)]]) (by simp [results, Tryd.results116, go_sem, m0, m1, m2, i0, i1]) rfl ?_
    have hN := St.newS (w' := put5 w2 w.heap.size (v.m d) (.slice a' N c') (v.q d) (.int .i64 (C)) (.int .i64 (V))) HS.out.2.2 hp hl hh (below_put5 HX.out.2 _ _ _ _ _) (by simpa using HX.out.1.1) (own_mono (own_put5 HX.out.1 (Nat.le_refl _) _ _ _ _ _) (by omega))
    have eN : N = Z.length := by have := HX.out.1.1; simpa using this.symm
    exact OfRes.drew ⟨⟨v.ma, v.mc, a', c', v.qa, v.qc⟩, by rw [eN], hN.1, hN.2, below_put5 HX.out.2 _ _ _ _ _⟩

set_option maxRecDepth 20000 in
set_option maxHeartbeats 1000000 in
theorem of7 (lo hi : Nat) (v : SV) (d : LD) (x y : Int) (w : World) (h : St lo hi v d w) (hp : Apart v d) (hf : Few d) (hl : lo ≤ w.heap.size) (hh : hi ≤ w.heap.size) :
    Calls Tryd.prog 117 #[.agg #[.int .i64 y], stV v d] w (OfRes lo ⟨d.n, d.zs, d.s, putL d.q d.q.length y⟩ (putC d.q y) (0) w) := by
  have F := f4_new w #[.int .i64 y] 111 v d
  have HF : Hid (Few d) := hf
  have A0 : ∀ (i : Nat) (u : Value), (#[.int .i64 y] : Array Value)[i]? = some u → ((((w.alloc (.cells #[.int .i64 y] 111)).alloc (.cells #[v.m d, v.s d, v.q d] 35)).alloc (.cells #[.slice none 0 0, .slice none 0 0, .slice none 0 0] 35)).alloc (.cells #[.int .i64 0, .int .i64 0] 37)).cell? ⟨w.heap.size, i, none⟩ = some u := fun i u hu => cell_kept (below_trans' (below_trans' (al1 _ _) (al1 _ _)) (al1 _ _)) (cell_at w _ _ i rfl hu)
  clear hf
  generalize hZ : putL d.q d.q.length y = Z
  generalize hC : putC d.q y = C
  go_enter Tryd.func117, Tryd.ntmps117
  go_wp2_with fail
  generalize hw0 : ((((w.alloc (.cells #[.int .i64 y] 111)).alloc (.cells #[v.m d, v.s d, v.q d] 35)).alloc (.cells #[.slice none 0 0, .slice none 0 0, .slice none 0 0] 35)).alloc (.cells #[.int .i64 0, .int .i64 0] 37)) = w0 at F A0 ⊢
  clear hw0
  have a0 : w0.cell? ⟨w.heap.size, 0, none⟩ = some (.int .i64 y) := A0 0 _ rfl
  clear A0
  obtain ⟨s0, s1, s2⟩ := F.st.cells
  obtain ⟨g0, g1, g2⟩ := F.rs.frees
  obtain ⟨k0, k1, k2⟩ := F.rs.cells
  have q0 := F.rr.c0
  have q1 := F.rr.c1
  have p0 := F.rr.f 0
  have p1 := F.rr.f 1
  have HS : Hid (St lo hi v d w0 ∧ F4 w w0 v d ∧ St lo hi v d w) := ⟨h.below hh F.bel, F, h⟩
  clear h F
  have R := HS.out.1.room
  refine (implQuePut_any _ _ _ d.q y _ HS.out.1.ss.q R.q.1 ⟨R.q.2, by have := HF.out.q; omega⟩).mono ?_
  rw [hZ, hC]
  clear hZ hC
  rintro e w1 ⟨N, a', c', rfl, ho, hc⟩
  obtain ⟨t0, t1, t2⟩ := (HS.out.2.1.st.below hc).cells
  obtain ⟨u0, u1, u2⟩ := (HS.out.2.1.st.below hc).frees
  have n0 : w.heap.size + 4 ≤ w1.heap.size := by have := hc.size; have := HS.out.2.1.sz; omega
  have n1 : w.heap.size + 1 < w1.heap.size := by omega
  have n2 : w.heap.size + 1 < w1.heap.size + 1 := by omega
  have TT : (w1.setCell ⟨w.heap.size + 1, 2, none⟩ (.slice a' N c')).heap.size = w1.heap.size := by simp
  have BB : Below (w1.setCell ⟨w.heap.size + 1, 2, none⟩ (.slice a' N c')).heap.size (w1.setCell ⟨w.heap.size + 1, 2, none⟩ (.slice a' N c')) ((w1.setCell ⟨w.heap.size + 1, 2, none⟩ (.slice a' N c')).alloc (.cells #[.int .i64 (C), .int .i64 (0)] 37)) := al1 _ _
  have x3 : B3 ((w1.setCell ⟨w.heap.size + 1, 2, none⟩ (.slice a' N c')).alloc (.cells #[.int .i64 (C), .int .i64 (0)] 37)) (w.heap.size + 1) (v.m d) (v.s d) (.slice a' N c') := (HS.out.2.1.st.below hc).set2.below BB
  have x2 : B2 ((w1.setCell ⟨w.heap.size + 1, 2, none⟩ (.slice a' N c')).alloc (.cells #[.int .i64 (C), .int .i64 (0)] 37)) (w1.heap.size) (.int .i64 (C)) (.int .i64 (0)) := b2_new _ _ _ _ (by simp)
  have xs : B3 ((w1.setCell ⟨w.heap.size + 1, 2, none⟩ (.slice a' N c')).alloc (.cells #[.int .i64 (C), .int .i64 (0)] 37)) (w.heap.size + 1 + 1) (.slice none 0 0) (.slice none 0 0) (.slice none 0 0) := ((HS.out.2.1.rs.below hc).far (by omega)).below BB
  have xr : B2 ((w1.setCell ⟨w.heap.size + 1, 2, none⟩ (.slice a' N c')).alloc (.cells #[.int .i64 (C), .int .i64 (0)] 37)) (w.heap.size + 1 + 1 + 1) (.int .i64 0) (.int .i64 0) := by
    have hr := HS.out.2.1.rr.below hc
    exact B2.below ⟨cell_far (by omega) hr.c0, cell_far (by omega) hr.c1, fun j => by rw [World.frozen?_setCell]; exact hr.f j⟩ BB
  have xo : ((w1.setCell ⟨w.heap.size + 1, 2, none⟩ (.slice a' N c')).alloc (.cells #[.int .i64 (C), .int .i64 (0)] 37)).ownsRow (w.heap.size + 4) 3 1 (.slice a' N c') N (Z.map (Value.int .i64)) := ownsRow_below (own_far (own_mono ho (by have := HS.out.2.1.sz; omega)) (by omega) _) BB
  have xb : Below w.heap.size w ((w1.setCell ⟨w.heap.size + 1, 2, none⟩ (.slice a' N c')).alloc (.cells #[.int .i64 (C), .int .i64 (0)] 37)) := ((below_trans' HS.out.2.1.bel hc).setCell (p := ⟨w.heap.size + 1, 2, none⟩) (by show w.heap.size ≤ w.heap.size + 1; omega) _).trans (BB.mono (by rw [TT]; omega))
  have XX : Hid (_ ∧ _ ∧ _ ∧ _ ∧ _ ∧ _) := ⟨x3, x2, xs, xr, xo, xb⟩
  clear s0 s1 s2 k0 k1 k2 g0 g1 g2 q0 q1 p0 p1 ho hc R BB TT x3 x2 xs xr xo xb
  go_wp2
  obtain ⟨x3, x2, xs, xr, xo, xb⟩ := XX.out
  clear XX
  generalize hw2 : (w1.setCell ⟨w.heap.size + 1, 2, none⟩ (.slice a' N c')).alloc (.cells #[.int .i64 (C), .int .i64 (0)] 37) = w2 at x3 x2 xs xr xo xb ⊢
  clear hw2 t0 t1 t2 u0 u1 u2
  obtain ⟨t0, t1, t2⟩ := x3.cells
  have r0 := x2.c0
  have r1 := x2.c1
  obtain ⟨m0, m1, m2⟩ := xs.cells
  obtain ⟨l0, l1, l2⟩ := xs.frees
  have i0 := xr.c0
  have i1 := xr.c1
  have j0 := xr.f 0
  have j1 := xr.f 1
  have HX : Hid ((w2.ownsRow (w.heap.size + 4) 3 1 (.slice a' N c') N (Z.map (Value.int .i64))) ∧ Below w.heap.size w w2) := ⟨xo, xb⟩
  clear x3 x2 xs xr xo xb
  go_region_held (fun w' => w'.cell? ⟨w.heap.size + 1, 0, none⟩ = some (v.m d) ∧ w'.cell? ⟨w.heap.size + 1, 1, none⟩ = some (v.s d) ∧ w'.cell? ⟨w.heap.size + 1, 2, none⟩ = some (.slice a' N c') ∧ w'.cell? ⟨w1.heap.size, 0, none⟩ = some (.int .i64 (C)) ∧ w'.cell? ⟨w1.heap.size, 1, none⟩ = some (.int .i64 (0))) ((refine ⟨?_, ?_, ?_, ?_, ?_⟩ <;> (try (with_reducible (refine cell_drew ?_))) <;> (repeat (with_reducible (refine cell_far (by omega) ?_))) <;> (with_reducible assumption))) (fail)
  all_goals
    go_wp2
    refine bodyPost_ret (v := .tuple #[.agg #[(v.m d), (v.s d), (.slice a' N c')], .agg #[.int .i64 (C), .int .i64 (0)]]) (by simp [results, Tryd.results117, go_sem, m0, m1, m2, i0, i1]) rfl ?_
    have hN := St.newQ (w' := put5 w2 w.heap.size (v.m d) (v.s d) (.slice a' N c') (.int .i64 (C)) (.int .i64 (0))) HS.out.2.2 hp hl hh (below_put5 HX.out.2 _ _ _ _ _) (by simpa using HX.out.1.1) (own_mono (own_put5 HX.out.1 (Nat.le_refl _) _ _ _ _ _) (by omega))
    have eN : N = Z.length := by have := HX.out.1.1; simpa using this.symm
    exact OfRes.drew ⟨⟨v.ma, v.mc, v.sa, v.sc, a', c'⟩, by rw [eN], hN.1, hN.2, below_put5 HX.out.2 _ _ _ _ _⟩

set_option maxRecDepth 20000 in
set_option maxHeartbeats 1000000 in
theorem of8 (lo hi : Nat) (v : SV) (d : LD) (x y : Int) (w : World) (h : St lo hi v d w) (hp : Apart v d) (hf : Few d) (hl : lo ≤ w.heap.size) (hh : hi ≤ w.heap.size) :
    Calls Tryd.prog 118 #[.agg #[], stV v d] w (OfRes lo ⟨d.n, d.zs, d.s, takeL d.q⟩ (takeC d.q) (takeV d.q) w) := by
  have F := f4_new w #[] 112 v d
  have HF : Hid (Few d) := hf
  have A0 : ∀ (i : Nat) (u : Value), (#[] : Array Value)[i]? = some u → ((((w.alloc (.cells #[] 112)).alloc (.cells #[v.m d, v.s d, v.q d] 35)).alloc (.cells #[.slice none 0 0, .slice none 0 0, .slice none 0 0] 35)).alloc (.cells #[.int .i64 0, .int .i64 0] 37)).cell? ⟨w.heap.size, i, none⟩ = some u := fun i u hu => cell_kept (below_trans' (below_trans' (al1 _ _) (al1 _ _)) (al1 _ _)) (cell_at w _ _ i rfl hu)
  clear hf
  generalize hZ : takeL d.q = Z
  generalize hC : takeC d.q = C
  generalize hV : takeV d.q = V
  go_enter Tryd.func118, Tryd.ntmps118
  go_wp2_with fail
  generalize hw0 : ((((w.alloc (.cells #[] 112)).alloc (.cells #[v.m d, v.s d, v.q d] 35)).alloc (.cells #[.slice none 0 0, .slice none 0 0, .slice none 0 0] 35)).alloc (.cells #[.int .i64 0, .int .i64 0] 37)) = w0 at F A0 ⊢
  clear hw0
  clear A0
  obtain ⟨s0, s1, s2⟩ := F.st.cells
  obtain ⟨g0, g1, g2⟩ := F.rs.frees
  obtain ⟨k0, k1, k2⟩ := F.rs.cells
  have q0 := F.rr.c0
  have q1 := F.rr.c1
  have p0 := F.rr.f 0
  have p1 := F.rr.f 1
  have HS : Hid (St lo hi v d w0 ∧ F4 w w0 v d ∧ St lo hi v d w) := ⟨h.below hh F.bel, F, h⟩
  clear h F
  have R := HS.out.1.room
  refine (implListTake_capL _ _ _ d.q _ HS.out.1.ss.q R.q.1 R.q.2 (by have := HF.out.q; omega)).mono ?_
  rw [hZ, hC, hV]
  clear hZ hC hV
  rintro e w1 ⟨N, a', c', rfl, ho, hc⟩
  obtain ⟨t0, t1, t2⟩ := (HS.out.2.1.st.below hc).cells
  obtain ⟨u0, u1, u2⟩ := (HS.out.2.1.st.below hc).frees
  have n0 : w.heap.size + 4 ≤ w1.heap.size := by have := hc.size; have := HS.out.2.1.sz; omega
  have n1 : w.heap.size + 1 < w1.heap.size := by omega
  have n2 : w.heap.size + 1 < w1.heap.size + 1 := by omega
  have TT : (w1.setCell ⟨w.heap.size + 1, 2, none⟩ (.slice a' N c')).heap.size = w1.heap.size := by simp
  have BB : Below (w1.setCell ⟨w.heap.size + 1, 2, none⟩ (.slice a' N c')).heap.size (w1.setCell ⟨w.heap.size + 1, 2, none⟩ (.slice a' N c')) ((w1.setCell ⟨w.heap.size + 1, 2, none⟩ (.slice a' N c')).alloc (.cells #[.int .i64 (C), .int .i64 (V)] 37)) := al1 _ _
  have x3 : B3 ((w1.setCell ⟨w.heap.size + 1, 2, none⟩ (.slice a' N c')).alloc (.cells #[.int .i64 (C), .int .i64 (V)] 37)) (w.heap.size + 1) (v.m d) (v.s d) (.slice a' N c') := (HS.out.2.1.st.below hc).set2.below BB
  have x2 : B2 ((w1.setCell ⟨w.heap.size + 1, 2, none⟩ (.slice a' N c')).alloc (.cells #[.int .i64 (C), .int .i64 (V)] 37)) (w1.heap.size) (.int .i64 (C)) (.int .i64 (V)) := b2_new _ _ _ _ (by simp)
  have xs : B3 ((w1.setCell ⟨w.heap.size + 1, 2, none⟩ (.slice a' N c')).alloc (.cells #[.int .i64 (C), .int .i64 (V)] 37)) (w.heap.size + 1 + 1) (.slice none 0 0) (.slice none 0 0) (.slice none 0 0) := ((HS.out.2.1.rs.below hc).far (by omega)).below BB
  have xr : B2 ((w1.setCell ⟨w.heap.size + 1, 2, none⟩ (.slice a' N c')).alloc (.cells #[.int .i64 (C), .int .i64 (V)] 37)) (w.heap.size + 1 + 1 + 1) (.int .i64 0) (.int .i64 0) := by
    have hr := HS.out.2.1.rr.below hc
    exact B2.below ⟨cell_far (by omega) hr.c0, cell_far (by omega) hr.c1, fun j => by rw [World.frozen?_setCell]; exact hr.f j⟩ BB
  have xo : ((w1.setCell ⟨w.heap.size + 1, 2, none⟩ (.slice a' N c')).alloc (.cells #[.int .i64 (C), .int .i64 (V)] 37)).ownsRow (w.heap.size + 4) 3 1 (.slice a' N c') N (Z.map (Value.int .i64)) := ownsRow_below (own_far (own_mono ho (by have := HS.out.2.1.sz; omega)) (by omega) _) BB
  have xb : Below w.heap.size w ((w1.setCell ⟨w.heap.size + 1, 2, none⟩ (.slice a' N c')).alloc (.cells #[.int .i64 (C), .int .i64 (V)] 37)) := ((below_trans' HS.out.2.1.bel hc).setCell (p := ⟨w.heap.size + 1, 2, none⟩) (by show w.heap.size ≤ w.heap.size + 1; omega) _).trans (BB.mono (by rw [TT]; omega))
  have XX : Hid (_ ∧ _ ∧ _ ∧ _ ∧ _ ∧ _) := ⟨x3, x2, xs, xr, xo, xb⟩
  clear s0 s1 s2 k0 k1 k2 g0 g1 g2 q0 q1 p0 p1 ho hc R BB TT x3 x2 xs xr xo xb
  go_wp2
  obtain ⟨x3, x2, xs, xr, xo, xb⟩ := XX.out
  clear XX
  generalize hw2 : (w1.setCell ⟨w.heap.size + 1, 2, none⟩ (.slice a' N c')).alloc (.cells #[.int .i64 (C), .int .i64 (V)] 37) = w2 at x3 x2 xs xr xo xb ⊢
  clear hw2 t0 t1 t2 u0 u1 u2
  obtain ⟨t0, t1, t2⟩ := x3.cells
  have r0 := x2.c0
  have r1 := x2.c1
  obtain ⟨m0, m1, m2⟩ := xs.cells
  obtain ⟨l0, l1, l2⟩ := xs.frees
  have i0 := xr.c0
  have i1 := xr.c1
  have j0 := xr.f 0
  have j1 := xr.f 1
  have HX : Hid ((w2.ownsRow (w.heap.size + 4) 3 1 (.slice a' N c') N (Z.map (Value.int .i64))) ∧ Below w.heap.size w w2) := ⟨xo, xb⟩
  clear x3 x2 xs xr xo xb
  go_region_held (fun w' => w'.cell? ⟨w.heap.size + 1, 0, none⟩ = some (v.m d) ∧ w'.cell? ⟨w.heap.size + 1, 1, none⟩ = some (v.s d) ∧ w'.cell? ⟨w.heap.size + 1, 2, none⟩ = some (.slice a' N c') ∧ w'.cell? ⟨w1.heap.size, 0, none⟩ = some (.int .i64 (C)) ∧ w'.cell? ⟨w1.heap.size, 1, none⟩ = some (.int .i64 (V))) ((refine ⟨?_, ?_, ?_, ?_, ?_⟩ <;> (try (with_reducible (refine cell_drew ?_))) <;> (repeat (with_reducible (refine cell_far (by omega) ?_))) <;> (with_reducible assumption))) (fail)
  all_goals
    go_wp2
    refine bodyPost_ret (v := .tuple #[.agg #[(v.m d), (v.s d), (.slice a' N c')], .agg #[.int .i64 (C), .int .i64 (V)]]) (by simp [results, Tryd.results118, go_sem, m0, m1, m2, i0, i1]) rfl ?_
    have hN := St.newQ (w' := put5 w2 w.heap.size (v.m d) (v.s d) (.slice a' N c') (.int .i64 (C)) (.int .i64 (V))) HS.out.2.2 hp hl hh (below_put5 HX.out.2 _ _ _ _ _) (by simpa using HX.out.1.1) (own_mono (own_put5 HX.out.1 (Nat.le_refl _) _ _ _ _ _) (by omega))
    have eN : N = Z.length := by have := HX.out.1.1; simpa using this.symm
    exact OfRes.drew ⟨⟨v.ma, v.mc, v.sa, v.sc, a', c'⟩, by rw [eN], hN.1, hN.2, below_put5 HX.out.2 _ _ _ _ _⟩

end Go.Proofs.YtklpdpdjblakgaaDoor
