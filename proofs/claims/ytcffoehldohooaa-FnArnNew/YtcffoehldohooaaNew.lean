/- Contracts of ArnNew, of the specification's and of the program's. -/
import Derived.Test.YtcffoehldohooaaGive
import Derived.Lib.SmallJoins
import Derived.RangeFuncBox
namespace Go.Proofs.Ytcffoehldohooaa
open Go.RowKit
set_option linter.unusedVariables false

/-- The places at the beginning, the first m of them. -/
def newTo (m : Nat) : List Nd := [⟨0, 0, 0, 0, true, 0⟩, ⟨0, 0, 0, 0, true, 1⟩] ++ List.replicate m Nd.zero
theorem newTo_succ (m : Nat) : newTo m ++ [Nd.zero] = newTo (m + 1) := by
  unfold newTo
  rw [List.append_assoc, ← List.replicate_succ']

theorem below_put6 {w W : World} {B : Nat} (h : Below B w W) {g : Nat} (hb : B ≤ g) (o : Nat) (x : Nd) : Below B w (put6 W g o x) :=
  (((((h.setCell (p := ⟨g, o, none⟩) hb _).setCell (p := ⟨g, o + 1, none⟩) hb _).setCell (p := ⟨g, o + 2, none⟩) hb _).setCell (p := ⟨g, o + 3, none⟩) hb _).setCell (p := ⟨g, o + 4, none⟩) hb _).setCell (p := ⟨g, o + 5, none⟩) hb _

set_option maxHeartbeats 2000000 in
theorem implArnNew_any (w : World) : Calls Try.prog 14 #[] w fun e w' => ArenaRes (newTo 8) 10 0 1 1 e w w' := by
  obtain ⟨i0, hi, hz0, hz1, hz2⟩ := info_parts Try.info59
  have A := al1 w (.cells #[.slice none 0 0, .int .i64 0, .int .i64 0, .int .i64 0] 33)
  have bx := boxA_new w none 0 0 0 0 0 33 rfl
  have fz : ∀ j, (w.alloc (.cells #[.slice none 0 0, .int .i64 0, .int .i64 0, .int .i64 0] 33)).frozen? ⟨w.heap.size, j, none⟩ = false := fun j => frozen_at' _ _ _ j rfl
  go_enter Try.func14, Try.ntmps14
  go_wp2_with (at_make; refine wpList_make_full _ rfl _ _ 31 rfl (w.heap.size + 1) 59 i0 (.agg #[.int .i64 0, .int .i64 0, .int .i64 0, .int .i64 0, .bool false, .int .i64 0]) 6 Try.underlying31 hi hz0 hz1 _ _ _ _ 10 rfl rfl rfl rfl ?b2 ?b3 (by simp) ?_)
  case b2 => rw [hz2]; omega
  case b3 => unfold maxLen; omega
  intro w0 hown0 hgrow0
  rw [show (60 : Nat) = 10 * 6 from rfl, made_nodes] at hown0
  have hb0 : Below (w.alloc (.cells #[.slice none 0 0, .int .i64 0, .int .i64 0, .int .i64 0] 33)).heap.size (w.alloc (.cells #[.slice none 0 0, .int .i64 0, .int .i64 0, .int .i64 0] 33)) w0 := (Below.refl _ _).grown hgrow0 (Nat.le_refl _) (fun k h => by cases h)
  have bx0 := bx.below hb0
  have q0 := bx0.c0
  have q1 := bx0.c1
  have q2 := bx0.c2
  have q3 := bx0.c3
  have f0 := (hb0.frozen (p := ⟨w.heap.size, 0, none⟩) (by simp)).trans (fz 0)
  have f1 := (hb0.frozen (p := ⟨w.heap.size, 1, none⟩) (by simp)).trans (fz 1)
  have f2 := (hb0.frozen (p := ⟨w.heap.size, 2, none⟩) (by simp)).trans (fz 2)
  have f3 := (hb0.frozen (p := ⟨w.heap.size, 3, none⟩) (by simp)).trans (fz 3)
  have hbw := below_trans' A hb0
  have hN0 := own6_cell (i := 0) (x := Nd.zero) hown0 rfl
  have hN1 := own6_cell (i := 1) (x := Nd.zero) hown0 rfl
  have o0 := hN0.c0
  have o1 := hN0.c1
  have o2 := hN0.c2
  have o3 := hN0.c3
  have o4 := hN0.c4
  have o5 := hN0.c5
  have r0 := hN1.c0
  have r1 := hN1.c1
  have r2 := hN1.c2
  have r3 := hN1.c3
  have r4 := hN1.c4
  have r5 := hN1.c5
  simp only [Nat.zero_mul, Nat.zero_add, Nat.one_mul, Nat.reduceAdd, Nd.zero] at o0 o1 o2 o3 o4 o5 r0 r1 r2 r3 r4 r5
  have g0 := hown0.frozenAt 0
  have g1 := hown0.frozenAt 1
  have g2 := hown0.frozenAt 2
  have g3 := hown0.frozenAt 3
  have g4 := hown0.frozenAt 4
  have g5 := hown0.frozenAt 5
  have g6 := hown0.frozenAt 6
  have g7 := hown0.frozenAt 7
  have g8 := hown0.frozenAt 8
  have g9 := hown0.frozenAt 9
  have g10 := hown0.frozenAt 10
  have g11 := hown0.frozenAt 11
  have pu0 := own6_put hown0 0 ⟨0, 0, 0, 0, true, 0⟩
  have pu1 := own6_put pu0.1 1 ⟨0, 0, 0, 0, true, 1⟩
  have R : Hid ((put6 (put6 w0 (w.heap.size + 1) 0 ⟨0, 0, 0, 0, true, 0⟩) (w.heap.size + 1) 6 ⟨0, 0, 0, 0, true, 1⟩).ownsRow (w.heap.size + 1) 59 6 (.slice (some ⟨w.heap.size + 1, 0, none⟩) 10 10) 10 (flatN (newTo 8)) ∧ Below w.heap.size w (put6 (put6 w0 (w.heap.size + 1) 0 ⟨0, 0, 0, 0, true, 0⟩) (w.heap.size + 1) 6 ⟨0, 0, 0, 0, true, 1⟩)) :=
    ⟨pu1.1, below_put6 (below_put6 hbw (by omega) _ _) (by omega) _ _⟩
  clear pu0 pu1 hN0 hN1 hown0 hgrow0 hb0 bx bx0 A fz hbw
  go_wp2
  refine bodyPost_ret (v := .agg #[.slice (some ⟨w.heap.size + 1, 0, none⟩) 10 10, .int .i64 0, .int .i64 1, .int .i64 1]) (by simp [results, Try.results14, go_sem, q0, q1, q2, q3]) rfl ⟨_, 10, rfl, own_mono (own_putA R.out.1 (by omega) _ _ _ _ _ _) (by omega), below_putA R.out.2 (Nat.le_refl _) _ _ _ _ _ _⟩

/-- What stands in the loop of the specification's ArnNew. -/
structure NewAt (w : World) (a' : Option Addr) (m c' : Nat) (L : List Nd) (W : World) : Prop where
  bel : Below w.heap.size w W
  res : BoxA W w.heap.size none 0 0 0 0 0
  fz : ∀ j, W.frozen? ⟨w.heap.size, j, none⟩ = false
  x : W.heap[w.heap.size + 1 + 1]? = some (.cells #[.slice a' m c', .int .i64 0, .int .i64 1, .int .i64 1] 33)
  own : W.ownsRow (w.heap.size + 1) 59 6 (.slice a' m c') m (flatN L)

theorem NewAt.box {w : World} {a' : Option Addr} {m c' : Nat} {L : List Nd} {W : World} (h : NewAt w a' m c' L W) : BoxA W (w.heap.size + 1 + 1) a' m c' 0 1 1 :=
  ⟨by simp [World.cell?, h.x], by simp [World.cell?, h.x], by simp [World.cell?, h.x], by simp [World.cell?, h.x]⟩
theorem NewAt.xf {w : World} {a' : Option Addr} {m c' : Nat} {L : List Nd} {W : World} (h : NewAt w a' m c' L W) (j : Nat) : W.frozen? ⟨w.heap.size + 1 + 1, j, none⟩ = false := by simp [World.frozen?, h.x]
theorem NewAt.ne {w : World} {a' : Option Addr} {m c' : Nat} {L : List Nd} {W : World} (h : NewAt w a' m c' L W) : some (w.heap.size + 1 + 1) ≠ (Value.slice a' m c').ownBlock := by
  intro e
  rcases h.own.2 with ⟨e1, _⟩ | ⟨g, cap, cur, e1, hg, hh, _⟩
  · cases e1; cases e
  · cases e1
    have e2 : w.heap.size + 1 + 1 = g := Option.some.inj e
    rw [← e2, h.x] at hh
    have h3 := congrArg (fun o : Option Obj => match o with | some (.cells _ t _) => t | _ => 0) hh
    simp at h3

theorem NewAt.below {w : World} {a' : Option Addr} {m c' : Nat} {L : List Nd} {W W' : World} (h : NewAt w a' m c' L W) (hb : Below W.heap.size W W') : NewAt w a' m c' L W' :=
  { bel := below_trans' h.bel hb, res := h.res.below hb, fz := fun j => (hb.frozen (p := ⟨w.heap.size, j, none⟩) h.res.lt).trans (h.fz j), x := (hb.block _ (Array.getElem?_eq_some_iff.1 h.x).1).trans h.x, own := ownsRow_below h.own hb }

/-- Behind an append, ahead of the store of its slice. -/
structure NewMid (w : World) (a' : Option Addr) (m c' : Nat) (W : World) : Prop where
  bel : Below w.heap.size w W
  res : BoxA W w.heap.size none 0 0 0 0 0
  fz : ∀ j, W.frozen? ⟨w.heap.size, j, none⟩ = false
  x : W.heap[w.heap.size + 1 + 1]? = some (.cells #[.slice a' m c', .int .i64 0, .int .i64 1, .int .i64 1] 33)

theorem NewAt.mid {w : World} {a' : Option Addr} {m c' : Nat} {L : List Nd} {W W' : World} (h : NewAt w a' m c' L W) (hg : W.grownBy W' (Value.slice a' m c').ownBlock) : NewMid w a' m c' W' :=
  { bel := h.bel.grown hg h.bel.size (fun k e => by have := (h.own.lt k e).1; omega), res := h.res.grown hg (fun e => by have := (h.own.lt _ e.symm).1; omega),
    fz := fun j => frozen_grown hg h.res.lt (fun e => by have := (h.own.lt _ e.symm).1; omega) (h.fz j), x := (hg.block _ (Array.getElem?_eq_some_iff.1 h.x).1 h.ne).trans h.x }

theorem NewMid.set {w : World} {a' : Option Addr} {m c' : Nat} {W : World} (h : NewMid w a' m c' W) {a2 : Option Addr} {m2 c2 : Nat} {L2 : List Nd} (ho : W.ownsRow (w.heap.size + 1) 59 6 (.slice a2 m2 c2) m2 (flatN L2)) : NewAt w a2 m2 c2 L2 (W.setCell ⟨w.heap.size + 1 + 1, 0, none⟩ (.slice a2 m2 c2)) := by
  have hne : (Value.slice a2 m2 c2).ownBlock ≠ some (w.heap.size + 1 + 1) := by
    intro e
    rcases ho.2 with ⟨e1, _⟩ | ⟨g, cap, cur, e1, hg, hh, _⟩
    · cases e1; cases e
    · cases e1
      have e2 : g = w.heap.size + 1 + 1 := Option.some.inj e
      rw [e2, h.x] at hh
      have h3 := congrArg (fun o : Option Obj => match o with | some (.cells _ t _) => t | _ => 0) hh
      simp at h3
  exact
  { bel := h.bel.setCell (p := ⟨w.heap.size + 1 + 1, 0, none⟩) (by show _ ≤ w.heap.size + 1 + 1; omega) _,
    res := h.res.grown (row := some (w.heap.size + 1 + 1)) ⟨rfl, rfl, rfl, by simp, fun c hc hn => Below.heap_setCell W ⟨w.heap.size + 1 + 1, 0, none⟩ _ c (fun e => hn (by rw [e]))⟩ (fun e => by have e1 : w.heap.size = w.heap.size + 1 + 1 := Option.some.inj e; omega),
    fz := fun j => by rw [World.frozen?_setCell]; exact h.fz j,
    x := by rw [Go.Joins.block_setCell h.x]; rfl,
    own := ownsRow_setCell_other ho hne _ }

set_option maxRecDepth 20000 in
set_option maxHeartbeats 2000000 in
theorem specArnNew_any (w : World) : Calls Try.prog 17 #[] w fun e w' => ArenaRes (newTo 8) 10 0 1 1 e w w' := by
  obtain ⟨i0, hi, hz0, hz1, hz2⟩ := info_parts Try.info59
  have I0 : Hid (NewAt w (some ⟨w.heap.size + 1, 0, none⟩) 2 2 (newTo 0) (((w.alloc (.cells #[.slice none 0 0, .int .i64 0, .int .i64 0, .int .i64 0] 33)).alloc (.cells #[.int .i64 0, .int .i64 0, .int .i64 0, .int .i64 0, .bool true, .int .i64 0, .int .i64 0, .int .i64 0, .int .i64 0, .int .i64 0, .bool true, .int .i64 1] 59)).alloc (.cells #[.slice (some ⟨w.heap.size + 1, 0, none⟩) 2 2, .int .i64 0, .int .i64 1, .int .i64 1] 33))) := by
    have A1 := al1 w (.cells #[.slice none 0 0, .int .i64 0, .int .i64 0, .int .i64 0] 33)
    have A2 := al1 (w.alloc (.cells #[.slice none 0 0, .int .i64 0, .int .i64 0, .int .i64 0] 33)) (.cells #[.int .i64 0, .int .i64 0, .int .i64 0, .int .i64 0, .bool true, .int .i64 0, .int .i64 0, .int .i64 0, .int .i64 0, .int .i64 0, .bool true, .int .i64 1] 59)
    have A3 := al1 ((w.alloc (.cells #[.slice none 0 0, .int .i64 0, .int .i64 0, .int .i64 0] 33)).alloc (.cells #[.int .i64 0, .int .i64 0, .int .i64 0, .int .i64 0, .bool true, .int .i64 0, .int .i64 0, .int .i64 0, .int .i64 0, .int .i64 0, .bool true, .int .i64 1] 59)) (.cells #[.slice (some ⟨w.heap.size + 1, 0, none⟩) 2 2, .int .i64 0, .int .i64 1, .int .i64 1] 33)
    have o := World.ownsRow_lit (base := w.heap.size + 1) (e := 59) (size := 6) (w.alloc (.cells #[.slice none 0 0, .int .i64 0, .int .i64 0, .int .i64 0] 33)) #[.int .i64 0, .int .i64 0, .int .i64 0, .int .i64 0, .bool true, .int .i64 0, .int .i64 0, .int .i64 0, .int .i64 0, .int .i64 0, .bool true, .int .i64 1] 2 (by simp) (by decide) rfl
    simp only [World.size_alloc] at o
    have xb := World.alloc_heap_new ((w.alloc (.cells #[.slice none 0 0, .int .i64 0, .int .i64 0, .int .i64 0] 33)).alloc (.cells #[.int .i64 0, .int .i64 0, .int .i64 0, .int .i64 0, .bool true, .int .i64 0, .int .i64 0, .int .i64 0, .int .i64 0, .int .i64 0, .bool true, .int .i64 1] 59)) (.cells #[.slice (some ⟨w.heap.size + 1, 0, none⟩) 2 2, .int .i64 0, .int .i64 1, .int .i64 1] 33)
    simp only [World.size_alloc] at xb
    exact
    { bel := below_trans' (below_trans' A1 A2) A3, res := ((boxA_new w none 0 0 0 0 0 33 rfl).below A2).below A3,
      fz := fun j => ((below_trans' A2 A3).frozen (p := ⟨w.heap.size, j, none⟩) (by simp)).trans (frozen_at' _ _ _ j rfl), x := xb, own := ownsRow_below o A3 }
  go_enter Try.func17, Try.ntmps17
  go_wp2
  go_loopw [2] (fun i wr => ∃ (k : Nat) (a' : Option Addr) (c' : Nat), k ≤ 8 ∧ i = .int .i64 ((k + 2 : Nat) : Int) ∧ NewAt w a' (k + 2) c' (newTo k) wr) (fun i _ => 10 - (intOf i).toNat)
  case atStart => exact ⟨0, _, 2, by omega, rfl, I0.out⟩
  case round =>
    obtain ⟨k, a', c', hk, rfl, I⟩ := hrel
    clear I0
    have q0 := I.box.c0
    by_cases hlt : k < 8
    · have HI : Hid (NewAt w a' (k + 2) c' (newTo k) wr) := I
      have I1 := I.below (al1 wr (.cells #[.int .i64 0, .int .i64 0, .int .i64 0, .int .i64 0, .bool false, .int .i64 0] 59))
      have ownA := I1.own
      have HI1 : Hid (NewAt w a' (k + 2) c' (newTo k) (wr.alloc (.cells #[.int .i64 0, .int .i64 0, .int .i64 0, .int .i64 0, .bool false, .int .i64 0] 59))) := I1
      have src : Hid (∀ (jj : Nat) u, (flatN [Nd.zero])[jj]? = some u → (wr.alloc (.cells #[.int .i64 0, .int .i64 0, .int .i64 0, .int .i64 0, .bool false, .int .i64 0] 59)).cell? ((⟨wr.heap.size, 0, none⟩ : Addr).add jj) = some u) := fun jj u h => by
        rw [Addr.add_lit]
        simpa [flatN, Nd.cells, Nd.zero] using h
      have hsz := I.bel.size
      clear I I1 HI
      go_wp2_with (at_builtin; go_must (refine wpList_append_own _ rfl (.tmp 12) (.tmp 14) 31 rfl (w.heap.size + 1) 59 i0 (.agg #[.int .i64 0, .int .i64 0, .int .i64 0, .int .i64 0, .bool false, .int .i64 0]) 6 48 Try.underlying31 hi hz0 hz1 hz2 rfl (by decide) _ _ _ rfl ownA ⟨wr.heap.size, 0, none⟩ 1 1 (flatN [Nd.zero]) rfl rfl src.out (flatN_one _) (by unfold maxLen; omega) (by omega) (by have := HI1.out.bel.size; have := (Array.getElem?_eq_some_iff.1 HI1.out.x).1; omega) ?_))
      intro v' w2 hown hgrow _
      rw [← flatN_app, newTo_succ] at hown
      obtain ⟨a2, c2, hv, _⟩ := own6_shape hown
      rw [hv] at hown ⊢
      have M := HI1.out.mid hgrow
      have mb : BoxA w2 (w.heap.size + 1 + 1) a' (k + 2) c' 0 1 1 := ⟨by simp [World.cell?, M.x], by simp [World.cell?, M.x], by simp [World.cell?, M.x], by simp [World.cell?, M.x]⟩
      have m0 := mb.c0
      have mf : w2.frozen? ⟨w.heap.size + 1 + 1, 0, none⟩ = false := by simp [World.frozen?, M.x]
      have HM : Hid (NewAt w a2 (k + 2 + 1) c2 (newTo (k + 1)) (w2.setCell ⟨w.heap.size + 1 + 1, 0, none⟩ (.slice a2 (k + 2 + 1) c2))) := M.set hown
      clear hown hgrow hv M mb HI1 ownA src
      go_wp2
      go_roundw
      case rel => exact ⟨k + 1, a2, c2, by omega, by go_num, HM.out⟩
      case measure => simp [intOf]; omega
    · obtain rfl : k = 8 := by omega
      have q1 := I.box.c1
      have q2 := I.box.c2
      have q3 := I.box.c3
      have v0 := I.res.c0
      have v1 := I.res.c1
      have v2 := I.res.c2
      have v3 := I.res.c3
      have f0 := I.fz 0
      have f1 := I.fz 1
      have f2 := I.fz 2
      have f3 := I.fz 3
      have R : Hid (wr.ownsRow (w.heap.size + 1) 59 6 (.slice a' 10 c') 10 (flatN (newTo 8)) ∧ Below w.heap.size w wr) := ⟨I.own, I.bel⟩
      clear I
      go_wp2
      refine bodyPost_ret (v := .agg #[.slice a' 10 c', .int .i64 0, .int .i64 1, .int .i64 1]) (by simp [results, Try.results17, go_sem, v0, v1, v2, v3]) rfl ⟨_, c', rfl, own_mono (own_putA R.out.1 (by omega) _ _ _ _ _ _) (by omega), below_putA R.out.2 (Nat.le_refl _) _ _ _ _ _ _⟩

end Go.Proofs.Ytcffoehldohooaa
