/- Several texts in one: LinI, LinT, LinJ, SpecPut, PutC, SpecDel, Take2, LinL. -/
import Derived.Test.YtklpdpdjblakgaaDoorGr4
import Derived.Test.YtklpdpdjblakgaaDoorGr1
import Derived.Deep.RegionHeld
import Derived.Test.YtklpdpdjblakgaaDoorGr2
import Derived.Test.YtklpdpdjblakgaaDoorGr3
import Derived.Deep.RegionLaw
/- LinI -/
namespace Go.Proofs.YtklpdpdjblakgaaDoor
open Go.RowKit
set_option linter.unusedVariables false

set_option maxRecDepth 20000 in
set_option maxHeartbeats 1000000 in
theorem stateOk_any (v : SV) (d : LD) (w : World) (h : SS w v d) (hf : Few d) : Calls Tryd.prog 47 #[stV v d] w fun e w' => e = .returned (.bool (stOk d.n d.zs d.s d.q)) ∧ Below w.heap.size w w' := by
  have A1 := al1 w (.cells #[v.m d, v.s d, v.q d] 35)
  have bx := b3_new w (v.m d) (v.s d) (v.q d) 35 rfl
  have HF : Hid (Few d) := hf
  have H0 : Hid (SS (w.alloc (.cells #[v.m d, v.s d, v.q d] 35)) v d) := h.below A1
  clear h hf
  unfold stOk
  generalize hm : okM d.zs d.n = b1
  generalize hs : okL d.s = b2
  generalize hq : okL d.q = b3
  go_enter Tryd.func47, Tryd.ntmps47
  go_wp2_with fail
  refine (implMapOk_any _ _ _ d.zs _ H0.out.m (by have := HF.out.m; omega)).mono ?_
  rintro e w1 ⟨rfl, hb1⟩
  obtain ⟨c0, c1, c2⟩ := (bx.below hb1).cells
  have H1 : Hid (SS w1 v d ∧ Below w.heap.size w w1) := ⟨H0.out.below hb1, below_trans' A1 hb1⟩
  clear H0 A1 bx hb1
  rw [hm]
  clear hm
  cases b1
  · go_wp2
    go_ret
    exact ⟨rfl, H1.out.2⟩
  go_wp2_with fail
  refine (implListOk_any _ _ _ d.s _ H1.out.1.s (by have := HF.out.s; omega)).mono ?_
  rintro e w2 ⟨rfl, rfl⟩
  rw [hs]
  clear hs
  cases b2
  · go_wp2
    go_ret
    exact ⟨rfl, H1.out.2⟩
  go_wp2_with fail
  refine (implListOk_any _ _ _ d.q _ H1.out.1.q (by have := HF.out.q; omega)).mono ?_
  rintro e w3 ⟨rfl, rfl⟩
  rw [hq]
  clear hq
  cases b3
  · go_wp2
    go_ret
    exact ⟨rfl, H1.out.2⟩
  · go_wp2
    go_ret
    exact ⟨rfl, H1.out.2⟩

/-- The same, in memory of its own, no two lists in one block. -/
def SameRes (d : LD) (w : World) (e : Ending) (w' : World) : Prop := ∃ u : SV, e = .returned (stV u d) ∧ St w.heap.size w'.heap.size u d w' ∧ Apart u d ∧ Below w.heap.size w w'

set_option maxRecDepth 20000 in
set_option maxHeartbeats 1000000 in
theorem state_same (v : SV) (d : LD) (w : World) (h : SS w v d) (hr : Room v d) (hf : Few d) : Calls Tryd.prog 50 #[stV v d] w (SameRes d w) := by
  have A1 := al1 w (.cells #[v.m d, v.s d, v.q d] 35)
  have A2 := al1 (w.alloc (.cells #[v.m d, v.s d, v.q d] 35)) (.cells #[.slice none 0 0, .slice none 0 0, .slice none 0 0] 35)
  have bx := (b3_new w (v.m d) (v.s d) (v.q d) 35 rfl).below A2
  have br := b3_new (w.alloc (.cells #[v.m d, v.s d, v.q d] 35)) (.slice none 0 0) (.slice none 0 0) (.slice none 0 0) 35 (b := w.heap.size + 1) (by simp)
  have hA := below_trans' A1 A2
  have hz : ((w.alloc (.cells #[v.m d, v.s d, v.q d] 35)).alloc (.cells #[.slice none 0 0, .slice none 0 0, .slice none 0 0] 35)).heap.size = w.heap.size + 2 := by simp
  have HF : Hid (Few d ∧ Room v d ∧ SS w v d) := ⟨hf, hr, h⟩
  clear A1 A2 h hr hf
  go_enter Tryd.func50, Tryd.ntmps50
  go_wp2_with fail
  generalize hw0 : (w.alloc (.cells #[v.m d, v.s d, v.q d] 35)).alloc (.cells #[.slice none 0 0, .slice none 0 0, .slice none 0 0] 35) = w0 at bx br hA hz ⊢
  clear hw0
  refine (sameE_any _ _ _ d.zs _ (HF.out.2.2.below hA).m HF.out.2.1.m.1 ⟨HF.out.2.1.m.2, by have := HF.out.1.m; omega⟩).mono ?_
  rintro e w1 ⟨a1, c1, rfl, o1, hb1⟩
  obtain ⟨s0, s1, s2⟩ := (bx.below hb1).cells
  obtain ⟨f0, f1, f2⟩ := (bx.below hb1).frees
  have H1 : Hid (Below w.heap.size w (w1.setCell ⟨w.heap.size, 0, none⟩ (.slice a1 d.n c1)) ∧ w1.ownsRow (w.heap.size + 2) 84 2 (.slice a1 d.n c1) d.n (d.zs.map (Value.int .i64)) ∧ B3 w1 w.heap.size (v.m d) (v.s d) (v.q d) ∧ B3 w1 (w.heap.size + 1) (.slice none 0 0) (.slice none 0 0) (.slice none 0 0) ∧ w.heap.size + 2 ≤ w1.heap.size) :=
    ⟨(below_trans' hA hb1).setCell (p := ⟨w.heap.size, 0, none⟩) (Nat.le_refl _) _, own_mono o1 (by omega), bx.below hb1, br.below hb1, by have := hb1.size; omega⟩
  clear bx br hA hz o1 hb1
  go_wp2_with fail
  refine (same_any _ _ _ d.s _ (HF.out.2.2.below H1.out.1).s HF.out.2.1.s.1 ⟨HF.out.2.1.s.2, by have := HF.out.1.s; omega⟩).mono ?_
  rintro e w2 ⟨a2, c2, rfl, o2, hb2⟩
  have H2 : Hid (B3 w2 w.heap.size (.slice a1 d.n c1) (v.s d) (v.q d) ∧ B3 w2 (w.heap.size + 1) (.slice none 0 0) (.slice none 0 0) (.slice none 0 0) ∧ w2.ownsRow (w.heap.size + 2) 84 2 (.slice a1 d.n c1) d.n (d.zs.map (Value.int .i64)) ∧ w2.ownsRow w1.heap.size 3 1 (.slice a2 d.s.length c2) d.s.length (d.s.map (Value.int .i64)) ∧ Below w.heap.size w (w2.setCell ⟨w.heap.size, 1, none⟩ (.slice a2 d.s.length c2)) ∧ (∀ k, (Value.slice a1 d.n c1).ownBlock = some k → k < w1.heap.size) ∧ w1.heap.size ≤ w2.heap.size) :=
    ⟨(H1.out.2.2.1.set0).below hb2, (H1.out.2.2.2.1.far (by omega)).below hb2, ownsRow_below (own_far H1.out.2.1 (by omega) _) hb2, by simpa using o2, (H1.out.1.trans (hb2.mono (by have := H1.out.1.size; omega))).setCell (p := ⟨w.heap.size, 1, none⟩) (Nat.le_refl _) _, fun k e => (H1.out.2.1.lt k e).2, by have := hb2.size; simpa using this⟩
  obtain ⟨t0, t1, t2⟩ := H2.out.1.cells
  obtain ⟨g0, g1, g2⟩ := H2.out.1.frees
  clear s0 s1 s2 f0 f1 f2 o2 hb2
  go_wp2_with fail
  refine (same_any _ _ _ d.q _ (HF.out.2.2.below H2.out.2.2.2.2.1).q HF.out.2.1.q.1 ⟨HF.out.2.1.q.2, by have := HF.out.1.q; omega⟩).mono ?_
  rintro e w3 ⟨a3, c3, rfl, o3, hb3⟩
  have b3 : B3 w3 w.heap.size (.slice a1 d.n c1) (.slice a2 d.s.length c2) (v.q d) := (H2.out.1.set1).below hb3
  have r3 : B3 w3 (w.heap.size + 1) (.slice none 0 0) (.slice none 0 0) (.slice none 0 0) := (H2.out.2.1.far (by omega)).below hb3
  have z1 : w.heap.size + 2 ≤ w1.heap.size := H1.out.2.2.2.2
  have z2 : w1.heap.size ≤ w2.heap.size := H2.out.2.2.2.2.2.2
  have z3 : w2.heap.size ≤ w3.heap.size := by have := hb3.size; simpa using this
  have o3' : w3.ownsRow w2.heap.size 3 1 (.slice a3 d.q.length c3) d.q.length (d.q.map (Value.int .i64)) := by simpa using o3
  have H3 : Hid (w3.ownsRow (w.heap.size + 2) 84 2 (.slice a1 d.n c1) d.n (d.zs.map (Value.int .i64)) ∧ w3.ownsRow (w.heap.size + 2) 3 1 (.slice a2 d.s.length c2) d.s.length (d.s.map (Value.int .i64)) ∧ w3.ownsRow (w.heap.size + 2) 3 1 (.slice a3 d.q.length c3) d.q.length (d.q.map (Value.int .i64)) ∧ Below w.heap.size w w3 ∧ Apart ⟨a1, c1, a2, c2, a3, c3⟩ d) := by
    refine ⟨ownsRow_below (own_far H2.out.2.2.1 (by omega) _) hb3, own_mono (ownsRow_below (own_far H2.out.2.2.2.1 (by omega) _) hb3) z1, own_mono o3' (by omega), H2.out.2.2.2.2.1.trans (hb3.mono (by have := H2.out.2.2.2.2.1.size; omega)), ?_⟩
    refine ⟨fun k e e' => ?_, fun k e e' => ?_, fun k e e' => ?_⟩
    · have := H2.out.2.2.2.2.2.1 k e
      have := (H2.out.2.2.2.1.lt k e').1
      omega
    · have := H2.out.2.2.2.2.2.1 k e
      have := (o3'.lt k e').1
      omega
    · have := (H2.out.2.2.2.1.lt k e).2
      have := (o3'.lt k e').1
      omega
  obtain ⟨s0, s1, s2⟩ := b3.cells
  obtain ⟨f0, f1, f2⟩ := b3.frees
  obtain ⟨k0, k1, k2⟩ := r3.cells
  obtain ⟨p0, p1, p2⟩ := r3.frees
  clear b3 r3 z1 z2 z3 o3 o3' hb3 t0 t1 t2 g0 g1 g2 H1 H2
  go_wp2
  refine bodyPost_ret (v := .agg #[.slice a1 d.n c1, .slice a2 d.s.length c2, .slice a3 d.q.length c3]) (by simp [results, Tryd.results50, go_sem, k0, k1, k2]) rfl ⟨⟨a1, c1, a2, c2, a3, c3⟩, rfl, ?_, H3.out.2.2.2.2, ?_⟩
  · have up : ∀ (e : TypeId) (sz : Nat) (x : Value) (n : Nat) (xs : List Value), w3.ownsRow (w.heap.size + 2) e sz x n xs → RowIn w.heap.size ((((w3.setCell ⟨w.heap.size, 2, none⟩ (.slice a3 d.q.length c3)).setCell ⟨w.heap.size + 1, 0, none⟩ (.slice a1 d.n c1)).setCell ⟨w.heap.size + 1, 1, none⟩ (.slice a2 d.s.length c2)).setCell ⟨w.heap.size + 1, 2, none⟩ (.slice a3 d.q.length c3)).heap.size e sz x n xs ((((w3.setCell ⟨w.heap.size, 2, none⟩ (.slice a3 d.q.length c3)).setCell ⟨w.heap.size + 1, 0, none⟩ (.slice a1 d.n c1)).setCell ⟨w.heap.size + 1, 1, none⟩ (.slice a2 d.s.length c2)).setCell ⟨w.heap.size + 1, 2, none⟩ (.slice a3 d.q.length c3)) := fun e sz x n xs ho =>
      rowIn_of (own_mono (own_far (own_far (own_far (own_far ho (by omega) _) (by omega) _) (by omega) _) (by omega) _) (by omega)) (Nat.le_refl _)
    exact ⟨up _ _ _ _ _ H3.out.1, up _ _ _ _ _ H3.out.2.1, up _ _ _ _ _ H3.out.2.2.1⟩
  · exact (((H3.out.2.2.2.1.setCell (p := ⟨w.heap.size, 2, none⟩) (Nat.le_refl _) _).setCell (p := ⟨w.heap.size + 1, 0, none⟩) (by show w.heap.size ≤ w.heap.size + 1; omega) _).setCell (p := ⟨w.heap.size + 1, 1, none⟩) (by show w.heap.size ≤ w.heap.size + 1; omega) _).setCell (p := ⟨w.heap.size + 1, 2, none⟩) (by show w.heap.size ≤ w.heap.size + 1; omega) _

end Go.Proofs.YtklpdpdjblakgaaDoor

/- LinT -/
namespace Go.Proofs.YtklpdpdjblakgaaDoor
open Go.RowKit
set_option linter.unusedVariables false

set_option maxRecDepth 20000 in
set_option maxHeartbeats 2000000 in
theorem thing1 (x y : Int) (w : World) : Calls Tryd.prog 49 #[.agg #[.int .i64 1, .int .i64 x, .int .i64 y]] w fun e w' => e = .returned (.iface 102 (.agg #[.int .i64 x])) ∧ Below w.heap.size w w' := by
  go_enter Tryd.func49, Tryd.ntmps49
  go_wp2
  go_ret
  exact ⟨rfl, below_trans' (al1 _ _) (al1 _ _)⟩

set_option maxRecDepth 20000 in
set_option maxHeartbeats 2000000 in
theorem thing2 (x y : Int) (w : World) : Calls Tryd.prog 49 #[.agg #[.int .i64 2, .int .i64 x, .int .i64 y]] w fun e w' => e = .returned (.iface 104 (.agg #[.int .i64 x, .int .i64 y])) ∧ Below w.heap.size w w' := by
  go_enter Tryd.func49, Tryd.ntmps49
  go_wp2
  go_ret
  exact ⟨rfl, below_trans' (al1 _ _) (al1 _ _)⟩

set_option maxRecDepth 20000 in
set_option maxHeartbeats 2000000 in
theorem thing3 (x y : Int) (w : World) : Calls Tryd.prog 49 #[.agg #[.int .i64 3, .int .i64 x, .int .i64 y]] w fun e w' => e = .returned (.iface 105 (.agg #[.int .i64 x])) ∧ Below w.heap.size w w' := by
  go_enter Tryd.func49, Tryd.ntmps49
  go_wp2
  go_ret
  exact ⟨rfl, below_trans' (al1 _ _) (al1 _ _)⟩

set_option maxRecDepth 20000 in
set_option maxHeartbeats 2000000 in
theorem thing4 (x y : Int) (w : World) : Calls Tryd.prog 49 #[.agg #[.int .i64 4, .int .i64 x, .int .i64 y]] w fun e w' => e = .returned (.iface 107 (.agg #[])) ∧ Below w.heap.size w w' := by
  go_enter Tryd.func49, Tryd.ntmps49
  go_wp2
  go_ret
  exact ⟨rfl, below_trans' (al1 _ _) (al1 _ _)⟩

set_option maxRecDepth 20000 in
set_option maxHeartbeats 2000000 in
theorem thing5 (x y : Int) (w : World) : Calls Tryd.prog 49 #[.agg #[.int .i64 5, .int .i64 x, .int .i64 y]] w fun e w' => e = .returned (.iface 109 (.agg #[.int .i64 y])) ∧ Below w.heap.size w w' := by
  go_enter Tryd.func49, Tryd.ntmps49
  go_wp2
  go_ret
  exact ⟨rfl, below_trans' (al1 _ _) (al1 _ _)⟩

set_option maxRecDepth 20000 in
set_option maxHeartbeats 2000000 in
theorem thing6 (x y : Int) (w : World) : Calls Tryd.prog 49 #[.agg #[.int .i64 6, .int .i64 x, .int .i64 y]] w fun e w' => e = .returned (.iface 110 (.agg #[])) ∧ Below w.heap.size w w' := by
  go_enter Tryd.func49, Tryd.ntmps49
  go_wp2
  go_ret
  exact ⟨rfl, below_trans' (al1 _ _) (al1 _ _)⟩

set_option maxRecDepth 20000 in
set_option maxHeartbeats 2000000 in
theorem thing7 (x y : Int) (w : World) : Calls Tryd.prog 49 #[.agg #[.int .i64 7, .int .i64 x, .int .i64 y]] w fun e w' => e = .returned (.iface 111 (.agg #[.int .i64 y])) ∧ Below w.heap.size w w' := by
  go_enter Tryd.func49, Tryd.ntmps49
  go_wp2
  go_ret
  exact ⟨rfl, below_trans' (al1 _ _) (al1 _ _)⟩

set_option maxRecDepth 20000 in
set_option maxHeartbeats 2000000 in
theorem thing8 (x y : Int) (w : World) : Calls Tryd.prog 49 #[.agg #[.int .i64 8, .int .i64 x, .int .i64 y]] w fun e w' => e = .returned (.iface 112 (.agg #[])) ∧ Below w.heap.size w w' := by
  go_enter Tryd.func49, Tryd.ntmps49
  go_wp2
  go_ret
  exact ⟨rfl, below_trans' (al1 _ _) (al1 _ _)⟩

set_option maxRecDepth 20000 in
set_option maxHeartbeats 2000000 in
theorem thing9 (x y : Int) (w : World) : Calls Tryd.prog 49 #[.agg #[.int .i64 9, .int .i64 x, .int .i64 y]] w fun e w' => e = .returned (.iface 113 (.agg #[.int .i64 x])) ∧ Below w.heap.size w w' := by
  go_enter Tryd.func49, Tryd.ntmps49
  go_wp2
  go_ret
  exact ⟨rfl, below_trans' (al1 _ _) (al1 _ _)⟩

set_option maxRecDepth 20000 in
set_option maxHeartbeats 2000000 in
theorem thing10 (x y : Int) (w : World) : Calls Tryd.prog 49 #[.agg #[.int .i64 10, .int .i64 x, .int .i64 y]] w fun e w' => e = .returned (.iface 114 (.agg #[.int .i64 x])) ∧ Below w.heap.size w w' := by
  go_enter Tryd.func49, Tryd.ntmps49
  go_wp2
  go_ret
  exact ⟨rfl, below_trans' (al1 _ _) (al1 _ _)⟩

set_option maxRecDepth 20000 in
set_option maxHeartbeats 2000000 in
theorem thing11 (x y : Int) (w : World) : Calls Tryd.prog 49 #[.agg #[.int .i64 11, .int .i64 x, .int .i64 y]] w fun e w' => e = .returned (.iface 115 (.agg #[])) ∧ Below w.heap.size w w' := by
  go_enter Tryd.func49, Tryd.ntmps49
  go_wp2
  go_ret
  exact ⟨rfl, below_trans' (al1 _ _) (al1 _ _)⟩

set_option maxRecDepth 20000 in
set_option maxHeartbeats 2000000 in
theorem thing12 (x y : Int) (w : World) : Calls Tryd.prog 49 #[.agg #[.int .i64 12, .int .i64 x, .int .i64 y]] w fun e w' => e = .returned (.iface 116 (.agg #[])) ∧ Below w.heap.size w w' := by
  go_enter Tryd.func49, Tryd.ntmps49
  go_wp2
  go_ret
  exact ⟨rfl, below_trans' (al1 _ _) (al1 _ _)⟩

end Go.Proofs.YtklpdpdjblakgaaDoor

/- LinJ -/
namespace Go.Proofs.YtklpdpdjblakgaaDoor
open Go.RowKit
set_option linter.unusedVariables false

/-- The boxes with which LinApply opens. -/
structure LinB4 (w w0 : World) (v : SV) (d : LD) (k x y : Int) : Prop where
  s : B3 w0 w.heap.size (v.m d) (v.s d) (v.q d)
  o : B3 w0 (w.heap.size + 1) (.int .i64 k) (.int .i64 x) (.int .i64 y)
  r : B3 w0 (w.heap.size + 1 + 1) (.slice none 0 0) (.slice none 0 0) (.slice none 0 0)
  rr : B2 w0 (w.heap.size + 1 + 1 + 1) (.int .i64 0) (.int .i64 0)
  bel : Below w.heap.size w w0
  sz : w.heap.size + 4 ≤ w0.heap.size
theorem LinB4.below {w w0 w1 : World} {v : SV} {d : LD} {k x y : Int} (h : LinB4 w w0 v d k x y) (hb : Below w0.heap.size w0 w1) : LinB4 w w1 v d k x y :=
  ⟨h.s.below hb, h.o.below hb, h.r.below hb, h.rr.below hb, below_trans' h.bel hb, Nat.le_trans h.sz hb.size⟩
theorem linBoxes (w : World) (v : SV) (d : LD) (k x y : Int) : LinB4 w ((((w.alloc (.cells #[v.m d, v.s d, v.q d] 35)).alloc (.cells #[.int .i64 k, .int .i64 x, .int .i64 y] 41)).alloc (.cells #[.slice none 0 0, .slice none 0 0, .slice none 0 0] 35)).alloc (.cells #[.int .i64 0, .int .i64 0] 37)) v d k x y := by
  refine ⟨?_, ?_, ?_, b2_new _ _ _ _ (by simp), below_trans' (below_trans' (below_trans' (al1 _ _) (al1 _ _)) (al1 _ _)) (al1 _ _), by simp⟩
  · exact (((b3_new _ _ _ _ _ rfl).below (al1 _ _)).below (al1 _ _)).below (al1 _ _)
  · exact ((b3_new _ _ _ _ _ (by simp)).below (al1 _ _)).below (al1 _ _)
  · exact (b3_new _ _ _ _ _ (by simp)).below (al1 _ _)

theorem st_put5 {A lo hi : Nat} {v : SV} {d : LD} {W : World} (h : St lo hi v d W) (hl : A + 4 ≤ lo) (hh : hi ≤ W.heap.size) (x y z c e : Value) : St A (put5 W A x y z c e).heap.size v d (put5 W A x y z c e) := by
  have hz : (put5 W A x y z c e).heap.size = W.heap.size := by simp
  refine ⟨⟨own_mono (own_put5 h.m.1 hl _ _ _ _ _) (by omega), fun k hk => ?_⟩, ⟨own_mono (own_put5 h.s.1 hl _ _ _ _ _) (by omega), fun k hk => ?_⟩, ⟨own_mono (own_put5 h.q.1 hl _ _ _ _ _) (by omega), fun k hk => ?_⟩⟩
  · have := h.m.2 k hk
    omega
  · have := h.s.2 k hk
    omega
  · have := h.q.2 k hk
    omega

set_option maxRecDepth 20000 in
set_option maxHeartbeats 1000000 in
/-- Of what is not ok, or may not be asked, there is nothing. -/
theorem linBad (v : SV) (d : LD) (k x y : Int) (w : World) (h : SS w v d) (hf : Few d) (ht : Tab w) (hb : (stOk d.n d.zs d.s d.q && opB k x y) = false) :
    Calls Tryd.prog 12 #[stV v d, .agg #[.int .i64 k, .int .i64 x, .int .i64 y]] w (OfRes w.heap.size ⟨0, [], [], []⟩ 0 0 w) := by
  have B := linBoxes w v d k x y
  have HF : Hid (Few d ∧ SS w v d ∧ Tab w) := ⟨hf, h, ht⟩
  have nil : ∀ (W : World) (e : TypeId) (sz lo hi : Nat), RowIn lo hi e sz (.slice none 0 0) 0 [] W := fun W e sz lo hi => ⟨⟨by simp, .inl ⟨rfl, rfl⟩⟩, fun k e => by cases e⟩
  have NIL : Hid (∀ (W : World) (lo hi : Nat), St lo hi ⟨none, 0, none, 0, none, 0⟩ ⟨0, [], [], []⟩ W ∧ Apart ⟨none, 0, none, 0, none, 0⟩ ⟨0, [], [], []⟩) := fun W lo hi => ⟨⟨nil _ _ _ _ _, nil _ _ _ _ _, nil _ _ _ _ _⟩, ⟨fun k e => (by cases e), fun k e => (by cases e), fun k e => (by cases e)⟩⟩
  clear h hf ht nil
  go_enter Tryd.func12, Tryd.ntmps12
  go_wp2_with fail
  generalize hw0 : ((((w.alloc (.cells #[v.m d, v.s d, v.q d] 35)).alloc (.cells #[.int .i64 k, .int .i64 x, .int .i64 y] 41)).alloc (.cells #[.slice none 0 0, .slice none 0 0, .slice none 0 0] 35)).alloc (.cells #[.int .i64 0, .int .i64 0] 37)) = w0 at B ⊢
  clear hw0
  refine (stateOk_any v d _ (HF.out.2.1.below B.bel) HF.out.1).mono ?_
  rintro e w1 ⟨rfl, hb1⟩
  have B1 := B.below hb1
  obtain ⟨p0, p1, p2⟩ := B1.o.cells
  obtain ⟨m0, m1, m2⟩ := B1.r.cells
  obtain ⟨l0, l1, l2⟩ := B1.r.frees
  have i0 := B1.rr.c0
  have i1 := B1.rr.c1
  have j0 := B1.rr.f 0
  have j1 := B1.rr.f 1
  have HB1 : Hid (LinB4 w w1 v d k x y) := B1
  clear B B1 hb1
  cases hs : stOk d.n d.zs d.s d.q
  · clear hs hb
    go_wp2
    all_goals
      refine bodyPost_ret (v := .tuple #[stV ⟨none, 0, none, 0, none, 0⟩ ⟨0, [], [], []⟩, .agg #[.int .i64 0, .int .i64 0]]) (by simp [results, Tryd.results12, go_sem, m0, m1, m2, i0, i1]) rfl ?_
      exact ⟨_, rfl, (NIL.out _ _ _).1, (NIL.out default 0 0).2, below_put5 HB1.out.bel _ _ _ _ _⟩
  · rw [hs, Bool.true_and] at hb
    clear hs m0 m1 m2 l0 l1 l2 i0 i1 j0 j1
    go_wp2_with fail
    refine (implOpOk_any k x y _ (HF.out.2.2.below HB1.out.bel)).mono ?_
    rintro e w2 ⟨rfl, hb2⟩
    rw [hb]
    have B2 := HB1.out.below hb2
    obtain ⟨m0, m1, m2⟩ := B2.r.cells
    obtain ⟨l0, l1, l2⟩ := B2.r.frees
    have i0 := B2.rr.c0
    have i1 := B2.rr.c1
    have j0 := B2.rr.f 0
    have j1 := B2.rr.f 1
    have HB2 : Hid (LinB4 w w2 v d k x y) := B2
    clear HB1 B2 hb2 p0 p1 p2 hb
    go_wp2
    all_goals
      refine bodyPost_ret (v := .tuple #[stV ⟨none, 0, none, 0, none, 0⟩ ⟨0, [], [], []⟩, .agg #[.int .i64 0, .int .i64 0]]) (by simp [results, Tryd.results12, go_sem, m0, m1, m2, i0, i1]) rfl ?_
      exact ⟨_, rfl, (NIL.out _ _ _).1, (NIL.out default 0 0).2, below_put5 HB2.out.bel _ _ _ _ _⟩

end Go.Proofs.YtklpdpdjblakgaaDoor

/- SpecPut -/
namespace Go.Proofs.YtklpdpdjblakgaaDoor
open Go.RowKit
set_option linter.unusedVariables false

set_option maxRecDepth 20000 in
set_option maxHeartbeats 1000000 in
theorem specMapPut_bad (a : Option Addr) (n cap : Nat) (zs : List Int) (key val : Int) (w : World) (hs : SInts w a (n * 2) zs) (hn : n ≤ 9223372036854775807) (hok : ptOk zs n key val = false) :
    Calls Tryd.prog 37 #[.agg #[.slice a n cap], .int .i64 key, .int .i64 val] w fun e w' => MapRes [] 0 0 0 e w w' := by
  have I0 := loc_start w a n cap
  cases h1 : okM zs n
  · go_enter Tryd.func37, Tryd.ntmps37
    go_wp2_with fail
    refine (specMapOk_any _ _ _ zs _ (hs.below I0.bel) hn).mono ?_
    rintro e w1 ⟨rfl, hb1⟩
    have I1 := I0.below hb1
    have m0 := I1.m0
    have r0 := I1.r0
    have r1 := I1.r1
    have fm := I1.fm
    have f0 := I1.f0
    have f1 := I1.f1
    clear hb1 I0 hs hok
    rw [h1]
    go_wp2
    exact bodyPost_ret (v := .tuple #[.agg #[.slice none 0 0], .agg #[.int .i64 0, .int .i64 0]]) (by simp [results, Tryd.results37, go_sem, m0, r0, r1]) rfl ⟨none, 0, rfl, World.ownsRow_nil _ _ _ _, ((I1.bel.setCell (by show w.heap.size ≤ w.heap.size + 1; omega) _).setCell (by show w.heap.size ≤ w.heap.size + 1 + 1; omega) _).setCell (by show w.heap.size ≤ w.heap.size + 1 + 1; omega) _⟩
  · cases h2 : inB key 99
    · go_enter Tryd.func37, Tryd.ntmps37
      go_wp2_with fail
      refine (specMapOk_any _ _ _ zs _ (hs.below I0.bel) hn).mono ?_
      rintro e w1 ⟨rfl, hb1⟩
      have I1 := I0.below hb1
      have m0 := I1.m0
      have r0 := I1.r0
      have r1 := I1.r1
      have fm := I1.fm
      have f0 := I1.f0
      have f1 := I1.f1
      clear hb1 I0 hs hok
      rw [h1]
      go_wp2_with fail
      refine (l1In_as h2 _).mono ?_
      rintro e w1' ⟨rfl, rfl⟩
      go_wp2
      exact bodyPost_ret (v := .tuple #[.agg #[.slice none 0 0], .agg #[.int .i64 0, .int .i64 0]]) (by simp [results, Tryd.results37, go_sem, m0, r0, r1]) rfl ⟨none, 0, rfl, World.ownsRow_nil _ _ _ _, ((I1.bel.setCell (by show w.heap.size ≤ w.heap.size + 1; omega) _).setCell (by show w.heap.size ≤ w.heap.size + 1 + 1; omega) _).setCell (by show w.heap.size ≤ w.heap.size + 1 + 1; omega) _⟩
    · have h3 : inB val 999 = false := by simpa [ptOk, h1, h2] using hok
      go_enter Tryd.func37, Tryd.ntmps37
      go_wp2_with fail
      refine (specMapOk_any _ _ _ zs _ (hs.below I0.bel) hn).mono ?_
      rintro e w1 ⟨rfl, hb1⟩
      have I1 := I0.below hb1
      have m0 := I1.m0
      have r0 := I1.r0
      have r1 := I1.r1
      have fm := I1.fm
      have f0 := I1.f0
      have f1 := I1.f1
      clear hb1 I0 hs hok
      rw [h1]
      go_wp2_with fail
      refine (l1In_as h2 _).mono ?_
      rintro e w1' ⟨rfl, rfl⟩
      go_wp2_with fail
      refine (l1In_as h3 _).mono ?_
      rintro e w1' ⟨rfl, rfl⟩
      go_wp2
      exact bodyPost_ret (v := .tuple #[.agg #[.slice none 0 0], .agg #[.int .i64 0, .int .i64 0]]) (by simp [results, Tryd.results37, go_sem, m0, r0, r1]) rfl ⟨none, 0, rfl, World.ownsRow_nil _ _ _ _, ((I1.bel.setCell (by show w.heap.size ≤ w.heap.size + 1; omega) _).setCell (by show w.heap.size ≤ w.heap.size + 1 + 1; omega) _).setCell (by show w.heap.size ≤ w.heap.size + 1 + 1; omega) _⟩

/-- The block of MapPut's loop: the map that grows. -/
structure LoopP (w : World) (a : Option Addr) (n cap X : Nat) (ys : List Int) (m : Nat) (a' : Option Addr) (c' : Nat) (W : World) : Prop where
  loc : Loc w a n cap W
  lt : w.heap.size + 1 + 1 < X
  sz : X < W.heap.size
  x0 : W.cell? ⟨X, 0, none⟩ = some (.slice a' m c')
  fx : W.frozen? ⟨X, 0, none⟩ = false
  own : W.ownsRow (X + 1) 84 2 (.slice a' m c') m (ys.map (Value.int .i64))

theorem loopP_start {w W : World} {a : Option Addr} {n cap : Nat} (h : Loc w a n cap W) : LoopP w a n cap W.heap.size [] 0 none 0 (W.alloc (.cells #[.slice none 0 0] 33)) := by
  have al : ∀ (W : World) (o : Obj), Below W.heap.size W (W.alloc o) := fun W o => (Below.refl _ _).alloc (Nat.le_refl _) o
  exact { loc := h.below (al _ _), lt := h.sz, sz := by simp, x0 := cell_at W _ _ 0 rfl rfl, fx := frozen_at W _ _ 0 rfl, own := World.ownsRow_nil _ _ _ _ }

theorem cell_other {W : World} {b o : Nat} {p : Addr} {v : Value} (u : Value) (hne : b ≠ p.block) (h : W.cell? ⟨b, o, none⟩ = some v) : (W.setCell p u).cell? ⟨b, o, none⟩ = some v := by
  rw [World.cell?_of_block (w := W) (a := ⟨b, o, none⟩) (Below.heap_setCell W p u b hne)]
  exact h
theorem frozen_other {W : World} {b o : Nat} {p : Addr} (u : Value) (hne : b ≠ p.block) (h : W.frozen? ⟨b, o, none⟩ = false) : (W.setCell p u).frozen? ⟨b, o, none⟩ = false := by
  rw [World.frozen?_of_block (w := W) (a := ⟨b, o, none⟩) (Below.heap_setCell W p u b hne)]
  exact h
theorem Loc.set {w : World} {a : Option Addr} {n cap : Nat} {W : World} (h : Loc w a n cap W) {p : Addr} (hp : w.heap.size + 1 + 1 < p.block) (u : Value) : Loc w a n cap (W.setCell p u) :=
  { bel := h.bel.setCell (by omega) u, sz := by simpa using h.sz, box := cell_other u (by omega) h.box, m0 := cell_other u (by omega) h.m0, r0 := cell_other u (by omega) h.r0, r1 := cell_other u (by omega) h.r1,
    fm := frozen_other u (by omega) h.fm, f0 := frozen_other u (by omega) h.f0, f1 := frozen_other u (by omega) h.f1 }

theorem Loc.grown {w : World} {a : Option Addr} {n cap : Nat} {W w1 : World} {row : Option Nat} (h : Loc w a n cap W) (hg : W.grownBy w1 row) (hr : ∀ k, row = some k → w.heap.size + 1 + 1 < k) : Loc w a n cap w1 := by
  have hs := h.sz
  have hlow : ∀ b, b ≤ w.heap.size + 1 + 1 → w1.heap[b]? = W.heap[b]? := fun b hb => hg.block b (by omega) (fun e => by have := hr _ e.symm; omega)
  have hc : ∀ b o, b ≤ w.heap.size + 1 + 1 → w1.cell? ⟨b, o, none⟩ = W.cell? ⟨b, o, none⟩ := fun b o hb => World.cell?_of_block (w := W) (a := ⟨b, o, none⟩) (hlow b hb)
  have hf : ∀ b o, b ≤ w.heap.size + 1 + 1 → w1.frozen? ⟨b, o, none⟩ = W.frozen? ⟨b, o, none⟩ := fun b o hb => World.frozen?_of_block (w := W) (a := ⟨b, o, none⟩) (hlow b hb)
  have hsz := hg.size
  exact { bel := h.bel.grown hg h.bel.size (fun k e => by have := hr k e; omega), sz := by omega, box := (hc _ _ (by omega)).trans h.box, m0 := (hc _ _ (by omega)).trans h.m0, r0 := (hc _ _ (by omega)).trans h.r0, r1 := (hc _ _ (by omega)).trans h.r1, fm := (hf _ _ (by omega)).trans h.fm, f0 := (hf _ _ (by omega)).trans h.f0, f1 := (hf _ _ (by omega)).trans h.f1 }

/-- The cells of all the numbers, for an append. -/
theorem SInts.src_whole {w : World} {b off n : Nat} {zs : List Int} (hs : SInts w (some ⟨b, off, none⟩) n zs) :
    ∀ j u, (zs.map (Value.int .i64))[j]? = some u → w.cell? ((⟨b, off, none⟩ : Addr).add j) = some u := by
  intro j u hj
  obtain ⟨hz, h0 | ⟨b', off', e, hc⟩⟩ := hs
  · rw [List.eq_nil_of_length_eq_zero (l := zs) (by omega)] at hj
    simp at hj
  · cases e
    have hjn : j < n := by
      have := (List.getElem?_eq_some_iff.1 hj).1
      simp at this
      omega
    rw [Addr.add_lit, hc j hjn]
    simpa [List.getD, show j < zs.length by omega] using hj

section
variable {w : World} {a : Option Addr} {n cap X : Nat} {ys : List Int} {m : Nat} {a' : Option Addr} {c' : Nat} {W W' : World}

theorem LoopP.below (h : LoopP w a n cap X ys m a' c' W) (hb : Below W.heap.size W W') : LoopP w a n cap X ys m a' c' W' :=
  { loc := h.loc.below hb, lt := h.lt, sz := Nat.lt_of_lt_of_le h.sz hb.size, x0 := cell_kept hb h.x0, fx := frozen_kept hb h.sz h.fx, own := ownsRow_below h.own hb }

/-- What stands behind an append onto the map that grows: all other blocks are as they were. -/
structure MidP (w : World) (a : Option Addr) (n cap X : Nat) (v : Value) (w1 : World) : Prop where
  loc : Loc w a n cap w1
  lt : w.heap.size + 1 + 1 < X
  sz : X < w1.heap.size
  x0 : w1.cell? ⟨X, 0, none⟩ = some v
  fx : w1.frozen? ⟨X, 0, none⟩ = false

theorem LoopP.mid (h : LoopP w a n cap X ys m a' c' W) {w1 : World} (hg : W.grownBy w1 (Value.ownBlock (.slice a' m c'))) : MidP w a n cap X (.slice a' m c') w1 := by
  have hlow : ∀ b, b ≤ X → w1.heap[b]? = W.heap[b]? := by
    intro b hb
    have hs := h.sz
    exact hg.block b (by omega) (fun e => by have := (h.own.lt _ e.symm).1; omega)
  have hc : ∀ b o, b ≤ X → w1.cell? ⟨b, o, none⟩ = W.cell? ⟨b, o, none⟩ := fun b o hb => World.cell?_of_block (w := W) (a := ⟨b, o, none⟩) (hlow b hb)
  have hf : ∀ b o, b ≤ X → w1.frozen? ⟨b, o, none⟩ = W.frozen? ⟨b, o, none⟩ := fun b o hb => World.frozen?_of_block (w := W) (a := ⟨b, o, none⟩) (hlow b hb)
  have hl := h.lt
  have hsz1 := hg.size
  have hL := h.loc
  have hbel : Below w.heap.size w w1 := hL.bel.grown hg hL.bel.size (fun k e => by have := (h.own.lt _ e).1; omega)
  exact
    { loc := { bel := hbel, sz := by have := hL.sz; omega, box := (hc _ _ (by omega)).trans hL.box, m0 := (hc _ _ (by omega)).trans hL.m0, r0 := (hc _ _ (by omega)).trans hL.r0, r1 := (hc _ _ (by omega)).trans hL.r1, fm := (hf _ _ (by omega)).trans hL.fm, f0 := (hf _ _ (by omega)).trans hL.f0, f1 := (hf _ _ (by omega)).trans hL.f1 },
      lt := hl, sz := by have := h.sz; omega, x0 := (hc _ _ (by omega)).trans h.x0, fx := (hf _ _ (by omega)).trans h.fx }

theorem MidP.push {v : Value} {w1 : World} (h : MidP w a n cap X v w1) {a2 : Option Addr} {m2 c2 : Nat} {ys2 : List Int} (ho : w1.ownsRow (X + 1) 84 2 (.slice a2 m2 c2) m2 (ys2.map (Value.int .i64))) :
    LoopP w a n cap X ys2 m2 a2 c2 (w1.setCell ⟨X, 0, none⟩ (.slice a2 m2 c2)) := by
  have hl := h.lt
  exact { loc := h.loc.set (by show _ < X; omega) _, lt := h.lt, sz := by simpa using h.sz, x0 := World.cell?_setCell_same _ _ _ h.x0, fx := by rw [World.frozen?_setCell]; exact h.fx, own := own_setCell ho (by omega) _ }

end

/-- The two cells of a new block, for an append. -/
theorem two_new (W : World) (x y : Int) : ∀ j u, ([Value.int .i64 x, Value.int .i64 y] : List Value)[j]? = some u → (W.alloc (.cells #[.int .i64 x, .int .i64 y] 84)).cell? ((⟨W.heap.size, 0, none⟩ : Addr).add j) = some u := by
  intro j u hj
  match j, hj with
  | 0, hj => simp at hj; subst hj; simp [Addr.add]
  | 1, hj => simp at hj; subst hj; simp [Addr.add]
theorem two_one (x y : Int) : ∀ u ∈ ([Value.int .i64 x, Value.int .i64 y] : List Value), u.oneCell' = true := by
  intro u hu
  simp at hu
  rcases hu with rfl | rfl <;> rfl

theorem take_two (zs : List Int) (k : Nat) (h : k * 2 + 1 < zs.length) : zs.take (k * 2) ++ [keyAt zs k, valAt zs k] = zs.take ((k + 1) * 2) := by
  have e1 : keyAt zs k = zs[k * 2] := by simp [keyAt, List.getD, show k * 2 < zs.length by omega]
  have e2 : valAt zs k = zs[k * 2 + 1] := by simp [valAt, List.getD, h]
  rw [show (k + 1) * 2 = k * 2 + 1 + 1 by omega, List.take_succ_eq_append_getElem (by omega), List.take_succ_eq_append_getElem (by omega), e1, e2, List.append_assoc]
  rfl

/-- What the loop has gathered of the first k entries, where the key's place is i. -/
def putF (zs : List Int) (key val : Int) (i k : Nat) : List Int := if k ≤ i then zs.take (k * 2) else zs.take (i * 2) ++ [key, val] ++ (zs.take (k * 2)).drop (i * 2)
def putM (i k : Nat) : Nat := if k ≤ i then k else k + 1
theorem putF_low {zs : List Int} {key val : Int} {i k : Nat} (hk : k * 2 + 1 < zs.length) (h : k < i) : putF zs key val i k ++ [keyAt zs k, valAt zs k] = putF zs key val i (k + 1) ∧ putM i k + 1 = putM i (k + 1) := by
  unfold putF putM
  rw [if_pos (by omega), if_pos (by omega), if_pos (by omega), if_pos (by omega), take_two zs k hk]
  exact ⟨rfl, rfl⟩
theorem putF_at {zs : List Int} {key val : Int} {i : Nat} (hk : i * 2 + 1 < zs.length) : (putF zs key val i i ++ [key, val]) ++ [keyAt zs i, valAt zs i] = putF zs key val i (i + 1) ∧ putM i i + 1 + 1 = putM i (i + 1) := by
  unfold putF putM
  rw [if_pos (Nat.le_refl _), if_neg (by omega), if_pos (Nat.le_refl _), if_neg (by omega), ← take_two zs i hk, List.drop_left' (by simp; omega)]
  exact ⟨rfl, rfl⟩
theorem putF_high {zs : List Int} {key val : Int} {i k : Nat} (hk : k * 2 + 1 < zs.length) (h : i < k) : putF zs key val i k ++ [keyAt zs k, valAt zs k] = putF zs key val i (k + 1) ∧ putM i k + 1 = putM i (k + 1) := by
  unfold putF putM
  rw [if_neg (by omega), if_neg (by omega), if_neg (by omega), if_neg (by omega), ← take_two zs k hk, List.drop_append_of_le_length (by simp; omega), List.append_assoc]
  exact ⟨rfl, rfl⟩
theorem putM_le (i k : Nat) : putM i k ≤ k + 1 := by unfold putM; split <;> omega

set_option maxRecDepth 20000 in
set_option maxHeartbeats 4000000 in
/-- The key is there: at its place the loop hands the map back. -/
theorem specMapPut_there (a : Option Addr) (n cap : Nat) (zs : List Int) (key val : Int) (i : Nat) (w : World) (hs : SInts w a (n * 2) zs) (hn : n ≤ 8) (h1 : okM zs n = true) (h2 : inB key 99 = true) (h3 : inB val 999 = true)
    (hi : i < n) (hlow : ∀ j, j < i → keyAt zs j < key) (hat : keyAt zs i = key) :
    Calls Tryd.prog 37 #[.agg #[.slice a n cap], .int .i64 key, .int .i64 val] w fun e w' => MapRes zs n 1 0 e w w' := by
  have HLOW : Hid (∀ j, j < i → keyAt zs j < key) := hlow
  have HAT : Hid (keyAt zs i = key) := hat
  clear hlow hat
  have I0 := loc_start w a n cap
  obtain ⟨i0, hi0, hz0, hz1, hz2⟩ := info_parts Tryd.info84
  have hzl : Hid (zs.length = n * 2) := hs.1
  go_enter Tryd.func37, Tryd.ntmps37
  go_wp2_with fail
  refine (specMapOk_any _ _ _ zs _ (hs.below I0.bel) (by omega)).mono ?_
  rintro e w1 ⟨rfl, hb1⟩
  have I1 := loopP_start (I0.below hb1)
  clear hb1 I0
  rw [h1]
  go_wp2_with fail
  refine (l1In_as h2 _).mono ?_
  rintro e w1' ⟨rfl, rfl⟩
  go_wp2_with fail
  refine (l1In_as h3 _).mono ?_
  rintro e w1' ⟨rfl, rfl⟩
  go_wp2
  generalize hX : w1'.heap.size = X at I1 ⊢
  generalize hW : (w1'.alloc (.cells #[.slice none 0 0] 33)) = W1 at I1 ⊢
  clear hX hW
  go_loopw [9, 10] (fun d s wr => ∃ (k : Nat) (a' : Option Addr) (c' : Nat), k ≤ i ∧ s = .int .i64 k ∧ d = .bool false ∧ LoopP w a n cap X (zs.take (k * 2)) k a' c' wr) (fun _ s _ => n - (intOf s).toNat)
  case atStart => exact ⟨0, none, 0, Nat.zero_le _, rfl, rfl, by simpa using I1⟩
  case round =>
    obtain ⟨k, a', c', hk, rfl, rfl, I⟩ := hrel
    obtain ⟨b, off, rfl⟩ := hs.addr (by omega)
    obtain ⟨x, hx⟩ : ∃ x, keyAt zs k = x := ⟨_, rfl⟩
    obtain ⟨y, hy⟩ : ∃ y, valAt zs k = y := ⟨_, rfl⟩
    have hkn : k < n := by omega
    have q1 := (hs.below I.loc.bel).keyCell hkn
    have q2 := (hs.below I.loc.bel).valCell hkn
    rw [hx] at q1
    rw [hy] at q2
    have box := I.loc.box
    have al : Hid (∀ (W : World) (o : Obj), Below W.heap.size W (W.alloc o)) := fun W o => (Below.refl _ _).alloc (Nat.le_refl _) o
    have IE := I.below (al.out wr (.cells #[.int .i64 x, .int .i64 y] 84))
    have HX : Hid (keyAt zs k = x ∧ valAt zs k = y) := ⟨hx, hy⟩
    have hlw := I.loc.sz
    clear hx hy I1 I
    by_cases hki : k < i
    · have hlt : x < key := by have := HLOW.out k hki; rw [HX.out.1] at this; exact this
      have hne : (x == key) = false := by simp; omega
      have HT : Hid (zs.take (k * 2) ++ [x, y] = zs.take ((k + 1) * 2)) := by show _ = _; rw [← HX.out.1, ← HX.out.2]; exact take_two zs k (by have := hzl.out; omega)
      have boxE := IE.loc.box
      have xE := IE.x0
      have HI : Hid (LoopP w (some ⟨b, off, none⟩) n cap X (zs.take (k * 2)) k a' c' (wr.alloc (.cells #[.int .i64 x, .int .i64 y] 84))) := IE
      have ownA := (IE.below (al.out _ (.cells #[.int .i64 x, .int .i64 y] 84))).own
      have news := two_new (wr.alloc (.cells #[.int .i64 x, .int .i64 y] 84)) x y
      have hbase := IE.sz
      have NEWS : Hid (∀ j u, ([Value.int .i64 x, Value.int .i64 y] : List Value)[j]? = some u → ((wr.alloc (.cells #[.int .i64 x, .int .i64 y] 84)).alloc (.cells #[.int .i64 x, .int .i64 y] 84)).cell? ((⟨wr.heap.size + 1, 0, none⟩ : Addr).add j) = some u) := by
        show ∀ j u, ([Value.int .i64 x, Value.int .i64 y] : List Value)[j]? = some u → ((wr.alloc (.cells #[.int .i64 x, .int .i64 y] 84)).alloc (.cells #[.int .i64 x, .int .i64 y] 84)).cell? ((⟨wr.heap.size + 1, 0, none⟩ : Addr).add j) = some u
        simpa using news
      clear IE news hs
      simp at hbase
      go_wp2_with (at_builtin; go_must (refine wpList_append_own _ rfl (.tmp 67) (.tmp 69) 31 rfl (X + 1) 84 i0 (.agg #[.int .i64 0, .int .i64 0]) 2 16 Tryd.underlying31 hi0 hz0 hz1 hz2 rfl (by decide) _ _ _ rfl ownA ⟨wr.heap.size + 1, 0, none⟩ 1 1 [.int .i64 x, .int .i64 y] rfl rfl NEWS.out (two_one x y) (by unfold maxLen; omega) (by omega) (by simp; omega) ?_))
      intro v' w2 hown hgrow _
      have M2 := (HI.out.below (al.out _ (.cells #[.int .i64 x, .int .i64 y] 84))).mid hgrow
      have hown' : w2.ownsRow (X + 1) 84 2 v' (k + 1) ((zs.take ((k + 1) * 2)).map (Value.int .i64)) := by rw [← HT.out]; simpa using hown
      obtain ⟨a2, c2, hv, _⟩ := own2_shape hown'
      rw [hv] at hown' ⊢
      have HP : Hid (LoopP w (some ⟨b, off, none⟩) n cap X (zs.take ((k + 1) * 2)) (k + 1) a2 c2 (w2.setCell ⟨X, 0, none⟩ (.slice a2 (k + 1) c2))) := M2.push hown'
      have mx := M2.x0
      have mf := M2.fx
      clear hown hown' hgrow hv M2 HI ownA NEWS
      go_wp2
      go_roundw
      case rel => exact ⟨k + 1, a2, c2, by omega, by go_num, rfl, HP.out⟩
      case measure => simp [intOf]; omega
    · obtain rfl : k = i := by omega
      have hxe : x = key := by rw [← HX.out.1]; exact HAT.out
      subst hxe
      have boxE := IE.loc.box
      have IL := IE.loc.below (al.out _ (.cells #[] 84))
      have boxL := IL.box
      have sAll := (hs.below IL.bel).src_whole
      have own0 : ((wr.alloc (.cells #[.int .i64 x, .int .i64 y] 84)).alloc (.cells #[] 84)).ownsRow (wr.heap.size + 1) 84 2 (.slice (some ⟨wr.heap.size + 1, 0, none⟩) 0 0) 0 [] := by
        have := World.ownsRow_lit (base := wr.heap.size + 1) (e := 84) (size := 2) (wr.alloc (.cells #[.int .i64 x, .int .i64 y] 84)) #[] 0 (by simp) (by decide) rfl
        simpa using this
      have HIL : Hid (Loc w (some ⟨b, off, none⟩) n cap ((wr.alloc (.cells #[.int .i64 x, .int .i64 y] 84)).alloc (.cells #[] 84))) := IL
      have hL : Hid ((zs.map (Value.int .i64)).length = n * 2) := by show _ = _; simp; exact hzl.out
      clear IE IL hs
      go_wp2_with (at_builtin; go_must (refine wpList_append_own _ rfl (.tmp 44) (.tmp 46) 31 rfl (wr.heap.size + 1) 84 i0 (.agg #[.int .i64 0, .int .i64 0]) 2 16 Tryd.underlying31 hi0 hz0 hz1 hz2 rfl (by decide) _ _ _ rfl own0 ⟨b, off, none⟩ n cap (zs.map (Value.int .i64)) rfl hL.out sAll (ints_oneCell _ _) (by unfold maxLen; omega) (by omega) (by simp) ?_))
      intro v' w2 hown hgrow _
      have IG := HIL.out.grown hgrow (fun kk e => by have e2 : wr.heap.size + 1 = kk := (by cases e; rfl); omega)
      have hown' : w2.ownsRow (wr.heap.size + 1) 84 2 v' n (zs.map (Value.int .i64)) := by simpa using hown
      obtain ⟨a2, c2, hv, _⟩ := own2_shape hown'
      rw [hv] at hown' ⊢
      have HO : Hid (w2.ownsRow (w.heap.size + 1 + 1 + 1) 84 2 (.slice a2 n c2) n (zs.map (Value.int .i64))) := own_mono hown' (by omega)
      have m0 := IG.m0
      have r0 := IG.r0
      have r1 := IG.r1
      have fm := IG.fm
      have f0 := IG.f0
      have f1 := IG.f1
      clear hown hown' hgrow hv HIL own0 sAll boxL boxE
      go_wp2
      exact bodyPost_ret (v := .tuple #[.agg #[.slice a2 n c2], .agg #[.int .i64 1, .int .i64 0]]) (by simp [results, Tryd.results37, go_sem, m0, r0, r1]) rfl ⟨a2, c2, rfl, own_mono (own_setCell (own_setCell (own_setCell HO.out (by omega) _) (by omega) _) (by omega) _) (by omega), ((IG.bel.setCell (by show w.heap.size ≤ w.heap.size + 1; omega) _).setCell (by show w.heap.size ≤ w.heap.size + 1 + 1; omega) _).setCell (by show w.heap.size ≤ w.heap.size + 1 + 1; omega) _⟩

set_option maxRecDepth 20000 in
set_option maxHeartbeats 8000000 in
/-- One round of the loop: the entry's key is below the key, or the new entry is in already. -/
theorem specMapPut_loop (a : Option Addr) (n cap : Nat) (zs : List Int) (key val : Int) (i : Nat) (w : World) (hs : SInts w a (n * 2) zs) (hn : n ≤ 8) (h1 : okM zs n = true) (h2 : inB key 99 = true) (h3 : inB val 999 = true)
    (hi : i ≤ n) (hlow : ∀ j, j < i → keyAt zs j < key) (hhigh : ∀ j, i ≤ j → j < n → key < keyAt zs j) :
    Calls Tryd.prog 37 #[.agg #[.slice a n cap], .int .i64 key, .int .i64 val] w fun e w' => MapRes (if n = 8 then zs else zs.take (i * 2) ++ [key, val] ++ zs.drop (i * 2)) (if n = 8 then n else n + 1) (if n = 8 then 3 else 2) 0 e w w' := by
  have HLOW : Hid (∀ j, j < i → keyAt zs j < key) := hlow
  have HHIGH : Hid (∀ j, i ≤ j → j < n → key < keyAt zs j) := hhigh
  clear hlow hhigh
  obtain ⟨RL, hRL⟩ : ∃ RL, (if n = 8 then zs else zs.take (i * 2) ++ [key, val] ++ zs.drop (i * 2)) = RL := ⟨_, rfl⟩
  obtain ⟨RN, hRN⟩ : ∃ RN, (if n = 8 then n else n + 1) = RN := ⟨_, rfl⟩
  obtain ⟨RC, hRC⟩ : ∃ RC : Int, (if n = 8 then 3 else 2) = RC := ⟨_, rfl⟩
  rw [hRL, hRN, hRC]
  have HR : Hid ((if n = 8 then zs else zs.take (i * 2) ++ [key, val] ++ zs.drop (i * 2)) = RL ∧ (if n = 8 then n else n + 1) = RN ∧ (if n = 8 then (3 : Int) else 2) = RC) := ⟨hRL, hRN, hRC⟩
  clear hRL hRN hRC
  have al : Hid (∀ (W : World) (o : Obj), Below W.heap.size W (W.alloc o)) := fun W o => (Below.refl _ _).alloc (Nat.le_refl _) o
  have I0 := loc_start w a n cap
  obtain ⟨i0, hi0, hz0, hz1, hz2⟩ := info_parts Tryd.info84
  have hzl : Hid (zs.length = n * 2) := hs.1
  go_enter Tryd.func37, Tryd.ntmps37
  go_wp2_with fail
  refine (specMapOk_any _ _ _ zs _ (hs.below I0.bel) (by omega)).mono ?_
  rintro e w1 ⟨rfl, hb1⟩
  have I1 := loopP_start (I0.below hb1)
  clear hb1 I0
  rw [h1]
  go_wp2_with fail
  refine (l1In_as h2 _).mono ?_
  rintro e w1' ⟨rfl, rfl⟩
  go_wp2_with fail
  refine (l1In_as h3 _).mono ?_
  rintro e w1' ⟨rfl, rfl⟩
  go_wp2
  generalize hX : w1'.heap.size = X at I1 ⊢
  generalize hW : (w1'.alloc (.cells #[.slice none 0 0] 33)) = W1 at I1 ⊢
  clear hX hW
  go_loopw [9, 10] (fun d s wr => ∃ (k : Nat) (B : Bool) (a' : Option Addr) (c' m : Nat) (ys : List Int), k ≤ n ∧ s = .int .i64 k ∧ d = .bool B ∧ m ≤ k + 1 ∧ LoopP w a n cap X ys m a' c' wr ∧ (B = decide (i < k) ∧ ys = putF zs key val i k ∧ m = putM i k)) (fun _ s _ => n - (intOf s).toNat)
  case atStart => exact ⟨0, false, none, 0, 0, [], Nat.zero_le _, rfl, rfl, by omega, I1, by simp, by simp [putF], by simp [putM]⟩
  case round =>
    obtain ⟨k, B, a', c', m, ys, hk, rfl, rfl, hmk, I, hB0, hys0, hm0⟩ := hrel
    have HY : Hid (B = decide (i < k) ∧ ys = putF zs key val i k ∧ m = putM i k) := ⟨hB0, hys0, hm0⟩
    clear hB0 hys0 hm0 I1
    have box := I.loc.box
    by_cases hlt : k < n
    · obtain ⟨x, hx⟩ : ∃ x, keyAt zs k = x := ⟨_, rfl⟩
      obtain ⟨y, hy⟩ : ∃ y, valAt zs k = y := ⟨_, rfl⟩
      have hkl : Hid (k * 2 + 1 < zs.length) := by have := hzl.out; show _ < _; omega
      have q : ∃ b off, a = some ⟨b, off, none⟩ ∧ wr.cell? ⟨b, off + k * 2, none⟩ = some (.int .i64 x) ∧ wr.cell? ⟨b, off + k * 2 + 1, none⟩ = some (.int .i64 y) := by
        obtain ⟨b, off, e⟩ := hs.addr (by omega)
        subst e
        have q1 := (hs.below I.loc.bel).keyCell hlt
        have q2 := (hs.below I.loc.bel).valCell hlt
        rw [hx] at q1
        rw [hy] at q2
        exact ⟨b, off, rfl, q1, q2⟩
      have IE := I.below (al.out wr (.cells #[.int .i64 x, .int .i64 y] 84))
      have HX : Hid (keyAt zs k = x ∧ valAt zs k = y) := ⟨hx, hy⟩
      have hrow : Hid (∀ kk, (Value.slice a' m c').ownBlock = some kk → kk < wr.heap.size) := fun kk e => (I.own.lt kk e).2
      have hXlt := I.sz
      clear hx hy I
      have HI : Hid (LoopP w a n cap X ys m a' c' (wr.alloc (.cells #[.int .i64 x, .int .i64 y] 84))) := IE
      have boxE := IE.loc.box
      have xE := IE.x0
      clear IE
      obtain ⟨b, off, ha, q1, q2⟩ := q
      subst ha
      clear hs
      by_cases hki : k = i
      · subst hki
        obtain rfl : B = false := by rw [HY.out.1]; simp
        have hgt : key < x := by have := HHIGH.out k (Nat.le_refl _) hlt; rw [HX.out.1] at this; exact this
        have hne : (x == key) = false := by simp; omega
        have HT2 : Hid ((ys ++ [key, val]) ++ [x, y] = putF zs key val k (k + 1) ∧ m + 1 + 1 = putM k (k + 1)) := by
          rw [← HX.out.1, ← HX.out.2, HY.out.2.1, HY.out.2.2]
          exact putF_at hkl.out
        have e0 : ((wr.alloc (.cells #[.int .i64 x, .int .i64 y] 84)).alloc (.cells #[.int .i64 key, .int .i64 val] 84)).cell? ⟨wr.heap.size, 0, none⟩ = some (.int .i64 x) := cell_kept (al.out _ _) (cell_at wr _ _ 0 rfl rfl)
        have e1 : ((wr.alloc (.cells #[.int .i64 x, .int .i64 y] 84)).alloc (.cells #[.int .i64 key, .int .i64 val] 84)).cell? ⟨wr.heap.size, 1, none⟩ = some (.int .i64 y) := cell_kept (al.out _ _) (cell_at wr _ _ 1 rfl rfl)
        have ownA := (HI.out.below (al.out _ (.cells #[.int .i64 key, .int .i64 val] 84))).own
        have hbase := HI.out.sz
        have hlt' := HI.out.lt
        have NEWS : Hid (∀ j u, ([Value.int .i64 key, Value.int .i64 val] : List Value)[j]? = some u → ((wr.alloc (.cells #[.int .i64 x, .int .i64 y] 84)).alloc (.cells #[.int .i64 key, .int .i64 val] 84)).cell? ((⟨wr.heap.size + 1, 0, none⟩ : Addr).add j) = some u) := by
          show ∀ j u, ([Value.int .i64 key, Value.int .i64 val] : List Value)[j]? = some u → ((wr.alloc (.cells #[.int .i64 x, .int .i64 y] 84)).alloc (.cells #[.int .i64 key, .int .i64 val] 84)).cell? ((⟨wr.heap.size + 1, 0, none⟩ : Addr).add j) = some u
          have news := two_new (wr.alloc (.cells #[.int .i64 x, .int .i64 y] 84)) key val
          simpa using news
        try simp at hbase
        go_wp2_with (at_builtin; go_must (refine wpList_append_own _ rfl (.tmp 59) (.tmp 63) 31 rfl (X + 1) 84 i0 (.agg #[.int .i64 0, .int .i64 0]) 2 16 Tryd.underlying31 hi0 hz0 hz1 hz2 rfl (by decide) _ _ _ rfl ownA ⟨wr.heap.size + 1, 0, none⟩ 1 1 [.int .i64 key, .int .i64 val] rfl rfl NEWS.out (two_one key val) (by unfold maxLen; omega) (by omega) (by simp; omega) ?_))
        intro v' w2 hown hgrow _
        have M2 := (HI.out.below (al.out _ (.cells #[.int .i64 key, .int .i64 val] 84))).mid hgrow
        have hown' : w2.ownsRow (X + 1) 84 2 v' (m + 1) ((ys ++ [key, val]).map (Value.int .i64)) := by simpa using hown
        obtain ⟨a2, c2, hv, _⟩ := own2_shape hown'
        rw [hv] at hown' ⊢
        have HP : Hid (LoopP w (some ⟨b, off, none⟩) n cap X (ys ++ [key, val]) (m + 1) a2 c2 (w2.setCell ⟨X, 0, none⟩ (.slice a2 (m + 1) c2))) := M2.push hown'
        have mx := M2.x0
        have mf := M2.fx
        have e2 := cell_other (p := ⟨X, 0, none⟩) (.slice a2 (m + 1) c2) (by show wr.heap.size ≠ X; omega) (cell_grown hgrow e0 (fun kk e => by have := hrow.out kk e; omega))
        have e3 := cell_other (p := ⟨X, 0, none⟩) (.slice a2 (m + 1) c2) (by show wr.heap.size ≠ X; omega) (cell_grown hgrow e1 (fun kk e => by have := hrow.out kk e; omega))
        clear e0 e1
        clear hown hown' hgrow hv M2 ownA NEWS hbase hlt' HI
        have x3 := HP.out.x0
        have HI : Hid (LoopP w (some ⟨b, off, none⟩) n cap X (ys ++ [key, val]) (m + 1) a2 c2 (w2.setCell ⟨X, 0, none⟩ (.slice a2 (m + 1) c2))) := HP
        have HT : Hid ((ys ++ [key, val]) ++ [x, y] = putF zs key val k (k + 1)) := HT2.out.1
        clear HP
        have ownA := (HI.out.below (al.out _ (.cells #[.int .i64 x, .int .i64 y] 84))).own
        have hbase := HI.out.sz
        have hlt' := HI.out.lt
        have NEWS : Hid (∀ j u, ([Value.int .i64 x, Value.int .i64 y] : List Value)[j]? = some u → ((w2.setCell ⟨X, 0, none⟩ (.slice a2 (m + 1) c2)).alloc (.cells #[.int .i64 x, .int .i64 y] 84)).cell? ((⟨w2.heap.size, 0, none⟩ : Addr).add j) = some u) := by
          show ∀ j u, ([Value.int .i64 x, Value.int .i64 y] : List Value)[j]? = some u → ((w2.setCell ⟨X, 0, none⟩ (.slice a2 (m + 1) c2)).alloc (.cells #[.int .i64 x, .int .i64 y] 84)).cell? ((⟨w2.heap.size, 0, none⟩ : Addr).add j) = some u
          have news := two_new (w2.setCell ⟨X, 0, none⟩ (.slice a2 (m + 1) c2)) x y
          simpa using news
        try simp at hbase
        go_wp2_with (at_builtin; go_must (refine wpList_append_own _ rfl (.tmp 67) (.tmp 69) 31 rfl (X + 1) 84 i0 (.agg #[.int .i64 0, .int .i64 0]) 2 16 Tryd.underlying31 hi0 hz0 hz1 hz2 rfl (by decide) _ _ _ rfl ownA ⟨w2.heap.size, 0, none⟩ 1 1 [.int .i64 x, .int .i64 y] rfl rfl NEWS.out (two_one x y) (by unfold maxLen; omega) (by omega) (by simp; omega) ?_))
        intro v' w4 hown hgrow _
        have M2 := (HI.out.below (al.out _ (.cells #[.int .i64 x, .int .i64 y] 84))).mid hgrow
        have hown' : w4.ownsRow (X + 1) 84 2 v' ((m + 1) + 1) ((putF zs key val k (k + 1)).map (Value.int .i64)) := by rw [← HT.out]; simpa using hown
        obtain ⟨a4, c4, hv, _⟩ := own2_shape hown'
        rw [hv] at hown' ⊢
        have HP : Hid (LoopP w (some ⟨b, off, none⟩) n cap X (putF zs key val k (k + 1)) ((m + 1) + 1) a4 c4 (w4.setCell ⟨X, 0, none⟩ (.slice a4 ((m + 1) + 1) c4))) := M2.push hown'
        have mx := M2.x0
        have mf := M2.fx
        clear hown hown' hgrow hv M2 ownA NEWS hbase hlt' HI
        clear x3 e2 e3 HT
        go_wp2
        go_roundw
        case rel => exact ⟨k + 1, true, a4, c4, m + 1 + 1, putF zs key val k (k + 1), by omega, by go_num, rfl, by rw [HT2.out.2]; exact putM_le _ _, HP.out, by simp, rfl, HT2.out.2⟩
        case measure => simp [intOf]; omega
      · by_cases hlo : k < i
        · obtain rfl : B = false := by rw [HY.out.1]; simp; omega
          have hgt : x < key := by have := HLOW.out k hlo; rw [HX.out.1] at this; exact this
          have hne : (x == key) = false := by simp; omega
          have HT2 : Hid (ys ++ [x, y] = putF zs key val i (k + 1) ∧ m + 1 = putM i (k + 1)) := by
            rw [← HX.out.1, ← HX.out.2, HY.out.2.1, HY.out.2.2]
            exact putF_low hkl.out hlo
          have HT : Hid (ys ++ [x, y] = putF zs key val i (k + 1)) := HT2.out.1
          have ownA := (HI.out.below (al.out _ (.cells #[.int .i64 x, .int .i64 y] 84))).own
          have hbase := HI.out.sz
          have hlt' := HI.out.lt
          have NEWS : Hid (∀ j u, ([Value.int .i64 x, Value.int .i64 y] : List Value)[j]? = some u → ((wr.alloc (.cells #[.int .i64 x, .int .i64 y] 84)).alloc (.cells #[.int .i64 x, .int .i64 y] 84)).cell? ((⟨wr.heap.size + 1, 0, none⟩ : Addr).add j) = some u) := by
            show ∀ j u, ([Value.int .i64 x, Value.int .i64 y] : List Value)[j]? = some u → ((wr.alloc (.cells #[.int .i64 x, .int .i64 y] 84)).alloc (.cells #[.int .i64 x, .int .i64 y] 84)).cell? ((⟨wr.heap.size + 1, 0, none⟩ : Addr).add j) = some u
            have news := two_new (wr.alloc (.cells #[.int .i64 x, .int .i64 y] 84)) x y
            simpa using news
          try simp at hbase
          go_wp2_with (at_builtin; go_must (refine wpList_append_own _ rfl (.tmp 67) (.tmp 69) 31 rfl (X + 1) 84 i0 (.agg #[.int .i64 0, .int .i64 0]) 2 16 Tryd.underlying31 hi0 hz0 hz1 hz2 rfl (by decide) _ _ _ rfl ownA ⟨wr.heap.size + 1, 0, none⟩ 1 1 [.int .i64 x, .int .i64 y] rfl rfl NEWS.out (two_one x y) (by unfold maxLen; omega) (by omega) (by simp; omega) ?_))
          intro v' w2 hown hgrow _
          have M2 := (HI.out.below (al.out _ (.cells #[.int .i64 x, .int .i64 y] 84))).mid hgrow
          have hown' : w2.ownsRow (X + 1) 84 2 v' (m + 1) ((putF zs key val i (k + 1)).map (Value.int .i64)) := by rw [← HT.out]; simpa using hown
          obtain ⟨a2, c2, hv, _⟩ := own2_shape hown'
          rw [hv] at hown' ⊢
          have HP : Hid (LoopP w (some ⟨b, off, none⟩) n cap X (putF zs key val i (k + 1)) (m + 1) a2 c2 (w2.setCell ⟨X, 0, none⟩ (.slice a2 (m + 1) c2))) := M2.push hown'
          have mx := M2.x0
          have mf := M2.fx
          clear hown hown' hgrow hv M2 ownA NEWS hbase hlt' HI
          go_wp2
          go_roundw
          case rel => exact ⟨k + 1, false, a2, c2, m + 1, putF zs key val i (k + 1), by omega, by go_num, rfl, by omega, HP.out, by simp; omega, rfl, HT2.out.2⟩
          case measure => simp [intOf]; omega
        · obtain rfl : B = true := by rw [HY.out.1]; simp; omega
          have hgt : key < x := by have := HHIGH.out k (by omega) hlt; rw [HX.out.1] at this; exact this
          have hne : (x == key) = false := by simp; omega
          have HT2 : Hid (ys ++ [x, y] = putF zs key val i (k + 1) ∧ m + 1 = putM i (k + 1)) := by
            rw [← HX.out.1, ← HX.out.2, HY.out.2.1, HY.out.2.2]
            exact putF_high hkl.out (by omega)
          have HT : Hid (ys ++ [x, y] = putF zs key val i (k + 1)) := HT2.out.1
          have ownA := (HI.out.below (al.out _ (.cells #[.int .i64 x, .int .i64 y] 84))).own
          have hbase := HI.out.sz
          have hlt' := HI.out.lt
          have NEWS : Hid (∀ j u, ([Value.int .i64 x, Value.int .i64 y] : List Value)[j]? = some u → ((wr.alloc (.cells #[.int .i64 x, .int .i64 y] 84)).alloc (.cells #[.int .i64 x, .int .i64 y] 84)).cell? ((⟨wr.heap.size + 1, 0, none⟩ : Addr).add j) = some u) := by
            show ∀ j u, ([Value.int .i64 x, Value.int .i64 y] : List Value)[j]? = some u → ((wr.alloc (.cells #[.int .i64 x, .int .i64 y] 84)).alloc (.cells #[.int .i64 x, .int .i64 y] 84)).cell? ((⟨wr.heap.size + 1, 0, none⟩ : Addr).add j) = some u
            have news := two_new (wr.alloc (.cells #[.int .i64 x, .int .i64 y] 84)) x y
            simpa using news
          try simp at hbase
          go_wp2_with (at_builtin; go_must (refine wpList_append_own _ rfl (.tmp 67) (.tmp 69) 31 rfl (X + 1) 84 i0 (.agg #[.int .i64 0, .int .i64 0]) 2 16 Tryd.underlying31 hi0 hz0 hz1 hz2 rfl (by decide) _ _ _ rfl ownA ⟨wr.heap.size + 1, 0, none⟩ 1 1 [.int .i64 x, .int .i64 y] rfl rfl NEWS.out (two_one x y) (by unfold maxLen; omega) (by omega) (by simp; omega) ?_))
          intro v' w2 hown hgrow _
          have M2 := (HI.out.below (al.out _ (.cells #[.int .i64 x, .int .i64 y] 84))).mid hgrow
          have hown' : w2.ownsRow (X + 1) 84 2 v' (m + 1) ((putF zs key val i (k + 1)).map (Value.int .i64)) := by rw [← HT.out]; simpa using hown
          obtain ⟨a2, c2, hv, _⟩ := own2_shape hown'
          rw [hv] at hown' ⊢
          have HP : Hid (LoopP w (some ⟨b, off, none⟩) n cap X (putF zs key val i (k + 1)) (m + 1) a2 c2 (w2.setCell ⟨X, 0, none⟩ (.slice a2 (m + 1) c2))) := M2.push hown'
          have mx := M2.x0
          have mf := M2.fx
          clear hown hown' hgrow hv M2 ownA NEWS hbase hlt' HI
          go_wp2
          go_roundw
          case rel => exact ⟨k + 1, true, a2, c2, m + 1, putF zs key val i (k + 1), by omega, by go_num, rfl, by omega, HP.out, by simp; omega, rfl, HT2.out.2⟩
          case measure => simp [intOf]; omega
    · obtain rfl : k = n := by omega
      have hz := hzl.out
      by_cases hin : i < k
      · obtain rfl : B = true := by rw [HY.out.1]; simp [hin]
        have hm9 : m = k + 1 := by rw [HY.out.2.2]; unfold putM; rw [if_neg (by omega)]
        have hy9 : ys = zs.take (i * 2) ++ [key, val] ++ zs.drop (i * 2) := by
          rw [HY.out.2.1]
          unfold putF
          rw [if_neg (by omega), List.take_of_length_le (l := zs) (i := k * 2) (by omega)]
        subst hm9
        subst hy9
        have HQ : Hid (LoopP w a k cap X (zs.take (i * 2) ++ [key, val] ++ zs.drop (i * 2)) (k + 1) a' c' wr) := I
        clear I HY hmk
        by_cases h8' : k = 8
        · have hgt8 : (8 : Int) < (k : Int) + 1 := by omega
          have h8 : Hid (k = 8) := h8'
          have hn8 : Hid (8 ≤ k) := by show _ ≤ _; omega
          clear h8'
          have IL := HQ.out.loc.below (al.out _ (.cells #[] 84))
          have x9 := HQ.out.x0
          have box9 := HQ.out.loc.box
          have boxL := IL.box
          have hlt9 := HQ.out.lt
          have hsz9 := HQ.out.sz
          obtain ⟨b, off, rfl⟩ := hs.addr (by omega)
          have sAll := (hs.below IL.bel).src_whole
          have hL : Hid ((zs.map (Value.int .i64)).length = k * 2) := by show _ = _; simp; exact hzl.out
          have own0 : (wr.alloc (.cells #[] 84)).ownsRow (wr.heap.size) 84 2 (.slice (some ⟨wr.heap.size, 0, none⟩) 0 0) 0 [] := by
            have h := World.ownsRow_lit (base := wr.heap.size) (e := 84) (size := 2) wr #[] 0 (by simp) (by decide) rfl
            simpa using h
          have HIL : Hid (Loc w (some ⟨b, off, none⟩) k cap (wr.alloc (.cells #[] 84))) := IL
          try simp at hsz9
          clear IL hs
          go_wp2_with (at_builtin; go_must (refine wpList_append_own _ rfl (.tmp 86) (.tmp 88) 31 rfl (wr.heap.size) 84 i0 (.agg #[.int .i64 0, .int .i64 0]) 2 16 Tryd.underlying31 hi0 hz0 hz1 hz2 rfl (by decide) _ _ _ rfl own0 ⟨b, off, none⟩ k cap (zs.map (Value.int .i64)) rfl hL.out sAll (ints_oneCell _ _) (by unfold maxLen; omega) (by omega) (by simp) ?_))
          intro v9 w9 hown9 hgrow9 _
          have IG := HIL.out.grown hgrow9 (fun kk e => by have e2 : wr.heap.size = kk := (by cases e; rfl); omega)
          have hown' : w9.ownsRow (wr.heap.size) 84 2 v9 k (zs.map (Value.int .i64)) := by simpa using hown9
          obtain ⟨a9, c9, hv9, _⟩ := own2_shape hown'
          rw [hv9] at hown' ⊢
          have HO : Hid (w9.ownsRow (w.heap.size + 1 + 1 + 1) 84 2 (.slice a9 k c9) k (zs.map (Value.int .i64))) := own_mono hown' (by omega)
          have m0 := IG.m0
          have r0 := IG.r0
          have r1 := IG.r1
          have fm := IG.fm
          have f0 := IG.f0
          have f1 := IG.f1
          clear hown9 hown' hgrow9 hv9 HIL own0 sAll boxL x9 box9
          go_wp2
          refine bodyPost_ret (v := .tuple #[.agg #[.slice a9 k c9], .agg #[.int .i64 3, .int .i64 0]]) (by simp [results, Tryd.results37, go_sem, m0, r0, r1]) rfl ?_
          rw [← HR.out.1, ← HR.out.2.1, ← HR.out.2.2, if_pos h8.out, if_pos h8.out, if_pos h8.out]
          exact ⟨a9, c9, rfl, own_mono (own_setCell (own_setCell (own_setCell HO.out (by omega) _) (by omega) _) (by omega) _) (by omega), ((IG.bel.setCell (by show w.heap.size ≤ w.heap.size + 1; omega) _).setCell (by show w.heap.size ≤ w.heap.size + 1 + 1; omega) _).setCell (by show w.heap.size ≤ w.heap.size + 1 + 1; omega) _⟩
        · have hgt8 : ¬ (8 : Int) < (k : Int) + 1 := by omega
          have h8 : ¬ k = 8 := h8'
          clear h8'
          have m0 := HQ.out.loc.m0
          have r0 := HQ.out.loc.r0
          have r1 := HQ.out.loc.r1
          have fm := HQ.out.loc.fm
          have f0 := HQ.out.loc.f0
          have f1 := HQ.out.loc.f1
          have x9 := HQ.out.x0
          have hlt9 := HQ.out.lt
          have hX1 : ¬ X = w.heap.size + 1 := by omega
          have hX2 : ¬ X = w.heap.size + 1 + 1 := by omega
          go_wp2
          refine bodyPost_ret (v := .tuple #[.agg #[.slice a' (k + 1) c'], .agg #[.int .i64 2, .int .i64 0]]) (by simp [results, Tryd.results37, go_sem, m0, r0, r1]) rfl ?_
          rw [← HR.out.1, ← HR.out.2.1, ← HR.out.2.2, if_neg h8, if_neg h8, if_neg h8]
          exact ⟨a', c', rfl, own_mono (own_setCell (own_setCell (own_setCell HQ.out.own (by omega) _) (by omega) _) (by omega) _) (by omega), ((HQ.out.loc.bel.setCell (by show w.heap.size ≤ w.heap.size + 1; omega) _).setCell (by show w.heap.size ≤ w.heap.size + 1 + 1; omega) _).setCell (by show w.heap.size ≤ w.heap.size + 1 + 1; omega) _⟩
      · obtain rfl : B = false := by rw [HY.out.1]; simp; omega
        obtain rfl : i = k := by omega
        have hm9 : m = i := by rw [HY.out.2.2]; unfold putM; rw [if_pos (Nat.le_refl _)]
        have hy9 : ys = zs := by
          rw [HY.out.2.1]
          unfold putF
          rw [if_pos (Nat.le_refl _), List.take_of_length_le (l := zs) (i := i * 2) (by omega)]
        subst hm9
        subst hy9
        have HI : Hid (LoopP w a m cap X ys m a' c' wr) := I
        have xE := I.x0
        have HT : Hid (ys ++ [key, val] = ys.take (m * 2) ++ [key, val] ++ ys.drop (m * 2)) := by
          show _ = _
          rw [List.take_of_length_le (by omega), List.drop_of_length_le (by omega), List.append_nil]
        clear I HY hmk
        have ownA := (HI.out.below (al.out _ (.cells #[.int .i64 key, .int .i64 val] 84))).own
        have hbase := HI.out.sz
        have hlt' := HI.out.lt
        have NEWS : Hid (∀ j u, ([Value.int .i64 key, Value.int .i64 val] : List Value)[j]? = some u → (wr.alloc (.cells #[.int .i64 key, .int .i64 val] 84)).cell? ((⟨wr.heap.size, 0, none⟩ : Addr).add j) = some u) := by
          show ∀ j u, ([Value.int .i64 key, Value.int .i64 val] : List Value)[j]? = some u → (wr.alloc (.cells #[.int .i64 key, .int .i64 val] 84)).cell? ((⟨wr.heap.size, 0, none⟩ : Addr).add j) = some u
          have news := two_new wr key val
          simpa using news
        try simp at hbase
        go_wp2_with (at_builtin; go_must (refine wpList_append_own _ rfl (.tmp 75) (.tmp 79) 31 rfl (X + 1) 84 i0 (.agg #[.int .i64 0, .int .i64 0]) 2 16 Tryd.underlying31 hi0 hz0 hz1 hz2 rfl (by decide) _ _ _ rfl ownA ⟨wr.heap.size, 0, none⟩ 1 1 [.int .i64 key, .int .i64 val] rfl rfl NEWS.out (two_one key val) (by unfold maxLen; omega) (by omega) (by simp; omega) ?_))
        intro v' w2 hown hgrow _
        have M2 := (HI.out.below (al.out _ (.cells #[.int .i64 key, .int .i64 val] 84))).mid hgrow
        have hown' : w2.ownsRow (X + 1) 84 2 v' (m + 1) ((ys.take (m * 2) ++ [key, val] ++ ys.drop (m * 2)).map (Value.int .i64)) := by rw [← HT.out]; simpa using hown
        obtain ⟨a2, c2, hv, _⟩ := own2_shape hown'
        rw [hv] at hown' ⊢
        have HP : Hid (LoopP w a m cap X (ys.take (m * 2) ++ [key, val] ++ ys.drop (m * 2)) (m + 1) a2 c2 (w2.setCell ⟨X, 0, none⟩ (.slice a2 (m + 1) c2))) := M2.push hown'
        have mx := M2.x0
        have mf := M2.fx
        clear hown hown' hgrow hv M2 ownA NEWS hbase hlt' HI
        have HQ : Hid (LoopP w a m cap X (ys.take (m * 2) ++ [key, val] ++ ys.drop (m * 2)) (m + 1) a2 c2 (w2.setCell ⟨X, 0, none⟩ (.slice a2 (m + 1) c2))) := HP
        clear HP HT xE
        by_cases h8' : m = 8
        · have hgt8 : (8 : Int) < (m : Int) + 1 := by omega
          have h8 : Hid (m = 8) := h8'
          have hn8 : Hid (8 ≤ m) := by show _ ≤ _; omega
          clear h8'
          have IL := HQ.out.loc.below (al.out _ (.cells #[] 84))
          have x9 := HQ.out.x0
          have box9 := HQ.out.loc.box
          have boxL := IL.box
          have hlt9 := HQ.out.lt
          have hsz9 := HQ.out.sz
          obtain ⟨b, off, rfl⟩ := hs.addr (by omega)
          have sAll := (hs.below IL.bel).src_whole
          have hL : Hid ((ys.map (Value.int .i64)).length = m * 2) := by show _ = _; simp; exact hzl.out
          have own0 : ((w2.setCell ⟨X, 0, none⟩ (.slice a2 (m + 1) c2)).alloc (.cells #[] 84)).ownsRow (w2.heap.size) 84 2 (.slice (some ⟨w2.heap.size, 0, none⟩) 0 0) 0 [] := by
            have h := World.ownsRow_lit (base := w2.heap.size) (e := 84) (size := 2) (w2.setCell ⟨X, 0, none⟩ (.slice a2 (m + 1) c2)) #[] 0 (by simp) (by decide) rfl
            simpa using h
          have HIL : Hid (Loc w (some ⟨b, off, none⟩) m cap ((w2.setCell ⟨X, 0, none⟩ (.slice a2 (m + 1) c2)).alloc (.cells #[] 84))) := IL
          try simp at hsz9
          clear IL hs
          go_wp2_with (at_builtin; go_must (refine wpList_append_own _ rfl (.tmp 86) (.tmp 88) 31 rfl (w2.heap.size) 84 i0 (.agg #[.int .i64 0, .int .i64 0]) 2 16 Tryd.underlying31 hi0 hz0 hz1 hz2 rfl (by decide) _ _ _ rfl own0 ⟨b, off, none⟩ m cap (ys.map (Value.int .i64)) rfl hL.out sAll (ints_oneCell _ _) (by unfold maxLen; omega) (by omega) (by simp) ?_))
          intro v9 w9 hown9 hgrow9 _
          have IG := HIL.out.grown hgrow9 (fun kk e => by have e2 : w2.heap.size = kk := (by cases e; rfl); omega)
          have hown' : w9.ownsRow (w2.heap.size) 84 2 v9 m (ys.map (Value.int .i64)) := by simpa using hown9
          obtain ⟨a9, c9, hv9, _⟩ := own2_shape hown'
          rw [hv9] at hown' ⊢
          have HO : Hid (w9.ownsRow (w.heap.size + 1 + 1 + 1) 84 2 (.slice a9 m c9) m (ys.map (Value.int .i64))) := own_mono hown' (by omega)
          have m0 := IG.m0
          have r0 := IG.r0
          have r1 := IG.r1
          have fm := IG.fm
          have f0 := IG.f0
          have f1 := IG.f1
          clear hown9 hown' hgrow9 hv9 HIL own0 sAll boxL x9 box9
          go_wp2
          refine bodyPost_ret (v := .tuple #[.agg #[.slice a9 m c9], .agg #[.int .i64 3, .int .i64 0]]) (by simp [results, Tryd.results37, go_sem, m0, r0, r1]) rfl ?_
          rw [← HR.out.1, ← HR.out.2.1, ← HR.out.2.2, if_pos h8.out, if_pos h8.out, if_pos h8.out]
          exact ⟨a9, c9, rfl, own_mono (own_setCell (own_setCell (own_setCell HO.out (by omega) _) (by omega) _) (by omega) _) (by omega), ((IG.bel.setCell (by show w.heap.size ≤ w.heap.size + 1; omega) _).setCell (by show w.heap.size ≤ w.heap.size + 1 + 1; omega) _).setCell (by show w.heap.size ≤ w.heap.size + 1 + 1; omega) _⟩
        · have hgt8 : ¬ (8 : Int) < (m : Int) + 1 := by omega
          have h8 : ¬ m = 8 := h8'
          clear h8'
          have m0 := HQ.out.loc.m0
          have r0 := HQ.out.loc.r0
          have r1 := HQ.out.loc.r1
          have fm := HQ.out.loc.fm
          have f0 := HQ.out.loc.f0
          have f1 := HQ.out.loc.f1
          have x9 := HQ.out.x0
          have hlt9 := HQ.out.lt
          have hX1 : ¬ X = w.heap.size + 1 := by omega
          have hX2 : ¬ X = w.heap.size + 1 + 1 := by omega
          go_wp2
          refine bodyPost_ret (v := .tuple #[.agg #[.slice a2 (m + 1) c2], .agg #[.int .i64 2, .int .i64 0]]) (by simp [results, Tryd.results37, go_sem, m0, r0, r1]) rfl ?_
          rw [← HR.out.1, ← HR.out.2.1, ← HR.out.2.2, if_neg h8, if_neg h8, if_neg h8]
          exact ⟨a2, c2, rfl, own_mono (own_setCell (own_setCell (own_setCell HQ.out.own (by omega) _) (by omega) _) (by omega) _) (by omega), ((HQ.out.loc.bel.setCell (by show w.heap.size ≤ w.heap.size + 1; omega) _).setCell (by show w.heap.size ≤ w.heap.size + 1 + 1; omega) _).setCell (by show w.heap.size ≤ w.heap.size + 1 + 1; omega) _⟩

theorem specMapPut_any (a : Option Addr) (n : Nat) (zs : List Int) (key val : Int) (w : World) (hs : SInts w a (n * 2) zs) (hn : n ≤ 1048576) :
    Calls Tryd.prog 37 #[.agg #[.slice a n n], .int .i64 key, .int .i64 val] w fun e w' => MapRes (ptL zs n key val) (ptN zs n key val) (ptC zs n key val) 0 e w w' := by
  cases hok : ptOk zs n key val
  · have e1 : ptL zs n key val = [] := by simp [ptL, hok]
    have e2 : ptN zs n key val = 0 := by simp [ptN, hok]
    have e3 : ptC zs n key val = 0 := by simp [ptC, hok]
    rw [e1, e2, e3]
    exact specMapPut_bad a n n zs key val w hs (by omega) hok
  · obtain ⟨h1, h2, h3⟩ := ptOk_parts hok
    obtain ⟨h8, _, hup⟩ := okM_parts h1
    have hupM : upM zs n = true := upM_yes hup
    have hrise := up_lt hup
    have hI : entI zs n key = fIdx (fun i => geK key (keyAt zs i)) n := by simp [entI, hupM]
    obtain ⟨hlow0, hat0⟩ := fIdx_spec (fun i => geK key (keyAt zs i)) n
    rw [← hI] at hlow0 hat0
    have hlow : ∀ j, j < entI zs n key → keyAt zs j < key := by
      intro j hj
      have := hlow0 j hj
      simp [geK] at this
      exact this
    cases hE : entB zs n key
    · have hhigh : ∀ j, entI zs n key ≤ j → j < n → key < keyAt zs j := by
        intro j hj hjn
        have hlt : entI zs n key < n := by omega
        have h4 := hat0 hlt
        simp [geK] at h4
        have h5 : ¬ keyAt zs (entI zs n key) = key := by
          simp only [entB, hlt, decide_true, Bool.true_and] at hE
          simpa using hE
        by_cases e : j = entI zs n key
        · subst e; omega
        · have := hrise j (entI zs n key) (by omega) hjn
          omega
      have h := specMapPut_loop a n n zs key val (entI zs n key) w hs h8 h1 h2 h3 (entI_le zs n key) hlow hhigh
      have e1 : ptL zs n key val = if n = 8 then zs else zs.take (entI zs n key * 2) ++ [key, val] ++ zs.drop (entI zs n key * 2) := by simp [ptL, hok, hE]
      have e2 : ptN zs n key val = if n = 8 then n else n + 1 := by simp [ptN, hok, hE]
      have e3 : ptC zs n key val = if n = 8 then 3 else 2 := by simp [ptC, hok, hE]
      rw [e1, e2, e3]
      exact h
    · have e1 : ptL zs n key val = zs := by simp [ptL, hok, hE]
      have e2 : ptN zs n key val = n := by simp [ptN, hok, hE]
      have e3 : ptC zs n key val = 1 := by simp [ptC, hok, hE]
      rw [e1, e2, e3]
      simp only [entB, Bool.and_eq_true, decide_eq_true_eq] at hE
      exact specMapPut_there a n n zs key val (entI zs n key) w hs h8 h1 h2 h3 hE.1 hlow (by simpa using hE.2)

end Go.Proofs.YtklpdpdjblakgaaDoor

/- PutC -/
namespace Go.Proofs.YtklpdpdjblakgaaDoor
open Go.RowKit
set_option linter.unusedVariables false

theorem specMapPut_cap (a : Option Addr) (n cap : Nat) (zs : List Int) (key val : Int) (w : World) (hs : SInts w a (n * 2) zs) (hn : n ≤ 1048576) :
    Calls Tryd.prog 37 #[.agg #[.slice a n cap], .int .i64 key, .int .i64 val] w fun e w' => MapRes (ptL zs n key val) (ptN zs n key val) (ptC zs n key val) 0 e w w' := by
  cases hok : ptOk zs n key val
  · have e1 : ptL zs n key val = [] := by simp [ptL, hok]
    have e2 : ptN zs n key val = 0 := by simp [ptN, hok]
    have e3 : ptC zs n key val = 0 := by simp [ptC, hok]
    rw [e1, e2, e3]
    exact specMapPut_bad a n cap zs key val w hs (by omega) hok
  · obtain ⟨h1, h2, h3⟩ := ptOk_parts hok
    obtain ⟨h8, _, hup⟩ := okM_parts h1
    have hupM : upM zs n = true := upM_yes hup
    have hrise := up_lt hup
    have hI : entI zs n key = fIdx (fun i => geK key (keyAt zs i)) n := by simp [entI, hupM]
    obtain ⟨hlow0, hat0⟩ := fIdx_spec (fun i => geK key (keyAt zs i)) n
    rw [← hI] at hlow0 hat0
    have hlow : ∀ j, j < entI zs n key → keyAt zs j < key := by
      intro j hj
      have := hlow0 j hj
      simp [geK] at this
      exact this
    cases hE : entB zs n key
    · have hhigh : ∀ j, entI zs n key ≤ j → j < n → key < keyAt zs j := by
        intro j hj hjn
        have hlt : entI zs n key < n := by omega
        have h4 := hat0 hlt
        simp [geK] at h4
        have h5 : ¬ keyAt zs (entI zs n key) = key := by
          simp only [entB, hlt, decide_true, Bool.true_and] at hE
          simpa using hE
        by_cases e : j = entI zs n key
        · subst e; omega
        · have := hrise j (entI zs n key) (by omega) hjn
          omega
      have h := specMapPut_loop a n cap zs key val (entI zs n key) w hs h8 h1 h2 h3 (entI_le zs n key) hlow hhigh
      have e1 : ptL zs n key val = if n = 8 then zs else zs.take (entI zs n key * 2) ++ [key, val] ++ zs.drop (entI zs n key * 2) := by simp [ptL, hok, hE]
      have e2 : ptN zs n key val = if n = 8 then n else n + 1 := by simp [ptN, hok, hE]
      have e3 : ptC zs n key val = if n = 8 then 3 else 2 := by simp [ptC, hok, hE]
      rw [e1, e2, e3]
      exact h
    · have e1 : ptL zs n key val = zs := by simp [ptL, hok, hE]
      have e2 : ptN zs n key val = n := by simp [ptN, hok, hE]
      have e3 : ptC zs n key val = 1 := by simp [ptC, hok, hE]
      rw [e1, e2, e3]
      simp only [entB, Bool.and_eq_true, decide_eq_true_eq] at hE
      exact specMapPut_there a n cap zs key val (entI zs n key) w hs h8 h1 h2 h3 hE.1 hlow (by simpa using hE.2)

end Go.Proofs.YtklpdpdjblakgaaDoor

/- SpecDel -/
namespace Go.Proofs.YtklpdpdjblakgaaDoor
open Go.RowKit
set_option linter.unusedVariables false

/-- An append onto a row of one's own, as one step of a region that draws. -/
theorem step_append_mine {P : Program} {ops : Array Oper} {o : Oper} {a : Act} {w : World} {K : Act → World → Prop} {Q : Exit → Act → World → Prop} {E : Prop}
    (hg : o.guard = none) (s x : Operand) (t : TypeId) (hop : o.op = Op.call { callee := Callee.builtin Builtin.append, args := #[s, x], argTypes := #[t, t] })
    (base : Nat) (e : TypeId) (i : TypeInfo) (z : Value) (size bytes : Nat) (h1 : P.underlying t = some (.slice e)) (h2 : P.info? e = some i) (h3 : i.zero = some z) (h4 : i.size = size) (h5 : i.bytes = bytes) (h6 : z.cells.size = size) (h7 : 0 < size)
    (v : Value) (n : Nat) (xs : List Value) (hs : a.eval s = v) (hown : w.ownsRow base e size v n xs)
    (ad : Addr) (m c : Nat) (news : List Value) (hx : a.eval x = .slice (some ad) m c) (hn : news.length = m * size) (hc : ∀ j u, news[j]? = some u → w.cell? (ad.add j) = some u) (h1c : ∀ u ∈ news, u.oneCell' = true)
    (b1 : n + m ≤ maxLen) (b2 : (n + m) * bytes ≤ 140737488355328) (hbase : base ≤ w.heap.size)
    (hK : ∀ v' w', w'.ownsRow base e size v' (n + m) (xs ++ news) → w.grownBy w' v.ownBlock → K (a.put o.dst v') w') :
    if Region.wanted o (yielded ops a.tmps) = true then Oper.wp P o a w K Q else E := by
  have hw : Region.wanted o (yielded ops a.tmps) = true := by simp [Region.wanted, hg]
  rw [if_pos hw]
  obtain ⟨v', w', hrun, r1, r2, _⟩ := run_append_own (P := P) w base t o.type e i z size bytes h1 h2 h3 h4 h5 h6 h7 v n xs hown ad m c news hn hc h1c b1 b2 hbase
  unfold Oper.wp
  simp [execOp, hop, resolve, invoke, builtin, hs, hx, hrun, Result.andThen]
  exact hK v' w' r1 r2

/-- What the loop has gathered of the first k entries: the others' numbers, how many they are, the code and the value. -/
def delF (zs : List Int) (key : Int) : Nat → List Int × Nat × Int × Int
  | 0 => ([], 0, 1, 0)
  | k + 1 => if keyAt zs k == key then ((delF zs key k).1, (delF zs key k).2.1, 2, valAt zs k) else ((delF zs key k).1 ++ [keyAt zs k, valAt zs k], (delF zs key k).2.1 + 1, (delF zs key k).2.2.1, (delF zs key k).2.2.2)

theorem delF_le (zs : List Int) (key : Int) (k : Nat) : (delF zs key k).2.1 ≤ k := by
  induction k with
  | zero => simp [delF]
  | succ k ih => unfold delF; split <;> simp <;> omega

set_option maxRecDepth 20000 in
set_option maxHeartbeats 1000000 in
theorem specMapDel_bad (a : Option Addr) (n cap : Nat) (zs : List Int) (key : Int) (w : World) (hs : SInts w a (n * 2) zs) (hn : n ≤ 9223372036854775807) (hok : okM zs n = false) :
    Calls Tryd.prog 38 #[.agg #[.slice a n cap], .int .i64 key] w fun e w' => MapRes [] 0 0 0 e w w' := by
  have I0 := loc_start w a n cap
  go_enter Tryd.func38, Tryd.ntmps38
  go_wp2_with fail
  refine (specMapOk_any _ _ _ zs _ (hs.below I0.bel) hn).mono ?_
  rintro e w1 ⟨rfl, hb1⟩
  have I1 := I0.below hb1
  have m0 := I1.m0
  have r0 := I1.r0
  have r1 := I1.r1
  have fm := I1.fm
  have f0 := I1.f0
  have f1 := I1.f1
  clear hb1 I0 hs
  rw [hok]
  go_wp2
  exact bodyPost_ret (v := .tuple #[.agg #[.slice none 0 0], .agg #[.int .i64 0, .int .i64 0]]) (by simp [results, Tryd.results38, go_sem, m0, r0, r1]) rfl ⟨none, 0, rfl, World.ownsRow_nil _ _ _ _, ((I1.bel.setCell (by show w.heap.size ≤ w.heap.size + 1; omega) _).setCell (by show w.heap.size ≤ w.heap.size + 1 + 1; omega) _).setCell (by show w.heap.size ≤ w.heap.size + 1 + 1; omega) _⟩

/-- The blocks of MapDel's loop: the map that grows, and the answer. -/
structure LoopD (w : World) (a : Option Addr) (n cap X : Nat) (ys : List Int) (m : Nat) (C V : Int) (a' : Option Addr) (c' : Nat) (W : World) : Prop where
  loc : Loc w a n cap W
  lt : w.heap.size + 1 + 1 < X
  sz : X + 1 < W.heap.size
  x0 : W.cell? ⟨X, 0, none⟩ = some (.slice a' m c')
  fx : W.frozen? ⟨X, 0, none⟩ = false
  c0 : W.cell? ⟨X + 1, 0, none⟩ = some (.int .i64 C)
  c1 : W.cell? ⟨X + 1, 1, none⟩ = some (.int .i64 V)
  g0 : W.frozen? ⟨X + 1, 0, none⟩ = false
  g1 : W.frozen? ⟨X + 1, 1, none⟩ = false
  own : W.ownsRow (X + 1 + 1) 84 2 (.slice a' m c') m (ys.map (Value.int .i64))

theorem loopD_start {w W : World} {a : Option Addr} {n cap : Nat} (h : Loc w a n cap W) : LoopD w a n cap W.heap.size [] 0 1 0 none 0 ((W.alloc (.cells #[.slice none 0 0] 33)).alloc (.cells #[.int .i64 1, .int .i64 0] 37)) := by
  have al : ∀ (W : World) (o : Obj), Below W.heap.size W (W.alloc o) := fun W o => (Below.refl _ _).alloc (Nat.le_refl _) o
  exact
    { loc := (h.below (al _ _)).below (al _ _), lt := h.sz, sz := by simp, x0 := cell_kept (al _ _) (cell_at W _ _ 0 rfl rfl), fx := frozen_kept (al _ _) (by simp) (frozen_at W _ _ 0 rfl),
      c0 := cell_at (W.alloc _) _ _ 0 (by simp) rfl, c1 := cell_at (W.alloc _) _ _ 1 (by simp) rfl, g0 := frozen_at (W.alloc _) _ _ 0 (by simp), g1 := frozen_at (W.alloc _) _ _ 1 (by simp), own := World.ownsRow_nil _ _ _ _ }



section
variable {w : World} {a : Option Addr} {n cap X : Nat} {ys : List Int} {m : Nat} {C V : Int} {a' : Option Addr} {c' : Nat} {W : World}

theorem LoopD.hit (h : LoopD w a n cap X ys m C V a' c' W) (y : Int) : LoopD w a n cap X ys m 2 y a' c' ((W.setCell ⟨X + 1, 0, none⟩ (.int .i64 2)).setCell ⟨X + 1, 1, none⟩ (.int .i64 y)) := by
  have hx := h.lt
  exact
    { loc := (h.loc.set (by show _ < X + 1; omega) _).set (by show _ < X + 1; omega) _, lt := h.lt, sz := by simpa using h.sz, x0 := cell_other _ (by show X ≠ X + 1; omega) (cell_other _ (by show X ≠ X + 1; omega) h.x0),
      fx := frozen_other _ (by show X ≠ X + 1; omega) (frozen_other _ (by show X ≠ X + 1; omega) h.fx), c0 := (World.cell?_setCell_other _ _ _ _ (by simp)).trans (World.cell?_setCell_same _ _ _ h.c0), c1 := World.cell?_setCell_same _ _ _ ((World.cell?_setCell_other _ _ _ _ (by simp)).trans h.c1),
      g0 := by rw [World.frozen?_setCell, World.frozen?_setCell]; exact h.g0, g1 := by rw [World.frozen?_setCell, World.frozen?_setCell]; exact h.g1, own := own_setCell (own_setCell h.own (by omega) _) (by omega) _ }

/-- What stands behind the append: all blocks up to X + 1 are as they were. -/
structure MidD (w : World) (a : Option Addr) (n cap X : Nat) (C V : Int) (v : Value) (w1 : World) : Prop where
  loc : Loc w a n cap w1
  lt : w.heap.size + 1 + 1 < X
  sz : X + 1 < w1.heap.size
  x0 : w1.cell? ⟨X, 0, none⟩ = some v
  fx : w1.frozen? ⟨X, 0, none⟩ = false
  c0 : w1.cell? ⟨X + 1, 0, none⟩ = some (.int .i64 C)
  c1 : w1.cell? ⟨X + 1, 1, none⟩ = some (.int .i64 V)
  g0 : w1.frozen? ⟨X + 1, 0, none⟩ = false
  g1 : w1.frozen? ⟨X + 1, 1, none⟩ = false

theorem LoopD.mid (h : LoopD w a n cap X ys m C V a' c' W) {o : Obj} {w1 : World} (hg : (W.alloc o).drew.grownBy w1 (Value.ownBlock (.slice a' m c'))) : MidD w a n cap X C V (.slice a' m c') w1 := by
  have al : Below W.heap.size W (W.alloc o).drew := ((Below.refl _ _).alloc (Nat.le_refl _) o).drew
  have hlow : ∀ b, b ≤ X + 1 → w1.heap[b]? = W.heap[b]? := by
    intro b hb
    have hs := h.sz
    rw [hg.block b (by simp; omega) (fun e => by have := (h.own.lt _ e.symm).1; omega)]
    exact al.block b (by omega)
  have hc : ∀ b o, b ≤ X + 1 → w1.cell? ⟨b, o, none⟩ = W.cell? ⟨b, o, none⟩ := fun b o hb => World.cell?_of_block (w := W) (a := ⟨b, o, none⟩) (hlow b hb)
  have hf : ∀ b o, b ≤ X + 1 → w1.frozen? ⟨b, o, none⟩ = W.frozen? ⟨b, o, none⟩ := fun b o hb => World.frozen?_of_block (w := W) (a := ⟨b, o, none⟩) (hlow b hb)
  have hl := h.lt
  have hsz1 := hg.size
  simp at hsz1
  have hL := h.loc
  have hbel : Below w.heap.size w w1 := (hL.bel.trans (al.mono hL.bel.size)).grown hg (by simp; have := hL.bel.size; omega) (fun k e => by have := (h.own.lt _ e).1; omega)
  exact
    { loc := { bel := hbel, sz := by have := hL.sz; omega, box := (hc _ _ (by omega)).trans hL.box, m0 := (hc _ _ (by omega)).trans hL.m0, r0 := (hc _ _ (by omega)).trans hL.r0, r1 := (hc _ _ (by omega)).trans hL.r1, fm := (hf _ _ (by omega)).trans hL.fm, f0 := (hf _ _ (by omega)).trans hL.f0, f1 := (hf _ _ (by omega)).trans hL.f1 },
      lt := hl, sz := by have := h.sz; omega, x0 := (hc _ _ (by omega)).trans h.x0, fx := (hf _ _ (by omega)).trans h.fx, c0 := (hc _ _ (by omega)).trans h.c0, c1 := (hc _ _ (by omega)).trans h.c1, g0 := (hf _ _ (by omega)).trans h.g0, g1 := (hf _ _ (by omega)).trans h.g1 }

theorem MidD.push {v : Value} {w1 : World} (h : MidD w a n cap X C V v w1) {a2 : Option Addr} {m2 c2 : Nat} {ys2 : List Int} (ho : w1.ownsRow (X + 1 + 1) 84 2 (.slice a2 m2 c2) m2 (ys2.map (Value.int .i64))) :
    LoopD w a n cap X ys2 m2 C V a2 c2 (w1.setCell ⟨X, 0, none⟩ (.slice a2 m2 c2)) := by
  have hl := h.lt
  exact
    { loc := h.loc.set (by show _ < X; omega) _, lt := h.lt, sz := by simpa using h.sz, x0 := World.cell?_setCell_same _ _ _ h.x0, fx := by rw [World.frozen?_setCell]; exact h.fx,
      c0 := cell_other _ (by show X + 1 ≠ X; omega) h.c0, c1 := cell_other _ (by show X + 1 ≠ X; omega) h.c1, g0 := frozen_other _ (by show X + 1 ≠ X; omega) h.g0, g1 := frozen_other _ (by show X + 1 ≠ X; omega) h.g1, own := own_setCell ho (by omega) _ }

end

set_option maxRecDepth 20000 in
set_option maxHeartbeats 4000000 in
theorem specMapDel_loop (a : Option Addr) (n cap : Nat) (zs : List Int) (key : Int) (w : World) (hs : SInts w a (n * 2) zs) (hn : n ≤ 8) (hok : okM zs n = true) :
    Calls Tryd.prog 38 #[.agg #[.slice a n cap], .int .i64 key] w fun e w' => MapRes (delF zs key n).1 (delF zs key n).2.1 (delF zs key n).2.2.1 (delF zs key n).2.2.2 e w w' := by
  have I0 := loc_start w a n cap
  obtain ⟨i0, hi, hz0, hz1, hz2⟩ := info_parts Tryd.info84
  go_enter Tryd.func38, Tryd.ntmps38
  go_wp2_with fail
  refine (specMapOk_any _ _ _ zs _ (hs.below I0.bel) (by omega)).mono ?_
  rintro e w1 ⟨rfl, hb1⟩
  have I1 := loopD_start (I0.below hb1)
  clear hb1 I0
  rw [hok]
  go_wp2
  generalize w1.heap.size = X at I1 ⊢
  generalize ((w1.alloc (.cells #[.slice none 0 0] 33)).alloc (.cells #[.int .i64 1, .int .i64 0] 37)) = W1 at I1 ⊢
  go_loopw [8] (fun i wr => ∃ (k : Nat) (a' : Option Addr) (c' : Nat), k ≤ n ∧ i = .int .i64 k ∧ LoopD w a n cap X (delF zs key k).1 (delF zs key k).2.1 (delF zs key k).2.2.1 (delF zs key k).2.2.2 a' c' wr) (fun i _ => n - (intOf i).toNat)
  case atStart => exact ⟨0, none, 0, Nat.zero_le _, rfl, I1⟩
  case round =>
    obtain ⟨k, a', c', hk, rfl, I⟩ := hrel
    have hle := delF_le zs key k
    have HF : Hid (delF zs key (k + 1) = if keyAt zs k == key then ((delF zs key k).1, (delF zs key k).2.1, 2, valAt zs k) else ((delF zs key k).1 ++ [keyAt zs k, valAt zs k], (delF zs key k).2.1 + 1, (delF zs key k).2.2.1, (delF zs key k).2.2.2)) := rfl
    obtain ⟨ys, hys⟩ : ∃ ys, (delF zs key k).1 = ys := ⟨_, rfl⟩
    obtain ⟨m, hmm⟩ : ∃ m, (delF zs key k).2.1 = m := ⟨_, rfl⟩
    obtain ⟨C, hCC⟩ : ∃ C, (delF zs key k).2.2.1 = C := ⟨_, rfl⟩
    obtain ⟨V, hVV⟩ : ∃ V, (delF zs key k).2.2.2 = V := ⟨_, rfl⟩
    rw [hys, hmm, hCC, hVV] at I HF
    rw [hmm] at hle
    have HE : Hid ((delF zs key k).1 = ys ∧ (delF zs key k).2.1 = m ∧ (delF zs key k).2.2.1 = C ∧ (delF zs key k).2.2.2 = V) := ⟨hys, hmm, hCC, hVV⟩
    clear hys hmm hCC hVV
    have box := I.loc.box
    by_cases hlt : k < n
    · obtain ⟨b, off, rfl⟩ := hs.addr (by omega)
      obtain ⟨x, hx⟩ : ∃ x, keyAt zs k = x := ⟨_, rfl⟩
      obtain ⟨y, hy⟩ : ∃ y, valAt zs k = y := ⟨_, rfl⟩
      rw [hx, hy] at HF
      have h1 := (hs.below I.loc.bel).keyCell hlt
      have h2 := (hs.below I.loc.bel).valCell hlt
      rw [hx] at h1
      rw [hy] at h2
      clear hx hy hs I1
      cases hp : (x == key)
      · rw [hp] at HF
        have HF' : Hid (delF zs key (k + 1) = (ys ++ [x, y], m + 1, C, V)) := HF.out
        clear HF
        have x0 := I.x0
        have al : Below wr.heap.size wr (wr.alloc (.cells #[.int .i64 x, .int .i64 y] 84)) := (Below.refl _ _).alloc (Nat.le_refl _) _
        have x0' := cell_kept al x0
        have box' := cell_kept al box
        have h1' := cell_kept al h1
        have h2' := cell_kept al h2
        have hownA : ((wr.alloc (.cells #[.int .i64 x, .int .i64 y] 84)).drew).ownsRow (X + 1 + 1) 84 2 (.slice a' m c') m (ys.map (Value.int .i64)) := (I.own.alloc _).drew
        have HI : Hid (LoopD w (some ⟨b, off, none⟩) n cap X ys m C V a' c' wr) := I
        have hsz := I.sz
        have hnews : Hid (∀ j u, ([Value.int .i64 x, Value.int .i64 y] : List Value)[j]? = some u → (wr.alloc (.cells #[.int .i64 x, .int .i64 y] 84)).drew.cell? ((⟨wr.heap.size, 0, none⟩ : Addr).add j) = some u) := by
          intro j u hj
          match j, hj with
          | 0, hj => simp at hj; subst hj; simp [Addr.add]
          | 1, hj => simp at hj; subst hj; simp [Addr.add]
        clear I al
        go_wp2
        go_region_law (refine step_append_mine rfl (.tmp 39) (.tmp 45) 31 rfl (X + 1 + 1) 84 i0 (.agg #[.int .i64 0, .int .i64 0]) 2 16 Tryd.underlying31 hi hz0 hz1 hz2 rfl (by decide) (.slice a' m c') m (ys.map (Value.int .i64)) rfl hownA ⟨wr.heap.size, 0, none⟩ 1 1 [.int .i64 x, .int .i64 y] rfl rfl hnews.out (by intro u hu; simp at hu; rcases hu with rfl | rfl <;> rfl) (by unfold maxLen; omega) (by omega) (by simp; omega) ?_; intro v' w2 hown hgrow; have M2 := HI.out.mid hgrow; have mx := M2.x0; have mf := M2.fx; have HM2 : Hid (MidD w (some ⟨b, off, none⟩) n cap X C V (.slice a' m c') w2) := M2; obtain ⟨a2, c2, hv, _⟩ := own2_shape (zs := ys ++ [x, y]) (by simpa using hown); rw [hv] at hown ⊢; have HO2 : Hid (w2.ownsRow (X + 1 + 1) 84 2 (.slice a2 (m + 1) c2) (m + 1) ((ys ++ [x, y]).map (Value.int .i64))) := (show w2.ownsRow (X + 1 + 1) 84 2 (.slice a2 (m + 1) c2) (m + 1) ((ys ++ [x, y]).map (Value.int .i64)) by simpa using hown); clear hown hgrow M2 hv)
        all_goals
          go_wp2
          go_roundw
          case rel => exact ⟨k + 1, a2, c2, by omega, by go_num, by rw [HF'.out]; exact HM2.out.push HO2.out⟩
          case measure => simp [intOf]; omega
      · rw [hp] at HF
        have HF' : Hid (delF zs key (k + 1) = (ys, m, 2, y)) := HF.out
        clear HF
        have k0 := I.c0
        have k1 := I.c1
        have g0 := I.g0
        have g1 := I.g1
        have HI : Hid (LoopD w (some ⟨b, off, none⟩) n cap X ys m C V a' c' wr) := I
        clear I
        go_wp2
        go_roundw
        case rel => exact ⟨k + 1, a', c', by omega, by go_num, by rw [HF'.out]; exact HI.out.hit y⟩
        case measure => simp [intOf]; omega
    · obtain rfl : k = n := by omega
      have x0 := I.x0
      have k0 := I.c0
      have k1 := I.c1
      have m0 := I.loc.m0
      have r0 := I.loc.r0
      have r1 := I.loc.r1
      have fm := I.loc.fm
      have f0 := I.loc.f0
      have f1 := I.loc.f1
      have hlt1 := I.lt
      have hX1 : ¬ X = w.heap.size + 1 := by omega
      have hX2 : ¬ X = w.heap.size + 1 + 1 := by omega
      have hX3 : ¬ X + 1 = w.heap.size + 1 := by omega
      have hX4 : ¬ X + 1 = w.heap.size + 1 + 1 := by omega
      have HI : Hid (LoopD w a k cap X ys m C V a' c' wr) := I
      clear hs I1 HF I
      go_wp2
      go_region
      all_goals
        go_wp2
        refine bodyPost_ret (v := .tuple #[.agg #[.slice a' m c'], .agg #[.int .i64 C, .int .i64 V]]) (by simp [results, Tryd.results38, go_sem, m0, r0, r1]) rfl ?_
        rw [HE.out.1, HE.out.2.1, HE.out.2.2.1, HE.out.2.2.2]
        exact ⟨a', c', rfl, own_mono (own_setCell (own_setCell (own_setCell HI.out.own (by omega) _) (by omega) _) (by omega) _) (by omega), (((HI.out.loc.bel.drew).setCell (by show w.heap.size ≤ w.heap.size + 1; omega) _).setCell (by show w.heap.size ≤ w.heap.size + 1 + 1; omega) _).setCell (by show w.heap.size ≤ w.heap.size + 1 + 1; omega) _⟩



theorem delF_miss (zs : List Int) (key : Int) (k : Nat) (hl : k * 2 ≤ zs.length) (h : ∀ j, j < k → (keyAt zs j == key) = false) : delF zs key k = (zs.take (k * 2), k, 1, 0) := by
  induction k with
  | zero => simp [delF]
  | succ k ih =>
    have := ih (by omega) (fun j hj => h j (by omega))
    simp only [delF, h k (by omega), this]
    rw [take_two zs k (by omega)]
    simp

theorem delF_hit (zs : List Int) (key : Int) (i k : Nat) (hi : i < k) (hl : k * 2 ≤ zs.length) (hk : (keyAt zs i == key) = true) (h : ∀ j, j < k → j ≠ i → (keyAt zs j == key) = false) :
    delF zs key k = (zs.take (i * 2) ++ (zs.take (k * 2)).drop ((i + 1) * 2), k - 1, 2, valAt zs i) := by
  induction k with
  | zero => omega
  | succ k ih =>
    by_cases e : i = k
    · subst e
      have := delF_miss zs key i (by omega) (fun j hj => h j (by omega) (by omega))
      simp only [delF, hk, this]
      simp
    · have := ih (by omega) (by omega) (fun j hj hne => h j (by omega) hne)
      simp only [delF, h k (by omega) (by omega), this]
      rw [← take_two zs k (by omega), List.drop_append_of_le_length (by simp; omega)]
      simp
      omega

theorem delF_all {zs : List Int} {n : Nat} (key : Int) (hl : zs.length = n * 2) (hok : okM zs n = true) : delF zs key n = (delL zs n key, delN zs n key, delC zs n key, delV zs n key) := by
  obtain ⟨_, _, hup⟩ := okM_parts hok
  have hrise := up_lt hup
  have hupM : upM zs n = true := upM_yes hup
  have hI : entI zs n key = fIdx (fun i => geK key (keyAt zs i)) n := by simp [entI, hupM]
  obtain ⟨hlow, hat⟩ := fIdx_spec (fun i => geK key (keyAt zs i)) n
  rw [← hI] at hlow hat
  have hne : ∀ j, j < n → j ≠ entI zs n key → (keyAt zs j == key) = false := by
    intro j hj hji
    by_cases h : j < entI zs n key
    · have h1 := hlow j h
      simp [geK] at h1
      simp
      omega
    · have h2 : entI zs n key < n := by omega
      have h3 := hat h2
      simp [geK] at h3
      have h4 := hrise j (entI zs n key) (by omega) hj
      simp
      omega
  cases hE : entB zs n key
  · have hmiss : ∀ j, j < n → (keyAt zs j == key) = false := by
      intro j hj
      by_cases h : j = entI zs n key
      · subst h
        simp only [entB, hj, decide_true, Bool.true_and] at hE
        exact hE
      · exact hne j hj h
    rw [delF_miss zs key n (by omega) hmiss, List.take_of_length_le (by omega)]
    simp [delL, delN, delC, delV, hok, hE]
  · simp only [entB, Bool.and_eq_true, decide_eq_true_eq] at hE
    have hE' : entB zs n key = true := by simp only [entB, Bool.and_eq_true, decide_eq_true_eq]; exact hE
    rw [delF_hit zs key (entI zs n key) n hE.1 (by omega) hE.2 hne, List.take_of_length_le (l := zs) (i := n * 2) (by omega)]
    simp [delL, delN, delC, delV, hok, hE']

theorem specMapDel_cap (a : Option Addr) (n cap : Nat) (zs : List Int) (key : Int) (w : World) (hs : SInts w a (n * 2) zs) (hn : n ≤ 1048576) :
    Calls Tryd.prog 38 #[.agg #[.slice a n cap], .int .i64 key] w fun e w' => MapRes (delL zs n key) (delN zs n key) (delC zs n key) (delV zs n key) e w w' := by
  cases hok : okM zs n
  · have e1 : delL zs n key = [] := by simp [delL, hok]
    have e2 : delN zs n key = 0 := by simp [delN, hok]
    have e3 : delC zs n key = 0 := by simp [delC, hok]
    have e4 : delV zs n key = 0 := by simp [delV, hok]
    rw [e1, e2, e3, e4]
    exact specMapDel_bad a n cap zs key w hs (by omega) hok
  · have h := specMapDel_loop a n cap zs key w hs (okM_parts hok).1 hok
    rw [delF_all key hs.1 hok] at h
    exact h

theorem specMapDel_any (a : Option Addr) (n : Nat) (zs : List Int) (key : Int) (w : World) (hs : SInts w a (n * 2) zs) (hn : n ≤ 1048576) :
    Calls Tryd.prog 38 #[.agg #[.slice a n n], .int .i64 key] w fun e w' => MapRes (delL zs n key) (delN zs n key) (delC zs n key) (delV zs n key) e w w' := by
  cases hok : okM zs n
  · have e1 : delL zs n key = [] := by simp [delL, hok]
    have e2 : delN zs n key = 0 := by simp [delN, hok]
    have e3 : delC zs n key = 0 := by simp [delC, hok]
    have e4 : delV zs n key = 0 := by simp [delV, hok]
    rw [e1, e2, e3, e4]
    exact specMapDel_bad a n n zs key w hs (by omega) hok
  · have h := specMapDel_loop a n n zs key w hs (okM_parts hok).1 hok
    rw [delF_all key hs.1 hok] at h
    exact h

end Go.Proofs.YtklpdpdjblakgaaDoor

/- Take2 -/
namespace Go.Proofs.YtklpdpdjblakgaaDoor
open Go.RowKit
set_option linter.unusedVariables false

set_option maxHeartbeats 1000000 in
theorem specListTake_capmore (b off : Nat) (n cap : Nat) (x : Int) (ys : List Int) (w : World) (hs : SInts w (some ⟨b, off, none⟩) n (x :: ys)) (h2 : 2 ≤ n) (h8 : n ≤ 8) (hnc : n ≤ cap) (hcap : cap ≤ 9223372036854775807) (hok : okL (x :: ys) = true) :
    Calls Tryd.prog 40 #[.slice (some ⟨b, off, none⟩) n cap] w fun e w' => ListRes ys 2 x e w w' := by
  have hb0 : ∀ o, Below w.heap.size w (w.alloc o) := fun o => (Below.refl _ _).alloc (Nat.le_refl _) o
  obtain ⟨i0, hi, hz0, hz1, hz2⟩ := info_parts Tryd.info3
  have hzl : Hid (ys.length = n - 1) := by have := hs.1; simp at this; show _ = _; omega
  have hcx : ∀ W, Below w.heap.size w W → W.cell? ⟨b, off, none⟩ = some (.int .i64 x) ∧ ∀ j u, (ys.map (Value.int .i64))[j]? = some u → W.cell? ((⟨b, off + 1, none⟩ : Addr).add j) = some u := by
    intro W hW
    obtain ⟨hz, h0 | ⟨b', off', e, hc⟩⟩ := hs.below hW
    · omega
    · cases e
      refine ⟨by simpa using hc 0 (by omega), fun j u hj => ?_⟩
      have hjn : j < n - 1 := by
        have := (List.getElem?_eq_some_iff.1 hj).1
        simp at this hz
        omega
      rw [Addr.add_lit, show off + 1 + j = off + (j + 1) by omega, hc (j + 1) (by omega)]
      simp at hz
      simpa [List.getD, show j < ys.length by omega] using hj
  have hn0 : ((n : Int) == 0) = false := by simp; omega
  have hn1 : ¬ cap = 1 := by omega
  have hn2 : (1 : Int) ≤ (n : Int) := by omega
  have hn3 : 0 < n := by omega
  go_enter Tryd.func40, Tryd.ntmps40
  go_wp2_with fail
  refine (specListOk_any _ _ _ (x :: ys) _ (hs.below (hb0 _)) (by omega)).mono ?_
  rintro e w1 ⟨rfl, rfl⟩
  have HC : Hid (∀ W, Below w.heap.size w W → W.cell? ⟨b, off, none⟩ = some (.int .i64 x) ∧ ∀ j u, (ys.map (Value.int .i64))[j]? = some u → W.cell? ((⟨b, off + 1, none⟩ : Addr).add j) = some u) := hcx
  clear hcx
  have q1 := (HC.out _ (hb0 (.cells #[.int .i64 0, .int .i64 0] 37))).1
  have q2 := (HC.out _ ((hb0 (.cells #[.int .i64 0, .int .i64 0] 37)).alloc (by simp) (.cells #[] 3))).1
  have S2 : Hid (∀ j u, (ys.map (Value.int .i64))[j]? = some u → ((w.alloc (.cells #[.int .i64 0, .int .i64 0] 37)).alloc (.cells #[] 3)).drew.cell? ((⟨b, off + 1, none⟩ : Addr).add j) = some u) := (HC.out _ ((hb0 (.cells #[.int .i64 0, .int .i64 0] 37)).alloc (by simp) (.cells #[] 3)).drew).2
  clear hs hb0
  go_wp2
  go_region_law (refine step_append_grows rfl (.tmp 14) (.tmp 16) 25 rfl 3 i0 (.int .i64 0) 1 8 Tryd.underlying25 hi hz0 hz1 hz2 rfl (by decide) (some ⟨w.heap.size + 1, 0, none⟩) 0 0 [] rfl (by intro h; cases h) rfl (by intro _ _ j u h; simp at h) ⟨b, off + 1, none⟩ (n - 1) (cap - 1) (ys.map (Value.int .i64)) rfl (by simp [hzl.out]) S2.out (ints_oneCell _ _) (by omega) (by unfold maxLen; omega) (by omega) ?_; intro v' w1 hown hgrow; obtain ⟨d0, d1, f0, f1, hbB⟩ := behind_none hgrow (fun k h => by cases h); have q3 := (HC.out _ hbB).1; obtain ⟨a', c', hv, _⟩ := own_shape (zs := ys) (by simpa using hown); rw [hv] at hown ⊢)
  all_goals
    have HO : Hid (w1.ownsRow (w.heap.size + 1) 3 1 (.slice a' (n - 1) c') (n - 1) (ys.map (Value.int .i64))) := by
      have h := own_mono hown (show w.heap.size + 1 ≤ _ by simp)
      show w1.ownsRow (w.heap.size + 1) 3 1 (.slice a' (n - 1) c') (n - 1) (ys.map (Value.int .i64))
      simpa using h
    clear hown hgrow S2 HC
    go_wp2
    refine bodyPost_ret (v := .tuple #[.slice a' (n - 1) c', .agg #[.int .i64 2, .int .i64 x]]) (by simp [results, Tryd.results40, go_sem, d0, d1]) rfl ⟨n - 1, a', c', rfl, own_mono (own_setCell (own_setCell HO.out (by omega) _) (by omega) _) (by omega), (hbB.setCell (Nat.le_refl _) _).setCell (Nat.le_refl _) _⟩

set_option maxHeartbeats 1000000 in
theorem specListTake_capone (b off cap : Nat) (x : Int) (w : World) (hs : SInts w (some ⟨b, off, none⟩) 1 [x]) (hok : okL [x] = true) (hc2 : 2 ≤ cap) (hcap : cap ≤ 9223372036854775807) :
    Calls Tryd.prog 40 #[.slice (some ⟨b, off, none⟩) 1 cap] w fun e w' => ListRes [] 2 x e w w' := by
  have hb0 : ∀ o, Below w.heap.size w (w.alloc o) := fun o => (Below.refl _ _).alloc (Nat.le_refl _) o
  obtain ⟨i0, hi, hz0, hz1, hz2⟩ := info_parts Tryd.info3
  have HC : Hid (∀ W, Below w.heap.size w W → W.cell? ⟨b, off, none⟩ = some (.int .i64 x)) := by
    intro W hW
    obtain ⟨hz, h0 | ⟨b', off', e, hc⟩⟩ := hs.below hW
    · omega
    · cases e
      simpa using hc 0 (by omega)
  have hn1 : ¬ cap = 1 := by omega
  go_enter Tryd.func40, Tryd.ntmps40
  go_wp2_with fail
  refine (specListOk_any _ _ _ [x] _ (hs.below (hb0 _)) (by omega)).mono ?_
  rintro e w1 ⟨rfl, rfl⟩
  have e0 : Hid (∀ (W : World) (b o : Nat), W.setCells b o [] = W) := fun W b o => rfl
  have q1 := HC.out _ (hb0 (.cells #[.int .i64 0, .int .i64 0] 37))
  have q2 := HC.out _ ((hb0 (.cells #[.int .i64 0, .int .i64 0] 37)).alloc (by simp) (.cells #[] 3))
  have hbB := ((hb0 (.cells #[.int .i64 2, .int .i64 x] 37)).alloc (by simp) (.cells #[] 3)).drew
  have HO : Hid (((w.alloc (.cells #[.int .i64 2, .int .i64 x] 37)).alloc (.cells #[] 3)).drew.ownsRow (w.heap.size + 1) 3 1 (.slice (some ⟨w.heap.size + 1, 0, none⟩) 0 0) 0 []) := (own_lit2 w (.cells #[.int .i64 2, .int .i64 x] 37) #[] 0 rfl (by decide)).drew
  clear hs hb0 HC
  go_wp2
  go_region_law (refine step_append_room rfl (.tmp 14) (.tmp 16) 25 rfl 3 i0 1 Tryd.underlying25 hi hz1 (w.heap.size + 1) 0 0 0 rfl ⟨b, off + 1, none⟩ 0 (cap - 1) [] rfl rfl (by intro j u h; simp at h) (by simp) (by omega) (by intro j h; simp at h) ?_; rw [e0.out])
  all_goals go_wp2
  all_goals exact bodyPost_ret (v := .tuple #[.slice (some ⟨w.heap.size + 1, 0, none⟩) 0 0, .agg #[.int .i64 2, .int .i64 x]]) (by simp [results, Tryd.results40, go_sem]) rfl ⟨0, _, 0, rfl, own_mono HO.out (by omega), hbB⟩

theorem specListTake_cap (b off : Nat) (n cap : Nat) (zs : List Int) (w : World) (hs : SInts w (some ⟨b, off, none⟩) n zs) (hnc : n ≤ cap) (hcap : cap ≤ 9223372036854775807) :
    Calls Tryd.prog 40 #[.slice (some ⟨b, off, none⟩) n cap] w fun e w' => ListRes (takeL zs) (takeC zs) (takeV zs) e w w' := by
  have hzl := hs.1
  cases hok : okL zs
  · have e1 : takeL zs = [] := by simp [takeL, hok]
    have e2 : takeC zs = 0 := by simp [takeC, hok]
    have e3 : takeV zs = 0 := by simp [takeV, hok]
    rw [e1, e2, e3]
    exact specListTake_bad _ n cap zs w hs (by omega) hok
  · have h8l := okL_len hok
    match zs, hzl with
    | [], hzl =>
      have h0 : n = 0 := by simpa using hzl.symm
      subst h0
      exact specListTake_none _ cap w
    | [x], hzl =>
      have h0 : n = 1 := by simpa using hzl.symm
      subst h0
      have e1 : takeL [x] = [] := by simp [takeL]
      have e2 : takeC [x] = 2 := by simp [takeC, hok]
      have e3 : takeV [x] = x := by simp [takeV, hok]
      rw [e1, e2, e3]
      by_cases h1 : cap = 1
      · subst h1
        exact specListTake_one b off x w hs hok
      · exact specListTake_capone b off cap x w hs hok (by omega) hcap
    | x :: y :: r, hzl =>
      have e1 : takeL (x :: y :: r) = y :: r := by simp [takeL, hok]
      have e2 : takeC (x :: y :: r) = 2 := by simp [takeC, hok]
      have e3 : takeV (x :: y :: r) = x := by simp [takeV, hok]
      rw [e1, e2, e3]
      have hl : n = r.length + 2 := by simpa using hzl.symm
      exact specListTake_capmore b off n cap x (y :: r) w hs (by omega) (by simp at h8l; omega) hnc hcap hok

end Go.Proofs.YtklpdpdjblakgaaDoor

/- LinL -/
namespace Go.Proofs.YtklpdpdjblakgaaDoor
open Go.RowKit
set_option linter.unusedVariables false

/-- Stack and queue lie somewhere. -/
def Somes (v : SV) : Prop := (∃ g, v.sa = some ⟨g, 0, none⟩) ∧ (∃ g, v.qa = some ⟨g, 0, none⟩)
/-- What the specification answers: the state in memory of its own, and the answer. -/
def SpRes (d' : LD) (C V : Int) (w : World) (e : Ending) (w' : World) : Prop :=
  ∃ u : SV, e = .returned (.tuple #[stV u d', .agg #[.int .i64 C, .int .i64 V]]) ∧ St w.heap.size w'.heap.size u d' w' ∧ Below w.heap.size w w'
theorem SpRes.drew {d' : LD} {C V : Int} {w : World} {e : Ending} {w' : World} (h : SpRes d' C V w e w') : SpRes d' C V w e w'.drew := by
  obtain ⟨u, he, h1, h3⟩ := h
  exact ⟨u, he, ⟨h1.m, h1.s, h1.q⟩, h3.drew⟩

section
variable {lo hi : Nat} {v : SV} {d : LD} {w w' : World}
theorem st_newM (h : St lo hi v d w) (hl : lo ≤ w.heap.size) (hh : hi ≤ w.heap.size) (hb : Below w.heap.size w w') {a : Option Addr} {n c : Nat} {zs : List Int} (ho : w'.ownsRow w.heap.size 84 2 (.slice a n c) n (zs.map (Value.int .i64))) :
    St lo w'.heap.size ⟨a, c, v.sa, v.sc, v.qa, v.qc⟩ ⟨n, zs, d.s, d.q⟩ w' := by
  have h' := h.below hh hb
  have hw := hb.size
  exact ⟨rowIn_of (own_mono ho hl) (Nat.le_refl _), h'.s.mono (Nat.le_refl _) (by omega), h'.q.mono (Nat.le_refl _) (by omega)⟩
theorem st_newS (h : St lo hi v d w) (hl : lo ≤ w.heap.size) (hh : hi ≤ w.heap.size) (hb : Below w.heap.size w w') {a : Option Addr} {n c : Nat} {zs : List Int} (hn : zs.length = n) (ho : w'.ownsRow w.heap.size 3 1 (.slice a n c) n (zs.map (Value.int .i64))) :
    St lo w'.heap.size ⟨v.ma, v.mc, a, c, v.qa, v.qc⟩ ⟨d.n, d.zs, zs, d.q⟩ w' := by
  subst hn
  have h' := h.below hh hb
  have hw := hb.size
  exact ⟨h'.m.mono (Nat.le_refl _) (by omega), rowIn_of (own_mono ho hl) (Nat.le_refl _), h'.q.mono (Nat.le_refl _) (by omega)⟩
theorem st_newQ (h : St lo hi v d w) (hl : lo ≤ w.heap.size) (hh : hi ≤ w.heap.size) (hb : Below w.heap.size w w') {a : Option Addr} {n c : Nat} {zs : List Int} (hn : zs.length = n) (ho : w'.ownsRow w.heap.size 3 1 (.slice a n c) n (zs.map (Value.int .i64))) :
    St lo w'.heap.size ⟨v.ma, v.mc, v.sa, v.sc, a, c⟩ ⟨d.n, d.zs, d.s, zs⟩ w' := by
  subst hn
  have h' := h.below hh hb
  have hw := hb.size
  exact ⟨h'.m.mono (Nat.le_refl _) (by omega), h'.s.mono (Nat.le_refl _) (by omega), rowIn_of (own_mono ho hl) (Nat.le_refl _)⟩
end
theorem B2.set0 {W : World} {b : Nat} {x y v : Value} (h : B2 W b x y) : B2 (W.setCell ⟨b, 0, none⟩ v) b v y :=
  ⟨World.cell?_setCell_same _ _ _ h.c0, (World.cell?_setCell_other _ _ _ _ (by simp)).trans h.c1, fun j => by rw [World.frozen?_setCell]; exact h.f j⟩
theorem B2.set1 {W : World} {b : Nat} {x y v : Value} (h : B2 W b x y) : B2 (W.setCell ⟨b, 1, none⟩ v) b x v :=
  ⟨(World.cell?_setCell_other _ _ _ _ (by simp)).trans h.c0, World.cell?_setCell_same _ _ _ h.c1, fun j => by rw [World.frozen?_setCell]; exact h.f j⟩
theorem B2.far {W : World} {b : Nat} {x y v : Value} (h : B2 W b x y) {g i : Nat} (hg : g ≠ b) : B2 (W.setCell ⟨g, i, none⟩ v) b x y :=
  ⟨cell_far hg h.c0, cell_far hg h.c1, fun j => by rw [World.frozen?_setCell]; exact h.f j⟩

end Go.Proofs.YtklpdpdjblakgaaDoor
