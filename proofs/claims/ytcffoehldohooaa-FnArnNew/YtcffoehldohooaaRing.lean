/- Rings: what comes in first goes out first. -/
import Derived.Test.YtcffoehldohooaaPB
import Derived.BigRegion
namespace Go.Proofs.Ytcffoehldohooaa
open Go.RowKit
set_option linter.unusedVariables false

theorem turnIn_alloc (lo hi : Nat) (w : World) (o : Obj) : TurnIn lo hi w (w.alloc o) := by
  have A := al1 w o
  exact ⟨A.os, A.tape, A.output, A.size, fun k hk _ => A.block k hk⟩
theorem turnIn_set {lo hi : Nat} (w : World) {b o : Nat} (v : Value) (h1 : lo ≤ b) (h2 : b < hi) : TurnIn lo hi w (w.setCell ⟨b, o, none⟩ v) :=
  ⟨rfl, rfl, rfl, by simp, fun k hk h => Below.heap_setCell _ _ _ _ (by show k ≠ b; omega)⟩
theorem turnIn_drew (lo hi : Nat) (w : World) : TurnIn lo hi w w.drew := by
  have A : Below w.heap.size w w.drew := (Below.refl _ _).drew
  exact ⟨A.os, A.tape, A.output, A.size, fun k hk _ => A.block k hk⟩
theorem TurnIn.grown {r : Nat} {w w' : World} (h : TurnIn r (r + 1) w w') : w.grownBy w' (some r) :=
  ⟨h.os, h.tape, h.output, h.size, fun k hk hne => h.block k hk (by have : k ≠ r := fun e => hne (by rw [e]); omega)⟩

/-- The three cells of a ring. -/
structure RingAt (W : World) (r g n : Nat) (f c : Int) : Prop where
  c0 : W.cell? ⟨r, 0, none⟩ = some (.slice (some ⟨g, 0, none⟩) n n)
  c1 : W.cell? ⟨r, 1, none⟩ = some (.int .i64 f)
  c2 : W.cell? ⟨r, 2, none⟩ = some (.int .i64 c)
  f1 : W.frozen? ⟨r, 1, none⟩ = false
  f2 : W.frozen? ⟨r, 2, none⟩ = false
theorem RingAt.lt {W : World} {r g n : Nat} {f c : Int} (h : RingAt W r g n f c) : r < W.heap.size := World.block_lt_of_cell? W ⟨r, 0, none⟩ h.c0
theorem RingAt.grown {W W' : World} {r g n : Nat} {f c : Int} (h : RingAt W r g n f c) {row : Option Nat} (hg : W.grownBy W' row) (hne : some r ≠ row) : RingAt W' r g n f c :=
  ⟨hg.cell h.c0 hne, hg.cell h.c1 hne, hg.cell h.c2 hne, (World.frozen?_of_block (w := W) (a := ⟨r, 1, none⟩) (hg.block r h.lt hne)).trans h.f1, (World.frozen?_of_block (w := W) (a := ⟨r, 2, none⟩) (hg.block r h.lt hne)).trans h.f2⟩
theorem RingAt.below {W W' : World} {r g n : Nat} {f c : Int} (h : RingAt W r g n f c) (hb : Below W.heap.size W W') : RingAt W' r g n f c :=
  ⟨cell_kept hb h.c0, cell_kept hb h.c1, cell_kept hb h.c2, (hb.frozen (p := ⟨r, 1, none⟩) h.lt).trans h.f1, (hb.frozen (p := ⟨r, 2, none⟩) h.lt).trans h.f2⟩
theorem ringAt_new (W : World) (g n : Nat) (f c : Int) {r : Nat} (hr : r = W.heap.size) : RingAt (W.alloc (.cells #[.slice (some ⟨g, 0, none⟩) n n, .int .i64 f, .int .i64 c] 78)) r g n f c := by
  subst hr
  exact ⟨by simp, by simp, by simp, frozen_at' _ _ _ 1 rfl, frozen_at' _ _ _ 2 rfl⟩

set_option maxRecDepth 20000 in
set_option maxHeartbeats 4000000 in
theorem take_any (r g n f : Nat) (c x y : Int) (w : World) (hr : RingAt w r g n f c) (hf : f < n) (hn : n ≤ 1048576) (hc : 1 ≤ c) (hc' : c ≤ 1048576) (hx : w.cell? ⟨g, f * 2, none⟩ = some (.int .i64 x)) (hy : w.cell? ⟨g, f * 2 + 1, none⟩ = some (.int .i64 y)) (hd : r ≠ g) :
    Calls Try.prog 54 #[.pointer (some ⟨r, 0, none⟩)] w fun e w' => e = .returned (.agg #[.int .i64 x, .int .i64 y]) ∧ RingAt w' r g n ((f + 1) % n : Nat) (c - 1) ∧ w.grownBy w' (some r) := by
  have c0 := hr.c0
  have c1 := hr.c1
  have c2 := hr.c2
  have f1 := hr.f1
  have f2 := hr.f2
  have HR : Hid (RingAt w r g n f c) := hr
  obtain ⟨q, hq⟩ : ∃ q : Nat, (f + 1) % n = q := ⟨_, rfl⟩
  have hmod : ((f : Int) + 1) % (n : Int) = (q : Int) := by
    rw [← hq]
    simp
  have hn0 : ¬ (n : Int) = 0 := by omega
  have hlt := hr.lt
  rw [hq]
  clear hr
  go_enter Try.func54, Try.ntmps54
  go_wp2
  go_region_held_law (fun w' => w'.cell? ⟨r, 0, none⟩ = some (.slice (some ⟨g, 0, none⟩) n n) ∧ w'.cell? ⟨r, 1, none⟩ = some (.int .i64 f) ∧ w'.cell? ⟨g, f * 2, none⟩ = some (.int .i64 x) ∧ w'.cell? ⟨g, f * 2 + 1, none⟩ = some (.int .i64 y)) (first | (go_keep; done)) (fail)
  clear hx hy
  go_wp2
  go_region
  all_goals
    go_wp2
    refine bodyPost_ret (v := .agg #[.int .i64 x, .int .i64 y]) (by simp [results, Try.results54, go_sem]) rfl ⟨rfl, ⟨?_, ?_, ?_, ?_, ?_⟩, TurnIn.grown ?_⟩
    · simp [go_sem, c0, hlt]
    · simp [go_sem, c1, hlt]
    · simp [go_sem, c2, hlt]
    · simp [go_sem, f1, hlt]
    · simp [go_sem, f2, hlt]
    · exact ((turnIn_set w _ (Nat.le_refl _) (Nat.lt_succ_self _)).trans (turnIn_set _ _ (Nat.le_refl _) (Nat.lt_succ_self _))).trans ((turnIn_alloc _ _ _ _).trans ((turnIn_alloc _ _ _ _).trans ((turnIn_drew _ _ _).trans (turnIn_drew _ _ _))))

set_option maxRecDepth 20000 in
set_option maxHeartbeats 4000000 in
theorem put_any (r g n k base : Nat) (x y : Int) (zs : List Int) (w : World) (hr : RingAt w r g n 0 k) (hk : k < n) (hn : n ≤ 1048576) (ho : w.ownsRow base 63 2 (.slice (some ⟨g, 0, none⟩) n n) n (zs.map (Value.int .i64))) (hd : r ≠ g) :
    Calls Try.prog 68 #[.pointer (some ⟨r, 0, none⟩), .agg #[.int .i64 x, .int .i64 y]] w fun e w' => e = .returned (.tuple #[]) ∧ RingAt w' r g n 0 ((k + 1 : Nat) : Int) ∧ w'.ownsRow base 63 2 (.slice (some ⟨g, 0, none⟩) n n) n (((zs.set (k * 2) x).set (k * 2 + 1) y).map (Value.int .i64)) ∧ ∀ B, B ≤ r → B ≤ g → B ≤ w.heap.size → Below B w w' := by
  have c0 := hr.c0
  have c1 := hr.c1
  have c2 := hr.c2
  have f1 := hr.f1
  have f2 := hr.f2
  have hmod : (k : Int) % (n : Int) = (k : Int) := Int.emod_eq_of_lt (by omega) (by omega)
  have hn0 : ¬ (n : Int) = 0 := by omega
  have hlt := hr.lt
  have o0 := own2_cell ho (j := k * 2) (by omega)
  have o1 := own2_cell ho (j := k * 2 + 1) (by omega)
  have g0 := ho.frozenAt (k * 2)
  have g1 := ho.frozenAt (k * 2 + 1)
  have hgl : g < w.heap.size := (ho.lt _ rfl).2
  have HO : Hid (w.ownsRow base 63 2 (.slice (some ⟨g, 0, none⟩) n n) n (zs.map (Value.int .i64))) := ho
  clear hr ho
  go_enter Try.func68, Try.ntmps68
  go_wp2
  go_region
  all_goals
    go_wp2
    have st := (HO.out.stored (k * 2) (.int .i64 x)).1.stored (k * 2 + 1) (.int .i64 y)
    refine bodyPost_end (v := .tuple #[]) (by simp [results, Try.results68, go_sem]) rfl ⟨rfl, ⟨?_, ?_, ?_, ?_, ?_⟩, ?_, fun B h1 h2 h3 => ?_⟩
    · simp [go_sem, c0, hlt]
    · simp [go_sem, c1, hlt]
    · simp [go_sem, c2, hlt]
    · simp [go_sem, f1, hlt]
    · simp [go_sem, f2, hlt]
    · have h1 : ((w.setCell ⟨g, k * 2, none⟩ (.int .i64 x)).setCell ⟨g, k * 2 + 1, none⟩ (.int .i64 y)).ownsRow base 63 2 (.slice (some ⟨g, 0, none⟩) n n) n (((zs.set (k * 2) x).set (k * 2 + 1) y).map (Value.int .i64)) := by simpa using st.1
      have t := turnIn_set (lo := r) (hi := r + 1) ((w.setCell ⟨g, k * 2, none⟩ (.int .i64 x)).setCell ⟨g, k * 2 + 1, none⟩ (.int .i64 y)) (b := r) (o := 2) (.int .i64 ((k : Int) + 1)) (Nat.le_refl _) (Nat.lt_succ_self _)
      exact (h1.kept (t.trans ((turnIn_alloc _ _ _ (.cells #[.int .i64 x, .int .i64 y] 63)).trans (turnIn_drew _ _ _))).grown (.inr (ne_block (g' := r) (Ne.symm hd))))
    · have b1 : Below B w (((w.setCell ⟨g, k * 2, none⟩ (.int .i64 x)).setCell ⟨g, k * 2 + 1, none⟩ (.int .i64 y)).setCell ⟨r, 2, none⟩ (.int .i64 ((k : Int) + 1))) := (((Below.refl B w).setCell (p := ⟨g, k * 2, none⟩) h2 _).setCell (p := ⟨g, k * 2 + 1, none⟩) h2 _).setCell (p := ⟨r, 2, none⟩) h1 _
      exact (b1.alloc (by simp; omega) _).drew

/-- A ring's cells, as they were made. -/
structure RingZ (W : World) (b : Nat) : Prop where
  c0 : W.cell? ⟨b, 0, none⟩ = some (.slice none 0 0)
  c1 : W.cell? ⟨b, 1, none⟩ = some (.int .i64 0)
  c2 : W.cell? ⟨b, 2, none⟩ = some (.int .i64 0)
  f0 : W.frozen? ⟨b, 0, none⟩ = false
  f1 : W.frozen? ⟨b, 1, none⟩ = false
  f2 : W.frozen? ⟨b, 2, none⟩ = false
theorem RingZ.below {W W' : World} {b B : Nat} (h : RingZ W b) (hB : b < B) (hb : Below B W W') : RingZ W' b :=
  ⟨(hb.cell (p := ⟨b, 0, none⟩) hB).trans h.c0, (hb.cell (p := ⟨b, 1, none⟩) hB).trans h.c1, (hb.cell (p := ⟨b, 2, none⟩) hB).trans h.c2, (hb.frozen (p := ⟨b, 0, none⟩) hB).trans h.f0, (hb.frozen (p := ⟨b, 1, none⟩) hB).trans h.f1, (hb.frozen (p := ⟨b, 2, none⟩) hB).trans h.f2⟩
theorem ringZ_new (W : World) {b : Nat} (hb : b = W.heap.size) : RingZ (W.alloc (.cells #[.slice none 0 0, .int .i64 0, .int .i64 0] 78)) b := by
  subst hb
  exact ⟨by simp, by simp, by simp, frozen_at' _ _ _ 0 rfl, frozen_at' _ _ _ 1 rfl, frozen_at' _ _ _ 2 rfl⟩

/-- What stands in the loop of ringOf. -/
structure OfAt (w : World) (n k r : Nat) (zs ys : List Int) (W : World) : Prop where
  bel : Below w.heap.size w W
  zero : RingZ W w.heap.size
  ring : RingAt W r (w.heap.size + 1) n 0 k
  far : w.heap.size + 1 < r
  own : W.ownsRow (w.heap.size + 1) 63 2 (.slice (some ⟨w.heap.size + 1, 0, none⟩) n n) n (ys.map (Value.int .i64))
  part : ys.take (k * 2) = zs.take (k * 2)

set_option maxRecDepth 20000 in
set_option maxHeartbeats 4000000 in
theorem ringOf_any (a : Option Addr) (n cap : Nat) (os : List Od) (w : World) (hs : SOlds w a n os) (hn : n ≤ 1048576) :
    Calls Try.prog 67 #[.slice a n cap] w fun e w' => ∃ g, w.heap.size ≤ g ∧ e = .returned (.agg #[.slice (some ⟨g, 0, none⟩) n n, .int .i64 0, .int .i64 n]) ∧ w'.ownsRow w.heap.size 63 2 (.slice (some ⟨g, 0, none⟩) n n) n ((flatO os).map (Value.int .i64)) ∧ Below w.heap.size w w' := by
  obtain ⟨i0, hi, hz0, hz1, hz2⟩ := info_parts Try.info63
  have HS : Hid (SOlds w a n os ∧ os.length = n ∧ (flatO os).length = n * 2) := ⟨hs, hs.1, by rw [flatO_len, hs.1]⟩
  clear hs
  go_enter Try.func67, Try.ntmps67
  go_wp2_with (at_make; refine wpList_make_full _ rfl _ _ 61 rfl (w.heap.size + 1) 63 i0 (.agg #[.int .i64 0, .int .i64 0]) 2 Try.underlying61 hi hz0 hz1 _ _ _ _ n rfl rfl rfl rfl ?b2 ?b3 (by simp) ?_)
  case b2 => rw [hz2]; omega
  case b3 => unfold maxLen; omega
  intro w0 hown0 hgrow0
  rw [made_ints] at hown0
  have B1 : Below (w.alloc (.cells #[.slice none 0 0, .int .i64 0, .int .i64 0] 78)).heap.size (w.alloc (.cells #[.slice none 0 0, .int .i64 0, .int .i64 0] 78)) w0 := (Below.refl _ _).grown hgrow0 (Nat.le_refl _) (fun k h => by cases h)
  have I0 : Hid (w0.ownsRow (w.heap.size + 1) 63 2 (.slice (some ⟨w.heap.size + 1, 0, none⟩) n n) n ((List.replicate (n * 2) (0 : Int)).map (Value.int .i64)) ∧ RingZ w0 w.heap.size ∧ Below w.heap.size w w0) := ⟨hown0, (ringZ_new w rfl).below (by simp) B1, below_trans' (al1 _ _) B1⟩
  have J0 : Hid (OfAt w n 0 w0.heap.size (flatO os) (List.replicate (n * 2) (0 : Int)) (w0.alloc (.cells #[.slice (some ⟨w.heap.size + 1, 0, none⟩) n n, .int .i64 0, .int .i64 0] 78))) :=
    ⟨below_trans' I0.out.2.2 (al1 _ _), I0.out.2.1.below (B := w.heap.size + 1) (Nat.lt_succ_self _) ((al1 _ _).mono (by have h : w.heap.size + 1 < w0.heap.size := (I0.out.1.lt _ rfl).2; omega)), ringAt_new w0 _ n 0 0 rfl, (I0.out.1.lt _ rfl).2, ownsRow_below I0.out.1 (al1 _ _), by simp⟩
  clear hown0 hgrow0 B1 I0
  go_wp2
  obtain ⟨r, hr⟩ : ∃ r, w0.heap.size = r := ⟨_, rfl⟩
  rw [hr] at J0 ⊢
  clear hr
  go_loopw [5, 12] (fun _ i wr => ∃ (k : Nat) (ys : List Int), k ≤ n ∧ i = .int .i64 k ∧ OfAt w n k r (flatO os) ys wr) (fun _ i _ => n - (intOf i).toNat)
  case atStart => exact ⟨0, _, Nat.zero_le _, rfl, J0.out⟩
  case round =>
    obtain ⟨k, ys, hk, rfl, I⟩ := hrel
    clear J0
    have HI : Hid (OfAt w n k r (flatO os) ys wr) := I
    clear I
    by_cases hlt : k < n
    · obtain ⟨b, off, x, y, rfl, hx, x0, x1⟩ := (HS.out.1.below HI.out.bel).at hlt
      have hyl : Hid (ys.length = n * 2) := by have := HI.out.own.1; show _ = _; simpa using this
      have HX : Hid ((flatO os).getD (k * 2) 0 = x ∧ (flatO os).getD (k * 2 + 1) 0 = y) := flatO_get os k _ hx
      clear hx
      go_wp2_with fail
      refine (put_any r (w.heap.size + 1) n k (w.heap.size + 1) x y ys _ (HI.out.ring.below (al1 _ _)) hlt hn (ownsRow_below HI.out.own (al1 _ _)) (by have := HI.out.far; omega)).mono ?_
      rintro e w1 ⟨rfl, hr1, ho1, hb1⟩
      have R : Hid (OfAt w n (k + 1) r (flatO os) ((ys.set (k * 2) x).set (k * 2 + 1) y) w1) := by
        have B := HI.out.ring.lt
        have hfar := HI.out.far
        have bb := hb1 (w.heap.size + 1) (by omega) (Nat.le_refl _) (by simp; omega)
        have b2 : Below (w.heap.size + 1) wr (wr.alloc (.cells #[.int .i64 x, .int .i64 y] 63)) := (al1 wr _).mono (by omega)
        have b3 := b2.trans bb
        refine ⟨HI.out.bel.trans (b3.mono (by omega)), HI.out.zero.below (Nat.lt_succ_self _) b3, hr1, hfar, ho1, ?_⟩
        have := take_set2 ys (flatO os) k (by rw [hyl.out]; omega) (by rw [HS.out.2.2]; omega) HI.out.part
        rw [HX.out.1, HX.out.2] at this
        exact this
      clear hr1 ho1 hb1 x0 x1
      go_wp2
      go_roundw
      case rel => exact ⟨k + 1, _, by omega, by go_num, R.out⟩
      case measure => simp [intOf]; omega
    · obtain rfl : k = n := by omega
      have hyl : ys.length = k * 2 := by have := HI.out.own.1; simpa using this
      have e : ys = flatO os := by
        have := HI.out.part
        rw [List.take_of_length_le (by omega), List.take_of_length_le (by rw [HS.out.2.2]; omega)] at this
        exact this
      subst e
      have r0 := HI.out.ring.c0
      have r1 := HI.out.ring.c1
      have r2 := HI.out.ring.c2
      have z0 := HI.out.zero.c0
      have z1 := HI.out.zero.c1
      have z2 := HI.out.zero.c2
      have g0 := HI.out.zero.f0
      have g1 := HI.out.zero.f1
      have g2 := HI.out.zero.f2
      go_wp2
      refine bodyPost_ret (v := .agg #[.slice (some ⟨w.heap.size + 1, 0, none⟩) k k, .int .i64 0, .int .i64 k]) (by simp [results, Try.results67, go_sem, z0, z1, z2]) rfl ⟨w.heap.size + 1, by omega, rfl, ?_, ?_⟩
      · exact own_mono (ownsRow_setCell_below (ownsRow_setCell_below (ownsRow_setCell_below HI.out.own (a := ⟨w.heap.size, 0, none⟩) (Nat.lt_succ_self _) _) (a := ⟨w.heap.size, 1, none⟩) (Nat.lt_succ_self _) _) (a := ⟨w.heap.size, 2, none⟩) (Nat.lt_succ_self _) _) (by omega)
      · exact ((HI.out.bel.setCell (p := ⟨w.heap.size, 0, none⟩) (Nat.le_refl _) _).setCell (p := ⟨w.heap.size, 1, none⟩) (Nat.le_refl _) _).setCell (p := ⟨w.heap.size, 2, none⟩) (Nat.le_refl _) _

end Go.Proofs.Ytcffoehldohooaa
