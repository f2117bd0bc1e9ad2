/- Contracts of the law helpers over pools: they measure, copy, compare and mark. -/
import Derived.Test.YtgcpjihjhefpnaaLimbo2
namespace Go.Proofs.Ytgcpjihjhefpnaa
open Go.RowKit
set_option linter.unusedVariables false

/-- The three cells of a pool lie at the beginning of a block. -/
structure BoxP (W : World) (b : Nat) (E : Int) (pa : Option Addr) (np pc : Nat) (la : Option Addr) (nl lc : Nat) : Prop where
  c0 : W.cell? ⟨b, 0, none⟩ = some (.int .i64 E)
  c1 : W.cell? ⟨b, 1, none⟩ = some (.slice pa np pc)
  c2 : W.cell? ⟨b, 2, none⟩ = some (.slice la nl lc)
theorem BoxP.below {W W' : World} {b : Nat} {E : Int} {pa : Option Addr} {np pc : Nat} {la : Option Addr} {nl lc : Nat} (h : BoxP W b E pa np pc la nl lc) (hb : Below W.heap.size W W') : BoxP W' b E pa np pc la nl lc :=
  ⟨cell_kept hb h.c0, cell_kept hb h.c1, cell_kept hb h.c2⟩
theorem BoxP.lt {W : World} {b : Nat} {E : Int} {pa : Option Addr} {np pc : Nat} {la : Option Addr} {nl lc : Nat} (h : BoxP W b E pa np pc la nl lc) : b < W.heap.size := World.block_lt_of_cell? W ⟨b, 0, none⟩ h.c0
theorem BoxP.cells {W : World} {b : Nat} {E : Int} {pa : Option Addr} {np pc : Nat} {la : Option Addr} {nl lc : Nat} (h : BoxP W b E pa np pc la nl lc) : W.cell? ⟨b, 0, none⟩ = some (.int .i64 E) ∧ W.cell? ⟨b, 1, none⟩ = some (.slice pa np pc) ∧ W.cell? ⟨b, 2, none⟩ = some (.slice la nl lc) := ⟨h.c0, h.c1, h.c2⟩
theorem boxP_new (W : World) (E : Int) (pa : Option Addr) (np pc : Nat) (la : Option Addr) (nl lc : Nat) (t : TypeId) {b : Nat} (hb : b = W.heap.size) : BoxP (W.alloc (.cells #[.int .i64 E, .slice pa np pc, .slice la nl lc] t)) b E pa np pc la nl lc := by
  subst hb
  exact ⟨by simp, by simp, by simp⟩
theorem onlyB_boxP {lo hi b : Nat} (E : Int) (pa : Option Addr) (np pc : Nat) (la : Option Addr) (nl lc : Nat) (h1 : lo ≤ b) (h2 : b < hi) : OnlyB lo hi (fun W => BoxP W b E pa np pc la nl lc) :=
  fun W W' h hk => ⟨onlyB_cell h1 h2 W W' h.c0 hk, onlyB_cell h1 h2 W W' h.c1 hk, onlyB_cell h1 h2 W W' h.c2 hk⟩

set_option maxHeartbeats 800000 in
theorem szPolPool_any (E : Int) (pa : Option Addr) (np pc : Nat) (la : Option Addr) (nl lc : Nat) (oss : List (List Od)) (l : Int) (w : World) (hs : SLimbo w la nl oss) (hp : np ≤ 9223372036854775807) (hn : nl ≤ 9223372036854775807) (hm : ∀ (i : Nat) (os : List Od), oss[i]? = some os → os.length ≤ 9223372036854775807) (h0 : 0 ≤ l) (hl : l ≤ 1048576) :
    Calls Try.prog 12 #[.agg #[.int .i64 E, .slice pa np pc, .slice la nl lc], .int .i64 l] w fun e w' => e = .returned (.int .i64 (leftR ((np : Int) + ((nl : Int) + (sumL oss : Nat))) l)) ∧ Below w.heap.size w w' := by
  have A := al1 w (.cells #[.int .i64 E, .slice pa np pc, .slice la nl lc] 32)
  have HS : Hid (SLimbo w la nl oss ∧ (∀ (i : Nat) (os : List Od), oss[i]? = some os → os.length ≤ 9223372036854775807)) := ⟨hs, hm⟩
  clear hs hm
  go_enter Try.func12, Try.ntmps12
  go_wp2_with fail
  refine (szIntS_any _ _ _ _ _ hp h0 hl).mono ?_
  rintro e w1 ⟨rfl, rfl⟩
  by_cases h : (np : Int) ≤ l
  · rw [leftR_pos h]
    go_wp2_with fail
    refine (szPolOldSS_any _ _ _ oss _ _ (HS.out.1.below A) hn HS.out.2 (by omega) (by omega)).mono ?_
    rintro e w2 ⟨rfl, rfl⟩
    by_cases h2 : (nl : Int) + (sumL oss : Nat) ≤ l - np
    · rw [leftR_pos h2]
      go_wp2
      go_ret
      refine ⟨?_, A⟩
      rw [leftR_pos (by omega), show l - ((np : Int) + ((nl : Int) + (sumL oss : Nat))) = l - np - ((nl : Int) + (sumL oss : Nat)) by omega]
      rfl
    · rw [leftR_neg h2]
      go_wp2
      go_ret
      refine ⟨?_, A⟩
      rw [leftR_neg (by omega)]
      rfl
  · rw [leftR_neg h]
    go_wp2
    go_ret
    refine ⟨?_, A⟩
    rw [leftR_neg (by omega)]
    rfl

set_option maxHeartbeats 800000 in
theorem eqPolPool_yes (E : Int) (pa pa' : Option Addr) (np pc pc' : Nat) (la la' : Option Addr) (nl lc lc' : Nat) (ps : List Int) (oss : List (List Od)) (w : World) (hp : SInts w pa np ps) (hp' : SInts w pa' np ps) (hs : SLimbo w la nl oss) (hs' : SLimbo w la' nl oss) (h1 : np ≤ 1048576) (h2 : nl ≤ 1048576) (h3 : sumL oss ≤ 1048576) :
    Calls Try.prog 9 #[.agg #[.int .i64 E, .slice pa np pc, .slice la nl lc], .agg #[.int .i64 E, .slice pa' np pc', .slice la' nl lc']] w fun e w' => e = .returned (.bool true) ∧ Below w.heap.size w w' := by
  have B2 := below_trans' (al1 w (.cells #[.int .i64 E, .slice pa np pc, .slice la nl lc] 25)) (al1 _ (.cells #[.int .i64 E, .slice pa' np pc', .slice la' nl lc'] 25))
  have bx0 := (boxP_new w E pa np pc la nl lc 25 rfl).below (al1 _ (.cells #[.int .i64 E, .slice pa' np pc', .slice la' nl lc'] 25))
  have bx1 := boxP_new (w.alloc (.cells #[.int .i64 E, .slice pa np pc, .slice la nl lc] 25)) E pa' np pc' la' nl lc' 25 (b := w.heap.size + 1) (by simp)
  have HS : Hid (SLimbo w la nl oss ∧ SLimbo w la' nl oss) := ⟨hs, hs'⟩
  clear hs hs'
  go_enter Try.func9, Try.ntmps9
  go_wp2_with fail
  refine (eqIntS_yes _ _ _ _ _ ps _ (hp.below B2) (hp'.below B2) (by omega)).mono ?_
  rintro e w1 ⟨rfl, hb1⟩
  have hb := below_trans' B2 hb1
  have b0 := bx0.below hb1
  have b1 := bx1.below hb1
  have p2 := b0.c2
  have q2 := b1.c2
  clear hb1 B2 hp hp' bx0 bx1 b0 b1
  go_wp2_with fail
  refine (eqPolOldSS_yes _ _ _ _ _ oss _ (HS.out.1.below hb) (HS.out.2.below hb) (by omega) (by omega)).mono ?_
  rintro e w2 ⟨rfl, hb2⟩
  have hb' := below_trans' hb hb2
  clear hb hb2 p2 q2
  go_wp2
  go_ret
  exact ⟨rfl, hb'⟩

/-- A pool's pins and lists, in memory of its own. -/
def OPool (lo hi : Nat) (gp np : Nat) (ps : List Int) (gl nl : Nat) (oss : List (List Od)) (w : World) : Prop :=
  RowIn lo hi 3 1 (.slice (some ⟨gp, 0, none⟩) np np) np (ps.map (Value.int .i64)) w ∧ OLimO lo hi w gl nl oss ∧ gp < gl
theorem OPool.only {lo hi gp np : Nat} {ps : List Int} {gl nl : Nat} {oss : List (List Od)} : OnlyB lo hi (OPool lo hi gp np ps gl nl oss) :=
  fun W W' h hk => ⟨onlyB_row _ _ _ _ _ _ _ W W' h.1 hk, OLimO.only W W' h.2.1 hk, h.2.2⟩
theorem OPool.mono {lo hi lo' hi' gp np : Nat} {ps : List Int} {gl nl : Nat} {oss : List (List Od)} {w : World} (h : OPool lo hi gp np ps gl nl oss w) (hl : lo' ≤ lo) (hh : hi ≤ hi') : OPool lo' hi' gp np ps gl nl oss w :=
  ⟨⟨own_mono h.1.1 hl, fun k e => Nat.lt_of_lt_of_le (h.1.2 k e) hh⟩, h.2.1.mono hl hh, h.2.2⟩
theorem OPool.below {lo hi gp np : Nat} {ps : List Int} {gl nl : Nat} {oss : List (List Od)} {w w' : World} (h : OPool lo hi gp np ps gl nl oss w) (hh : hi ≤ w.heap.size) (hb : Below w.heap.size w w') : OPool lo hi gp np ps gl nl oss w' :=
  OPool.only w w' h (fun k _ hk => hb.block k (by omega))
theorem OPool.sp {lo hi gp np : Nat} {ps : List Int} {gl nl : Nat} {oss : List (List Od)} {w : World} (h : OPool lo hi gp np ps gl nl oss w) : SInts w (some ⟨gp, 0, none⟩) np ps := own_sints h.1.1
theorem OPool.sl {lo hi gp np : Nat} {ps : List Int} {gl nl : Nat} {oss : List (List Od)} {w : World} (h : OPool lo hi gp np ps gl nl oss w) : SLimbo w (some ⟨gl, 0, none⟩) nl oss := h.2.1.sl

/-- The world with a pool's three cells written. -/
abbrev putP (W : World) (b : Nat) (E : Int) (pa : Option Addr) (np pc : Nat) (la : Option Addr) (nl lc : Nat) : World :=
  ((W.setCell ⟨b, 0, none⟩ (.int .i64 E)).setCell ⟨b, 1, none⟩ (.slice pa np pc)).setCell ⟨b, 2, none⟩ (.slice la nl lc)
theorem below_putP {w W : World} {B : Nat} (h : Below B w W) {b : Nat} (hb : B ≤ b) (E : Int) (pa : Option Addr) (np pc : Nat) (la : Option Addr) (nl lc : Nat) : Below B w (putP W b E pa np pc la nl lc) :=
  ((h.setCell (p := ⟨b, 0, none⟩) hb _).setCell (p := ⟨b, 1, none⟩) hb _).setCell (p := ⟨b, 2, none⟩) hb _

set_option maxHeartbeats 1000000 in
theorem toPolPool_any (E : Int) (pa : Option Addr) (np pc : Nat) (la : Option Addr) (nl lc : Nat) (ps : List Int) (oss : List (List Od)) (w : World) (hp : SInts w pa np ps) (hs : SLimbo w la nl oss) (h1 : np ≤ 1048576) (h2 : nl ≤ 1048576) (h3 : sumL oss ≤ 1048576) :
    Calls Try.prog 14 #[.agg #[.int .i64 E, .slice pa np pc, .slice la nl lc]] w fun e w' => ∃ gp gl, e = .returned (.agg #[.int .i64 E, .slice (some ⟨gp, 0, none⟩) np np, .slice (some ⟨gl, 0, none⟩) nl nl]) ∧
      OPool w.heap.size w'.heap.size gp np ps gl nl oss w' ∧ Below w.heap.size w w' := by
  have HPL : Hid (ps.length = np) := hp.1
  have B1 := al1 w (.cells #[.int .i64 E, .slice pa np pc, .slice la nl lc] 32)
  have B2 := al1 (w.alloc (.cells #[.int .i64 E, .slice pa np pc, .slice la nl lc] 32)) (.cells #[.int .i64 0, .slice none 0 0, .slice none 0 0] 25)
  have B3 := al1 ((w.alloc (.cells #[.int .i64 E, .slice pa np pc, .slice la nl lc] 32)).alloc (.cells #[.int .i64 0, .slice none 0 0, .slice none 0 0] 25)) (.cells #[.int .i64 E, .slice none 0 0, .slice none 0 0] 25)
  have bx0 := ((boxP_new w E pa np pc la nl lc 32 rfl).below B2).below B3
  have bx1 := (boxP_new (w.alloc (.cells #[.int .i64 E, .slice pa np pc, .slice la nl lc] 32)) 0 none 0 0 none 0 0 25 (b := w.heap.size + 1) (by simp)).below B3
  have bx2 := boxP_new ((w.alloc (.cells #[.int .i64 E, .slice pa np pc, .slice la nl lc] 32)).alloc (.cells #[.int .i64 0, .slice none 0 0, .slice none 0 0] 25)) E none 0 0 none 0 0 25 (b := w.heap.size + 1 + 1) (by simp)
  have HS : Hid (SLimbo w la nl oss) := hs
  have BB := below_trans' (below_trans' B1 B2) B3
  clear hs B1 B2 B3
  go_enter Try.func14, Try.ntmps14
  go_wp2_with fail
  refine (toIntS_any _ _ _ ps _ (hp.below BB) h1).mono ?_
  rintro e w1 ⟨rfl, hr1, hb1⟩
  have hr1' := own_of_rowIs hr1 HPL.out (by unfold maxLen; omega) (Nat.le_refl _)
  simp only [World.size_alloc] at hr1'
  have b0 := bx0.below hb1
  have b1 := bx1.below hb1
  have b2 := bx2.below hb1
  have fr : ∀ j, w1.frozen? ⟨w.heap.size + 1 + 1, j, none⟩ = false := fun j => by
    rw [hb1.frozen (p := ⟨w.heap.size + 1 + 1, j, none⟩) (by simp)]
    exact frozen_at' _ _ _ j (by simp)
  have fq : ∀ j, w1.frozen? ⟨w.heap.size + 1, j, none⟩ = false := fun j => by
    rw [hb1.frozen (p := ⟨w.heap.size + 1, j, none⟩) (by simp), (al1 _ _).frozen (p := ⟨w.heap.size + 1, j, none⟩) (by simp)]
    have := frozen_at' (w.alloc (.cells #[.int .i64 E, .slice pa np pc, .slice la nl lc] 32)) #[.int .i64 0, .slice none 0 0, .slice none 0 0] 25 j (b := w.heap.size + 1) (by simp)
    exact this
  have hA := below_trans' BB hb1
  have hs1 : w.heap.size + 1 + 1 + 1 < w1.heap.size := (hr1'.lt _ rfl).2
  have q1 := b2.c1
  have f1 := fr 1
  have p2 := b0.c2
  have H1 : Hid (BoxP w1 w.heap.size E pa np pc la nl lc ∧ BoxP w1 (w.heap.size + 1) 0 none 0 0 none 0 0 ∧ BoxP w1 (w.heap.size + 1 + 1) E none 0 0 none 0 0 ∧ (∀ j, w1.frozen? ⟨w.heap.size + 1 + 1, j, none⟩ = false) ∧ (∀ j, w1.frozen? ⟨w.heap.size + 1, j, none⟩ = false) ∧ Below w.heap.size w w1 ∧ w1.ownsRow (w.heap.size + 1 + 1 + 1) 3 1 (.slice (some ⟨w.heap.size + 1 + 1 + 1, 0, none⟩) np np) np (ps.map (Value.int .i64)) ∧ w.heap.size + 1 + 1 + 1 < w1.heap.size) := ⟨b0, b1, b2, fr, fq, hA, hr1', hs1⟩
  clear hr1 hr1' b0 b1 b2 fr fq hA bx0 bx1 bx2 BB hb1 hp hs1
  simp only [World.size_alloc]
  go_wp2_with fail
  have HA2 : Hid (Below w.heap.size w (w1.setCell ⟨w.heap.size + 1 + 1, 1, none⟩ (.slice (some ⟨w.heap.size + 1 + 1 + 1, 0, none⟩) np np))) := H1.out.2.2.2.2.2.1.setCell (by show w.heap.size ≤ w.heap.size + 1 + 1; omega) _
  refine (toPolOldSS_any _ _ _ oss _ (HS.out.below HA2.out) h2 h3).mono ?_
  rintro e w2 ⟨rfl, ho2, hb2⟩
  clear q1 f1 p2
  have hsz : (w1.setCell ⟨w.heap.size + 1 + 1, 1, none⟩ (.slice (some ⟨w.heap.size + 1 + 1 + 1, 0, none⟩) np np)).heap.size = w1.heap.size := by simp
  rw [hsz] at ho2 ⊢
  have hl := H1.out.2.2.2.2.2.2.2
  have q0 : w2.cell? ⟨w.heap.size + 1 + 1, 0, none⟩ = some (.int .i64 E) := cell_kept hb2 (by have := H1.out.2.2.1.c0; simp [go_sem, this])
  have q1 : w2.cell? ⟨w.heap.size + 1 + 1, 1, none⟩ = some (.slice (some ⟨w.heap.size + 1 + 1 + 1, 0, none⟩) np np) := cell_kept hb2 (by have := H1.out.2.2.1.c1; simp [go_sem, this])
  have q2 : w2.cell? ⟨w.heap.size + 1 + 1, 2, none⟩ = some (.slice none 0 0) := cell_kept hb2 (by have := H1.out.2.2.1.c2; simp [go_sem, this])
  have r0 : w2.cell? ⟨w.heap.size + 1, 0, none⟩ = some (.int .i64 0) := cell_kept hb2 (by have := H1.out.2.1.c0; simp [go_sem, this])
  have r1 : w2.cell? ⟨w.heap.size + 1, 1, none⟩ = some (.slice none 0 0) := cell_kept hb2 (by have := H1.out.2.1.c1; simp [go_sem, this])
  have r2 : w2.cell? ⟨w.heap.size + 1, 2, none⟩ = some (.slice none 0 0) := cell_kept hb2 (by have := H1.out.2.1.c2; simp [go_sem, this])
  have f0 : w2.frozen? ⟨w.heap.size + 1 + 1, 2, none⟩ = false := by rw [hb2.frozen (p := ⟨w.heap.size + 1 + 1, 2, none⟩) (by rw [hsz]; show w.heap.size + 1 + 1 < _; omega)]; have := H1.out.2.2.2.1 2; simp [go_sem, this]
  have g0 : w2.frozen? ⟨w.heap.size + 1, 0, none⟩ = false := by rw [hb2.frozen (p := ⟨w.heap.size + 1, 0, none⟩) (by rw [hsz]; show w.heap.size + 1 < _; omega)]; have := H1.out.2.2.2.2.1 0; simp [go_sem, this]
  have g1 : w2.frozen? ⟨w.heap.size + 1, 1, none⟩ = false := by rw [hb2.frozen (p := ⟨w.heap.size + 1, 1, none⟩) (by rw [hsz]; show w.heap.size + 1 < _; omega)]; have := H1.out.2.2.2.2.1 1; simp [go_sem, this]
  have g2 : w2.frozen? ⟨w.heap.size + 1, 2, none⟩ = false := by rw [hb2.frozen (p := ⟨w.heap.size + 1, 2, none⟩) (by rw [hsz]; show w.heap.size + 1 < _; omega)]; have := H1.out.2.2.2.2.1 2; simp [go_sem, this]
  have HP2 : Hid (OPool (w.heap.size + 1 + 1 + 1) w2.heap.size (w.heap.size + 1 + 1 + 1) np ps w1.heap.size nl oss w2 ∧ Below w.heap.size w w2) := by
    refine ⟨⟨⟨ownsRow_below (ownsRow_setCell_below H1.out.2.2.2.2.2.2.1 (a := ⟨w.heap.size + 1 + 1, 1, none⟩) (by show w.heap.size + 1 + 1 < _; omega) _) hb2, fun k e => ?_⟩, ho2.mono (by omega) (Nat.le_refl _), hl⟩, below_trans' HA2.out hb2⟩
    obtain rfl : w.heap.size + 1 + 1 + 1 = k := Option.some.inj e
    have := hb2.size
    rw [hsz] at this
    omega
  obtain ⟨bl, hbl⟩ : ∃ bl, w1.heap.size = bl := ⟨_, rfl⟩
  rw [hbl] at HP2 ⊢
  clear ho2 hb2 hsz H1 HA2 hl hbl
  go_wp2
  refine bodyPost_ret (v := .agg #[.int .i64 E, .slice (some ⟨w.heap.size + 1 + 1 + 1, 0, none⟩) np np, .slice (some ⟨bl, 0, none⟩) nl nl]) (by simp [results, Try.results14, go_sem, r0, r1, r2]) rfl ⟨w.heap.size + 1 + 1 + 1, bl, rfl, ?_, below_putP (HP2.out.2.setCell (by show w.heap.size ≤ w.heap.size + 1 + 1; omega) _) (by omega) _ _ _ _ _ _ _⟩
  refine OPool.mono (OPool.only w2 _ HP2.out.1 (fun k hk _ => ?_)) (by omega) (by simp)
  rw [Below.heap_setCell _ _ _ _ (by show k ≠ w.heap.size + 1; omega), Below.heap_setCell _ _ _ _ (by show k ≠ w.heap.size + 1; omega), Below.heap_setCell _ _ _ _ (by show k ≠ w.heap.size + 1; omega), Below.heap_setCell _ _ _ _ (by show k ≠ w.heap.size + 1 + 1; omega)]

theorem own_raise {w : World} {base : Nat} {e : TypeId} {sz g m c n : Nat} {xs : List Value} (h : w.ownsRow base e sz (.slice (some ⟨g, 0, none⟩) m c) n xs) {b : Nat} (hb : b ≤ g) : w.ownsRow b e sz (.slice (some ⟨g, 0, none⟩) m c) n xs := by
  refine ⟨h.1, ?_⟩
  rcases h.2 with ⟨e, _⟩ | ⟨g', cap, cur, hv, hg, r⟩
  · cases e
  · cases hv
    exact .inr ⟨g, c, cur, rfl, hb, r⟩
theorem OLimO.raise {lo hi : Nat} {w : World} {g n : Nat} {oss : List (List Od)} (h : OLimO lo hi w g n oss) : OLimO g hi w g n oss := by
  obtain ⟨vs, h1, h2, h3, h4, h5⟩ := h
  refine ⟨vs, own_raise h1 (Nat.le_refl _), h2, h3, fun i m hm => ?_, h5⟩
  obtain ⟨gi, k1, k2, k3, k4⟩ := h4 i m hm
  exact ⟨gi, k1, own_raise k2 (by omega), k3, k4⟩

set_option maxHeartbeats 800000 in
theorem markPolPool_any (E : Int) (gp np gl nl lo hi : Nat) (ps : List Int) (oss : List (List Od)) (w : World) (hO : OPool lo hi gp np ps gl nl oss w) (h1 : np ≤ 1048576) (h2 : nl ≤ 1048576) (h3 : sumL oss ≤ 1048576) (hhi : hi ≤ w.heap.size) :
    Calls Try.prog 10 #[.agg #[.int .i64 E, .slice (some ⟨gp, 0, none⟩) np np, .slice (some ⟨gl, 0, none⟩) nl nl], .int .i64 1] w fun e w' => ∃ k' : Int, 0 ≤ k' ∧ e = .returned (.int .i64 k') ∧ TurnIn lo hi w w' := by
  have A := al1 w (.cells #[.int .i64 E, .slice (some ⟨gp, 0, none⟩) np np, .slice (some ⟨gl, 0, none⟩) nl nl] 25)
  have HO : Hid (OPool lo hi gp np ps gl nl oss (w.alloc (.cells #[.int .i64 E, .slice (some ⟨gp, 0, none⟩) np np, .slice (some ⟨gl, 0, none⟩) nl nl] 25))) := hO.below hhi A
  have bx := boxP_new w E (some ⟨gp, 0, none⟩) np np (some ⟨gl, 0, none⟩) nl nl 25 rfl
  have HL : Hid (lo ≤ gp ∧ gp < hi ∧ lo ≤ gl) := by
    have k1 : lo ≤ gp := (HO.out.1.1.lt _ rfl).1
    have k2 : gp < hi := HO.out.1.2 _ rfl
    have k3 := HO.out.2.2
    exact ⟨k1, k2, by omega⟩
  clear hO
  go_enter Try.func10, Try.ntmps10
  go_wp2_with fail
  refine (markIntS_any _ _ _ lo ps _ _ HO.out.1.1 (by omega) (by omega)).mono ?_
  rintro e w1 ⟨rfl, ho1, hg1, hs1⟩
  have ne1 : ∀ k, k = w.heap.size → some k ≠ some gp := fun k e h => by
    have e1 := Option.some.inj h
    have := HL.out.2.1
    omega
  have ne2 : ∀ k, gl ≤ k → some k ≠ some gp := fun k e h => by
    have e1 := Option.some.inj h
    have := HO.out.2.2
    omega
  have c2 : w1.cell? ⟨w.heap.size, 2, none⟩ = some (.slice (some ⟨gl, 0, none⟩) nl nl) := hg1.cell bx.c2 (ne1 _ rfl)
  have T1 : TurnIn lo hi w w1 := by
    have t1 : TurnIn lo hi w (w.alloc (.cells #[.int .i64 E, .slice (some ⟨gp, 0, none⟩) np np, .slice (some ⟨gl, 0, none⟩) nl nl] 25)) := ⟨A.os, A.tape, A.output, A.size, fun k hk _ => A.block k hk⟩
    exact t1.trans (turnIn_grown hg1 (fun k e => by obtain rfl : gp = k := Option.some.inj e; exact ⟨HL.out.1, HL.out.2.1⟩))
  have HO1 : Hid (OLimO gl hi w1 gl nl oss) := OLimO.only _ w1 HO.out.2.1.raise (fun k hk hk2 => hg1.block k (by simp; omega) (ne2 k hk))
  have HT : Hid (TurnIn lo hi w w1) := T1
  clear ho1 hg1 hs1 bx A T1 ne1 ne2 HO
  go_wp2_with fail
  refine (markPolOldSS_any _ _ gl hi (oss.map List.length) _ _ HO1.out.ol (by omega) (by omega) h2 (fun i m hm => ?_)).mono ?_
  · rw [List.getElem?_map] at hm
    cases e : oss[i]? with
    | none => rw [e] at hm; simp at hm
    | some os =>
      rw [e] at hm
      simp at hm
      subst hm
      exact Nat.le_trans (sumL_mem e) h3
  rintro e w2 ⟨k', hk', rfl, T2⟩
  have HT2 : Hid (TurnIn lo hi w w2) := HT.out.trans ⟨T2.os, T2.tape, T2.output, T2.size, fun k hk ho => T2.block k hk (by have := HL.out.2.2; omega)⟩
  clear T2 c2
  go_wp2
  go_ret
  exact ⟨k', hk', rfl, HT2.out⟩

end Go.Proofs.Ytgcpjihjhefpnaa
