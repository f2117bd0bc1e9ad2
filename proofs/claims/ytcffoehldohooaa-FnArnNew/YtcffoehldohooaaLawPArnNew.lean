/- For every slice of bytes the law FnArnNew answers true and leaves its argument as it was. No condition. -/
import Derived.Test.YtcffoehldohooaaNew
import Derived.Test.YtcffoehldohooaaNewI
import Derived.Test.YtcffoehldohooaaOkI5
import Derived.Test.YtcffoehldohooaaStack
import Derived.Test.YtcffoehldohooaaQueue
import Derived.Test.YtcffoehldohooaaFree2
import Derived.Test.YtcffoehldohooaaPokI2
import Derived.Test.YtcffoehldohooaaOutI
import Derived.Test.YtcffoehldohooaaLawPWrdMake
namespace Go.Proofs.Ytcffoehldohooaa
open Go.ChangeShapes Go.WideShapes Go.ChangeAt Go.RowKit
set_option linter.unusedVariables false

set_option maxRecDepth 20000 in
set_option maxHeartbeats 4000000 in
theorem tgArena_yes (a a' : Option Addr) (n cap cap' : Nat) (ns : List Nd) (t f l : Int) (w : World) (hs : SNodes w a n ns) (hs' : SNodes w a' n ns) (hn : n ≤ 1048576) :
    Calls Try.prog 16 #[.agg #[.slice a n cap, .int .i64 t, .int .i64 f, .int .i64 l], .agg #[.slice a' n cap', .int .i64 t, .int .i64 f, .int .i64 l]] w fun e w' => e = .returned (.bool true) ∧ Below w.heap.size w w' := by
  have B2 := below_trans' (al1 w (.cells #[.slice a n cap, .int .i64 t, .int .i64 f, .int .i64 l] 33)) (al1 _ (.cells #[.slice a' n cap', .int .i64 t, .int .i64 f, .int .i64 l] 33))
  have bx0 := (boxA_new w a n cap t f l 33 rfl).below (al1 _ (.cells #[.slice a' n cap', .int .i64 t, .int .i64 f, .int .i64 l] 33))
  have bx1 := boxA_new (w.alloc (.cells #[.slice a n cap, .int .i64 t, .int .i64 f, .int .i64 l] 33)) a' n cap' t f l 33 (b := w.heap.size + 1) (by simp)
  go_enter Try.func16, Try.ntmps16
  go_wp2
  have H0 : Hid (BoxA ((w.alloc (.cells #[.slice a n cap, .int .i64 t, .int .i64 f, .int .i64 l] 33)).alloc (.cells #[.slice a' n cap', .int .i64 t, .int .i64 f, .int .i64 l] 33)) w.heap.size a n cap t f l ∧ BoxA ((w.alloc (.cells #[.slice a n cap, .int .i64 t, .int .i64 f, .int .i64 l] 33)).alloc (.cells #[.slice a' n cap', .int .i64 t, .int .i64 f, .int .i64 l] 33)) (w.heap.size + 1) a' n cap' t f l ∧ Below w.heap.size w ((w.alloc (.cells #[.slice a n cap, .int .i64 t, .int .i64 f, .int .i64 l] 33)).alloc (.cells #[.slice a' n cap', .int .i64 t, .int .i64 f, .int .i64 l] 33))) := ⟨bx0, bx1, B2⟩
  clear bx0 bx1 B2
  go_loopw [5] (fun i wr => ∃ k : Nat, k ≤ n ∧ i = .int .i64 k ∧ BoxA wr w.heap.size a n cap t f l ∧ BoxA wr (w.heap.size + 1) a' n cap' t f l ∧ Below w.heap.size w wr) (fun i _ => n - (intOf i).toNat)
  case atStart => exact ⟨0, Nat.zero_le _, rfl, H0.out⟩
  case round =>
    obtain ⟨k, hk, rfl, b0, b1, hB⟩ := hrel
    clear H0
    have p0 := b0.c0
    have q0 := b1.c0
    have HB : Hid (BoxA wr w.heap.size a n cap t f l ∧ BoxA wr (w.heap.size + 1) a' n cap' t f l ∧ Below w.heap.size w wr) := ⟨b0, b1, hB⟩
    clear b0 b1
    by_cases hlt : k < n
    · obtain ⟨c, o, ⟨x0, x1, x2, x3, x4, x5⟩, rfl, hx, hN⟩ := (hs.below hB).at hlt
      obtain ⟨c', o', y, rfl, hy, hM⟩ := (hs'.below hB).at hlt
      obtain rfl : y = ⟨x0, x1, x2, x3, x4, x5⟩ := by rw [hx] at hy; exact (Option.some.inj hy).symm
      have n0 := hN.c0
      have n1 := hN.c1
      have n2 := hN.c2
      have n3 := hN.c3
      have n4 := hN.c4
      have n5 := hN.c5
      have m0 := hM.c0
      have m1 := hM.c1
      have m2 := hM.c2
      have m3 := hM.c3
      have m4 := hM.c4
      have m5 := hM.c5
      dsimp only at n0 n1 n2 n3 n4 n5 m0 m1 m2 m3 m4 m5
      clear hN hM hx hy hB
      go_wp2
      go_region_held_law (fun V => V.cell? ⟨w.heap.size, 0, none⟩ = some (.slice (some ⟨c, o, none⟩) n cap) ∧ V.cell? ⟨w.heap.size + 1, 0, none⟩ = some (.slice (some ⟨c', o', none⟩) n cap') ∧ V.cell? ⟨c, o + k * 6, none⟩ = some (.int .i64 x0) ∧ V.cell? ⟨c, o + k * 6 + 1, none⟩ = some (.int .i64 x1) ∧ V.cell? ⟨c, o + k * 6 + 2, none⟩ = some (.int .i64 x2) ∧ V.cell? ⟨c, o + k * 6 + 3, none⟩ = some (.int .i64 x3) ∧ V.cell? ⟨c, o + k * 6 + 4, none⟩ = some (.bool x4) ∧ V.cell? ⟨c, o + k * 6 + 5, none⟩ = some (.int .i64 x5) ∧ V.cell? ⟨c', o' + k * 6, none⟩ = some (.int .i64 x0) ∧ V.cell? ⟨c', o' + k * 6 + 1, none⟩ = some (.int .i64 x1) ∧ V.cell? ⟨c', o' + k * 6 + 2, none⟩ = some (.int .i64 x2) ∧ V.cell? ⟨c', o' + k * 6 + 3, none⟩ = some (.int .i64 x3) ∧ V.cell? ⟨c', o' + k * 6 + 4, none⟩ = some (.bool x4) ∧ V.cell? ⟨c', o' + k * 6 + 5, none⟩ = some (.int .i64 x5)) (first | (go_keep; done)) (fail)
      go_wp2
      go_roundw
      case rel => exact ⟨k + 1, by omega, by go_num, HB.out.1.below (Below.refl _ _).drew, HB.out.2.1.below (Below.refl _ _).drew, HB.out.2.2.drew⟩
      case measure => simp [intOf]; omega
    · obtain rfl : k = n := by omega
      go_wp2
      go_ret
      exact ⟨rfl, hB⟩

set_option maxHeartbeats 400000 in
theorem tgInts_yes (a a' : Option Addr) (n cap cap' : Nat) (zs : List Int) (w : World) (hs : SInts w a n zs) (hs' : SInts w a' n zs) (hn : n ≤ 9223372036854775807) :
    Calls Try.prog 34 #[.slice a n cap, .slice a' n cap'] w fun e w' => e = .returned (.bool true) ∧ Below w.heap.size w w' := by
  go_enter Try.func34, Try.ntmps34
  go_wp2
  go_loopw [5] (fun i wr => ∃ k : Nat, k ≤ n ∧ i = .int .i64 k ∧ Below w.heap.size w wr) (fun i _ => n - (intOf i).toNat)
  case atStart => exact ⟨0, Nat.zero_le _, rfl, Below.refl _ _⟩
  case round =>
    obtain ⟨k, hk, rfl, hbel⟩ := hrel
    by_cases hlt : k < n
    · obtain ⟨hz, h0 | ⟨b, off, rfl, hc⟩⟩ := hs
      · omega
      · obtain ⟨_, h0 | ⟨b', off', rfl, hc'⟩⟩ := hs'
        · omega
        · obtain ⟨x, hx⟩ : ∃ x, zs.getD k 0 = x := ⟨_, rfl⟩
          have h1 : wr.cell? ⟨b, off + k, none⟩ = some (.int .i64 x) := by rw [← hx]; exact (hbel.cell (World.block_lt_of_cell? w ⟨b, off + k, none⟩ (hc k hlt))).trans (hc k hlt)
          have h2 : wr.cell? ⟨b', off' + k, none⟩ = some (.int .i64 x) := by rw [← hx]; exact (hbel.cell (World.block_lt_of_cell? w ⟨b', off' + k, none⟩ (hc' k hlt))).trans (hc' k hlt)
          clear hc hc' hx
          go_wp2
          go_region
          all_goals go_wp2
          all_goals
            go_roundw
            case rel => exact ⟨k + 1, by omega, by go_num, hbel.drew⟩
            case measure => simp [intOf]; omega
    · have : k = n := by omega
      subst this
      go_wp2
      go_ret
      exact ⟨rfl, hbel⟩

theorem empty_at {i : Nat} {os : List Od} (h : ([[], [], []] : List (List Od))[i]? = some os) : os = [] := by
  have hi3 : i < 3 := by
    have := (List.getElem?_eq_some_iff.1 h).1
    simpa using this
  match i, hi3, h with
  | 0, _, h => simpa using h.symm
  | 1, _, h => simpa using h.symm
  | 2, _, h => simpa using h.symm

set_option maxRecDepth 20000 in
set_option maxHeartbeats 4000000 in
theorem tgPool_new (pa pa' la la' : Option Addr) (pc pc' lc lc' : Nat) (w : World) (hp : SInts w pa 3 [0, 0, 0]) (hp' : SInts w pa' 3 [0, 0, 0]) (hs : SLimbo w la 3 [[], [], []]) (hs' : SLimbo w la' 3 [[], [], []]) :
    Calls Try.prog 18 #[.agg #[.int .i64 0, .slice pa 3 pc, .slice la 3 lc], .agg #[.int .i64 0, .slice pa' 3 pc', .slice la' 3 lc']] w fun e w' => e = .returned (.bool true) ∧ Below w.heap.size w w' := by
  have B2 := below_trans' (al1 w (.cells #[.int .i64 0, .slice pa 3 pc, .slice la 3 lc] 38)) (al1 _ (.cells #[.int .i64 0, .slice pa' 3 pc', .slice la' 3 lc'] 38))
  have bx0 := (boxP_new w 0 pa 3 pc la 3 lc 38 rfl).below (al1 _ (.cells #[.int .i64 0, .slice pa' 3 pc', .slice la' 3 lc'] 38))
  have bx1 := boxP_new (w.alloc (.cells #[.int .i64 0, .slice pa 3 pc, .slice la 3 lc] 38)) 0 pa' 3 pc' la' 3 lc' 38 (b := w.heap.size + 1) (by simp)
  go_enter Try.func18, Try.ntmps18
  go_wp2_with fail
  refine (tgInts_yes _ _ _ _ _ [0, 0, 0] _ (hp.below B2) (hp'.below B2) (by omega)).mono ?_
  rintro e w1 ⟨rfl, hb1⟩
  have H1 : Hid (BoxP w1 w.heap.size 0 pa 3 pc la 3 lc ∧ BoxP w1 (w.heap.size + 1) 0 pa' 3 pc' la' 3 lc' ∧ Below w.heap.size w w1) := ⟨bx0.below hb1, bx1.below hb1, below_trans' B2 hb1⟩
  clear B2 bx0 bx1 hb1 hp hp'
  obtain ⟨p0, p1, p2⟩ := H1.out.1.cells
  obtain ⟨q0, q1, q2⟩ := H1.out.2.1.cells
  go_wp2
  clear p0 p1 p2 q0 q1 q2
  go_loopw [5, 6] (fun i _ wr => ∃ k : Nat, k ≤ 3 ∧ i = .int .i64 k ∧ BoxP wr w.heap.size 0 pa 3 pc la 3 lc ∧ BoxP wr (w.heap.size + 1) 0 pa' 3 pc' la' 3 lc' ∧ Below w.heap.size w wr) (fun i _ _ => 3 - (intOf i).toNat)
  case atStart => exact ⟨0, by omega, rfl, H1.out⟩
  case round =>
    obtain ⟨k, hk, rfl, b0, b1, hB⟩ := hrel
    clear H1
    have p2 := b0.c2
    have q2 := b1.c2
    have HB : Hid (BoxP wr w.heap.size 0 pa 3 pc la 3 lc ∧ BoxP wr (w.heap.size + 1) 0 pa' 3 pc' la' 3 lc' ∧ Below w.heap.size w wr) := ⟨b0, b1, hB⟩
    clear b0 b1
    by_cases hlt : k < 3
    · obtain ⟨c, o, os, ai, ci, rfl, ho, hc, _⟩ := (hs.below hB).at hlt
      obtain ⟨c', o', os', ai', ci', rfl, ho', hc', _⟩ := (hs'.below hB).at hlt
      obtain rfl := empty_at ho
      obtain rfl := empty_at ho'
      simp only [List.length_nil] at hc hc'
      have HC : Hid (wr.cell? ⟨c, o + k, none⟩ = some (.slice ai 0 ci)) := hc
      clear ho ho' hB
      go_wp2
      go_region_held_law (fun V => V.cell? ⟨w.heap.size, 2, none⟩ = some (.slice (some ⟨c, o, none⟩) 3 lc) ∧ V.cell? ⟨w.heap.size + 1, 2, none⟩ = some (.slice (some ⟨c', o', none⟩) 3 lc') ∧ V.cell? ⟨c, o + k, none⟩ = some (.slice ai 0 ci) ∧ V.cell? ⟨c', o' + k, none⟩ = some (.slice ai' 0 ci')) (first | (go_keep; done)) (fail)
      go_wp2
      go_loopw [6] (fun j wr2 => j = .int .i64 0 ∧ wr2 = wr.drew) (fun _ _ => 0)
      case atStart => exact ⟨rfl, rfl⟩
      case round =>
        obtain ⟨rfl, rfl⟩ := hrel
        go_wp2
        go_roundw
        case rel => exact ⟨k + 1, by omega, by go_num, HB.out.1.below (Below.refl _ _).drew, HB.out.2.1.below (Below.refl _ _).drew, HB.out.2.2.drew⟩
        case measure => simp [intOf]; omega
    · obtain rfl : k = 3 := by omega
      go_wp2
      go_ret
      exact ⟨rfl, hB⟩

/-- What stands while the law runs. -/
structure PN (w : World) (A : Nat) (g c : Nat) (B gp gl : Nat) (W : World) : Prop where
  bel : Below w.heap.size w W
  ba : BoxA W A (some ⟨g, 0, none⟩) 10 c 0 1 1
  bp : BoxP W B 0 (some ⟨gp, 0, none⟩) 3 3 (some ⟨gl, 0, none⟩) 3 3
  sn : SNodes W (some ⟨g, 0, none⟩) 10 (newTo 8)
  sp : SInts W (some ⟨gp, 0, none⟩) 3 [0, 0, 0]
  sl : SLimbo W (some ⟨gl, 0, none⟩) 3 [[], [], []]
theorem PN.below {w : World} {A g c B gp gl : Nat} {W W' : World} (h : PN w A g c B gp gl W) (hb : Below W.heap.size W W') : PN w A g c B gp gl W' :=
  ⟨below_trans' h.bel hb, h.ba.below hb, h.bp.below hb, h.sn.below hb, h.sp.below hb, h.sl.below hb⟩
theorem PN.cells {w : World} {A g c B gp gl : Nat} {W : World} (h : PN w A g c B gp gl W) : W.cell? ⟨A, 0, none⟩ = some (.slice (some ⟨g, 0, none⟩) 10 c) ∧ W.cell? ⟨A, 1, none⟩ = some (.int .i64 0) ∧ W.cell? ⟨A, 2, none⟩ = some (.int .i64 1) ∧ W.cell? ⟨A, 3, none⟩ = some (.int .i64 1) ∧ W.cell? ⟨B, 0, none⟩ = some (.int .i64 0) ∧ W.cell? ⟨B, 1, none⟩ = some (.slice (some ⟨gp, 0, none⟩) 3 3) ∧ W.cell? ⟨B, 2, none⟩ = some (.slice (some ⟨gl, 0, none⟩) 3 3) := ⟨h.ba.c0, h.ba.c1, h.ba.c2, h.ba.c3, h.bp.c0, h.bp.c1, h.bp.c2⟩

theorem New3.sl {lo gp gl : Nat} {ps : List Int} {W : World} (h : New3 lo gp gl ps W) : SLimbo W (some ⟨gl, 0, none⟩) 3 [[], [], []] := by
  refine ⟨rfl, .inr ⟨gl, 0, rfl, fun i os hi => ?_⟩⟩
  have hi3 : i < 3 := by
    have := (List.getElem?_eq_some_iff.1 hi).1
    simpa using this
  obtain rfl := empty_at hi
  exact ⟨none, 0, by rw [Nat.zero_add]; exact h.ol i hi3, rfl, rfl, .inl rfl⟩

theorem new_facts : okA (newTo 8) 0 1 1 = true ∧ pathOf begC (newTo 8) 0 1 1 = [] ∧ stackL (newTo 8) 0 1 1 = [] ∧ queueL (newTo 8) 0 1 1 = [] ∧ (freeTo (newTo 8) 10).length = 8 ∧ okP 0 [0, 0, 0] [[], [], []] = true ∧ outL [[], [], []] = [] := by
  refine ⟨by decide +kernel, by decide +kernel, by decide +kernel, by decide +kernel, by decide +kernel, by decide +kernel, by decide +kernel⟩

theorem pn_lt {w : World} {A g c B gp gl : Nat} {W : World} (h : PN w A g c B gp gl W) : g < W.heap.size := by
  obtain ⟨b, o, x, e, _, hN⟩ := h.sn.at (k := 0) (by omega)
  cases e
  exact World.block_lt_of_cell? W ⟨g, 0 + 0 * 6, none⟩ hN.c0

set_option maxRecDepth 20000 in
set_option maxHeartbeats 8000000 in
theorem arnNew_walk (a : Option Addr) (n cap : Nat) (w : World) (hs : SBytes w a n) (hc : n ≤ cap) (hm : n ≤ 9223372036854775807) :
    Calls Try.prog 4 #[.slice a n cap] w fun e w' => e = .returned (.bool true) ∧ Below w.heap.size w w' := by
  by_cases hn : n ≤ 1048576
  · have hn' : ¬ (1048576 : Int) < (n : Int) := by omega
    clear hs
    have HF : Hid _ := new_facts
    go_enter Try.func4, Try.ntmps4
    go_wp2_with fail
    refine (implArnNew_any _).mono ?_
    rintro e w1 ⟨ag, c, rfl, og, hb1⟩
    obtain ⟨g, rfl⟩ : ∃ g, ag = some ⟨g, 0, none⟩ := by
      obtain ⟨a', c', e, _, h0 | ⟨g, rfl⟩⟩ := own6_shape og
      · omega
      · cases e; exact ⟨g, rfl⟩
    have T1 := al1 w1 (.cells #[.slice (some ⟨g, 0, none⟩) 10 c, .int .i64 0, .int .i64 1, .int .i64 1] 33)
    have H1 : Hid (SNodes (w1.alloc (.cells #[.slice (some ⟨g, 0, none⟩) 10 c, .int .i64 0, .int .i64 1, .int .i64 1] 33)) (some ⟨g, 0, none⟩) 10 (newTo 8) ∧ BoxA (w1.alloc (.cells #[.slice (some ⟨g, 0, none⟩) 10 c, .int .i64 0, .int .i64 1, .int .i64 1] 33)) w1.heap.size (some ⟨g, 0, none⟩) 10 c 0 1 1 ∧ Below w.heap.size w (w1.alloc (.cells #[.slice (some ⟨g, 0, none⟩) 10 c, .int .i64 0, .int .i64 1, .int .i64 1] 33))) := ⟨own6_snodes (ownsRow_below og T1), boxA_new w1 _ _ _ _ _ _ 33 rfl, below_trans' hb1 T1⟩
    clear og hb1 T1
    go_wp2_with fail
    refine (implPolNew_any _).mono ?_
    generalize w1.alloc (.cells #[.slice (some ⟨g, 0, none⟩) 10 c, .int .i64 0, .int .i64 1, .int .i64 1] 33) = W1 at H1 ⊢
    rintro e w2 ⟨gp, gl, rfl, n2, hb2⟩
    have T2 := al1 w2 (.cells #[.int .i64 0, .slice (some ⟨gp, 0, none⟩) 3 3, .slice (some ⟨gl, 0, none⟩) 3 3] 38)
    have P2 : PN w w1.heap.size g c w2.heap.size gp gl (w2.alloc (.cells #[.int .i64 0, .slice (some ⟨gp, 0, none⟩) 3 3, .slice (some ⟨gl, 0, none⟩) 3 3] 38)) := ⟨below_trans' (below_trans' H1.out.2.2 hb2) T2, (H1.out.2.1.below hb2).below T2, boxP_new w2 _ _ _ _ _ _ _ 38 rfl, (H1.out.1.below hb2).below T2, (own_sints n2.op).below T2, n2.sl.below T2⟩
    clear H1 hb2 T2 n2
    go_wp2
    generalize w2.alloc (.cells #[.int .i64 0, .slice (some ⟨gp, 0, none⟩) 3 3, .slice (some ⟨gl, 0, none⟩) 3 3] 38) = W2 at P2 ⊢
    have N0 : Hid (PN w w1.heap.size g c w2.heap.size gp gl W2.drew) := P2.below (Below.refl _ _).drew
    obtain ⟨p0, p1, p2, p3, p4, p5, p6⟩ := P2.cells
    clear P2
    first | go_region_held_law (fun V => V.cell? ⟨w1.heap.size, 0, none⟩ = some (.slice (some ⟨g, 0, none⟩) 10 c) ∧ V.cell? ⟨w1.heap.size, 1, none⟩ = some (.int .i64 0) ∧ V.cell? ⟨w1.heap.size, 2, none⟩ = some (.int .i64 1) ∧ V.cell? ⟨w1.heap.size, 3, none⟩ = some (.int .i64 1) ∧ V.cell? ⟨w2.heap.size, 0, none⟩ = some (.int .i64 0) ∧ V.cell? ⟨w2.heap.size, 1, none⟩ = some (.slice (some ⟨gp, 0, none⟩) 3 3) ∧ V.cell? ⟨w2.heap.size, 2, none⟩ = some (.slice (some ⟨gl, 0, none⟩) 3 3)) (first | (go_keep; done) | exact KP.out) ((first | (go_at_call 17; refine (specArnNew_any _).mono ?_; rintro e v1 ⟨aw, cw, rfl, ow, hb⟩; have N1 : Hid (PN w w1.heap.size g c w2.heap.size gp gl v1) := N0.out.below hb; have KP : Hid (v1.cell? ⟨w1.heap.size, 0, none⟩ = some (.slice (some ⟨g, 0, none⟩) 10 c) ∧ v1.cell? ⟨w1.heap.size, 1, none⟩ = some (.int .i64 0) ∧ v1.cell? ⟨w1.heap.size, 2, none⟩ = some (.int .i64 1) ∧ v1.cell? ⟨w1.heap.size, 3, none⟩ = some (.int .i64 1) ∧ v1.cell? ⟨w2.heap.size, 0, none⟩ = some (.int .i64 0) ∧ v1.cell? ⟨w2.heap.size, 1, none⟩ = some (.slice (some ⟨gp, 0, none⟩) 3 3) ∧ v1.cell? ⟨w2.heap.size, 2, none⟩ = some (.slice (some ⟨gl, 0, none⟩) 3 3)) := N1.out.cells; have SW : Hid (SNodes v1 aw 10 (newTo 8)) := own6_snodes ow; clear ow; clear hb) | (go_at_call 16; refine (tgArena_yes _ _ _ _ _ (newTo 8) 0 1 1 _ N1.out.sn SW.out (by omega)).mono ?_; rintro e v2 ⟨rfl, hb⟩; have N2 : Hid (PN w w1.heap.size g c w2.heap.size gp gl v2) := N1.out.below hb; have KP : Hid (v2.cell? ⟨w1.heap.size, 0, none⟩ = some (.slice (some ⟨g, 0, none⟩) 10 c) ∧ v2.cell? ⟨w1.heap.size, 1, none⟩ = some (.int .i64 0) ∧ v2.cell? ⟨w1.heap.size, 2, none⟩ = some (.int .i64 1) ∧ v2.cell? ⟨w1.heap.size, 3, none⟩ = some (.int .i64 1) ∧ v2.cell? ⟨w2.heap.size, 0, none⟩ = some (.int .i64 0) ∧ v2.cell? ⟨w2.heap.size, 1, none⟩ = some (.slice (some ⟨gp, 0, none⟩) 3 3) ∧ v2.cell? ⟨w2.heap.size, 2, none⟩ = some (.slice (some ⟨gl, 0, none⟩) 3 3)) := N2.out.cells; clear hb) | (go_at_call 19; refine (specPolNew_any _).mono ?_; rintro e v3 ⟨pa, pc, la, lc, rfl, sp, sl, hb⟩; have N3 : Hid (PN w w1.heap.size g c w2.heap.size gp gl v3) := N2.out.below hb; have KP : Hid (v3.cell? ⟨w1.heap.size, 0, none⟩ = some (.slice (some ⟨g, 0, none⟩) 10 c) ∧ v3.cell? ⟨w1.heap.size, 1, none⟩ = some (.int .i64 0) ∧ v3.cell? ⟨w1.heap.size, 2, none⟩ = some (.int .i64 1) ∧ v3.cell? ⟨w1.heap.size, 3, none⟩ = some (.int .i64 1) ∧ v3.cell? ⟨w2.heap.size, 0, none⟩ = some (.int .i64 0) ∧ v3.cell? ⟨w2.heap.size, 1, none⟩ = some (.slice (some ⟨gp, 0, none⟩) 3 3) ∧ v3.cell? ⟨w2.heap.size, 2, none⟩ = some (.slice (some ⟨gl, 0, none⟩) 3 3)) := N3.out.cells; have SQ : Hid (SInts v3 pa 3 [0, 0, 0] ∧ SLimbo v3 la 3 [[], [], []]) := ⟨sp, sl⟩; clear sp sl; clear hb) | (go_at_call 18; refine (tgPool_new _ _ _ _ _ _ _ _ _ N3.out.sp SQ.out.1 N3.out.sl SQ.out.2).mono ?_; rintro e v4 ⟨rfl, hb⟩; have N4 : Hid (PN w w1.heap.size g c w2.heap.size gp gl v4) := N3.out.below hb; have KP : Hid (v4.cell? ⟨w1.heap.size, 0, none⟩ = some (.slice (some ⟨g, 0, none⟩) 10 c) ∧ v4.cell? ⟨w1.heap.size, 1, none⟩ = some (.int .i64 0) ∧ v4.cell? ⟨w1.heap.size, 2, none⟩ = some (.int .i64 1) ∧ v4.cell? ⟨w1.heap.size, 3, none⟩ = some (.int .i64 1) ∧ v4.cell? ⟨w2.heap.size, 0, none⟩ = some (.int .i64 0) ∧ v4.cell? ⟨w2.heap.size, 1, none⟩ = some (.slice (some ⟨gp, 0, none⟩) 3 3) ∧ v4.cell? ⟨w2.heap.size, 2, none⟩ = some (.slice (some ⟨gl, 0, none⟩) 3 3)) := N4.out.cells; clear hb) | (go_at_call 20; refine (implArnOk_any (some ⟨g, 0, none⟩) 10 c (newTo 8) 0 1 1 _ N4.out.sn (by omega)).mono ?_; rintro e v5 ⟨rfl, hb⟩; rw [HF.out.1]; have N5 : Hid (PN w w1.heap.size g c w2.heap.size gp gl v5) := N4.out.below hb; have KP : Hid (v5.cell? ⟨w1.heap.size, 0, none⟩ = some (.slice (some ⟨g, 0, none⟩) 10 c) ∧ v5.cell? ⟨w1.heap.size, 1, none⟩ = some (.int .i64 0) ∧ v5.cell? ⟨w1.heap.size, 2, none⟩ = some (.int .i64 1) ∧ v5.cell? ⟨w1.heap.size, 3, none⟩ = some (.int .i64 1) ∧ v5.cell? ⟨w2.heap.size, 0, none⟩ = some (.int .i64 0) ∧ v5.cell? ⟨w2.heap.size, 1, none⟩ = some (.slice (some ⟨gp, 0, none⟩) 3 3) ∧ v5.cell? ⟨w2.heap.size, 2, none⟩ = some (.slice (some ⟨gl, 0, none⟩) 3 3)) := N5.out.cells; clear hb) | (go_at_call 21; refine (implArnChain_any (some ⟨g, 0, none⟩) 10 c (newTo 8) 0 1 1 _ N5.out.sn (by omega)).mono ?_; rintro e v6 ⟨ac, cc, rfl, oc, hb⟩; rw [HF.out.2.1]; have N6 : Hid (PN w w1.heap.size g c w2.heap.size gp gl v6) := N5.out.below hb; have KP : Hid (v6.cell? ⟨w1.heap.size, 0, none⟩ = some (.slice (some ⟨g, 0, none⟩) 10 c) ∧ v6.cell? ⟨w1.heap.size, 1, none⟩ = some (.int .i64 0) ∧ v6.cell? ⟨w1.heap.size, 2, none⟩ = some (.int .i64 1) ∧ v6.cell? ⟨w1.heap.size, 3, none⟩ = some (.int .i64 1) ∧ v6.cell? ⟨w2.heap.size, 0, none⟩ = some (.int .i64 0) ∧ v6.cell? ⟨w2.heap.size, 1, none⟩ = some (.slice (some ⟨gp, 0, none⟩) 3 3) ∧ v6.cell? ⟨w2.heap.size, 2, none⟩ = some (.slice (some ⟨gl, 0, none⟩) 3 3)) := N6.out.cells; clear hb) | (go_at_call 22; refine (implArnStack_any (some ⟨g, 0, none⟩) 10 c (newTo 8) 0 1 1 _ N6.out.sn (by omega)).mono ?_; rintro e v7 ⟨ak, ck, rfl, ok, hb⟩; rw [HF.out.2.2.1]; have N7 : Hid (PN w w1.heap.size g c w2.heap.size gp gl v7) := N6.out.below hb; have KP : Hid (v7.cell? ⟨w1.heap.size, 0, none⟩ = some (.slice (some ⟨g, 0, none⟩) 10 c) ∧ v7.cell? ⟨w1.heap.size, 1, none⟩ = some (.int .i64 0) ∧ v7.cell? ⟨w1.heap.size, 2, none⟩ = some (.int .i64 1) ∧ v7.cell? ⟨w1.heap.size, 3, none⟩ = some (.int .i64 1) ∧ v7.cell? ⟨w2.heap.size, 0, none⟩ = some (.int .i64 0) ∧ v7.cell? ⟨w2.heap.size, 1, none⟩ = some (.slice (some ⟨gp, 0, none⟩) 3 3) ∧ v7.cell? ⟨w2.heap.size, 2, none⟩ = some (.slice (some ⟨gl, 0, none⟩) 3 3)) := N7.out.cells; clear hb) | (go_at_call 23; refine (implArnQueue_any (some ⟨g, 0, none⟩) 10 c (newTo 8) 0 1 1 _ N7.out.sn (by omega)).mono ?_; rintro e v8 ⟨aq, cq, rfl, oq, hb⟩; rw [HF.out.2.2.2.1]; have N8 : Hid (PN w w1.heap.size g c w2.heap.size gp gl v8) := N7.out.below hb; have KP : Hid (v8.cell? ⟨w1.heap.size, 0, none⟩ = some (.slice (some ⟨g, 0, none⟩) 10 c) ∧ v8.cell? ⟨w1.heap.size, 1, none⟩ = some (.int .i64 0) ∧ v8.cell? ⟨w1.heap.size, 2, none⟩ = some (.int .i64 1) ∧ v8.cell? ⟨w1.heap.size, 3, none⟩ = some (.int .i64 1) ∧ v8.cell? ⟨w2.heap.size, 0, none⟩ = some (.int .i64 0) ∧ v8.cell? ⟨w2.heap.size, 1, none⟩ = some (.slice (some ⟨gp, 0, none⟩) 3 3) ∧ v8.cell? ⟨w2.heap.size, 2, none⟩ = some (.slice (some ⟨gl, 0, none⟩) 3 3)) := N8.out.cells; clear hb) | (go_at_call 24; refine (implArnFree_any g 0 10 c (newTo 8) 0 1 1 _ N8.out.sn (pn_lt N8.out) (by omega)).mono ?_; rintro e v9 ⟨rfl, hb⟩; rw [HF.out.2.2.2.2.1]; have N9 : Hid (PN w w1.heap.size g c w2.heap.size gp gl v9) := N8.out.below hb; have KP : Hid (v9.cell? ⟨w1.heap.size, 0, none⟩ = some (.slice (some ⟨g, 0, none⟩) 10 c) ∧ v9.cell? ⟨w1.heap.size, 1, none⟩ = some (.int .i64 0) ∧ v9.cell? ⟨w1.heap.size, 2, none⟩ = some (.int .i64 1) ∧ v9.cell? ⟨w1.heap.size, 3, none⟩ = some (.int .i64 1) ∧ v9.cell? ⟨w2.heap.size, 0, none⟩ = some (.int .i64 0) ∧ v9.cell? ⟨w2.heap.size, 1, none⟩ = some (.slice (some ⟨gp, 0, none⟩) 3 3) ∧ v9.cell? ⟨w2.heap.size, 2, none⟩ = some (.slice (some ⟨gl, 0, none⟩) 3 3)) := N9.out.cells; clear hb) | (go_at_call 25; refine (implPolOk_any 0 _ 3 3 _ 3 3 [0, 0, 0] [[], [], []] _ N9.out.sp N9.out.sl (by omega) (by omega) (by decide)).mono ?_; rintro e v10 ⟨rfl, hb⟩; rw [HF.out.2.2.2.2.2.1]; have N10 : Hid (PN w w1.heap.size g c w2.heap.size gp gl v10) := N9.out.below hb; have KP : Hid (v10.cell? ⟨w1.heap.size, 0, none⟩ = some (.slice (some ⟨g, 0, none⟩) 10 c) ∧ v10.cell? ⟨w1.heap.size, 1, none⟩ = some (.int .i64 0) ∧ v10.cell? ⟨w1.heap.size, 2, none⟩ = some (.int .i64 1) ∧ v10.cell? ⟨w1.heap.size, 3, none⟩ = some (.int .i64 1) ∧ v10.cell? ⟨w2.heap.size, 0, none⟩ = some (.int .i64 0) ∧ v10.cell? ⟨w2.heap.size, 1, none⟩ = some (.slice (some ⟨gp, 0, none⟩) 3 3) ∧ v10.cell? ⟨w2.heap.size, 2, none⟩ = some (.slice (some ⟨gl, 0, none⟩) 3 3)) := N10.out.cells; clear hb) | (go_at_call 26; refine (implPolOut_any 0 _ 3 3 _ 3 3 [[], [], []] _ N10.out.sl (by omega) (by decide)).mono ?_; rintro e v11 ⟨ao, co, rfl, oo, hb⟩; rw [HF.out.2.2.2.2.2.2]; have N11 : Hid (PN w w1.heap.size g c w2.heap.size gp gl v11) := N10.out.below hb; have KP : Hid (v11.cell? ⟨w1.heap.size, 0, none⟩ = some (.slice (some ⟨g, 0, none⟩) 10 c) ∧ v11.cell? ⟨w1.heap.size, 1, none⟩ = some (.int .i64 0) ∧ v11.cell? ⟨w1.heap.size, 2, none⟩ = some (.int .i64 1) ∧ v11.cell? ⟨w1.heap.size, 3, none⟩ = some (.int .i64 1) ∧ v11.cell? ⟨w2.heap.size, 0, none⟩ = some (.int .i64 0) ∧ v11.cell? ⟨w2.heap.size, 1, none⟩ = some (.slice (some ⟨gp, 0, none⟩) 3 3) ∧ v11.cell? ⟨w2.heap.size, 2, none⟩ = some (.slice (some ⟨gl, 0, none⟩) 3 3)) := N11.out.cells; clear hb) | (go_at_call 13; refine (tgOk_any _).mono ?_; rintro e v12 ⟨rfl, hb⟩; have N12 : Hid (PN w w1.heap.size g c w2.heap.size gp gl v12) := N11.out.below hb; have KP : Hid (v12.cell? ⟨w1.heap.size, 0, none⟩ = some (.slice (some ⟨g, 0, none⟩) 10 c) ∧ v12.cell? ⟨w1.heap.size, 1, none⟩ = some (.int .i64 0) ∧ v12.cell? ⟨w1.heap.size, 2, none⟩ = some (.int .i64 1) ∧ v12.cell? ⟨w1.heap.size, 3, none⟩ = some (.int .i64 1) ∧ v12.cell? ⟨w2.heap.size, 0, none⟩ = some (.int .i64 0) ∧ v12.cell? ⟨w2.heap.size, 1, none⟩ = some (.slice (some ⟨gp, 0, none⟩) 3 3) ∧ v12.cell? ⟨w2.heap.size, 2, none⟩ = some (.slice (some ⟨gl, 0, none⟩) 3 3)) := N12.out.cells; clear hb)))
    go_wp2
    go_ret
    exact ⟨rfl, N12.out.bel⟩
  · have hn' : (1048576 : Int) < (n : Int) := by omega
    clear hs
    go_enter Try.func4, Try.ntmps4
    go_wp2
    go_ret
    exact ⟨rfl, Below.refl _ _⟩

set_option maxRecDepth 100000 in
theorem arnNew_lifted (os : Os) (started : os.Started) (H : Type) (enc : TypeId × Value → H) :
    ReturnsInHanded {} Try.checked os 4 .any (Rows.fnArnNewSpec.pre6 enc Try.prog Try.f4 Rows.fnArnNewRow.domain false) (Rows.fnArnNewSpec.post enc Try.prog Try.f4 false true false false) := by
  refine returnsInHanded_of_change (C := Try.checked) own started (by kernel_rfl) Try.func4
    (ChangeSpec.witness6 (enc := enc) (C := Try.checked) false ⟨#[], #[.slice none 0 0], []⟩ 8 (by kernel_rfl) (by kernel_rfl) (by kernel_rfl) (by kernel_rfl)) ?_
  intro W base args ds gs before hval0 hW hcnd _
  have hval : ∀ (j : Nat) t v, Try.f4.params[j]? = some t → args[j]? = some v → Value.okWide Try.prog W .any base t v := hval0
  have hW' := hW
  obtain ⟨p, q, hA0, hV, rfl, hfz, hnd⟩ := hW
  have hA : DataW.TrodAll enc Try.prog W 0 (fun _ => true) true Try.f4.params.toList args.toList ds p := hA0
  rw [Try.params4] at hA hval
  obtain ⟨v0, vs0, d0, ds0, p0, q0, hargs, rfl, rfl, h0, r0⟩ := trodAll_cons hA
  obtain ⟨rfl, rfl, rfl⟩ := trodAll_nil r0
  obtain rfl : args = #[v0] := by cases args; simp_all
  obtain ⟨rfl, rfl⟩ := trodVars_none hV
  obtain ⟨a0, len0, cap0, rfl⟩ := okWide_slice Try.underlying22 (hval 0 22 v0 rfl rfl)
  have k0 := h0
  have lt0 : ∀ x ∈ p0, x.block < W.heap.size := by obtain ⟨m, hm⟩ := k0; exact DataW.trod_lt m _ _ _ hm
  obtain ⟨hs, hc, hm⟩ := sbytes_of_open h0
  clear hA0 hval0
  refine (arnNew_walk a0 len0 cap0 W hs hc hm).mono fun e W' ⟨he, bel⟩ => ?_
  subst he
  exact ⟨_, rfl, _, _, _, [], _, [], hW', trodAll_mk1 (shut_bool Try.underlying4 _), (trodAll_cons_mk (Below.trod laidOut (by kernel_rfl) (of_decide_eq_true (by kernel_rfl)) k0 bel lt0) trodAll_mk0), rfl, bel.frame _, fun h => by cases h⟩

theorem arnNew_holds : Rows.FnArnNewSaid :=
  OpenClaim.holds_of_wide 4 Try.f4 rfl rfl rfl rfl rfl rfl rfl ⟨rfl, rfl, rfl, rfl, rfl⟩ rfl rfl rfl rfl rfl (by kernel_rfl) Try.func4 (by kernel_rfl)
    (of_decide_eq_true (by kernel_rfl)) (by unfold Func.isWrapper; first | (rw [if_pos (by decide +kernel)]; kernel_rfl) | (rw [if_neg (by decide +kernel)]; exact ⟨rfl, rfl⟩))
    (fun os started H enc _ => arnNew_lifted os started H enc)

#print axioms arnNew_holds

end Go.Proofs.Ytcffoehldohooaa
