/- The iterator over the places to which words lead; slices.AppendSeq and slices.Collect over it. -/
import Derived.RangeFuncNested
import Derived.RangeFuncBound
import Derived.RangeFuncCalls
import Derived.RangeFuncLeaves
import Derived.RangeFuncBox
import Derived.Shelf.Abstract
import Derived.Shelf.RegionOpen
import Derived.WalkKit
import Derived.OwnWalkIn
import Derived.TacticsInMore
import Derived.LoopNIn
import Derived.LoopIn
import Derived.Maps.AppendAt
import Derived.Test.YtcffoehldohooaaGC
namespace Go.Proofs.Ytcffoehldohooaa
open Go.RowKit Go.Shelf
set_option linter.unusedVariables false

attribute [local go_sem] Oper.semAt_some

theorem fromTo_prefix (ns : List Nd) (p : Int) {k m : Nat} (h : k ≤ m) : fromTo ns p k <+: fromTo ns p m := by
  have key : ∀ m, fromTo ns p m <+: fromTo ns p (m + 1) := fun m => by
    show _ <+: (if stepK ns p m = 0 then fromTo ns p m else fromTo ns p m ++ [stepK ns p m])
    split
    · exact List.prefix_refl _
    · exact List.prefix_append _ _
  obtain ⟨d, rfl⟩ : ∃ d, m = k + d := ⟨m - k, by omega⟩
  induction d with
  | zero => exact List.prefix_refl _
  | succ d ih => exact (ih (by omega)).trans (key _)

set_option maxRecDepth 100000 in
set_option maxHeartbeats 2000000 in
/-- The iterator: for every loop body that keeps what lay below n₀. -/
theorem from1_in (l Bf Ba n₀ b off cap : Nat) (ns : List Nd) (t f q p : Int) (hb : b < n₀) (hBa : Ba < n₀) (hp : inB p 9 = true) (J Jx : List Int → World → Prop) (W : World)
    (hJ : AbidesFrom W.heap.size J)
    (hY : ∀ pre x W1, J pre W1 → pre.length < 9 → YieldAt Fence.wide 2 Try.prog l #[.int .i64 x] W1 fun e W' =>
      (e = .returned (.bool true) ∧ J (pre ++ [x]) W' ∧ Below n₀ W1 W') ∨ (e = .returned (.bool false) ∧ Jx (pre ++ [x]) W'))
    (hBf : W.cell? ⟨Bf, 0, none⟩ = some (.int .i64 p)) (hBx : BoxA W Ba (some ⟨b, off, none⟩) 10 cap t f q) (hs : SNodes W (some ⟨b, off, none⟩) 10 ns) (hnw : n₀ ≤ W.heap.size) (h0 : J [] W) :
    CallsIn Fence.wide 3 Try.prog 64 #[.func (.yield l) #[] #[], .pointer (some ⟨Bf, 0, none⟩), .pointer (some ⟨Ba, 0, none⟩)] W fun e W' => (∃ v, e = .returned v) ∧
      ((∃ ys, ys = fromTo ns p 9 ∧ J ys W') ∨ (∃ pre, pre <+: fromTo ns p 9 ∧ Jx pre W')) := by
  have hgr : Hid (∀ pre (A B : World), J pre A → Below A.heap.size A B → J pre B) := fun pre A B h hb => hJ pre A B none h ⟨hb.os, hb.tape, hb.output, hb.size, fun c hc _ => hb.block c hc⟩ (fun r e => by cases e)
  have HP : Hid (inB p 9 = true) := hp
  have wf1 : Fence.wide.fn 48 := trivial
  refine callsIn_of_wp Try.func64 rfl trivial ?_ rfl
  simp only [Try.ntmps64, List.size_toArray, List.length_cons, List.length_nil, Nat.reduceAdd, Nat.reduceSub, Array.replicate_succ, Array.replicate_zero, List.push_toArray, List.append_toArray, List.nil_append, List.cons_append]
  gi_wp2
  gi_loopw [4, 6] (fun at_ i wr => ∃ k : Nat, k ≤ 9 ∧ i = .int .i64 k ∧ at_ = .int .i64 (stepK ns p k) ∧ J (fromTo ns p k) wr ∧ Below n₀ W wr)
    (fun _ i _ => 9 - (intOf i).toNat)
  case atStart => exact ⟨0, Nat.zero_le _, rfl, rfl, h0, Below.refl _ _⟩
  case round =>
    obtain ⟨k, hk, rfl, rfl, hJs, hnx⟩ := hrel
    obtain ⟨x, hx⟩ : ∃ x, stepK ns p k = x := ⟨_, rfl⟩
    have hxb := stepK_bounds ns HP.out k
    rw [hx] at hxb ⊢
    have HX : Hid (stepK ns p k = x) := hx
    obtain ⟨hx0, hx9⟩ := hxb
    clear hx
    by_cases hlt : k < 9
    · by_cases hz : x = 0
      · have HR : Hid (fromTo ns p 9 = fromTo ns p k) := (fromTo_end (k := k) (by rw [HX.out]; exact hz) 9 (by omega)).1
        subst hz
        gi_wp2
        refine ⟨fun _ h => (by cases h), ?_⟩
        gi_wp2
        refine bodyPost_ret (results_none rfl _ _ _) rfl ?_
        exact ⟨⟨_, rfl⟩, .inl ⟨_, HR.out.symm, hJs⟩⟩
      · have hne : (x == 0) = false := by simpa using hz
        obtain ⟨fn, tmps, assign, body, hy, hR⟩ := hY (fromTo ns p k) x wr hJs (by have := fromTo_len ns p k; omega)
        have HG : Hid (fromTo ns p (k + 1) = fromTo ns p k ++ [x] ∧ stepK ns p (k + 1) = nextN ns x) := fromTo_go HX.out hz
        gi_wp2
        refine hR.mono ?_
        rintro e W3 (⟨rfl, hJ3, hk3⟩ | ⟨rfl, hJx3⟩)
        · obtain ⟨j, rfl⟩ : ∃ j : Nat, x = j := ⟨x.toNat, by omega⟩
          have hj : j < 10 := by omega
          obtain ⟨b', off', ⟨y0, y1, y2, y3, y4, y5⟩, eb, hyy, hN⟩ := hs.at (k := j) hj
          cases eb
          have hn3 := hnx.trans hk3
          have n0 := (hn3.cell (p := ⟨b, off + j * 6, none⟩) hb).trans hN.c0
          have n1 := (hn3.cell (p := ⟨b, off + j * 6 + 1, none⟩) hb).trans hN.c1
          have n2 := (hn3.cell (p := ⟨b, off + j * 6 + 2, none⟩) hb).trans hN.c2
          have n3 := (hn3.cell (p := ⟨b, off + j * 6 + 3, none⟩) hb).trans hN.c3
          have n4 := (hn3.cell (p := ⟨b, off + j * 6 + 4, none⟩) hb).trans hN.c4
          have n5 := (hn3.cell (p := ⟨b, off + j * 6 + 5, none⟩) hb).trans hN.c5
          have q0 := (hn3.cell (p := ⟨Ba, 0, none⟩) hBa).trans hBx.c0
          dsimp only at n0 n1 n2 n3 n4 n5
          have HW : Hid (nextN ns (j : Int) = wTo y2) := by show _ = _; simp [nextN, List.getD, hyy]
          clear hN hyy
          gi_wp2
          refine (callsIn_wide.2 (leads_any _ _ _ _ _ _ _)).mono ?_
          rintro e W4 ⟨rfl, hb4⟩
          have hn4 : Below n₀ W W4 := hn3.trans (hb4.mono (Nat.le_trans hnw hn3.size))
          have hJ4 := hgr.out _ _ _ hJ3 hb4
          clear n0 n1 n2 n3 n4 n5 q0 hJ3
          gi_wp2
          go_roundw
          case rel => exact ⟨k + 1, by omega, by simp, by rw [HG.out.2, HW.out], by rw [HG.out.1]; exact hJ4, hn4⟩
          case measure => simp [intOf]; omega
        · gi_wp2
          refine bodyPost_ret (results_none rfl _ _ _) rfl ?_
          refine ⟨⟨_, rfl⟩, .inr ⟨fromTo ns p k ++ [x], ?_, hJx3⟩⟩
          rw [← HG.out.1]
          exact fromTo_prefix ns p (by omega)
    · obtain rfl : k = 9 := by omega
      gi_wp2
      go_end0
      exact ⟨⟨_, rfl⟩, .inl ⟨_, rfl, hJs⟩⟩

/-- The iterator's contract. -/
theorem from_stops (Bf Ba n₀ b off cap : Nat) (ns : List Nd) (t f q p : Int) (w : World) (hb : b < n₀) (hBa : Ba < n₀) (hBf : Bf < w.heap.size) (hp : inB p 9 = true) (hn₀ : n₀ ≤ w.heap.size)
    (hc : w.cell? ⟨Bf, 0, none⟩ = some (.int .i64 p)) (hBx : BoxA w Ba (some ⟨b, off, none⟩) 10 cap t f q) (hs : SNodes w (some ⟨b, off, none⟩) 10 ns) :
    SeqStopsK Fence.wide 3 Try.prog 64 #[.pointer (some ⟨Bf, 0, none⟩), .pointer (some ⟨Ba, 0, none⟩)] (fun x : Int => #[Value.int .i64 x]) (Below n₀) (fun ys => ys = fromTo ns p 9) (fun pre => pre <+: fromTo ns p 9) 9 w := fun l J Jx W hW hJ _ hY h0 =>
  from1_in l Bf Ba n₀ b off cap ns t f q p hb hBa hp J Jx W hJ hY ((hW.cell (p := ⟨Bf, 0, none⟩) hBf).trans hc) (hBx.below hW) (hs.below hW) (Nat.le_trans hn₀ hW.size) h0

set_option maxRecDepth 100000 in
set_option maxHeartbeats 2000000 in
/-- slices.AppendSeq(nil, ..) over the iterator. -/
theorem appendSeq_in (Bf Ba b off cap : Nat) (ns : List Nd) (t f q p : Int) (w : World) (hb : b < w.heap.size) (hBf : Bf < w.heap.size) (hp : inB p 9 = true)
    (hc : w.cell? ⟨Bf, 0, none⟩ = some (.int .i64 p)) (hBx : BoxA w Ba (some ⟨b, off, none⟩) 10 cap t f q) (hs : SNodes w (some ⟨b, off, none⟩) 10 ns) :
    CallsIn Fence.wide 4 Try.prog 63 #[.slice none 0 0, .func (.func 64) #[] #[.pointer (some ⟨Bf, 0, none⟩), .pointer (some ⟨Ba, 0, none⟩)]] w fun e W' => ∃ v, e = .returned v ∧ W'.ownsRow w.heap.size 3 1 v (fromTo ns p 9).length ((fromTo ns p 9).map (Value.int .i64)) ∧ Below w.heap.size w W' := by
  have h1 : (1 : Nat) ≤ 4 := by omega
  have hro : Fence.wide.round = none := rfl
  have wf2 : Fence.wide.fn 64 := trivial
  obtain ⟨i0, hi, hz0, hz1, hz2⟩ := info_parts Try.info3
  refine callsIn_of_wp_marks Try.func63 rfl trivial ?_ rfl
  simp only [Try.ntmps63, List.size_toArray, List.length_cons, List.length_nil, Nat.reduceAdd, Nat.reduceSub, Array.replicate_succ, Array.replicate_zero, List.push_toArray, List.append_toArray, List.nil_append, List.cons_append]
  gi_wp2
  have bO := Boxed.new w 35 (.slice none 0 0)
  have A := al1 w (.cells #[.slice none 0 0] 35)
  refine wpIn_rangeFunc_ownG hro h1 (gf := 64) (lb := #[.pointer (some ⟨Bf, 0, none⟩), .pointer (some ⟨Ba, 0, none⟩)]) rfl wf2 (enters_of Try.func64 (by kernel_rfl) rfl)
    (from_stops Bf Ba w.heap.size b off cap ns t f q p _ hb hBx.lt (by simp; omega) hp (by simp) (cell_kept A hc) (hBx.below A) (hs.below A)) belowK_t (belowK_b (by simp)) (Below.refl _ _) (fun _ => rfl)
    (fun pre W => (∃ v, Boxed W w.heap.size 35 v ∧ W.ownsRow w.heap.size 3 1 v pre.length (pre.map (Value.int .i64)) ∧ True) ∧ Below w.heap.size w W)
    (fun _ _ _ => False)
    (OwnFrom.and (Own.from (holdsRow_own w.heap.size w.heap.size 35 3 1 (fun pre : List Int => pre.length) (fun pre => pre.map (Value.int .i64)) (fun pre v => True)) _) (ownFrom_below (Nat.le_refl _) (by simp)))
    (fun _ _ _ _ _ hs _ _ => hs)
    ⟨⟨_, bO, World.ownsRow_nil _ _ _ _, trivial⟩, A⟩
    (fun x => { tmps := #[.slice none 0 0, .func (.func 64) #[] #[.pointer (some ⟨Bf, 0, none⟩), .pointer (some ⟨Ba, 0, none⟩)], .pointer (some ⟨w.heap.size, 0, none⟩), undef, .slice none 0 0, .int .i64 x, .func (.func 64) #[] #[.pointer (some ⟨Bf, 0, none⟩), .pointer (some ⟨Ba, 0, none⟩)], .int .i64 x, undef, undef, undef, undef, undef], defers := [] }) ?assign ?body ?done ?stop
  case assign =>
    intro l x W K hK
    gi_wp2
    exact hK
  case body =>
    rintro l pre x W ⟨⟨v, hv, hrow, _⟩, hB⟩ hlt
    have hcv := hv.cell
    gi_wp2_with (gi_at_builtin; refine wpListIn_append_own _ rfl _ _ 35 rfl w.heap.size 3 i0 (.int .i64 0) 1 8 Try.underlying35 hi hz0 hz1 hz2 rfl (by decide) _ _ _ rfl (hrow.alloc _) ⟨W.heap.size, 0, none⟩ 1 1 [.int .i64 x] rfl rfl (cell_one_new _ _ _) (by simp [Value.oneCell']) (by unfold maxLen; omega) (by omega) (by have := hB.size; simp; omega) ?_; intro v' w1 hown' hgrow _; obtain ⟨g', cap', rfl⟩ := ownsRow_succ hown'; obtain ⟨hv1, hv2, hr2, hk2, hb2⟩ := hv.appended (by decide) hrow hB.size (Nat.le_refl _) hown' hgrow; have hc1 := hv1.cell; have hf1 := hv1.frozen)
    exact ⟨hk2.from _, hb2, ⟨_, hv2, by simpa using hr2, trivial⟩, hB.trans hb2⟩
  case done =>
    rintro D ys W hD rfl ⟨⟨v, hv, hrow, _⟩, hB⟩ hK
    have hcv := hv.cell
    gi_wp2
    refine ⟨by simp, .inl ⟨_, _, rfl, run_takeDeferred hK, ?_⟩⟩
    exact ⟨_, results_tmp rfl _ _ _, v, rfl, ownsRow_putObj hrow _ hK rfl, hB.trans (belowK_b (w := w) (Nat.le_refl _) W D _ _ (by simp at hD; omega) hK rfl rfl)⟩
  case stop =>
    rintro D c pre W _ _ h _
    exact h.elim

theorem collect_any (Bf Ba b off cap : Nat) (ns : List Nd) (t f q p : Int) (w : World) (hb : b < w.heap.size) (hBf : Bf < w.heap.size) (hp : inB p 9 = true)
    (hc : w.cell? ⟨Bf, 0, none⟩ = some (.int .i64 p)) (hBx : BoxA w Ba (some ⟨b, off, none⟩) 10 cap t f q) (hs : SNodes w (some ⟨b, off, none⟩) 10 ns) :
    Calls Try.prog 46 #[.func (.func 64) #[] #[.pointer (some ⟨Bf, 0, none⟩), .pointer (some ⟨Ba, 0, none⟩)]] w fun e w' => ListI (fromTo ns p 9) e w w' := by
  go_enter Try.func46, Try.ntmps46
  go_wp2_with fail
  refine (callsIn_wide.1 (appendSeq_in Bf Ba b off cap ns t f q p w hb hBf hp hc hBx hs)).mono ?_
  rintro e w1 ⟨v, rfl, ho, hb1⟩
  obtain ⟨a', c', rfl, _⟩ := own_shape ho
  have H : Hid (w1.ownsRow w.heap.size 3 1 (.slice a' (fromTo ns p 9).length c') (fromTo ns p 9).length ((fromTo ns p 9).map (Value.int .i64)) ∧ Below w.heap.size w w1) := ⟨ho, hb1⟩
  clear ho hb1 hc hBx hs
  go_wp2
  go_ret
  exact ⟨a', c', rfl, H.out.1, H.out.2⟩

set_option maxHeartbeats 1000000 in
theorem placesFrom_any (a : Option Addr) (m cap : Nat) (t f l p : Int) (w : World) :
    Calls Try.prog 47 #[.agg #[.slice a m cap, .int .i64 t, .int .i64 f, .int .i64 l], .int .i64 p] w fun e w' => e = .returned (.func (.func 64) #[] #[.pointer (some ⟨w.heap.size + 1, 0, none⟩), .pointer (some ⟨w.heap.size, 0, none⟩)]) ∧ w' = (w.alloc (.cells #[.slice a m cap, .int .i64 t, .int .i64 f, .int .i64 l] 33)).alloc (.cells #[.int .i64 p] 3) := by
  have hmf : ∀ (fn : Fn) (first cap : Array Value) (w : World), (Instr.makeFunc fn first cap).run Try.prog w = .ok (.func fn first cap) w := fun _ _ _ _ => rfl
  go_enter Try.func47, Try.ntmps47
  go_wp2
  go_ret
  exact ⟨rfl, rfl⟩

end Go.Proofs.Ytcffoehldohooaa
