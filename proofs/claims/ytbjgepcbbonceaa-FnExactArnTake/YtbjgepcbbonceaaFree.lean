/- Contracts of ArnFree, of the specification's and of the program's; the iterator over the free places. -/
import Derived.RangeFuncNested
import Derived.RangeFuncBound
import Derived.RangeFuncCalls
import Derived.RangeFuncLeaves
import Derived.RangeFuncBox
import Derived.Shelf.Abstract
import Derived.Shelf.RegionOpen
import Derived.WalkKit
import Derived.OwnWalkIn
import Derived.TacticsInMore
import Derived.LoopNIn
import Derived.LoopIn
import Derived.Test.YtbjgepcbbonceaaShape
namespace Go.Proofs.Ytbjgepcbbonceaa
open Go.RowKit Go.Shelf
set_option linter.unusedVariables false

attribute [local go_sem] Oper.semAt_some

/-- The places before k that are not in use. -/
def freeTo (ns : List Nd) (k : Nat) : List Nat := (List.range k).filter (fun i => !(ns.getD i Nd.zero).used)
theorem freeTo_hit {ns : List Nd} {k : Nat} {x : Nd} (h : ns[k]? = some x) (hu : x.used = false) : freeTo ns (k + 1) = freeTo ns k ++ [k] := by
  simp [freeTo, List.range_succ, List.filter_append, List.getD, h, hu]
theorem freeTo_miss {ns : List Nd} {k : Nat} {x : Nd} (h : ns[k]? = some x) (hu : x.used = true) : freeTo ns (k + 1) = freeTo ns k := by
  simp [freeTo, List.range_succ, List.filter_append, List.getD, h, hu]
theorem freeTo_len (ns : List Nd) (k : Nat) : (freeTo ns k).length ≤ k := by
  have := List.length_filter_le (fun i => !(ns.getD i Nd.zero).used) (List.range k)
  simpa [freeTo] using this
theorem freeTo_prefix (ns : List Nd) {k m : Nat} (h : k ≤ m) : freeTo ns k <+: freeTo ns m := by
  obtain ⟨d, rfl⟩ : ∃ d, m = k + d := ⟨m - k, by omega⟩
  unfold freeTo
  rw [List.range_add, List.filter_append]
  exact List.prefix_append _ _

set_option maxRecDepth 100000 in
set_option maxHeartbeats 2000000 in
/-- The iterator: for every loop body that keeps what lay below n₀. -/
theorem free1_in (F : Fence) (n : Nat) (hf : F.fn 44) (hro : F.round = none) (hn : 1 ≤ n) (l Bn n₀ b off len cap : Nat) (ns : List Nd) (hb : b < n₀) (hlen : len ≤ 9223372036854775807) (J Jx : List (Fin len) → World → Prop) (W : World)
    (hJ : AbidesFrom W.heap.size J)
    (hY : ∀ pre x W1, J pre W1 → pre.length < len → YieldAt F (n - 1) Try.prog l #[.int .i64 (x.val : Nat)] W1 fun e W' =>
      (e = .returned (.bool true) ∧ J (pre ++ [x]) W' ∧ Below n₀ W1 W') ∨ (e = .returned (.bool false) ∧ Jx (pre ++ [x]) W'))
    (hBn : W.cell? ⟨Bn, 0, none⟩ = some (.slice (some ⟨b, off, none⟩) len cap)) (hs : SNodes W (some ⟨b, off, none⟩) len ns) (hnw : n₀ ≤ W.heap.size) (h0 : J [] W) :
    CallsIn F n Try.prog 44 #[.func (.yield l) #[] #[], .pointer (some ⟨Bn, 0, none⟩)] W fun e W' => (∃ v, e = .returned v) ∧
      ((∃ ys, ys.map Fin.val = freeTo ns len ∧ J ys W') ∨ (∃ pre, pre.map Fin.val <+: freeTo ns len ∧ Jx pre W')) := by
  have hal : Hid (∀ pre (A : World) (o : Obj), J pre A → J pre (A.alloc o)) := fun pre A o h => hJ pre A (A.alloc o) none h (World.grownBy_alloc A o none) (fun r e => by cases e)
  refine callsIn_of_wp Try.func44 rfl hf ?_ hro
  simp only [Try.ntmps44, List.size_toArray, List.length_cons, List.length_nil, Nat.reduceAdd, Nat.reduceSub, Array.replicate_succ, Array.replicate_zero, List.push_toArray, List.append_toArray, List.nil_append, List.cons_append]
  gi_wp2
  gi_loopw [3, 4, 8] (fun _ _ i wr => ∃ k : Nat, k ≤ len ∧ i = .int .i64 k ∧ (∃ pre, pre.map Fin.val = freeTo ns k ∧ J pre wr) ∧ Below n₀ W wr)
    (fun _ _ i _ => len - (intOf i).toNat)
  case atStart => exact ⟨0, Nat.zero_le _, rfl, ⟨[], rfl, h0⟩, Below.refl _ _⟩
  case round =>
    obtain ⟨k, hk, rfl, ⟨pre, hpre0, hJs⟩, hnx⟩ := hrel
    have hpre : Hid (pre.map Fin.val = freeTo ns k) := hpre0
    clear hpre0
    by_cases hlt : k < len
    · obtain ⟨b2, off2, ⟨x0, x1, x2, x3, u, x5⟩, eab, hx, hN⟩ := hs.at hlt
      cases eab
      have n0 := (hnx.cell (p := ⟨b, off + k * 6, none⟩) hb).trans hN.c0
      have n1 := (hnx.cell (p := ⟨b, off + k * 6 + 1, none⟩) hb).trans hN.c1
      have n2 := (hnx.cell (p := ⟨b, off + k * 6 + 2, none⟩) hb).trans hN.c2
      have n3 := (hnx.cell (p := ⟨b, off + k * 6 + 3, none⟩) hb).trans hN.c3
      have n4 := (hnx.cell (p := ⟨b, off + k * 6 + 4, none⟩) hb).trans hN.c4
      have n5 := (hnx.cell (p := ⟨b, off + k * 6 + 5, none⟩) hb).trans hN.c5
      dsimp only at n0 n1 n2 n3 n4 n5
      have HX : Hid (ns[k]? = some ⟨x0, x1, x2, x3, u, x5⟩) := hx
      have hJa := hal.out _ wr (.cells #[.int .i64 x0, .int .i64 x1, .int .i64 x2, .int .i64 x3, .bool u, .int .i64 x5] 46) hJs
      have hB2 : Below n₀ W (wr.alloc (.cells #[.int .i64 x0, .int .i64 x1, .int .i64 x2, .int .i64 x3, .bool u, .int .i64 x5] 46)) := hnx.alloc (Nat.le_trans hnw hnx.size) _
      clear hx hN
      cases u
      · obtain ⟨fn, tmps, assign, body, hy, hR⟩ := hY pre ⟨k, hlt⟩ _ hJa (by have h1 := freeTo_len ns k; have h2 := congrArg List.length hpre.out; simp at h2; omega)
        dsimp only at hy
        gi_wp2
        refine hR.mono ?_
        rintro e W3 (⟨rfl, hJ3, hk3⟩ | ⟨rfl, hJx3⟩)
        · gi_wp2
          go_roundw
          case rel => exact ⟨k + 1, by omega, by simp, ⟨pre ++ [⟨k, hlt⟩], by rw [freeTo_hit HX.out rfl, List.map_append, hpre.out]; rfl, hJ3⟩, hB2.trans hk3⟩
          case measure => simp [intOf]; omega
        · gi_wp2
          refine bodyPost_ret (results_none rfl _ _ _) rfl ?_
          exact ⟨⟨_, rfl⟩, .inr ⟨pre ++ [⟨k, hlt⟩], by rw [List.map_append, hpre.out]; show freeTo ns k ++ [k] <+: _; rw [← freeTo_hit HX.out rfl]; exact freeTo_prefix ns (by omega), hJx3⟩⟩
      · gi_wp2
        refine ⟨fun _ h => (by cases h), ?_⟩
        gi_wp2
        go_roundw
        case rel => exact ⟨k + 1, by omega, by simp, ⟨pre, by rw [freeTo_miss HX.out rfl]; exact hpre.out, hJa⟩, hB2⟩
        case measure => simp [intOf]; omega
    · obtain rfl : k = len := by omega
      gi_wp2
      go_end0
      exact ⟨⟨_, rfl⟩, .inl ⟨_, hpre.out, hJs⟩⟩

set_option maxHeartbeats 1000000 in
/-- The iterator's maker: the places are boxed; the function value captures the box. -/
theorem freePlaces_in (F : Fence) (n : Nat) (hf : F.fn 41) (hro : F.round = none) (a : Option Addr) (m cap : Nat) (t f l : Int) (w : World) :
    CallsIn F n Try.prog 41 #[.agg #[.slice a m cap, .int .i64 t, .int .i64 f, .int .i64 l]] w fun e w' => e = .returned (.func (.func 44) #[] #[.pointer (some ⟨w.heap.size, 0, none⟩)]) ∧ w' = w.alloc (.cells #[.slice a m cap, .int .i64 t, .int .i64 f, .int .i64 l] 28) := by
  refine callsIn_of_wp Try.func41 rfl hf ?_ hro
  simp only [Try.ntmps41, List.size_toArray, List.length_cons, List.length_nil, Nat.reduceAdd, Nat.reduceSub, Array.replicate_succ, Array.replicate_zero, List.push_toArray, List.append_toArray, List.nil_append, List.cons_append]
  gi_wp2
  go_ret
  exact ⟨rfl, rfl⟩

/-- The iterator's contract. -/
theorem free_stops (F : Fence) (n : Nat) (hf : F.fn 44) (hro : F.round = none) (hn : 1 ≤ n) (Bn n₀ b off len cap : Nat) (ns : List Nd) (w : World) (hb : b < n₀) (hlen : len ≤ 9223372036854775807) (hBn : Bn < w.heap.size) (hn₀ : n₀ ≤ w.heap.size)
    (hc : w.cell? ⟨Bn, 0, none⟩ = some (.slice (some ⟨b, off, none⟩) len cap)) (hs : SNodes w (some ⟨b, off, none⟩) len ns) :
    SeqStopsK F n Try.prog 44 #[.pointer (some ⟨Bn, 0, none⟩)] (fun x : Fin len => #[Value.int .i64 (x.val : Nat)]) (Below n₀) (fun ys => ys.map Fin.val = freeTo ns len) (fun pre => pre.map Fin.val <+: freeTo ns len) len w := fun l J Jx W hW hJ _ hY h0 =>
  free1_in F n hf hro hn l Bn n₀ b off len cap ns hb hlen J Jx W hJ hY ((hW.cell (p := ⟨Bn, 0, none⟩) hBn).trans hc) (hs.below hW) (Nat.le_trans hn₀ hW.size) h0

theorem sumN_snoc {α : Type} (pre : List α) (x : α) : (pre ++ [x]).length = pre.length + 1 := by simp

end Go.Proofs.Ytbjgepcbbonceaa
