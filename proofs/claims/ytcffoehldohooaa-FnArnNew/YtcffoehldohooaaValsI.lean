/- The values of places: the program's values, the specification's l2Vals. -/
import Derived.Test.YtcffoehldohooaaOkI5
import Derived.Deep.RegionHeldLaw
namespace Go.Proofs.Ytcffoehldohooaa
open Go.RowKit
set_option linter.unusedVariables false

/-- The values of places. -/
def valsOf (ns : List Nd) (zs : List Int) : List Int := zs.map (fun z => (ndAt ns z).val)
theorem valsOf_next (ns : List Nd) {zs : List Int} {k : Nat} {y : Int} {x : Nd} (hk : k < zs.length) (hy : zs.getD k 0 = y) (hx : ndAt ns y = x) : valsOf ns (zs.take (k + 1)) = valsOf ns (zs.take k) ++ [x.val] := by
  rw [take_next hk hy]
  unfold valsOf
  rw [List.map_append]
  simp [hx]

/-- What stands in the loops. -/
structure ValAt (w : World) (b off cap : Nat) (t f l : Int) (a' : Option Addr) (m c' : Nat) (L : List Int) (W : World) : Prop where
  bel : Below w.heap.size w W
  box : BoxA W w.heap.size (some ⟨b, off, none⟩) 10 cap t f l
  own : W.ownsRow (w.heap.size + 1) 3 1 (.slice a' m c') m (L.map (Value.int .i64))
theorem ValAt.below {w : World} {b off cap : Nat} {t f l : Int} {a' : Option Addr} {m c' : Nat} {L : List Int} {W W' : World} (h : ValAt w b off cap t f l a' m c' L W) (hb : Below W.heap.size W W') : ValAt w b off cap t f l a' m c' L W' :=
  ⟨below_trans' h.bel hb, h.box.below hb, ownsRow_below h.own hb⟩
theorem ValAt.more {w : World} {b off cap : Nat} {t f l : Int} {a' : Option Addr} {m c' : Nat} {L : List Int} {W W' : World} (h : ValAt w b off cap t f l a' m c' L W) (hb : Below (w.heap.size + 1) W W') {a2 : Option Addr} {m2 c2 : Nat} {L2 : List Int} (ho : W'.ownsRow (w.heap.size + 1) 3 1 (.slice a2 m2 c2) m2 (L2.map (Value.int .i64))) : ValAt w b off cap t f l a2 m2 c2 L2 W' :=
  ⟨h.bel.trans (hb.mono (by omega)), ⟨(hb.cell (p := ⟨w.heap.size, 0, none⟩) (Nat.lt_succ_self _)).trans h.box.c0, (hb.cell (p := ⟨w.heap.size, 1, none⟩) (Nat.lt_succ_self _)).trans h.box.c1, (hb.cell (p := ⟨w.heap.size, 2, none⟩) (Nat.lt_succ_self _)).trans h.box.c2, (hb.cell (p := ⟨w.heap.size, 3, none⟩) (Nat.lt_succ_self _)).trans h.box.c3⟩, ho⟩
theorem sints_one (w : World) (v : Int) : SInts (w.alloc (.cells #[.int .i64 v] 3)) (some ⟨w.heap.size, 0, none⟩) 1 [v] := by
  refine ⟨rfl, .inr ⟨_, _, rfl, fun i hi => ?_⟩⟩
  obtain rfl : i = 0 := by omega
  simp

set_option maxRecDepth 20000 in
set_option maxHeartbeats 2000000 in
theorem values_any (b off cap : Nat) (ns : List Nd) (t f l : Int) (a : Option Addr) (n c : Nat) (zs : List Int) (w : World) (hs : SNodes w (some ⟨b, off, none⟩) 10 ns) (hz : SInts w a n zs) (hn : n ≤ 1048576) (hp : placesB zs) :
    Calls Try.prog 49 #[.agg #[.slice (some ⟨b, off, none⟩) 10 cap, .int .i64 t, .int .i64 f, .int .i64 l], .slice a n c] w fun e w' => ListI (valsOf ns zs) e w w' := by
  have HZ : Hid (zs.length = n) := hz.1
  have HP : Hid (placesB zs) := hp
  have A := al1 w (.cells #[.slice (some ⟨b, off, none⟩) 10 cap, .int .i64 t, .int .i64 f, .int .i64 l] 33)
  have I0 : Hid (ValAt w b off cap t f l none 0 0 [] (w.alloc (.cells #[.slice (some ⟨b, off, none⟩) 10 cap, .int .i64 t, .int .i64 f, .int .i64 l] 33))) := ⟨A, boxA_new w _ _ _ _ _ _ 33 rfl, ⟨rfl, .inl ⟨rfl, rfl⟩⟩⟩
  have HS : Hid (SNodes w (some ⟨b, off, none⟩) 10 ns ∧ SInts w a n zs) := ⟨hs, hz⟩
  clear A hs hz hp
  go_enter Try.func49, Try.ntmps49
  go_wp2
  go_loopw [5, 7, 10] (fun s _ i wr => ∃ (k : Nat) (a' : Option Addr) (c' : Nat), k ≤ n ∧ i = .int .i64 k ∧ s = .slice a' k c' ∧ ValAt w b off cap t f l a' k c' (valsOf ns (zs.take k)) wr) (fun _ _ i _ => n - (intOf i).toNat)
  case atStart => exact ⟨0, none, 0, Nat.zero_le _, rfl, rfl, I0.out⟩
  case round =>
    obtain ⟨k, a', c', hk, rfl, rfl, I⟩ := hrel
    clear I0
    by_cases hlt : k < n
    · obtain ⟨_, h0 | ⟨b', off', rfl, hc⟩⟩ := HS.out.2.below I.bel
      · omega
      · obtain ⟨y, hy⟩ : ∃ y, zs.getD k 0 = y := ⟨_, rfl⟩
        have h1 : wr.cell? ⟨b', off' + k, none⟩ = some (.int .i64 y) := by rw [← hy]; exact hc k hlt
        have hyb := HP.out k (by rw [HZ.out]; exact hlt)
        rw [hy] at hyb
        obtain ⟨j, rfl⟩ : ∃ j : Nat, y = j := ⟨y.toNat, by omega⟩
        have hj : j < 10 := by omega
        obtain ⟨b2, off2, ⟨x0, x1, x2, x3, x4, x5⟩, eab, hx, hN⟩ := (HS.out.1.below I.bel).at hj
        cases eab
        have n1 := hN.c1
        dsimp only at n1
        have c0 := I.box.c0
        obtain ⟨ys, hys⟩ : ∃ ys, valsOf ns (zs.take k) = ys := ⟨_, rfl⟩
        rw [hys] at I
        have HE : Hid (valsOf ns (zs.take (k + 1)) = ys ++ [x1]) := by
          show _ = _
          rw [valsOf_next ns (x := ⟨x0, x1, x2, x3, x4, x5⟩) (by rw [HZ.out]; exact hlt) hy (by simp [ndAt, List.getD, hx]), hys]
        have HI : Hid (ValAt w b off cap t f l a' k c' ys (wr.alloc (.cells #[.int .i64 x1] 3))) := I.below (al1 _ _)
        have hlt0 := I.box.lt
        clear hc hy hN hx hyb I
        go_wp2_with (at_builtin; go_must (refine wpList_append_ints rfl (.tmp 14) (.tmp 21) rfl (w.heap.size + 1) _ _ _ ys rfl HI.out.own _ _ _ [x1] rfl (sints_one wr x1) (by omega) (by omega) (by simp; omega) ?_))
        intro a2 c2 w2 hown2 hb2
        have HI2 : Hid (ValAt w b off cap t f l a2 (k + 1) c2 (ys ++ [x1]) w2) := HI.out.more hb2 (by rw [List.map_append]; exact hown2)
        clear hown2 hb2
        go_wp2
        go_roundw
        case rel => exact ⟨k + 1, a2, c2, by omega, by go_num, rfl, by rw [HE.out]; exact HI2.out⟩
        case measure => simp [intOf]; omega
    · obtain rfl : k = n := by omega
      have HI : Hid (ValAt w b off cap t f l a' k c' (valsOf ns (zs.take k)) wr) := I
      clear I
      go_wp2
      go_ret
      have ho := HI.out.own
      rw [List.take_of_length_le (by rw [HZ.out]; exact Nat.le_refl _)] at ho
      have e : (valsOf ns zs).length = k := by unfold valsOf; rw [List.length_map, HZ.out]
      refine ⟨a', c', ?_⟩
      rw [e]
      exact ⟨rfl, own_mono ho (by omega), HI.out.bel⟩

end Go.Proofs.Ytcffoehldohooaa
