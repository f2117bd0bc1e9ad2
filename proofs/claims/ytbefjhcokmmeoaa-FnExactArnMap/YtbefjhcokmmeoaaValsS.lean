/- The specification's l2Vals. -/
import Derived.Test.YtbefjhcokmmeoaaValsI
namespace Go.Proofs.Ytbefjhcokmmeoaa
open Go.RowKit
set_option linter.unusedVariables false

set_option maxRecDepth 20000 in
set_option maxHeartbeats 2000000 in
theorem l2Vals_any (b off cap : Nat) (ns : List Nd) (t f l : Int) (a : Option Addr) (n c : Nat) (zs : List Int) (w : World) (hs : SNodes w (some ⟨b, off, none⟩) 10 ns) (hz : SInts w a n zs) (hn : n ≤ 1048576) (hp : placesB zs) :
    Calls Try.prog 37 #[.agg #[.slice (some ⟨b, off, none⟩) 10 cap, .int .i64 t, .int .i64 f, .int .i64 l], .slice a n c] w fun e w' => ListI (valsOf ns zs) e w w' := by
  have HZ : Hid (zs.length = n) := hz.1
  have HP : Hid (placesB zs) := hp
  have A := al1 w (.cells #[.slice (some ⟨b, off, none⟩) 10 cap, .int .i64 t, .int .i64 f, .int .i64 l] 32)
  have I0 : Hid (ValAt w b off cap t f l (some ⟨w.heap.size + 1, 0, none⟩) 0 0 [] ((w.alloc (.cells #[.slice (some ⟨b, off, none⟩) 10 cap, .int .i64 t, .int .i64 f, .int .i64 l] 32)).alloc (.cells #[] 3))) := ⟨below_trans' A (al1 _ _), (boxA_new w _ _ _ _ _ _ 32 rfl).below (al1 _ _), own_int_lit w _⟩
  have HS : Hid (SNodes w (some ⟨b, off, none⟩) 10 ns ∧ SInts w a n zs) := ⟨hs, hz⟩
  clear A hs hz hp
  go_enter Try.func37, Try.ntmps37
  go_wp2
  go_loopw [5, 6] (fun s i wr => ∃ (k : Nat) (a' : Option Addr) (c' : Nat), k ≤ n ∧ i = .int .i64 k ∧ s = .slice a' k c' ∧ ValAt w b off cap t f l a' k c' (valsOf ns (zs.take k)) wr) (fun _ i _ => n - (intOf i).toNat)
  case atStart => exact ⟨0, _, 0, Nat.zero_le _, rfl, rfl, I0.out⟩
  case round =>
    obtain ⟨k, a', c', hk, rfl, rfl, I⟩ := hrel
    clear I0
    by_cases hlt : k < n
    · obtain ⟨_, h0 | ⟨b', off', rfl, hc⟩⟩ := HS.out.2
      · omega
      · obtain ⟨y, hy⟩ : ∃ y, zs.getD k 0 = y := ⟨_, rfl⟩
        have hcy : w.cell? ⟨b', off' + k, none⟩ = some (.int .i64 y) := by rw [← hy]; exact hc k hlt
        have hyb := HP.out k (by rw [HZ.out]; exact hlt)
        rw [hy] at hyb
        obtain ⟨j, rfl⟩ : ∃ j : Nat, y = j := ⟨y.toNat, by omega⟩
        have hj : j < 10 := by omega
        obtain ⟨b2, off2, ⟨x0, x1, x2, x3, x4, x5⟩, eab, hx, hN⟩ := HS.out.1.at hj
        cases eab
        have hcv := hN.c1
        dsimp only at hcv
        have HK : Hid (∀ W, Below w.heap.size w W → W.cell? ⟨b', off' + k, none⟩ = some (.int .i64 (j : Int)) ∧ W.cell? ⟨b, off + j * 6 + 1, none⟩ = some (.int .i64 x1)) := fun W hb => ⟨(hb.cell (p := ⟨b', off' + k, none⟩) (World.block_lt_of_cell? w ⟨b', off' + k, none⟩ hcy)).trans hcy, (hb.cell (p := ⟨b, off + j * 6 + 1, none⟩) (World.block_lt_of_cell? w ⟨b, off + j * 6 + 1, none⟩ hcv)).trans hcv⟩
        obtain ⟨h1, n1⟩ := HK.out wr I.bel
        have c0 := I.box.c0
        obtain ⟨ys, hys⟩ : ∃ ys, valsOf ns (zs.take k) = ys := ⟨_, rfl⟩
        rw [hys] at I
        have HE : Hid (valsOf ns (zs.take (k + 1)) = ys ++ [x1]) := by
          show _ = _
          rw [valsOf_next ns (x := ⟨x0, x1, x2, x3, x4, x5⟩) (by rw [HZ.out]; exact hlt) hy (by simp [ndAt, List.getD, hx]), hys]
        have HI : Hid (ValAt w b off cap t f l a' k c' ys (wr.drew.alloc (.cells #[.int .i64 x1] 3))) := I.below (below_trans' (Below.refl _ _).drew (al1 _ _))
        have hlt0 := I.box.lt
        clear hc hy hN hx hyb I hcy hcv
        go_wp2
        go_region_held_law (fun w' => w'.cell? ⟨w.heap.size, 0, none⟩ = some (.slice (some ⟨b, off, none⟩) 10 cap) ∧ w'.cell? ⟨b', off' + k, none⟩ = some (.int .i64 (j : Int)) ∧ w'.cell? ⟨b, off + j * 6 + 1, none⟩ = some (.int .i64 x1)) (first | (go_keep; done) | exact KP.out)
          ((refine step_append_ints (by rfl) (.tmp 14) (.tmp 24) rfl (w.heap.size + 1) _ _ _ ys rfl HI.out.own _ _ _ [x1] rfl (sints_one wr.drew x1) (by omega) (by omega) (by simp; omega) ?_; intro a2 c2 w2 hown2 hb2; have HI2 : Hid (ValAt w b off cap t f l a2 (k + 1) c2 (ys ++ [x1]) w2) := HI.out.more hb2 (by first | exact hown2 | (rw [List.map_append]; exact hown2)); have KP : Hid (w2.cell? ⟨w.heap.size, 0, none⟩ = some (.slice (some ⟨b, off, none⟩) 10 cap) ∧ w2.cell? ⟨b', off' + k, none⟩ = some (.int .i64 (j : Int)) ∧ w2.cell? ⟨b, off + j * 6 + 1, none⟩ = some (.int .i64 x1)) := ⟨HI2.out.box.c0, HK.out w2 HI2.out.bel⟩; clear hown2 hb2))
        all_goals
          go_wp2
          go_roundw
          case rel => exact ⟨k + 1, a2, c2, by omega, by go_num, rfl, by rw [HE.out]; exact HI2.out⟩
          case measure => simp [intOf]; omega
    · obtain rfl : k = n := by omega
      have HI : Hid (ValAt w b off cap t f l a' k c' (valsOf ns (zs.take k)) wr) := I
      clear I
      go_wp2
      go_ret
      have ho := HI.out.own
      rw [List.take_of_length_le (by rw [HZ.out]; exact Nat.le_refl _)] at ho
      have e : (valsOf ns zs).length = k := by unfold valsOf; rw [List.length_map, HZ.out]
      refine ⟨a', c', ?_⟩
      rw [e]
      exact ⟨rfl, own_mono ho (by omega), HI.out.bel⟩

end Go.Proofs.Ytbefjhcokmmeoaa
