/- entries: the entries of places. -/
import Derived.Test.YtcffoehldohooaaOkM
import Derived.Test.YtcffoehldohooaaEnts
import Derived.Deep.RegionHeldLaw
namespace Go.Proofs.Ytcffoehldohooaa
open Go.RowKit
set_option linter.unusedVariables false

/-- The numbers of the entries of places. -/
def entsOf (ns : List Nd) (zs : List Int) : List Int := zs.flatMap (fun z => [(ndAt ns z).key, (ndAt ns z).val])

/-- What stands in the loop of entries. -/
structure EntAt (w : World) (b off cap : Nat) (t f l : Int) (a' : Option Addr) (m c' : Nat) (L : List Int) (W : World) : Prop where
  bel : Below w.heap.size w W
  box : BoxA W w.heap.size (some ⟨b, off, none⟩) 10 cap t f l
  own : W.ownsRow (w.heap.size + 1) 83 2 (.slice a' m c') m (L.map (Value.int .i64))

theorem EntAt.below {w : World} {b off cap : Nat} {t f l : Int} {a' : Option Addr} {m c' : Nat} {L : List Int} {W W' : World} (h : EntAt w b off cap t f l a' m c' L W) (hb : Below W.heap.size W W') : EntAt w b off cap t f l a' m c' L W' :=
  ⟨below_trans' h.bel hb, h.box.below hb, ownsRow_below h.own hb⟩
theorem EntAt.grown {w : World} {b off cap : Nat} {t f l : Int} {a' : Option Addr} {m c' : Nat} {L : List Int} {W W' : World} (h : EntAt w b off cap t f l a' m c' L W) (hg : W.grownBy W' (Value.slice a' m c').ownBlock) {a2 : Option Addr} {m2 c2 : Nat} {L2 : List Int} (ho : W'.ownsRow (w.heap.size + 1) 83 2 (.slice a2 m2 c2) m2 (L2.map (Value.int .i64))) : EntAt w b off cap t f l a2 m2 c2 L2 W' :=
  { bel := h.bel.grown hg h.bel.size (fun k e => by have := (h.own.lt k e).1; omega), box := h.box.grown hg (fun e => by have := (h.own.lt _ e.symm).1; omega), own := ho }

theorem entsOf_next (ns : List Nd) {zs : List Int} {k : Nat} {y : Int} {x : Nd} (hk : k < zs.length) (hy : zs.getD k 0 = y) (hx : ndAt ns y = x) : entsOf ns (zs.take (k + 1)) = entsOf ns (zs.take k) ++ [x.key, x.val] := by
  rw [take_next hk hy]
  unfold entsOf
  rw [List.flatMap_append]
  simp [hx]

set_option maxRecDepth 20000 in
set_option maxHeartbeats 2000000 in
theorem entries_any (b off cap : Nat) (ns : List Nd) (t f l : Int) (a : Option Addr) (n c : Nat) (zs : List Int) (w : World) (hs : SNodes w (some ⟨b, off, none⟩) 10 ns) (hz : SInts w a n zs) (hn : n ≤ 1048576) (hp : placesB zs) :
    Calls Try.prog 43 #[.agg #[.slice (some ⟨b, off, none⟩) 10 cap, .int .i64 t, .int .i64 f, .int .i64 l], .slice a n c] w fun e w' => ∃ a' c', e = .returned (.slice a' n c') ∧ w'.ownsRow w.heap.size 83 2 (.slice a' n c') n ((entsOf ns zs).map (Value.int .i64)) ∧ Below w.heap.size w w' := by
  obtain ⟨i0, hi, hz0, hz1, hz2⟩ := info_parts Try.info83
  have HZ : Hid (zs.length = n) := hz.1
  have HP : Hid (placesB zs) := hp
  have A := al1 w (.cells #[.slice (some ⟨b, off, none⟩) 10 cap, .int .i64 t, .int .i64 f, .int .i64 l] 33)
  have I0 : Hid (EntAt w b off cap t f l none 0 0 [] (w.alloc (.cells #[.slice (some ⟨b, off, none⟩) 10 cap, .int .i64 t, .int .i64 f, .int .i64 l] 33))) := ⟨A, boxA_new w _ _ _ _ _ _ 33 rfl, ⟨rfl, .inl ⟨rfl, rfl⟩⟩⟩
  have HS : Hid (SNodes w (some ⟨b, off, none⟩) 10 ns ∧ SInts w a n zs) := ⟨hs, hz⟩
  clear A hs hz hp
  go_enter Try.func43, Try.ntmps43
  go_wp2
  go_loopw [5, 7, 10] (fun s _ i wr => ∃ (k : Nat) (a' : Option Addr) (c' : Nat), k ≤ n ∧ i = .int .i64 k ∧ s = .slice a' k c' ∧ EntAt w b off cap t f l a' k c' (entsOf ns (zs.take k)) wr) (fun _ _ i _ => n - (intOf i).toNat)
  case atStart => exact ⟨0, none, 0, Nat.zero_le _, rfl, rfl, I0.out⟩
  case round =>
    obtain ⟨k, a', c', hk, rfl, rfl, I⟩ := hrel
    clear I0
    by_cases hlt : k < n
    · obtain ⟨_, h0 | ⟨b', off', rfl, hc⟩⟩ := HS.out.2.below I.bel
      · omega
      · obtain ⟨y, hy⟩ : ∃ y, zs.getD k 0 = y := ⟨_, rfl⟩
        have h1 : wr.cell? ⟨b', off' + k, none⟩ = some (.int .i64 y) := by rw [← hy]; exact hc k hlt
        have hyb := HP.out k (by rw [HZ.out]; exact hlt)
        rw [hy] at hyb
        obtain ⟨j, rfl⟩ : ∃ j : Nat, y = j := ⟨y.toNat, by omega⟩
        have hj : j < 10 := by omega
        obtain ⟨b2, off2, ⟨x0, x1, x2, x3, x4, x5⟩, eab, hx, hN⟩ := (HS.out.1.below I.bel).at hj
        cases eab
        have n0 := hN.c0
        have n1 := hN.c1
        dsimp only at n0 n1
        have c0 := I.box.c0
        obtain ⟨ys, hys⟩ : ∃ ys, entsOf ns (zs.take k) = ys := ⟨_, rfl⟩
        rw [hys] at I
        have HE : Hid (entsOf ns (zs.take (k + 1)) = ys ++ [x0, x1]) := by
          show _ = _
          rw [entsOf_next ns (x := ⟨x0, x1, x2, x3, x4, x5⟩) (by rw [HZ.out]; exact hlt) hy (by simp [ndAt, List.getD, hx]), hys]
        have IA := I.below (below_trans' (Below.refl _ _).drew (al1 wr.drew (.cells #[.int .i64 x0, .int .i64 x1] 83)))
        have HI : Hid (EntAt w b off cap t f l a' k c' ys (wr.drew.alloc (.cells #[.int .i64 x0, .int .i64 x1] 83))) := IA
        have hsz := I.bel.size
        have hlt0 := I.box.lt
        have hnews : Hid (∀ jj u, ([Value.int .i64 x0, Value.int .i64 x1] : List Value)[jj]? = some u → (wr.drew.alloc (.cells #[.int .i64 x0, .int .i64 x1] 83)).cell? ((⟨wr.heap.size, 0, none⟩ : Addr).add jj) = some u) := by
          intro jj u hjj
          match jj, hjj with
          | 0, hjj => simp at hjj; subst hjj; exact (show (wr.alloc (.cells #[.int .i64 x0, .int .i64 x1] 83)).cell? ⟨wr.heap.size, 0, none⟩ = some (.int .i64 x0) by simp)
          | 1, hjj => simp at hjj; subst hjj; exact (show (wr.alloc (.cells #[.int .i64 x0, .int .i64 x1] 83)).cell? ⟨wr.heap.size, 1, none⟩ = some (.int .i64 x1) by simp)
        obtain ⟨b3, off3, x9, eab2, hx9, hN9⟩ := HS.out.1.at hj
        cases eab2
        have e9 : x9 = ⟨x0, x1, x2, x3, x4, x5⟩ := by rw [hx] at hx9; exact (Option.some.inj hx9).symm
        subst e9
        have OK0 : Hid (w.cell? ⟨b, off + j * 6, none⟩ = some (.int .i64 x0)) := hN9.c0
        have OK1 : Hid (w.cell? ⟨b, off + j * 6 + 1, none⟩ = some (.int .i64 x1)) := hN9.c1
        have HBL : Hid (b < w.heap.size) := World.block_lt_of_cell? w ⟨b, off + j * 6, none⟩ hN9.c0
        clear hc hy hN hx hyb I IA hN9 hx9
        go_wp2
        go_region_held_law (fun w' => w'.cell? ⟨w.heap.size, 0, none⟩ = some (.slice (some ⟨b, off, none⟩) 10 cap) ∧ w'.cell? ⟨b, off + j * 6, none⟩ = some (.int .i64 x0) ∧ w'.cell? ⟨b, off + j * 6 + 1, none⟩ = some (.int .i64 x1)) (first | (go_keep; done) | exact KP.out)
          ((refine step_append_mine rfl (.tmp 14) (.tmp 28) 55 rfl (w.heap.size + 1) 83 i0 (.agg #[.int .i64 0, .int .i64 0]) 2 16 Try.underlying55 hi hz0 hz1 hz2 rfl (by decide) (.slice a' k c') k (ys.map (Value.int .i64)) rfl HI.out.own ⟨wr.heap.size, 0, none⟩ 1 1 [.int .i64 x0, .int .i64 x1] rfl rfl hnews.out (by intro u hu; simp at hu; rcases hu with rfl | rfl <;> rfl) (by unfold maxLen; omega) (by omega) (by simp; omega) ?_; intro v' w2 hown hgrow; obtain ⟨a2, c2, hv, _⟩ := own2_shape (zs := ys ++ [x0, x1]) (by simpa using hown); subst hv; have HI2 : Hid (EntAt w b off cap t f l a2 (k + 1) c2 (ys ++ [x0, x1]) w2) := HI.out.grown hgrow (by simpa using hown); have KP : Hid (w2.cell? ⟨w.heap.size, 0, none⟩ = some (.slice (some ⟨b, off, none⟩) 10 cap) ∧ w2.cell? ⟨b, off + j * 6, none⟩ = some (.int .i64 x0) ∧ w2.cell? ⟨b, off + j * 6 + 1, none⟩ = some (.int .i64 x1)) := ⟨HI2.out.box.c0, (HI2.out.bel.cell (p := ⟨b, off + j * 6, none⟩) HBL.out).trans OK0.out, (HI2.out.bel.cell (p := ⟨b, off + j * 6 + 1, none⟩) HBL.out).trans OK1.out⟩; clear hown hgrow))
        all_goals
          go_wp2
          go_roundw
          case rel => exact ⟨k + 1, a2, c2, by omega, by go_num, rfl, by rw [HE.out]; exact HI2.out⟩
          case measure => simp [intOf]; omega
    · obtain rfl : k = n := by omega
      have HI : Hid (EntAt w b off cap t f l a' k c' (entsOf ns (zs.take k)) wr) := I
      have hb := I.bel
      clear I
      go_wp2
      go_ret
      refine ⟨a', c', rfl, ?_, hb⟩
      have := HI.out.own
      rw [List.take_of_length_le (by rw [HZ.out]; exact Nat.le_refl _)] at this
      exact own_mono this (by omega)

end Go.Proofs.Ytcffoehldohooaa
