/- Contracts of the law helpers over entries: entries lie two cells each; they are told by the flat list of their numbers. -/
import Derived.Test.YtleajkacfhhemapMarks
import Derived.Test.YtleajkacfhhemapPush
import Derived.Test.YtleajkacfhhemapInv
import Derived.Deep.RegionWith
namespace Go.Proofs.Ytleajkacfhhemap
open Go.RowKit
set_option linter.unusedVariables false

theorem Try.info44 : (Try.prog.info? 44).map (fun i => (i.zero, i.size, i.bytes)) = some (some (.agg #[.int .i64 0, .int .i64 0]), 2, 16) := by kernel_rfl

theorem own2_cell {w : World} {base : Nat} {e : TypeId} {g n cap : Nat} {zs : List Int} (h : w.ownsRow base e 2 (.slice (some ⟨g, 0, none⟩) n cap) n (zs.map (Value.int .i64))) {j : Nat} (hj : j < n * 2) :
    w.cell? ⟨g, j, none⟩ = some (.int .i64 (zs.getD j 0)) := by
  have hz : zs.length = n * 2 := by simpa using h.1
  rw [h.cellAt j hj]
  simp [List.getD, show j < zs.length by omega]

theorem own2_sints {w : World} {base : Nat} {e : TypeId} {a : Option Addr} {n cap : Nat} {zs : List Int} (h : w.ownsRow base e 2 (.slice a n cap) n (zs.map (Value.int .i64))) : SInts w a (n * 2) zs := by
  have hl : zs.length = n * 2 := by simpa using h.1
  rcases h.2 with ⟨e, rfl⟩ | ⟨g, cap', cur, e, hg, hh, hc, hm, hs, ht⟩
  · exact ⟨hl, .inl rfl⟩
  · cases e
    exact ⟨hl, .inr ⟨g, 0, rfl, fun i hi => by rw [Nat.zero_add]; exact own2_cell h hi⟩⟩

theorem own2_shape {w : World} {base : Nat} {e : TypeId} {v : Value} {n : Nat} {zs : List Int} (h : w.ownsRow base e 2 v n (zs.map (Value.int .i64))) : ∃ a cap, v = .slice a n cap ∧ n ≤ cap ∧ (a = none ∧ n = 0 ∧ cap = 0 ∨ ∃ g, a = some ⟨g, 0, none⟩) := by
  rcases h.2 with ⟨rfl, rfl⟩ | ⟨g, cap, cur, rfl, hg, hh, hc, hm, hs, ht⟩
  · exact ⟨none, 0, rfl, Nat.le_refl _, .inl ⟨rfl, rfl, rfl⟩⟩
  · exact ⟨_, cap, rfl, hc, .inr ⟨g, rfl⟩⟩

theorem cell_at (W : World) (cs : Array Value) (t : TypeId) (i : Nat) {b : Nat} (hb : b = W.heap.size) {v : Value} (hv : cs[i]? = some v) : (W.alloc (.cells cs t)).cell? ⟨b, i, none⟩ = some v := by
  subst hb
  simpa using hv

theorem frozen_at (W : World) (cs : Array Value) (t : TypeId) (i : Nat) {b : Nat} (hb : b = W.heap.size) : (W.alloc (.cells cs t)).frozen? ⟨b, i, none⟩ = false := by
  subst hb
  simp

set_option maxHeartbeats 400000 in
theorem toMapEntry_any (k v : Int) (w : World) :
    Calls Try.prog 30 #[.agg #[.int .i64 k, .int .i64 v]] w fun e w' => e = .returned (.agg #[.int .i64 k, .int .i64 v]) ∧ Below w.heap.size w w' := by
  go_enter Try.func30, Try.ntmps30
  go_wp2
  exact bodyPost_ret (v := .agg #[.int .i64 k, .int .i64 v]) (by simp [results, Try.results30, go_sem]) rfl ⟨rfl, (((Below.refl _ _).alloc (Nat.le_refl _) _).alloc (by simp) _).alloc (by simp; omega) _⟩

theorem made_ints (n : Nat) : (madeCells #[Value.int .i64 0, Value.int .i64 0] (n * 2)).toList = (List.replicate (n * 2) (0 : Int)).map (Value.int .i64) := by
  apply List.ext_getElem?
  intro i
  by_cases hi : i < n * 2
  · have h01 : i % 2 = 0 ∨ i % 2 = 1 := by omega
    rcases h01 with h | h <;> simp [madeCells, hi, h]
  · simp [madeCells, hi]

theorem take_set2 (ys zs : List Int) (k : Nat) (hy : k * 2 + 1 < ys.length) (hz : k * 2 + 1 < zs.length) (h : ys.take (k * 2) = zs.take (k * 2)) :
    (((ys.set (k * 2) (zs.getD (k * 2) 0)).set (k * 2 + 1) (zs.getD (k * 2 + 1) 0)).take ((k + 1) * 2)) = zs.take ((k + 1) * 2) := by
  rw [show (k + 1) * 2 = k * 2 + 1 + 1 by omega]
  rw [List.take_succ_eq_append_getElem (by simp; omega), List.take_succ_eq_append_getElem (by simp; omega), List.take_succ_eq_append_getElem (by omega), List.take_succ_eq_append_getElem (by omega)]
  rw [List.take_set, List.take_set, List.set_eq_of_length_le (by simp; omega), List.set_eq_of_length_le (by simp; omega), h]
  simp [List.getD, show k * 2 < zs.length by omega, hz]

set_option maxHeartbeats 400000 in
theorem toMapEntryS_any (a : Option Addr) (n cap : Nat) (zs : List Int) (w : World) (hs : SInts w a (n * 2) zs) (hn : n ≤ 1048576) :
    Calls Try.prog 20 #[.slice a n cap] w fun e w' => e = .returned (.slice (some ⟨w.heap.size, 0, none⟩) n n) ∧
      w'.ownsRow w.heap.size 44 2 (.slice (some ⟨w.heap.size, 0, none⟩) n n) n (zs.map (Value.int .i64)) ∧ Below w.heap.size w w' := by
  obtain ⟨i0, hi, hz0, hz1, hz2⟩ := info_parts Try.info44
  have hzl : Hid (zs.length = n * 2) := hs.1
  go_enter Try.func20, Try.ntmps20
  go_wp2_with (at_make; refine wpList_make_full _ rfl _ _ 27 rfl w.heap.size 44 i0 (.agg #[.int .i64 0, .int .i64 0]) 2 Try.underlying27 hi hz0 hz1 _ _ _ _ n rfl rfl rfl rfl ?b2 ?b3 (Nat.le_refl _) ?_)
  case b2 => rw [hz2]; omega
  case b3 => unfold maxLen; omega
  intro w0 hown0 hgrow0
  rw [made_ints] at hown0
  go_wp2
  go_loopw [4] (fun i wr => ∃ (k : Nat) (ys : List Int), k ≤ n ∧ i = .int .i64 k ∧ wr.ownsRow w.heap.size 44 2 (.slice (some ⟨w.heap.size, 0, none⟩) n n) n (ys.map (Value.int .i64)) ∧ ys.take (k * 2) = zs.take (k * 2) ∧ Below w.heap.size w wr)
    (fun i _ => n - (intOf i).toNat)
  case atStart => exact ⟨0, _, Nat.zero_le _, rfl, hown0, by simp, (Below.refl _ _).grown hgrow0 (Nat.le_refl _) (fun k h => by cases h)⟩
  case round =>
    obtain ⟨k, ys, hk, rfl, hown, htake, hbel⟩ := hrel
    by_cases hlt : k < n
    · obtain ⟨hz, h0 | ⟨b, off, rfl, hc⟩⟩ := hs
      · omega
      · have hyl : ys.length = n * 2 := by simpa using hown.1
        obtain ⟨x, hx⟩ : ∃ x, zs.getD (k * 2) 0 = x := ⟨_, rfl⟩
        obtain ⟨y, hy⟩ : ∃ y, zs.getD (k * 2 + 1) 0 = y := ⟨_, rfl⟩
        have h1 : wr.cell? ⟨b, off + k * 2, none⟩ = some (.int .i64 x) := by rw [← hx]; exact (hbel.cell (World.block_lt_of_cell? w ⟨b, off + k * 2, none⟩ (hc _ (by omega)))).trans (hc _ (by omega))
        have h2 : wr.cell? ⟨b, off + k * 2 + 1, none⟩ = some (.int .i64 y) := by rw [← hy]; exact (hbel.cell (World.block_lt_of_cell? w ⟨b, off + (k * 2 + 1), none⟩ (hc _ (by omega)))).trans (hc _ (by omega))
        have HS : Hid ((((ys.set (k * 2) x).set (k * 2 + 1) y).take ((k + 1) * 2)) = zs.take ((k + 1) * 2)) := by
          show _ = _
          rw [← hx, ← hy]
          exact take_set2 ys zs k (by omega) (by omega) htake
        clear hc hx hy hz htake
        go_wp2_with fail
        refine (toMapEntry_any _ _ _).mono ?_
        rintro e w1 ⟨rfl, hb1⟩
        have hown1 := ownsRow_below hown hb1
        have hbel1 := below_trans' hbel hb1
        have o0 := own2_cell hown1 (j := k * 2) (by omega)
        have o1 := own2_cell hown1 (j := k * 2 + 1) (by omega)
        have f0 := hown1.frozenAt (k * 2)
        have f1 := hown1.frozenAt (k * 2 + 1)
        have R : Hid (((w1.setCell ⟨w.heap.size, k * 2, none⟩ (.int .i64 x)).setCell ⟨w.heap.size, k * 2 + 1, none⟩ (.int .i64 y)).ownsRow w.heap.size 44 2 (.slice (some ⟨w.heap.size, 0, none⟩) n n) n (((ys.set (k * 2) x).set (k * 2 + 1) y).map (Value.int .i64)) ∧ Below w.heap.size w ((w1.setCell ⟨w.heap.size, k * 2, none⟩ (.int .i64 x)).setCell ⟨w.heap.size, k * 2 + 1, none⟩ (.int .i64 y))) :=
          ⟨by simpa using ((hown1.stored (k * 2) (.int .i64 x)).1.stored (k * 2 + 1) (.int .i64 y)).1, (hbel1.setCell (Nat.le_refl _) _).setCell (Nat.le_refl _) _⟩
        clear hown hown1 hbel hbel1 hb1 hyl
        go_wp2
        go_roundw
        case rel => exact ⟨k + 1, _, by omega, by go_num, R.out.1, HS.out, R.out.2⟩
        case measure => simp [intOf]; omega
    · obtain rfl : k = n := by omega
      have hyl : ys.length = k * 2 := by simpa using hown.1
      have e : ys = zs := by
        rw [List.take_of_length_le (by omega), List.take_of_length_le (by have := hzl.out; omega)] at htake
        exact htake
      subst e
      have HO : Hid (wr.ownsRow w.heap.size 44 2 (.slice (some ⟨w.heap.size, 0, none⟩) k k) k (ys.map (Value.int .i64))) := hown
      clear hown htake hyl hs
      go_wp2
      go_ret
      exact ⟨rfl, HO.out, hbel⟩

set_option maxHeartbeats 400000 in
theorem toMapMap_any (a : Option Addr) (n cap : Nat) (zs : List Int) (w : World) (hs : SInts w a (n * 2) zs) (hn : n ≤ 1048576) :
    Calls Try.prog 8 #[.agg #[.slice a n cap]] w fun e w' => ∃ g, w.heap.size ≤ g ∧ e = .returned (.agg #[.slice (some ⟨g, 0, none⟩) n n]) ∧
      w'.ownsRow w.heap.size 44 2 (.slice (some ⟨g, 0, none⟩) n n) n (zs.map (Value.int .i64)) ∧ Below w.heap.size w w' := by
  have hb0 : ∀ o o1 o2, Below w.heap.size w (((w.alloc o).alloc o1).alloc o2) := fun o o1 o2 => (((Below.refl _ _).alloc (Nat.le_refl _) o).alloc (by simp) o1).alloc (by simp; omega) o2
  go_enter Try.func8, Try.ntmps8
  go_wp2_with fail
  refine (toMapEntryS_any _ _ _ zs _ (hs.below (hb0 _ _ _)) hn).mono ?_
  rintro e w1 ⟨rfl, ho, hb⟩
  simp only [World.size_alloc] at ho hb ⊢
  have hb' := (hb0 (.cells #[.slice a n cap] 24) (.cells #[.slice none 0 0] 29) (.cells #[.slice none 0 0] 29)).trans (hb.mono (by omega))
  have c1 := hb.cell (p := ⟨w.heap.size + 1, 0, none⟩) (by show w.heap.size + 1 < w.heap.size + 1 + 1 + 1; omega)
  have c2 := hb.cell (p := ⟨w.heap.size + 1 + 1, 0, none⟩) (by show w.heap.size + 1 + 1 < w.heap.size + 1 + 1 + 1; omega)
  have f1 := hb.frozen (p := ⟨w.heap.size + 1, 0, none⟩) (by show w.heap.size + 1 < w.heap.size + 1 + 1 + 1; omega)
  have f2 := hb.frozen (p := ⟨w.heap.size + 1 + 1, 0, none⟩) (by show w.heap.size + 1 + 1 < w.heap.size + 1 + 1 + 1; omega)
  have al : ∀ (W : World) (o : Obj), Below W.heap.size W (W.alloc o) := fun W o => (Below.refl _ _).alloc (Nat.le_refl _) o
  rw [cell_kept (al _ _) (cell_at (w.alloc _) _ _ 0 (by simp) rfl)] at c1
  rw [cell_at ((w.alloc _).alloc _) _ _ 0 (by simp) rfl] at c2
  rw [(al _ _).frozen (p := ⟨w.heap.size + 1, 0, none⟩) (by simp), frozen_at (w.alloc _) _ _ 0 (by simp)] at f1
  rw [frozen_at ((w.alloc _).alloc _) _ _ 0 (by simp)] at f2
  clear al
  have HO : Hid (w1.ownsRow (w.heap.size + 1 + 1 + 1) 44 2 (.slice (some ⟨w.heap.size + 1 + 1 + 1, 0, none⟩) n n) n (zs.map (Value.int .i64))) := ho
  clear ho hb hs hb0
  go_wp2
  refine bodyPost_ret (v := .agg #[.slice (some ⟨w.heap.size + 1 + 1 + 1, 0, none⟩) n n]) (by simp [results, Try.results8, go_sem, c1]) rfl ⟨w.heap.size + 1 + 1 + 1, by omega, rfl, own_mono (own_setCell (own_setCell HO.out (by omega) _) (by omega) _) (by omega), (hb'.setCell (by show w.heap.size ≤ w.heap.size + 1 + 1; omega) _).setCell (by show w.heap.size ≤ w.heap.size + 1; omega) _⟩

set_option maxHeartbeats 400000 in
theorem eqMapEntry_yes (k v : Int) (w : World) :
    Calls Try.prog 31 #[.agg #[.int .i64 k, .int .i64 v], .agg #[.int .i64 k, .int .i64 v]] w fun e w' => e = .returned (.bool true) ∧ Below w.heap.size w w' := by
  go_enter Try.func31, Try.ntmps31
  go_wp2
  go_ret
  exact ⟨rfl, ((Below.refl _ _).alloc (Nat.le_refl _) _).alloc (by simp) _⟩

set_option maxHeartbeats 1000000 in
theorem eqMapEntryS_yes (a a' : Option Addr) (n cap cap' : Nat) (zs : List Int) (w : World) (hs : SInts w a (n * 2) zs) (hs' : SInts w a' (n * 2) zs) (hn : n ≤ 4000000000) :
    Calls Try.prog 23 #[.slice a n cap, .slice a' n cap'] w fun e w' => e = .returned (.bool true) ∧ Below w.heap.size w w' := by
  go_enter Try.func23, Try.ntmps23
  go_wp2
  go_loopw [5] (fun i wr => ∃ k : Nat, k ≤ n ∧ i = .int .i64 k ∧ Below w.heap.size w wr) (fun i _ => n - (intOf i).toNat)
  case atStart => exact ⟨0, Nat.zero_le _, rfl, Below.refl _ _⟩
  case round =>
    obtain ⟨k, hk, rfl, hbel⟩ := hrel
    by_cases hlt : k < n
    · obtain ⟨hz, h0 | ⟨b, off, rfl, hc⟩⟩ := hs
      · omega
      · obtain ⟨_, h0 | ⟨b', off', rfl, hc'⟩⟩ := hs'
        · omega
        · obtain ⟨x, hx⟩ : ∃ x, zs.getD (k * 2) 0 = x := ⟨_, rfl⟩
          obtain ⟨y, hy⟩ : ∃ y, zs.getD (k * 2 + 1) 0 = y := ⟨_, rfl⟩
          have h1 : wr.cell? ⟨b, off + k * 2, none⟩ = some (.int .i64 x) := by rw [← hx]; exact (hbel.cell (World.block_lt_of_cell? w ⟨b, off + k * 2, none⟩ (hc _ (by omega)))).trans (hc _ (by omega))
          have h2 : wr.cell? ⟨b, off + k * 2 + 1, none⟩ = some (.int .i64 y) := by rw [← hy]; exact (hbel.cell (World.block_lt_of_cell? w ⟨b, off + (k * 2 + 1), none⟩ (hc _ (by omega)))).trans (hc _ (by omega))
          have h3 : wr.cell? ⟨b', off' + k * 2, none⟩ = some (.int .i64 x) := by rw [← hx]; exact (hbel.cell (World.block_lt_of_cell? w ⟨b', off' + k * 2, none⟩ (hc' _ (by omega)))).trans (hc' _ (by omega))
          have h4 : wr.cell? ⟨b', off' + k * 2 + 1, none⟩ = some (.int .i64 y) := by rw [← hy]; exact (hbel.cell (World.block_lt_of_cell? w ⟨b', off' + (k * 2 + 1), none⟩ (hc' _ (by omega)))).trans (hc' _ (by omega))
          clear hc hc' hx hy hz
          go_wp2
          go_region_with (go_at_call 31; refine (eqMapEntry_yes _ _ _).mono ?_; rintro e w1 ⟨rfl, hb1⟩)
          all_goals
            have hb2 := below_trans' hbel (below_trans' (Below.refl _ _).drew hb1)
            clear hb1 hbel h1 h2 h3 h4
            go_wp2
            go_roundw
            case rel => exact ⟨k + 1, by omega, by go_num, hb2⟩
            case measure => simp [intOf]; omega
    · have : k = n := by omega
      subst this
      go_wp2
      go_ret
      exact ⟨rfl, hbel⟩

end Go.Proofs.Ytleajkacfhhemap
