/- Parts of the program's ArnOk. -/
import Derived.Test.YtcffoehldohooaaGC
import Derived.Test.YtcffoehldohooaaShape
namespace Go.Proofs.Ytcffoehldohooaa
open Go.RowKit
set_option linter.unusedVariables false

/-- All of some are in use. -/
def inUseB (ns : List Nd) (zs : List Int) : Bool := zs.all (fun z => (ndAt ns z).used)

theorem markedN_any (k v o r : Int) (u : Bool) (g : Int) (w : World) :
    Calls Try.prog 60 #[.agg #[.int .i64 k, .int .i64 v, .int .i64 o, .int .i64 r, .bool u, .int .i64 g]] w fun e w' => e = .returned (.bool (wMark o)) ∧ Below w.heap.size w w' := by
  go_enter Try.func60, Try.ntmps60
  go_wp2_with (go_at_call 32; refine (marked_any _ _).mono ?_; rintro e w' ⟨rfl, rfl⟩)
  go_ret
  exact ⟨rfl, al1 _ _⟩

set_option maxHeartbeats 1600000 in
theorem allUsed_any (b off cap : Nat) (ns : List Nd) (t f l : Int) (a : Option Addr) (n c : Nat) (zs : List Int) (w : World) (hs : SNodes w (some ⟨b, off, none⟩) 10 ns) (hz : SInts w a n zs) (hn : n ≤ 1048576) (hp : placesB zs) :
    Calls Try.prog 40 #[.agg #[.slice (some ⟨b, off, none⟩) 10 cap, .int .i64 t, .int .i64 f, .int .i64 l], .slice a n c] w fun e w' => e = .returned (.bool (inUseB ns zs)) ∧ Below w.heap.size w w' := by
  have HZ : Hid (zs.length = n) := hz.1
  have HP : Hid (placesB zs) := hp
  have A := al1 w (.cells #[.slice (some ⟨b, off, none⟩) 10 cap, .int .i64 t, .int .i64 f, .int .i64 l] 33)
  have I0 : Hid (Below w.heap.size w (w.alloc (.cells #[.slice (some ⟨b, off, none⟩) 10 cap, .int .i64 t, .int .i64 f, .int .i64 l] 33)) ∧ BoxA (w.alloc (.cells #[.slice (some ⟨b, off, none⟩) 10 cap, .int .i64 t, .int .i64 f, .int .i64 l] 33)) w.heap.size (some ⟨b, off, none⟩) 10 cap t f l) := ⟨A, boxA_new w _ _ _ _ _ _ 33 rfl⟩
  have HS : Hid (SNodes w (some ⟨b, off, none⟩) 10 ns ∧ SInts w a n zs) := ⟨hs, hz⟩
  clear A hs hz hp
  go_enter Try.func40, Try.ntmps40
  go_wp2
  go_loopw [6, 9] (fun _ i wr => ∃ k : Nat, k ≤ n ∧ i = .int .i64 k ∧ Below w.heap.size w wr ∧ BoxA wr w.heap.size (some ⟨b, off, none⟩) 10 cap t f l ∧ ∀ j, j < k → (Nd.used (ndAt ns (zs.getD j 0))) = true) (fun _ i _ => n - (intOf i).toNat)
  case atStart => exact ⟨0, Nat.zero_le _, rfl, I0.out.1, I0.out.2, fun j hj => by omega⟩
  case round =>
    obtain ⟨k, hk, rfl, hbel, hbox, hall0⟩ := hrel
    have hall : Hid (∀ j, j < k → (Nd.used (ndAt ns (zs.getD j 0))) = true) := hall0
    clear hall0 I0
    by_cases hlt : k < n
    · obtain ⟨_, h0 | ⟨b', off', rfl, hc⟩⟩ := HS.out.2.below hbel
      · omega
      · obtain ⟨y, hy⟩ : ∃ y, zs.getD k 0 = y := ⟨_, rfl⟩
        have h1 : wr.cell? ⟨b', off' + k, none⟩ = some (.int .i64 y) := by rw [← hy]; exact hc k hlt
        have hyb := HP.out k (by rw [HZ.out]; exact hlt)
        rw [hy] at hyb
        obtain ⟨j, rfl⟩ : ∃ j : Nat, y = j := ⟨y.toNat, by omega⟩
        have hj : j < 10 := by omega
        obtain ⟨b2, off2, ⟨x0, x1, x2, x3, x4, x5⟩, eab, hx, hN⟩ := (HS.out.1.below hbel).at hj
        cases eab
        have n4 := hN.c4
        dsimp only at n4
        have c0 := hbox.c0
        have HM : Hid (ndAt ns (zs.getD k 0) = ⟨x0, x1, x2, x3, x4, x5⟩) := by show _ = _; rw [hy]; simp [ndAt, List.getD, hx]
        have HB : Hid (Below w.heap.size w wr ∧ BoxA wr w.heap.size (some ⟨b, off, none⟩) 10 cap t f l) := ⟨hbel, hbox⟩
        clear hc hy hN hx hyb hbox hbel
        cases x4
        · go_wp2
          go_ret
          exact ⟨ret_bool (all_no (i := k) (by rw [HZ.out]; exact hlt) (by rw [HM.out])).symm, HB.out.1⟩
        · go_wp2
          go_roundw
          case rel => exact ⟨k + 1, by omega, by go_num, HB.out.1, HB.out.2, fun j2 hj2 => by
            by_cases e : j2 = k
            · subst e; rw [HM.out]
            · exact hall.out j2 (by omega)⟩
          case measure => simp [intOf]; omega
    · obtain rfl : k = n := by omega
      clear hbox
      go_wp2
      go_ret
      exact ⟨ret_bool (all_yes (fun i hi => hall.out i (by rw [HZ.out] at hi; exact hi))).symm, hbel⟩

set_option maxHeartbeats 1600000 in
theorem noneMarked_any (b off cap : Nat) (ns : List Nd) (t f l : Int) (a : Option Addr) (n c : Nat) (zs : List Int) (w : World) (hs : SNodes w (some ⟨b, off, none⟩) 10 ns) (hz : SInts w a n zs) (hn : n ≤ 1048576) (hp : placesB zs) :
    Calls Try.prog 44 #[.agg #[.slice (some ⟨b, off, none⟩) 10 cap, .int .i64 t, .int .i64 f, .int .i64 l], .slice a n c] w fun e w' => e = .returned (.bool (bareB ns zs)) ∧ Below w.heap.size w w' := by
  have HZ : Hid (zs.length = n) := hz.1
  have HP : Hid (placesB zs) := hp
  have A := al1 w (.cells #[.slice (some ⟨b, off, none⟩) 10 cap, .int .i64 t, .int .i64 f, .int .i64 l] 33)
  have I0 : Hid (Below w.heap.size w (w.alloc (.cells #[.slice (some ⟨b, off, none⟩) 10 cap, .int .i64 t, .int .i64 f, .int .i64 l] 33)) ∧ BoxA (w.alloc (.cells #[.slice (some ⟨b, off, none⟩) 10 cap, .int .i64 t, .int .i64 f, .int .i64 l] 33)) w.heap.size (some ⟨b, off, none⟩) 10 cap t f l) := ⟨A, boxA_new w _ _ _ _ _ _ 33 rfl⟩
  have HS : Hid (SNodes w (some ⟨b, off, none⟩) 10 ns ∧ SInts w a n zs) := ⟨hs, hz⟩
  clear A hs hz hp
  go_enter Try.func44, Try.ntmps44
  go_wp2
  go_loopw [6, 9] (fun _ i wr => ∃ k : Nat, k ≤ n ∧ i = .int .i64 k ∧ Below w.heap.size w wr ∧ BoxA wr w.heap.size (some ⟨b, off, none⟩) 10 cap t f l ∧ ∀ j, j < k → ((fun x : Nd => !wMark x.word) (ndAt ns (zs.getD j 0))) = true) (fun _ i _ => n - (intOf i).toNat)
  case atStart => exact ⟨0, Nat.zero_le _, rfl, I0.out.1, I0.out.2, fun j hj => by omega⟩
  case round =>
    obtain ⟨k, hk, rfl, hbel, hbox, hall0⟩ := hrel
    have hall : Hid (∀ j, j < k → ((fun x : Nd => !wMark x.word) (ndAt ns (zs.getD j 0))) = true) := hall0
    clear hall0 I0
    by_cases hlt : k < n
    · obtain ⟨_, h0 | ⟨b', off', rfl, hc⟩⟩ := HS.out.2.below hbel
      · omega
      · obtain ⟨y, hy⟩ : ∃ y, zs.getD k 0 = y := ⟨_, rfl⟩
        have h1 : wr.cell? ⟨b', off' + k, none⟩ = some (.int .i64 y) := by rw [← hy]; exact hc k hlt
        have hyb := HP.out k (by rw [HZ.out]; exact hlt)
        rw [hy] at hyb
        obtain ⟨j, rfl⟩ : ∃ j : Nat, y = j := ⟨y.toNat, by omega⟩
        have hj : j < 10 := by omega
        obtain ⟨b2, off2, ⟨x0, x1, x2, x3, x4, x5⟩, eab, hx, hN⟩ := (HS.out.1.below hbel).at hj
        cases eab
        have n0 := hN.c0
        have n1 := hN.c1
        have n2 := hN.c2
        have n3 := hN.c3
        have n4 := hN.c4
        have n5 := hN.c5
        dsimp only at n0 n1 n2 n3 n4 n5
        have c0 := hbox.c0
        have HM : Hid (ndAt ns (zs.getD k 0) = ⟨x0, x1, x2, x3, x4, x5⟩) := by show _ = _; rw [hy]; simp [ndAt, List.getD, hx]
        have HB : Hid (Below w.heap.size w wr ∧ BoxA wr w.heap.size (some ⟨b, off, none⟩) 10 cap t f l) := ⟨hbel, hbox⟩
        clear hc hy hN hx hyb hbox hbel
        go_wp2_with (go_at_call 60; refine (markedN_any _ _ _ _ _ _ _).mono ?_; rintro e w5 ⟨rfl, hb5⟩; have HB5 : Hid (Below w.heap.size w w5 ∧ BoxA w5 w.heap.size (some ⟨b, off, none⟩) 10 cap t f l) := ⟨below_trans' HB.out.1 hb5, HB.out.2.below hb5⟩; clear hb5; cases hm : wMark x2)
        · go_wp2
          go_roundw
          case rel => exact ⟨k + 1, by omega, by go_num, HB5.out.1, HB5.out.2, fun j2 hj2 => by
            by_cases e : j2 = k
            · subst e; rw [HM.out]; dsimp only; rw [hm]; rfl
            · exact hall.out j2 (by omega)⟩
          case measure => simp [intOf]; omega
        · go_wp2
          go_ret
          exact ⟨ret_bool (all_no (i := k) (by rw [HZ.out]; exact hlt) (by rw [HM.out]; dsimp only; rw [hm]; rfl)).symm, HB5.out.1⟩
    · obtain rfl : k = n := by omega
      clear hbox
      go_wp2
      go_ret
      exact ⟨ret_bool (all_yes (fun i hi => hall.out i (by rw [HZ.out] at hi; exact hi))).symm, hbel⟩

set_option maxRecDepth 20000 in
set_option maxHeartbeats 2000000 in
theorem endI_any (b off cap : Nat) (ns : List Nd) (t f l : Int) (a : Option Addr) (n c : Nat) (zs : List Int) (w : World) (hs : SNodes w (some ⟨b, off, none⟩) 10 ns) (hz : SInts w a n zs) (hn : n ≤ 1048576) (hp : placesB zs) :
    Calls Try.prog 38 #[.agg #[.slice (some ⟨b, off, none⟩) 10 cap, .int .i64 t, .int .i64 f, .int .i64 l], .slice a n c] w fun e w' => e = .returned (.bool (endB ns zs)) ∧ Below w.heap.size w w' := by
  have HZ : Hid (zs.length = n) := hz.1
  have A := al1 w (.cells #[.slice (some ⟨b, off, none⟩) 10 cap, .int .i64 t, .int .i64 f, .int .i64 l] 33)
  have bx := boxA_new w (some ⟨b, off, none⟩) 10 cap t f l 33 rfl
  by_cases hk0 : n = 0
  · subst hk0
    clear hz hs hp bx
    have HA : Hid (Below w.heap.size w (w.alloc (.cells #[.slice (some ⟨b, off, none⟩) 10 cap, .int .i64 t, .int .i64 f, .int .i64 l] 33))) := A
    clear A
    go_enter Try.func38, Try.ntmps38
    go_wp2
    go_quiet (fail)
    go_wp2
    go_ret
    exact ⟨ret_bool (by simp [endB, HZ.out]), below_trans' HA.out (below_drewN _ _ _)⟩
  · obtain ⟨_, h0 | ⟨b', off', rfl, hc⟩⟩ := hz.below A
    · omega
    · obtain ⟨m, hm⟩ : ∃ m : Nat, n - 1 = m := ⟨_, rfl⟩
      obtain ⟨y, hy⟩ : ∃ y, zs.getD m 0 = y := ⟨_, rfl⟩
      have h1 := hc m (by omega)
      rw [hy] at h1
      have hyb := hp m (by rw [HZ.out]; omega)
      rw [hy] at hyb
      obtain ⟨j, rfl⟩ : ∃ j : Nat, y = j := ⟨y.toNat, by omega⟩
      have hj : j < 10 := by omega
      obtain ⟨b2, off2, ⟨x0, x1, x2, x3, x4, x5⟩, eab, hx, hN⟩ := (hs.below A).at hj
      cases eab
      have n0 := hN.c0
      have n1 := hN.c1
      have n2 := hN.c2
      have n3 := hN.c3
      have n4 := hN.c4
      have n5 := hN.c5
      dsimp only at n0 n1 n2 n3 n4 n5
      have c0 := bx.c0
      have HE : Hid (endB ns zs = (wTo x2 == 0)) := by
        show _ = _
        unfold endB
        rw [HZ.out, hm, hy, decide_eq_false hk0]
        simp [nextN, List.getD, hx]
      have wm : IntKind.i64.wrap ((n : Int) - 1) = (m : Int) := by rw [wrap_in64 (by omega) (by omega)]; omega
      have hmk : (m : Int) < (n : Int) := by omega
      have hz0 : ((n : Int) == 0) = false := by simp; omega
      have HA : Hid (Below w.heap.size w (w.alloc (.cells #[.slice (some ⟨b, off, none⟩) 10 cap, .int .i64 t, .int .i64 f, .int .i64 l] 33))) := A
      clear A bx hN hc hx hyb hs hz hp hy hm hk0
      go_enter Try.func38, Try.ntmps38
      go_wp2
      go_region_held (fun w' => w'.cell? ⟨w.heap.size, 0, none⟩ = some (.slice (some ⟨b, off, none⟩) 10 cap) ∧ w'.cell? ⟨b', off' + m, none⟩ = some (.int .i64 (j : Int)) ∧ w'.cell? ⟨b, off + j * 6, none⟩ = some (.int .i64 x0) ∧ w'.cell? ⟨b, off + j * 6 + 1, none⟩ = some (.int .i64 x1) ∧ w'.cell? ⟨b, off + j * 6 + 2, none⟩ = some (.int .i64 x2) ∧ w'.cell? ⟨b, off + j * 6 + 3, none⟩ = some (.int .i64 x3) ∧ w'.cell? ⟨b, off + j * 6 + 4, none⟩ = some (.bool x4) ∧ w'.cell? ⟨b, off + j * 6 + 5, none⟩ = some (.int .i64 x5)) (first | (go_keep; done) | exact KP.out) (first | (go_at_call 48; refine (leads_any _ _ _ _ _ _ _).mono ?_; rintro e w5 ⟨rfl, hb5⟩; have HB5 : Hid (Below w.heap.size w w5) := below_trans' (below_trans' HA.out (Below.refl _ _).drew) hb5; have KP : Hid (w5.cell? ⟨w.heap.size, 0, none⟩ = some (.slice (some ⟨b, off, none⟩) 10 cap) ∧ w5.cell? ⟨b', off' + m, none⟩ = some (.int .i64 (j : Int)) ∧ w5.cell? ⟨b, off + j * 6, none⟩ = some (.int .i64 x0) ∧ w5.cell? ⟨b, off + j * 6 + 1, none⟩ = some (.int .i64 x1) ∧ w5.cell? ⟨b, off + j * 6 + 2, none⟩ = some (.int .i64 x2) ∧ w5.cell? ⟨b, off + j * 6 + 3, none⟩ = some (.int .i64 x3) ∧ w5.cell? ⟨b, off + j * 6 + 4, none⟩ = some (.bool x4) ∧ w5.cell? ⟨b, off + j * 6 + 5, none⟩ = some (.int .i64 x5)) := ⟨(hb5.cell (p := ⟨w.heap.size, 0, none⟩) (World.block_lt_of_cell? (w.alloc (.cells #[.slice (some ⟨b, off, none⟩) 10 cap, .int .i64 t, .int .i64 f, .int .i64 l] 33)) ⟨w.heap.size, 0, none⟩ c0)).trans c0, (hb5.cell (p := ⟨b', off' + m, none⟩) (World.block_lt_of_cell? (w.alloc (.cells #[.slice (some ⟨b, off, none⟩) 10 cap, .int .i64 t, .int .i64 f, .int .i64 l] 33)) ⟨b', off' + m, none⟩ h1)).trans h1, (hb5.cell (p := ⟨b, off + j * 6, none⟩) (World.block_lt_of_cell? (w.alloc (.cells #[.slice (some ⟨b, off, none⟩) 10 cap, .int .i64 t, .int .i64 f, .int .i64 l] 33)) ⟨b, off + j * 6, none⟩ n0)).trans n0, (hb5.cell (p := ⟨b, off + j * 6 + 1, none⟩) (World.block_lt_of_cell? (w.alloc (.cells #[.slice (some ⟨b, off, none⟩) 10 cap, .int .i64 t, .int .i64 f, .int .i64 l] 33)) ⟨b, off + j * 6 + 1, none⟩ n1)).trans n1, (hb5.cell (p := ⟨b, off + j * 6 + 2, none⟩) (World.block_lt_of_cell? (w.alloc (.cells #[.slice (some ⟨b, off, none⟩) 10 cap, .int .i64 t, .int .i64 f, .int .i64 l] 33)) ⟨b, off + j * 6 + 2, none⟩ n2)).trans n2, (hb5.cell (p := ⟨b, off + j * 6 + 3, none⟩) (World.block_lt_of_cell? (w.alloc (.cells #[.slice (some ⟨b, off, none⟩) 10 cap, .int .i64 t, .int .i64 f, .int .i64 l] 33)) ⟨b, off + j * 6 + 3, none⟩ n3)).trans n3, (hb5.cell (p := ⟨b, off + j * 6 + 4, none⟩) (World.block_lt_of_cell? (w.alloc (.cells #[.slice (some ⟨b, off, none⟩) 10 cap, .int .i64 t, .int .i64 f, .int .i64 l] 33)) ⟨b, off + j * 6 + 4, none⟩ n4)).trans n4, (hb5.cell (p := ⟨b, off + j * 6 + 5, none⟩) (World.block_lt_of_cell? (w.alloc (.cells #[.slice (some ⟨b, off, none⟩) 10 cap, .int .i64 t, .int .i64 f, .int .i64 l] 33)) ⟨b, off + j * 6 + 5, none⟩ n5)).trans n5⟩; clear hb5))
      go_wp2
      go_ret
      exact ⟨ret_bool (by rw [HE.out]), HB5.out⟩

end Go.Proofs.Ytcffoehldohooaa
