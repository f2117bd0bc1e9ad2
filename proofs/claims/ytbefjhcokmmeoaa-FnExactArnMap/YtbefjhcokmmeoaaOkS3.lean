/- Contract of the specification's l2Ends. -/
import Derived.Test.YtbefjhcokmmeoaaOkS2
namespace Go.Proofs.Ytbefjhcokmmeoaa
open Go.RowKit
set_option linter.unusedVariables false

theorem usedB_yes {ns : List Nd} {zs os : List Int} (h : ∀ i, i < zs.length → ((ndAt ns (zs.getD i 0)).used && !hasB os (zs.getD i 0)) = true) : usedB ns zs os = true := all_yes h
theorem usedB_no {ns : List Nd} {zs os : List Int} {i : Nat} (hi : i < zs.length) (h : ((ndAt ns (zs.getD i 0)).used && !hasB os (zs.getD i 0)) = false) : usedB ns zs os = false := all_no hi h

set_option maxRecDepth 20000 in
set_option maxHeartbeats 2000000 in
theorem l2Ends_any (b off cap : Nat) (ns : List Nd) (t f l : Int) (a : Option Addr) (n c : Nat) (zs : List Int) (a2 : Option Addr) (n2 c2 : Nat) (os : List Int) (w : World) (hs : SNodes w (some ⟨b, off, none⟩) 10 ns) (hz : SInts w a n zs) (ho : SInts w a2 n2 os) (hn : n ≤ 1048576) (hn2 : n2 ≤ 1048576) (hp : placesB zs) :
    Calls Try.prog 49 #[.agg #[.slice (some ⟨b, off, none⟩) 10 cap, .int .i64 t, .int .i64 f, .int .i64 l], .slice a n c, .slice a2 n2 c2] w fun e w' => e = .returned (.bool (usedB ns zs os && endB ns zs)) ∧ Below w.heap.size w w' := by
  have HZ : Hid (zs.length = n) := hz.1
  have HP : Hid (placesB zs) := hp
  have A := al1 w (.cells #[.slice (some ⟨b, off, none⟩) 10 cap, .int .i64 t, .int .i64 f, .int .i64 l] 32)
  have I0 : Hid (Below w.heap.size w (w.alloc (.cells #[.slice (some ⟨b, off, none⟩) 10 cap, .int .i64 t, .int .i64 f, .int .i64 l] 32)) ∧ BoxA (w.alloc (.cells #[.slice (some ⟨b, off, none⟩) 10 cap, .int .i64 t, .int .i64 f, .int .i64 l] 32)) w.heap.size (some ⟨b, off, none⟩) 10 cap t f l) := ⟨A, boxA_new w _ _ _ _ _ _ 32 rfl⟩
  have HS : Hid (SNodes w (some ⟨b, off, none⟩) 10 ns ∧ SInts w a n zs ∧ SInts w a2 n2 os) := ⟨hs, hz, ho⟩
  clear A hs hz hp ho
  go_enter Try.func49, Try.ntmps49
  go_wp2
  go_loopw [7] (fun i wr => ∃ k : Nat, k ≤ n ∧ i = .int .i64 k ∧ Below w.heap.size w wr ∧ BoxA wr w.heap.size (some ⟨b, off, none⟩) 10 cap t f l ∧ ∀ j, j < k → ((ndAt ns (zs.getD j 0)).used && !hasB os (zs.getD j 0)) = true) (fun i _ => n - (intOf i).toNat)
  case atStart => exact ⟨0, Nat.zero_le _, rfl, I0.out.1, I0.out.2, fun j hj => by omega⟩
  case round =>
    obtain ⟨k, hk, rfl, hbel, hbox, hall0⟩ := hrel
    have hall : Hid (∀ j, j < k → ((ndAt ns (zs.getD j 0)).used && !hasB os (zs.getD j 0)) = true) := hall0
    clear hall0 I0
    have c0 := hbox.c0
    by_cases hlt : k < n
    · obtain ⟨_, h0 | ⟨b', off', rfl, hc⟩⟩ := HS.out.2.1.below hbel
      · omega
      · obtain ⟨y, hy⟩ : ∃ y, zs.getD k 0 = y := ⟨_, rfl⟩
        have h1 : wr.cell? ⟨b', off' + k, none⟩ = some (.int .i64 y) := by rw [← hy]; exact hc k hlt
        have hyb := HP.out k (by rw [HZ.out]; exact hlt)
        rw [hy] at hyb
        obtain ⟨j, rfl⟩ : ∃ j : Nat, y = j := ⟨y.toNat, by omega⟩
        have hj : j < 10 := by omega
        obtain ⟨b2, off2, ⟨x0, x1, x2, x3, x4, x5⟩, eab, hx, hN⟩ := (HS.out.1.below hbel).at hj
        cases eab
        have n4 := hN.c4
        dsimp only at n4
        have HM : Hid ((ndAt ns (zs.getD k 0)).used = x4 ∧ zs.getD k 0 = (j : Int)) := ⟨by rw [hy]; simp [ndAt, List.getD, hx], hy⟩
        have HB : Hid (Below w.heap.size w wr ∧ BoxA wr w.heap.size (some ⟨b, off, none⟩) 10 cap t f l) := ⟨hbel, hbox⟩
        have HO : Hid (SInts wr.drew a2 n2 os) := (HS.out.2.2.below hbel).below (Below.refl _ _).drew
        clear hc hy hN hx hyb hbox hbel
        cases x4
        · go_wp2
          go_quiet (fail)
          go_wp2
          go_ret
          exact ⟨ret_bool (by rw [usedB_no (i := k) (by rw [HZ.out]; exact hlt) (by rw [HM.out.1]; rfl)]; rfl), below_trans' HB.out.1 (below_drewN _ _ _)⟩
        · go_wp2
          go_region_held (fun w' => w'.cell? ⟨w.heap.size, 0, none⟩ = some (.slice (some ⟨b, off, none⟩) 10 cap) ∧ w'.cell? ⟨b', off' + k, none⟩ = some (.int .i64 (j : Int)) ∧ w'.cell? ⟨b, off + j * 6 + 4, none⟩ = some (.bool true)) (go_keep) (first | (go_at_call 77; refine (l2Has_any _ _ _ os _ _ HO.out hn2).mono ?_; rintro e w' ⟨rfl, rfl⟩))
          cases hm : hasB os (j : Int)
          · go_wp2
            go_roundw
            case rel => exact ⟨k + 1, by omega, by go_num, HB.out.1.drew, HB.out.2.drew', fun j2 hj2 => by
              by_cases e : j2 = k
              · subst e; rw [HM.out.1, HM.out.2, hm]; rfl
              · exact hall.out j2 (by omega)⟩
            case measure => simp [intOf]; omega
          · go_wp2
            go_ret
            exact ⟨ret_bool (by rw [usedB_no (i := k) (by rw [HZ.out]; exact hlt) (by rw [HM.out.1, HM.out.2, hm]; rfl)]; rfl), HB.out.1.drew⟩
    · obtain rfl : k = n := by omega
      have HU : Hid (usedB ns zs os = true) := usedB_yes (fun i hi => hall.out i (by rw [HZ.out] at hi; exact hi))
      by_cases hk0 : k = 0
      · subst hk0
        clear hbox
        go_wp2
        go_quiet (fail)
        go_wp2
        go_ret
        exact ⟨ret_bool (by rw [HU.out]; simp [endB, HZ.out]), below_trans' hbel (below_drewN _ _ _)⟩
      · obtain ⟨_, h0 | ⟨b', off', rfl, hc⟩⟩ := HS.out.2.1.below hbel
        · omega
        · obtain ⟨m, hm⟩ : ∃ m : Nat, k - 1 = m := ⟨_, rfl⟩
          obtain ⟨y, hy⟩ : ∃ y, zs.getD m 0 = y := ⟨_, rfl⟩
          have h1 : wr.cell? ⟨b', off' + m, none⟩ = some (.int .i64 y) := by rw [← hy]; exact hc m (by omega)
          have hyb := HP.out m (by rw [HZ.out]; omega)
          rw [hy] at hyb
          obtain ⟨j, rfl⟩ : ∃ j : Nat, y = j := ⟨y.toNat, by omega⟩
          have hj : j < 10 := by omega
          obtain ⟨b2, off2, ⟨x0, x1, x2, x3, x4, x5⟩, eab, hx, hN⟩ := (HS.out.1.below hbel).at hj
          cases eab
          have n2 := hN.c2
          dsimp only at n2
          have HE : Hid (endB ns zs = (wTo x2 == 0)) := by
            show _ = _
            unfold endB
            rw [HZ.out, hm, hy, decide_eq_false hk0]
            simp [nextN, List.getD, hx]
          have wm : IntKind.i64.wrap ((k : Int) - 1) = (m : Int) := by rw [wrap_in64 (by omega) (by omega)]; omega
          have hmk : (m : Int) < (k : Int) := by omega
          have hz : ((k : Int) == 0) = false := by simp; omega
          have HB : Hid (Below w.heap.size w wr) := hbel
          clear hc hy hN hx hyb hbox hbel hk0 hm
          go_wp2
          go_region_held (fun w' => w'.cell? ⟨w.heap.size, 0, none⟩ = some (.slice (some ⟨b, off, none⟩) 10 cap) ∧ w'.cell? ⟨b', off' + m, none⟩ = some (.int .i64 (j : Int)) ∧ w'.cell? ⟨b, off + j * 6 + 2, none⟩ = some (.int .i64 x2)) (go_keep) (first | (go_at_call 53; refine (specWrdTo_any _ _).mono ?_; rintro e w' ⟨rfl, rfl⟩))
          go_wp2
          go_ret
          exact ⟨ret_bool (by rw [HU.out, HE.out]; rfl), HB.out.drew⟩

end Go.Proofs.Ytbefjhcokmmeoaa
