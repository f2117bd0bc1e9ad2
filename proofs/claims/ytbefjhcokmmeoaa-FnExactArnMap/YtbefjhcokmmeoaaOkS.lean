/- Contracts of the parts of the specification's ArnOk. -/
import Derived.Test.YtbefjhcokmmeoaaPathS
namespace Go.Proofs.Ytbefjhcokmmeoaa
open Go.RowKit
set_option linter.unusedVariables false

/-- The place of a number. -/
def ndAt (ns : List Nd) (z : Int) : Nd := ns.getD z.toNat Nd.zero
/-- The number is one of some. -/
def hasB (zs : List Int) (x : Int) : Bool := zs.any (fun z => z == x)
/-- None of some is marked. -/
def bareB (ns : List Nd) (zs : List Int) : Bool := zs.all (fun z => !wMark (ndAt ns z).word)
/-- All of some are in use, and none of them stands among others. -/
def usedB (ns : List Nd) (zs os : List Int) : Bool := zs.all (fun z => (ndAt ns z).used && !hasB os z)
/-- The last of some leads to none. -/
def endB (ns : List Nd) (zs : List Int) : Bool := decide (zs.length = 0) || (nextN ns (zs.getD (zs.length - 1) 0) == 0)
/-- The queue's last one is that, or the one ahead of it. -/
def lastB (zs : List Int) (l : Int) : Bool := decide (0 < zs.length) && ((l == zs.getD (zs.length - 1) 0) || (decide (1 < zs.length) && (l == zs.getD (zs.length - 2) 0)))

theorem any_no {zs : List Int} {p : Int → Bool} (h : ∀ i, i < zs.length → p (zs.getD i 0) = false) : zs.any p = false := by
  rw [List.any_eq_false]
  intro x hx
  obtain ⟨i, hi, rfl⟩ := List.mem_iff_getElem.1 hx
  have := h i hi
  simpa [List.getD, hi] using this
theorem any_yes {zs : List Int} {p : Int → Bool} {i : Nat} (hi : i < zs.length) (h : p (zs.getD i 0) = true) : zs.any p = true := by
  rw [List.any_eq_true]
  exact ⟨zs[i], List.getElem_mem hi, by simpa [List.getD, hi] using h⟩
theorem all_yes {zs : List Int} {p : Int → Bool} (h : ∀ i, i < zs.length → p (zs.getD i 0) = true) : zs.all p = true := by
  rw [List.all_eq_true]
  intro x hx
  obtain ⟨i, hi, rfl⟩ := List.mem_iff_getElem.1 hx
  have := h i hi
  simpa [List.getD, hi] using this
theorem all_no {zs : List Int} {p : Int → Bool} {i : Nat} (hi : i < zs.length) (h : p (zs.getD i 0) = false) : zs.all p = false := by
  rw [List.all_eq_false]
  exact ⟨zs[i], List.getElem_mem hi, by simpa [List.getD, hi] using h⟩

set_option maxHeartbeats 800000 in
theorem l2Has_any (a : Option Addr) (n cap : Nat) (zs : List Int) (x : Int) (w : World) (hs : SInts w a n zs) (hn : n ≤ 1048576) :
    Calls Try.prog 77 #[.slice a n cap, .int .i64 x] w fun e w' => e = .returned (.bool (hasB zs x)) ∧ w' = w := by
  have HZ : Hid (zs.length = n) := hs.1
  go_enter Try.func77, Try.ntmps77
  go_wp2
  go_loop [5] (fun i => ∃ k : Nat, k ≤ n ∧ i = .int .i64 k ∧ ∀ j, j < k → (zs.getD j 0 == x) = false) (fun i => n - (intOf i).toNat)
  case atStart => exact ⟨0, Nat.zero_le _, rfl, fun j hj => by omega⟩
  case round =>
    obtain ⟨k, hk, rfl, hall0⟩ := hrel
    have hall : Hid (∀ j, j < k → (zs.getD j 0 == x) = false) := hall0
    clear hall0
    by_cases hlt : k < n
    · obtain ⟨hz, h0 | ⟨b, off, rfl, hc⟩⟩ := hs
      · omega
      · obtain ⟨y, hy⟩ : ∃ y, zs.getD k 0 = y := ⟨_, rfl⟩
        have h1 : w.cell? ⟨b, off + k, none⟩ = some (.int .i64 y) := by rw [← hy]; exact hc k hlt
        have HY : Hid (zs.getD k 0 = y) := hy
        clear hc hy hz
        cases he : (y == x)
        · go_wp2
          go_round
          case rel => exact ⟨k + 1, by omega, by go_num, fun j hj => by
            by_cases e : j = k
            · subst e; rw [HY.out]; exact he
            · exact hall.out j (by omega)⟩
          case measure => simp [intOf]; omega
        · go_wp2
          go_ret
          exact ⟨ret_bool (any_yes (i := k) (by rw [HZ.out]; exact hlt) (by rw [HY.out]; exact he)).symm, rfl⟩
    · obtain rfl : k = n := by omega
      clear hs
      go_wp2
      go_ret
      exact ⟨ret_bool (any_no (fun i hi => hall.out i (by rw [HZ.out] at hi; exact hi))).symm, rfl⟩

theorem BoxA.drew' {W : World} {b : Nat} {a : Option Addr} {n cap : Nat} {t f l : Int} (h : BoxA W b a n cap t f l) : BoxA W.drew b a n cap t f l := ⟨h.c0, h.c1, h.c2, h.c3⟩

/-- Some places. -/
def placesB (zs : List Int) : Prop := ∀ i, i < zs.length → 1 ≤ zs.getD i 0 ∧ zs.getD i 0 ≤ 9

set_option maxRecDepth 20000 in
set_option maxHeartbeats 2000000 in
theorem l2Bare_any (b off cap : Nat) (ns : List Nd) (t f l : Int) (a : Option Addr) (n c : Nat) (zs : List Int) (w : World) (hs : SNodes w (some ⟨b, off, none⟩) 10 ns) (hz : SInts w a n zs) (hn : n ≤ 1048576) (hp : placesB zs) :
    Calls Try.prog 50 #[.agg #[.slice (some ⟨b, off, none⟩) 10 cap, .int .i64 t, .int .i64 f, .int .i64 l], .slice a n c] w fun e w' => e = .returned (.bool (bareB ns zs)) ∧ Below w.heap.size w w' := by
  have HZ : Hid (zs.length = n) := hz.1
  have HP : Hid (placesB zs) := hp
  have A := al1 w (.cells #[.slice (some ⟨b, off, none⟩) 10 cap, .int .i64 t, .int .i64 f, .int .i64 l] 32)
  have I0 : Hid (Below w.heap.size w (w.alloc (.cells #[.slice (some ⟨b, off, none⟩) 10 cap, .int .i64 t, .int .i64 f, .int .i64 l] 32)) ∧ BoxA (w.alloc (.cells #[.slice (some ⟨b, off, none⟩) 10 cap, .int .i64 t, .int .i64 f, .int .i64 l] 32)) w.heap.size (some ⟨b, off, none⟩) 10 cap t f l) := ⟨A, boxA_new w _ _ _ _ _ _ 32 rfl⟩
  have HS : Hid (SNodes w (some ⟨b, off, none⟩) 10 ns ∧ SInts w a n zs) := ⟨hs, hz⟩
  clear A hs hz hp
  go_enter Try.func50, Try.ntmps50
  go_wp2
  go_loopw [5] (fun i wr => ∃ k : Nat, k ≤ n ∧ i = .int .i64 k ∧ Below w.heap.size w wr ∧ BoxA wr w.heap.size (some ⟨b, off, none⟩) 10 cap t f l ∧ ∀ j, j < k → (!wMark (ndAt ns (zs.getD j 0)).word) = true) (fun i _ => n - (intOf i).toNat)
  case atStart => exact ⟨0, Nat.zero_le _, rfl, I0.out.1, I0.out.2, fun j hj => by omega⟩
  case round =>
    obtain ⟨k, hk, rfl, hbel, hbox, hall0⟩ := hrel
    have hall : Hid (∀ j, j < k → (!wMark (ndAt ns (zs.getD j 0)).word) = true) := hall0
    clear hall0 I0
    by_cases hlt : k < n
    · obtain ⟨_, h0 | ⟨b', off', rfl, hc⟩⟩ := HS.out.2.below hbel
      · omega
      · obtain ⟨y, hy⟩ : ∃ y, zs.getD k 0 = y := ⟨_, rfl⟩
        have h1 : wr.cell? ⟨b', off' + k, none⟩ = some (.int .i64 y) := by rw [← hy]; exact hc k hlt
        have hyb := HP.out k (by rw [HZ.out]; exact hlt)
        rw [hy] at hyb
        obtain ⟨j, rfl⟩ : ∃ j : Nat, y = j := ⟨y.toNat, by omega⟩
        have hj : j < 10 := by omega
        obtain ⟨b2, off2, ⟨x0, x1, x2, x3, x4, x5⟩, eab, hx, hN⟩ := (HS.out.1.below hbel).at hj
        cases eab
        have n2 := hN.c2
        dsimp only at n2
        have c0 := hbox.c0
        have HM : Hid ((ndAt ns (zs.getD k 0)).word = x2) := by show _ = _; rw [hy]; simp [ndAt, List.getD, hx]
        have HB : Hid (Below w.heap.size w wr ∧ BoxA wr w.heap.size (some ⟨b, off, none⟩) 10 cap t f l) := ⟨hbel, hbox⟩
        clear hc hy hN hx hyb hbox hbel
        go_wp2
        go_region_held (fun w' => w'.cell? ⟨w.heap.size, 0, none⟩ = some (.slice (some ⟨b, off, none⟩) 10 cap) ∧ w'.cell? ⟨b', off' + k, none⟩ = some (.int .i64 (j : Int)) ∧ w'.cell? ⟨b, off + j * 6 + 2, none⟩ = some (.int .i64 x2)) (go_keep) (first | (go_at_call 26; refine (specWrdMark_any _ _).mono ?_; rintro e w' ⟨rfl, rfl⟩))
        cases hm : wMark x2
        · go_wp2
          go_roundw
          case rel => exact ⟨k + 1, by omega, by go_num, HB.out.1.drew, HB.out.2.drew', fun j2 hj2 => by
            by_cases e : j2 = k
            · subst e; rw [HM.out, hm]; rfl
            · exact hall.out j2 (by omega)⟩
          case measure => simp [intOf]; omega
        · go_wp2
          go_ret
          exact ⟨ret_bool (all_no (i := k) (by rw [HZ.out]; exact hlt) (by rw [HM.out, hm]; rfl)).symm, HB.out.1.drew⟩
    · obtain rfl : k = n := by omega
      clear hbox
      go_wp2
      go_ret
      exact ⟨ret_bool (all_yes (fun i hi => hall.out i (by rw [HZ.out] at hi; exact hi))).symm, hbel⟩

end Go.Proofs.Ytbefjhcokmmeoaa
