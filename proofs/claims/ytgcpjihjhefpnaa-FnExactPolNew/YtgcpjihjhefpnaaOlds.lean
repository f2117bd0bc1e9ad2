/- What was taken out: a place and an epoch each, two cells; the law helpers that copy, compare and mark them. -/
import Derived.Test.YtgcpjihjhefpnaaEnts
import Derived.Test.YtgcpjihjhefpnaaInv3
namespace Go.Proofs.Ytgcpjihjhefpnaa
open Go.RowKit
set_option linter.unusedVariables false

theorem al1 (W : World) (o : Obj) : Below W.heap.size W (W.alloc o) := (Below.refl _ _).alloc (Nat.le_refl _) o

/-- A place that was taken out, and in which epoch. -/
abbrev Od := Int × Int
def flatO (os : List Od) : List Int := os.flatMap (fun o => [o.1, o.2])
theorem flatO_nil : flatO [] = [] := rfl
theorem flatO_cons (o : Od) (os : List Od) : flatO (o :: os) = o.1 :: o.2 :: flatO os := rfl
theorem flatO_len (os : List Od) : (flatO os).length = os.length * 2 := by
  induction os with
  | nil => rfl
  | cons o os ih => rw [flatO_cons]; simp [ih]; omega
theorem flatO_get : ∀ (os : List Od) (k : Nat) (o : Od), os[k]? = some o → (flatO os).getD (k * 2) 0 = o.1 ∧ (flatO os).getD (k * 2 + 1) 0 = o.2
  | [], k, o, h => by simp at h
  | x :: os, 0, o, h => by
    simp at h
    subst h
    exact ⟨rfl, rfl⟩
  | x :: os, k + 1, o, h => by
    have := flatO_get os k o (by simpa using h)
    rw [flatO_cons, show (k + 1) * 2 = k * 2 + 1 + 1 by omega, show k * 2 + 1 + 1 + 1 = (k * 2 + 1) + 1 + 1 by omega]
    simpa [List.getD] using this
theorem unflat : ∀ (n : Nat) (zs : List Int), zs.length = n * 2 → ∃ os, os.length = n ∧ flatO os = zs
  | 0, zs, h => ⟨[], rfl, (List.eq_nil_of_length_eq_zero (by omega)).symm⟩
  | n + 1, zs, h => by
    match zs, h with
    | [_], h => exact absurd h (by simp; omega)
    | x :: y :: zs, h =>
      obtain ⟨os, h1, h2⟩ := unflat n zs (by simp at h; omega)
      exact ⟨(x, y) :: os, by simp [h1], by rw [flatO_cons, h2]⟩

/-- The slice of length n at a reads as what was taken out. -/
def SOlds (w : World) (a : Option Addr) (n : Nat) (os : List Od) : Prop := os.length = n ∧ SInts w a (n * 2) (flatO os)
theorem SOlds.below {w w' : World} {a : Option Addr} {n : Nat} {os : List Od} (h : SOlds w a n os) (hb : Below w.heap.size w w') : SOlds w' a n os := ⟨h.1, h.2.below hb⟩
theorem SOlds.at {w : World} {a : Option Addr} {n : Nat} {os : List Od} (h : SOlds w a n os) {k : Nat} (hk : k < n) :
    ∃ b off x y, a = some ⟨b, off, none⟩ ∧ os[k]? = some (x, y) ∧ w.cell? ⟨b, off + k * 2, none⟩ = some (.int .i64 x) ∧ w.cell? ⟨b, off + k * 2 + 1, none⟩ = some (.int .i64 y) := by
  obtain ⟨hl, hz, h0 | ⟨b, off, rfl, hc⟩⟩ := h
  · omega
  · have ho : os[k]? = some os[k] := List.getElem?_eq_getElem (by omega)
    obtain ⟨g0, g1⟩ := flatO_get os k _ ho
    have c0 := hc (k * 2) (by omega)
    have c1 := hc (k * 2 + 1) (by omega)
    rw [g0] at c0
    rw [g1] at c1
    exact ⟨b, off, os[k].1, os[k].2, rfl, ho, c0, c1⟩
theorem own_solds {w : World} {base : Nat} {e : TypeId} {a : Option Addr} {n cap : Nat} {os : List Od} (h : w.ownsRow base e 2 (.slice a n cap) n ((flatO os).map (Value.int .i64))) : SOlds w a n os :=
  ⟨by have := h.1; rw [List.length_map, flatO_len] at this; omega, own2_sints h⟩

theorem Try.info48 : (Try.prog.info? 48).map (fun i => (i.zero, i.size, i.bytes)) = some (some (.agg #[.int .i64 0, .int .i64 0]), 2, 16) := by kernel_rfl

set_option maxHeartbeats 400000 in
theorem toPolOld_any (k v : Int) (w : World) :
    Calls Try.prog 50 #[.agg #[.int .i64 k, .int .i64 v]] w fun e w' => e = .returned (.agg #[.int .i64 k, .int .i64 v]) ∧ Below w.heap.size w w' := by
  go_enter Try.func50, Try.ntmps50
  go_wp2
  exact bodyPost_ret (v := .agg #[.int .i64 k, .int .i64 v]) (by simp [results, Try.results50, go_sem]) rfl ⟨rfl, (((Below.refl _ _).alloc (Nat.le_refl _) _).alloc (by simp) _).alloc (by simp; omega) _⟩

set_option maxHeartbeats 400000 in
theorem toPolOldS_any (a : Option Addr) (n cap : Nat) (zs : List Int) (w : World) (hs : SInts w a (n * 2) zs) (hn : n ≤ 1048576) :
    Calls Try.prog 46 #[.slice a n cap] w fun e w' => e = .returned (.slice (some ⟨w.heap.size, 0, none⟩) n n) ∧
      w'.ownsRow w.heap.size 48 2 (.slice (some ⟨w.heap.size, 0, none⟩) n n) n (zs.map (Value.int .i64)) ∧ Below w.heap.size w w' := by
  obtain ⟨i0, hi, hz0, hz1, hz2⟩ := info_parts Try.info48
  have hzl : Hid (zs.length = n * 2) := hs.1
  go_enter Try.func46, Try.ntmps46
  go_wp2_with (at_make; refine wpList_make_full _ rfl _ _ 42 rfl w.heap.size 48 i0 (.agg #[.int .i64 0, .int .i64 0]) 2 Try.underlying42 hi hz0 hz1 _ _ _ _ n rfl rfl rfl rfl ?b2 ?b3 (Nat.le_refl _) ?_)
  case b2 => rw [hz2]; omega
  case b3 => unfold maxLen; omega
  intro w0 hown0 hgrow0
  rw [made_ints] at hown0
  go_wp2
  go_loopw [4] (fun i wr => ∃ (k : Nat) (ys : List Int), k ≤ n ∧ i = .int .i64 k ∧ wr.ownsRow w.heap.size 48 2 (.slice (some ⟨w.heap.size, 0, none⟩) n n) n (ys.map (Value.int .i64)) ∧ ys.take (k * 2) = zs.take (k * 2) ∧ Below w.heap.size w wr)
    (fun i _ => n - (intOf i).toNat)
  case atStart => exact ⟨0, _, Nat.zero_le _, rfl, hown0, by simp, (Below.refl _ _).grown hgrow0 (Nat.le_refl _) (fun k h => by cases h)⟩
  case round =>
    obtain ⟨k, ys, hk, rfl, hown, htake, hbel⟩ := hrel
    by_cases hlt : k < n
    · obtain ⟨hz, h0 | ⟨b, off, rfl, hc⟩⟩ := hs
      · omega
      · have hyl : ys.length = n * 2 := by simpa using hown.1
        obtain ⟨x, hx⟩ : ∃ x, zs.getD (k * 2) 0 = x := ⟨_, rfl⟩
        obtain ⟨y, hy⟩ : ∃ y, zs.getD (k * 2 + 1) 0 = y := ⟨_, rfl⟩
        have h1 : wr.cell? ⟨b, off + k * 2, none⟩ = some (.int .i64 x) := by rw [← hx]; exact (hbel.cell (World.block_lt_of_cell? w ⟨b, off + k * 2, none⟩ (hc _ (by omega)))).trans (hc _ (by omega))
        have h2 : wr.cell? ⟨b, off + k * 2 + 1, none⟩ = some (.int .i64 y) := by rw [← hy]; exact (hbel.cell (World.block_lt_of_cell? w ⟨b, off + (k * 2 + 1), none⟩ (hc _ (by omega)))).trans (hc _ (by omega))
        have HS : Hid ((((ys.set (k * 2) x).set (k * 2 + 1) y).take ((k + 1) * 2)) = zs.take ((k + 1) * 2)) := by
          show _ = _
          rw [← hx, ← hy]
          exact take_set2 ys zs k (by omega) (by omega) htake
        clear hc hx hy hz htake
        go_wp2_with fail
        refine (toPolOld_any _ _ _).mono ?_
        rintro e w1 ⟨rfl, hb1⟩
        have hown1 := ownsRow_below hown hb1
        have hbel1 := below_trans' hbel hb1
        have o0 := own2_cell hown1 (j := k * 2) (by omega)
        have o1 := own2_cell hown1 (j := k * 2 + 1) (by omega)
        have f0 := hown1.frozenAt (k * 2)
        have f1 := hown1.frozenAt (k * 2 + 1)
        have R : Hid (((w1.setCell ⟨w.heap.size, k * 2, none⟩ (.int .i64 x)).setCell ⟨w.heap.size, k * 2 + 1, none⟩ (.int .i64 y)).ownsRow w.heap.size 48 2 (.slice (some ⟨w.heap.size, 0, none⟩) n n) n (((ys.set (k * 2) x).set (k * 2 + 1) y).map (Value.int .i64)) ∧ Below w.heap.size w ((w1.setCell ⟨w.heap.size, k * 2, none⟩ (.int .i64 x)).setCell ⟨w.heap.size, k * 2 + 1, none⟩ (.int .i64 y))) :=
          ⟨by simpa using ((hown1.stored (k * 2) (.int .i64 x)).1.stored (k * 2 + 1) (.int .i64 y)).1, (hbel1.setCell (Nat.le_refl _) _).setCell (Nat.le_refl _) _⟩
        clear hown hown1 hbel hbel1 hb1 hyl
        go_wp2
        go_roundw
        case rel => exact ⟨k + 1, _, by omega, by go_num, R.out.1, HS.out, R.out.2⟩
        case measure => simp [intOf]; omega
    · obtain rfl : k = n := by omega
      have hyl : ys.length = k * 2 := by simpa using hown.1
      have e : ys = zs := by
        rw [List.take_of_length_le (by omega), List.take_of_length_le (by have := hzl.out; omega)] at htake
        exact htake
      subst e
      have HO : Hid (wr.ownsRow w.heap.size 48 2 (.slice (some ⟨w.heap.size, 0, none⟩) k k) k (ys.map (Value.int .i64))) := hown
      clear hown htake hyl hs
      go_wp2
      go_ret
      exact ⟨rfl, HO.out, hbel⟩

set_option maxHeartbeats 400000 in
theorem eqPolOld_yes (k v : Int) (w : World) :
    Calls Try.prog 49 #[.agg #[.int .i64 k, .int .i64 v], .agg #[.int .i64 k, .int .i64 v]] w fun e w' => e = .returned (.bool true) ∧ Below w.heap.size w w' := by
  go_enter Try.func49, Try.ntmps49
  go_wp2
  go_ret
  exact ⟨rfl, ((Below.refl _ _).alloc (Nat.le_refl _) _).alloc (by simp) _⟩

set_option maxHeartbeats 1000000 in
theorem eqPolOldS_yes (a a' : Option Addr) (n cap cap' : Nat) (zs : List Int) (w : World) (hs : SInts w a (n * 2) zs) (hs' : SInts w a' (n * 2) zs) (hn : n ≤ 4000000000) :
    Calls Try.prog 42 #[.slice a n cap, .slice a' n cap'] w fun e w' => e = .returned (.bool true) ∧ Below w.heap.size w w' := by
  go_enter Try.func42, Try.ntmps42
  go_wp2
  go_loopw [5] (fun i wr => ∃ k : Nat, k ≤ n ∧ i = .int .i64 k ∧ Below w.heap.size w wr) (fun i _ => n - (intOf i).toNat)
  case atStart => exact ⟨0, Nat.zero_le _, rfl, Below.refl _ _⟩
  case round =>
    obtain ⟨k, hk, rfl, hbel⟩ := hrel
    by_cases hlt : k < n
    · obtain ⟨hz, h0 | ⟨b, off, rfl, hc⟩⟩ := hs
      · omega
      · obtain ⟨_, h0 | ⟨b', off', rfl, hc'⟩⟩ := hs'
        · omega
        · obtain ⟨x, hx⟩ : ∃ x, zs.getD (k * 2) 0 = x := ⟨_, rfl⟩
          obtain ⟨y, hy⟩ : ∃ y, zs.getD (k * 2 + 1) 0 = y := ⟨_, rfl⟩
          have h1 : wr.cell? ⟨b, off + k * 2, none⟩ = some (.int .i64 x) := by rw [← hx]; exact (hbel.cell (World.block_lt_of_cell? w ⟨b, off + k * 2, none⟩ (hc _ (by omega)))).trans (hc _ (by omega))
          have h2 : wr.cell? ⟨b, off + k * 2 + 1, none⟩ = some (.int .i64 y) := by rw [← hy]; exact (hbel.cell (World.block_lt_of_cell? w ⟨b, off + (k * 2 + 1), none⟩ (hc _ (by omega)))).trans (hc _ (by omega))
          have h3 : wr.cell? ⟨b', off' + k * 2, none⟩ = some (.int .i64 x) := by rw [← hx]; exact (hbel.cell (World.block_lt_of_cell? w ⟨b', off' + k * 2, none⟩ (hc' _ (by omega)))).trans (hc' _ (by omega))
          have h4 : wr.cell? ⟨b', off' + k * 2 + 1, none⟩ = some (.int .i64 y) := by rw [← hy]; exact (hbel.cell (World.block_lt_of_cell? w ⟨b', off' + (k * 2 + 1), none⟩ (hc' _ (by omega)))).trans (hc' _ (by omega))
          clear hc hc' hx hy hz
          go_wp2
          go_region_with (go_at_call 49; refine (eqPolOld_yes _ _ _).mono ?_; rintro e w1 ⟨rfl, hb1⟩)
          all_goals
            have hb2 := below_trans' hbel (below_trans' (Below.refl _ _).drew hb1)
            clear hb1 hbel h1 h2 h3 h4
            go_wp2
            go_roundw
            case rel => exact ⟨k + 1, by omega, by go_num, hb2⟩
            case measure => simp [intOf]; omega
    · have : k = n := by omega
      subst this
      go_wp2
      go_ret
      exact ⟨rfl, hbel⟩

set_option maxHeartbeats 800000 in
theorem markPolOldS_any (a : Option Addr) (n cap base : Nat) (zs : List Int) (k : Int) (w : World) (ho : w.ownsRow base 48 2 (.slice a n cap) n (zs.map (Value.int .i64))) (hk0 : 0 ≤ k) (hk : k + n ≤ 1000000000000000) (hn : n ≤ 1000000000000) :
    Calls Try.prog 43 #[.slice a n cap, .int .i64 k] w fun e w' => e = .returned (.int .i64 (k + 2 * n)) ∧ w'.ownsRow base 48 2 (.slice a n cap) n ((marks k (n * 2)).map (Value.int .i64)) ∧ w.grownBy w' (Value.ownBlock (.slice a n cap)) ∧ w'.heap.size = w.heap.size := by
  have hz : zs.length = n * 2 := by simpa using ho.1
  by_cases hn0 : n = 0
  · subst hn0
    obtain rfl : zs = [] := List.eq_nil_of_length_eq_zero hz
    go_enter Try.func43, Try.ntmps43
    go_wp2
    go_loop [1, 5] (fun s i => s = .int .i64 k ∧ i = .int .i64 0) (fun _ _ => 0)
    case atStart => exact ⟨rfl, rfl⟩
    case round =>
      obtain ⟨rfl, rfl⟩ := hrel
      go_wp2
      go_ret
      exact ⟨by simp, by simpa [marks] using ho, World.grownBy.refl _ _, rfl⟩
  · obtain ⟨g, rfl⟩ : ∃ g, a = some ⟨g, 0, none⟩ := by
      rcases ho.2 with ⟨h, h0⟩ | ⟨g, c, cur, h, _⟩
      · exact absurd h0 hn0
      · cases h; exact ⟨g, rfl⟩
    go_enter Try.func43, Try.ntmps43
    go_wp2
    go_loopw [1, 5] (fun s i wr => ∃ (j : Nat) (ys : List Int), j ≤ n ∧ i = .int .i64 j ∧ s = .int .i64 (k + 2 * j) ∧ wr.ownsRow base 48 2 (.slice (some ⟨g, 0, none⟩) n cap) n (ys.map (Value.int .i64)) ∧ ys.take (j * 2) = (marks k (n * 2)).take (j * 2) ∧ w.grownBy wr (some g) ∧ wr.heap.size = w.heap.size)
      (fun _ i _ => n - (intOf i).toNat)
    case atStart => exact ⟨0, zs, Nat.zero_le _, rfl, by go_num, ho, by simp, World.grownBy.refl _ _, rfl⟩
    case round =>
      obtain ⟨j, ys, hj, rfl, rfl, hown, htake, hg, hsz⟩ := hrel
      by_cases hlt : j < n
      · have hyl : ys.length = n * 2 := by simpa using hown.1
        have o0 := own2_cell hown (j := j * 2) (by omega)
        have o1 := own2_cell hown (j := j * 2 + 1) (by omega)
        have f0 := hown.frozenAt (j * 2)
        have f1 := hown.frozenAt (j * 2 + 1)
        have st1 := hown.stored (j * 2) (.int .i64 (k + 2 * j))
        have st2 := st1.1.stored (j * 2 + 1) (.int .i64 (k + 2 * j + 1))
        have R : Hid (((wr.setCell ⟨g, j * 2, none⟩ (.int .i64 (k + 2 * j))).setCell ⟨g, j * 2 + 1, none⟩ (.int .i64 (k + 2 * j + 1))).ownsRow base 48 2 (.slice (some ⟨g, 0, none⟩) n cap) n (((ys.set (j * 2) (k + 2 * j)).set (j * 2 + 1) (k + 2 * j + 1)).map (Value.int .i64)) ∧
            ((ys.set (j * 2) (k + 2 * j)).set (j * 2 + 1) (k + 2 * j + 1)).take ((j + 1) * 2) = (marks k (n * 2)).take ((j + 1) * 2) ∧ w.grownBy ((wr.setCell ⟨g, j * 2, none⟩ (.int .i64 (k + 2 * j))).setCell ⟨g, j * 2 + 1, none⟩ (.int .i64 (k + 2 * j + 1))) (some g) ∧ ((wr.setCell ⟨g, j * 2, none⟩ (.int .i64 (k + 2 * j))).setCell ⟨g, j * 2 + 1, none⟩ (.int .i64 (k + 2 * j + 1))).heap.size = w.heap.size) := by
          refine ⟨by simpa using st2.1, ?_, ⟨st2.2.os.trans (st1.2.os.trans hg.os), st2.2.tape.trans (st1.2.tape.trans hg.tape), st2.2.output.trans (st1.2.output.trans hg.output), Nat.le_trans hg.size (Nat.le_trans st1.2.size st2.2.size), fun c hc hne => ?_⟩, by simpa using hsz⟩
          · have e0 : (marks k (n * 2)).getD (j * 2) 0 = k + 2 * j := by rw [marks_get k (by omega)]; omega
            have e1 : (marks k (n * 2)).getD (j * 2 + 1) 0 = k + 2 * j + 1 := by rw [marks_get k (by omega)]; omega
            have := take_set2 ys (marks k (n * 2)) j (by omega) (by rw [marks_len]; omega) htake
            rw [e0, e1] at this
            exact this
          · exact (st2.2.block c (Nat.lt_of_lt_of_le (by omega) st1.2.size) hne).trans ((st1.2.block c (by omega) hne).trans (hg.block c hc hne))
        clear hown htake hg st1 st2 hsz hyl
        go_wp2
        go_roundw
        case rel => exact ⟨j + 1, _, by omega, by go_num, by go_num, R.out⟩
        case measure => simp [intOf]; omega
      · obtain rfl : j = n := by omega
        have hyl : ys.length = j * 2 := by simpa using hown.1
        have e : ys = marks k (j * 2) := by
          rw [List.take_of_length_le (by omega), List.take_of_length_le (by rw [marks_len]; omega)] at htake
          exact htake
        subst e
        have HO : Hid (wr.ownsRow base 48 2 (.slice (some ⟨g, 0, none⟩) j cap) j ((marks k (j * 2)).map (Value.int .i64))) := hown
        clear hown htake hyl
        go_wp2
        go_ret
        exact ⟨rfl, HO.out, hg, hsz⟩

end Go.Proofs.Ytgcpjihjhefpnaa
