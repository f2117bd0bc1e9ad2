/- Contracts of the law helpers over places: they copy, compare, mark and look at the marks. -/
import Derived.Test.YtbjgepcbbonceaaNodes
namespace Go.Proofs.Ytbjgepcbbonceaa
open Go.RowKit
set_option linter.unusedVariables false

theorem made_nodes (n : Nat) : (madeCells #[Value.int .i64 0, Value.int .i64 0, Value.int .i64 0, Value.int .i64 0, Value.bool false, Value.int .i64 0] (n * 6)).toList = flatN (List.replicate n Nd.zero) := by
  apply List.ext_getElem?
  intro i
  obtain ⟨q, r, rfl, hr⟩ : ∃ q r, i = q * 6 + r ∧ r < 6 := ⟨i / 6, i % 6, by omega, by omega⟩
  have hm : (q * 6 + r) % 6 = r := by omega
  rw [flatN_get _ _ _ hr]
  by_cases hi : q < n
  · have h1 : q * 6 + r < n * 6 := by omega
    have h6 : r = 0 ∨ r = 1 ∨ r = 2 ∨ r = 3 ∨ r = 4 ∨ r = 5 := by omega
    rcases h6 with rfl | rfl | rfl | rfl | rfl | rfl <;> simp [madeCells, hm, h1, hi, Nd.cells, Nd.zero]
  · have h1 : ¬ q * 6 + r < n * 6 := by omega
    simp [madeCells, h1, hi]

set_option maxHeartbeats 800000 in
theorem toArnNodeS_any (a : Option Addr) (n cap : Nat) (ns : List Nd) (w : World) (hs : SNodes w a n ns) (hn : n ≤ 1048576) :
    Calls Try.prog 22 #[.slice a n cap] w fun e w' => e = .returned (.slice (some ⟨w.heap.size, 0, none⟩) n n) ∧
      w'.ownsRow w.heap.size 46 6 (.slice (some ⟨w.heap.size, 0, none⟩) n n) n (flatN ns) ∧ Below w.heap.size w w' := by
  obtain ⟨i0, hi, hz0, hz1, hz2⟩ := info_parts Try.info46
  have hzl : Hid (ns.length = n) := hs.1
  go_enter Try.func22, Try.ntmps22
  go_wp2_with (at_make; refine wpList_make_full _ rfl _ _ 26 rfl w.heap.size 46 i0 (.agg #[.int .i64 0, .int .i64 0, .int .i64 0, .int .i64 0, .bool false, .int .i64 0]) 6 Try.underlying26 hi hz0 hz1 _ _ _ _ n rfl rfl rfl rfl ?b2 ?b3 (Nat.le_refl _) ?_)
  case b2 => rw [hz2]; omega
  case b3 => unfold maxLen; omega
  intro w0 hown0 hgrow0
  rw [made_nodes] at hown0
  go_wp2
  go_loopw [4] (fun i wr => ∃ (k : Nat) (ys : List Nd), k ≤ n ∧ i = .int .i64 k ∧ wr.ownsRow w.heap.size 46 6 (.slice (some ⟨w.heap.size, 0, none⟩) n n) n (flatN ys) ∧ ys.take k = ns.take k ∧ Below w.heap.size w wr)
    (fun i _ => n - (intOf i).toNat)
  case atStart => exact ⟨0, _, Nat.zero_le _, rfl, hown0, by simp, (Below.refl _ _).grown hgrow0 (Nat.le_refl _) (fun k h => by cases h)⟩
  case round =>
    obtain ⟨k, ys, hk, rfl, hown, htake, hbel⟩ := hrel
    by_cases hlt : k < n
    · have hyl := own6_len hown
      obtain ⟨b, off, ⟨x0, x1, x2, x3, x4, x5⟩, rfl, hx, hN⟩ := (hs.below hbel).at hlt
      have n0 := hN.c0
      have n1 := hN.c1
      have n2 := hN.c2
      have n3 := hN.c3
      have n4 := hN.c4
      have n5 := hN.c5
      dsimp only at n0 n1 n2 n3 n4 n5
      have HS : Hid ((ys.set k ⟨x0, x1, x2, x3, x4, x5⟩).take (k + 1) = ns.take (k + 1)) := set_take_succ ys ns k _ hx (by omega) htake
      clear hx htake hN hs
      go_wp2_with fail
      refine (toArnNode_any _ _ _ _ _ _ _).mono ?_
      rintro e w1 ⟨rfl, hb1⟩
      have hown1 := ownsRow_below hown hb1
      have hbel1 := below_trans' hbel hb1
      obtain ⟨y, hy⟩ : ∃ y, ys[k]? = some y := ⟨_, List.getElem?_eq_getElem (by omega)⟩
      have hO := own6_cell hown1 hy
      have o0 := hO.c0
      have o1 := hO.c1
      have o2 := hO.c2
      have o3 := hO.c3
      have o4 := hO.c4
      have o5 := hO.c5
      have f0 := hown1.frozenAt (k * 6)
      have f1 := hown1.frozenAt (k * 6 + 1)
      have f2 := hown1.frozenAt (k * 6 + 2)
      have f3 := hown1.frozenAt (k * 6 + 3)
      have f4 := hown1.frozenAt (k * 6 + 4)
      have f5 := hown1.frozenAt (k * 6 + 5)
      have hp := own6_put hown1 k ⟨x0, x1, x2, x3, x4, x5⟩
      have R : Hid ((put6 w1 w.heap.size (k * 6) ⟨x0, x1, x2, x3, x4, x5⟩).ownsRow w.heap.size 46 6 (.slice (some ⟨w.heap.size, 0, none⟩) n n) n (flatN (ys.set k ⟨x0, x1, x2, x3, x4, x5⟩)) ∧ Below w.heap.size w (put6 w1 w.heap.size (k * 6) ⟨x0, x1, x2, x3, x4, x5⟩)) :=
        ⟨hp.1, hbel1.grown hp.2.1 hbel1.size (fun c e => by cases e; exact Nat.le_refl _)⟩
      clear hown hown1 hbel hbel1 hb1 hyl hp hO hy n0 n1 n2 n3 n4 n5
      go_wp2
      go_roundw
      case rel => exact ⟨k + 1, _, by omega, by go_num, R.out.1, HS.out, R.out.2⟩
      case measure => simp [intOf]; omega
    · obtain rfl : k = n := by omega
      have hyl := own6_len hown
      have e : ys = ns := by
        rw [List.take_of_length_le (by omega), List.take_of_length_le (by have := hzl.out; omega)] at htake
        exact htake
      subst e
      have HO : Hid (wr.ownsRow w.heap.size 46 6 (.slice (some ⟨w.heap.size, 0, none⟩) k k) k (flatN ys)) := hown
      clear hown htake hyl hs
      go_wp2
      go_ret
      exact ⟨rfl, HO.out, hbel⟩

set_option maxHeartbeats 400000 in
theorem eqArnNode_yes (k v o r : Int) (u : Bool) (g : Int) (w : World) :
    Calls Try.prog 40 #[.agg #[.int .i64 k, .int .i64 v, .int .i64 o, .int .i64 r, .bool u, .int .i64 g], .agg #[.int .i64 k, .int .i64 v, .int .i64 o, .int .i64 r, .bool u, .int .i64 g]] w fun e w' => e = .returned (.bool true) ∧ Below w.heap.size w w' := by
  go_enter Try.func40, Try.ntmps40
  go_wp2
  go_ret
  exact ⟨rfl, ((Below.refl _ _).alloc (Nat.le_refl _) _).alloc (by simp) _⟩

set_option maxHeartbeats 1000000 in
theorem eqArnNodeS_yes (a a' : Option Addr) (n cap cap' : Nat) (ns : List Nd) (w : World) (hs : SNodes w a n ns) (hs' : SNodes w a' n ns) (hn : n ≤ 1000000000) :
    Calls Try.prog 28 #[.slice a n cap, .slice a' n cap'] w fun e w' => e = .returned (.bool true) ∧ Below w.heap.size w w' := by
  go_enter Try.func28, Try.ntmps28
  go_wp2
  go_loopw [5] (fun i wr => ∃ k : Nat, k ≤ n ∧ i = .int .i64 k ∧ Below w.heap.size w wr) (fun i _ => n - (intOf i).toNat)
  case atStart => exact ⟨0, Nat.zero_le _, rfl, Below.refl _ _⟩
  case round =>
    obtain ⟨k, hk, rfl, hbel⟩ := hrel
    by_cases hlt : k < n
    · obtain ⟨b, off, ⟨x0, x1, x2, x3, x4, x5⟩, rfl, hx, hN⟩ := (hs.below hbel).at hlt
      obtain ⟨b', off', y, rfl, hy, hM⟩ := (hs'.below hbel).at hlt
      obtain rfl : y = ⟨x0, x1, x2, x3, x4, x5⟩ := by rw [hx] at hy; cases hy; rfl
      have n0 := hN.c0
      have n1 := hN.c1
      have n2 := hN.c2
      have n3 := hN.c3
      have n4 := hN.c4
      have n5 := hN.c5
      have m0 := hM.c0
      have m1 := hM.c1
      have m2 := hM.c2
      have m3 := hM.c3
      have m4 := hM.c4
      have m5 := hM.c5
      dsimp only at n0 n1 n2 n3 n4 n5 m0 m1 m2 m3 m4 m5
      clear hx hy hN hM hs hs'
      go_wp2
      go_region_with (go_at_call 40; refine (eqArnNode_yes _ _ _ _ _ _ _).mono ?_; rintro e w1 ⟨rfl, hb1⟩)
      all_goals
        have hb2 := below_trans' hbel (below_trans' (Below.refl _ _).drew hb1)
        clear hb1 hbel n0 n1 n2 n3 n4 n5 m0 m1 m2 m3 m4 m5
        go_wp2
        go_roundw
        case rel => exact ⟨k + 1, by omega, by go_num, hb2⟩
        case measure => simp [intOf]; omega
    · have : k = n := by omega
      subst this
      go_wp2
      go_ret
      exact ⟨rfl, hbel⟩

/-- The marks that are written into place i from k on. -/
def markN (k : Int) (i : Nat) : Nd := ⟨k + 6 * i, k + 6 * i + 1, k + 6 * i + 1 + 1, k + 6 * i + 1 + 1 + 1, (k + 6 * i + 1 + 1 + 1 + 1) % 3 == 0, k + 6 * i + 1 + 1 + 1 + 1 + 1⟩
def marksN (k : Int) (n : Nat) : List Nd := (List.range n).map (markN k)
theorem marksN_len (k : Int) (n : Nat) : (marksN k n).length = n := by simp [marksN]
theorem marksN_get (k : Int) {n i : Nat} (h : i < n) : (marksN k n)[i]? = some (markN k i) := by simp [marksN, h]

set_option maxHeartbeats 1600000 in
theorem markArnNodeS_any (a : Option Addr) (n cap base : Nat) (ns : List Nd) (k : Int) (w : World) (ho : w.ownsRow base 46 6 (.slice a n cap) n (flatN ns)) (hk0 : 0 ≤ k) (hk : k ≤ 1000000000000) (hn : n ≤ 100000000000) :
    Calls Try.prog 29 #[.slice a n cap, .int .i64 k] w fun e w' => e = .returned (.int .i64 (k + 6 * n)) ∧ w'.ownsRow base 46 6 (.slice a n cap) n (flatN (marksN k n)) ∧ w.grownBy w' (Value.ownBlock (.slice a n cap)) ∧ w'.heap.size = w.heap.size := by
  have hz := own6_len ho
  by_cases hn0 : n = 0
  · subst hn0
    obtain rfl : ns = [] := List.eq_nil_of_length_eq_zero hz
    go_enter Try.func29, Try.ntmps29
    go_wp2
    go_loop [1, 5] (fun s i => s = .int .i64 k ∧ i = .int .i64 0) (fun _ _ => 0)
    case atStart => exact ⟨rfl, rfl⟩
    case round =>
      obtain ⟨rfl, rfl⟩ := hrel
      go_wp2
      go_ret
      exact ⟨by simp, by simpa [marksN] using ho, World.grownBy.refl _ _, rfl⟩
  · obtain ⟨g, rfl⟩ : ∃ g, a = some ⟨g, 0, none⟩ := by
      rcases ho.2 with ⟨h, h0⟩ | ⟨g, c, cur, h, _⟩
      · exact absurd h0 hn0
      · cases h; exact ⟨g, rfl⟩
    go_enter Try.func29, Try.ntmps29
    go_wp2
    go_loopw [1, 5] (fun s i wr => ∃ (j : Nat) (ys : List Nd), j ≤ n ∧ i = .int .i64 j ∧ s = .int .i64 (k + 6 * j) ∧ wr.ownsRow base 46 6 (.slice (some ⟨g, 0, none⟩) n cap) n (flatN ys) ∧ ys.take j = (marksN k n).take j ∧ w.grownBy wr (some g) ∧ wr.heap.size = w.heap.size)
      (fun _ i _ => n - (intOf i).toNat)
    case atStart => exact ⟨0, ns, Nat.zero_le _, rfl, by go_num, ho, by simp, World.grownBy.refl _ _, rfl⟩
    case round =>
      obtain ⟨j, ys, hj, rfl, rfl, hown, htake, hg, hsz⟩ := hrel
      by_cases hlt : j < n
      · have hyl := own6_len hown
        obtain ⟨y, hy⟩ : ∃ y, ys[j]? = some y := ⟨_, List.getElem?_eq_getElem (by omega)⟩
        have hO := own6_cell hown hy
        have o0 := hO.c0
        have o1 := hO.c1
        have o2 := hO.c2
        have o3 := hO.c3
        have o4 := hO.c4
        have o5 := hO.c5
        have f0 := hown.frozenAt (j * 6)
        have f1 := hown.frozenAt (j * 6 + 1)
        have f2 := hown.frozenAt (j * 6 + 2)
        have f3 := hown.frozenAt (j * 6 + 3)
        have f4 := hown.frozenAt (j * 6 + 4)
        have f5 := hown.frozenAt (j * 6 + 5)
        have hp := own6_put hown j (markN k j)
        have R : Hid ((put6 wr g (j * 6) (markN k j)).ownsRow base 46 6 (.slice (some ⟨g, 0, none⟩) n cap) n (flatN (ys.set j (markN k j))) ∧ (ys.set j (markN k j)).take (j + 1) = (marksN k n).take (j + 1) ∧ w.grownBy (put6 wr g (j * 6) (markN k j)) (some g) ∧ (put6 wr g (j * 6) (markN k j)).heap.size = w.heap.size) :=
          ⟨hp.1, set_take_succ ys _ j _ (marksN_get k hlt) (by omega) htake, grown_trans hg hp.2.1, hp.2.2.trans hsz⟩
        clear hown htake hg hsz hyl hp hO hy
        go_wp2
        go_roundw
        case rel => exact ⟨j + 1, _, by omega, by go_num, by go_num, R.out⟩
        case measure => simp [intOf]; omega
      · obtain rfl : j = n := by omega
        have hyl := own6_len hown
        have e : ys = marksN k j := by
          rw [List.take_of_length_le (by omega), List.take_of_length_le (by rw [marksN_len]; omega)] at htake
          exact htake
        subst e
        have HO : Hid (wr.ownsRow base 46 6 (.slice (some ⟨g, 0, none⟩) j cap) j (flatN (marksN k j))) := hown
        clear hown htake hyl
        go_wp2
        go_ret
        exact ⟨rfl, HO.out, hg, hsz⟩

set_option maxHeartbeats 1600000 in
theorem heldArnNodeS_any (a : Option Addr) (n cap : Nat) (k : Int) (w : World) (hs : SNodes w a n (marksN k n)) (hk0 : 0 ≤ k) (hk : k ≤ 1000000000000) (hn : n ≤ 100000000000) :
    Calls Try.prog 30 #[.slice a n cap, .int .i64 k] w fun e w' => e = .returned (.int .i64 (k + 6 * n)) ∧ w' = w := by
  go_enter Try.func30, Try.ntmps30
  go_wp2
  go_loop [1, 5] (fun s i => ∃ j : Nat, j ≤ n ∧ i = .int .i64 j ∧ s = .int .i64 (k + 6 * j)) (fun _ i => n - (intOf i).toNat)
  case atStart => exact ⟨0, Nat.zero_le _, rfl, by go_num⟩
  case round =>
    obtain ⟨j, hj, rfl, rfl⟩ := hrel
    by_cases hlt : j < n
    · obtain ⟨b, off, x, rfl, hx, hN⟩ := hs.at hlt
      obtain rfl : x = markN k j := by rw [marksN_get k hlt] at hx; cases hx; rfl
      have n0 := hN.c0
      have n1 := hN.c1
      have n2 := hN.c2
      have n3 := hN.c3
      have n4 := hN.c4
      have n5 := hN.c5
      dsimp only [markN] at n0 n1 n2 n3 n4 n5
      clear hx hN hs
      go_wp2
      go_round
      case rel => exact ⟨j + 1, by omega, by go_num, by go_num⟩
      case measure => simp [intOf]; omega
    · obtain rfl : j = n := by omega
      clear hs
      go_wp2
      go_ret
      exact ⟨rfl, rfl⟩

end Go.Proofs.Ytbjgepcbbonceaa
