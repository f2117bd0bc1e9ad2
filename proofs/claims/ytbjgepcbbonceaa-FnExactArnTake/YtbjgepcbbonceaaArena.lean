/- Contracts of the law helpers over all places. -/
import Derived.Test.YtbjgepcbbonceaaInv3
namespace Go.Proofs.Ytbjgepcbbonceaa
open Go.RowKit
set_option linter.unusedVariables false

theorem al1 (W : World) (o : Obj) : Below W.heap.size W (W.alloc o) := (Below.refl _ _).alloc (Nat.le_refl _) o

set_option maxHeartbeats 400000 in
theorem szArnArena_any (a : Option Addr) (n cap : Nat) (t f l : Int) (left : Int) (w : World) (hn : n ≤ 9223372036854775807) (h0 : 0 ≤ left) (hl : left ≤ 1048576) :
    Calls Try.prog 6 #[.agg #[.slice a n cap, .int .i64 t, .int .i64 f, .int .i64 l], .int .i64 left] w fun e w' => e = .returned (.int .i64 (if (n : Int) ≤ left then left - n else -1)) ∧ Below w.heap.size w w' := by
  by_cases h : (n : Int) ≤ left
  · rw [if_pos h]
    go_enter Try.func6, Try.ntmps6
    go_wp2
    go_ret
    exact ⟨rfl, (Below.refl _ _).alloc (Nat.le_refl _) _⟩
  · rw [if_neg h]
    go_enter Try.func6, Try.ntmps6
    go_wp2
    go_ret
    exact ⟨rfl, (Below.refl _ _).alloc (Nat.le_refl _) _⟩

set_option maxHeartbeats 800000 in
theorem toArnArena_any (a : Option Addr) (n cap : Nat) (ns : List Nd) (t f l : Int) (w : World) (hs : SNodes w a n ns) (hn : n ≤ 1048576) :
    Calls Try.prog 8 #[.agg #[.slice a n cap, .int .i64 t, .int .i64 f, .int .i64 l]] w fun e w' => ∃ g, w.heap.size ≤ g ∧ e = .returned (.agg #[.slice (some ⟨g, 0, none⟩) n n, .int .i64 t, .int .i64 f, .int .i64 l]) ∧
      w'.ownsRow w.heap.size 46 6 (.slice (some ⟨g, 0, none⟩) n n) n (flatN ns) ∧ Below w.heap.size w w' := by
  have B3 := below_trans' (below_trans' (al1 w (.cells #[.slice a n cap, .int .i64 t, .int .i64 f, .int .i64 l] 24)) (al1 _ (.cells #[.slice none 0 0, .int .i64 0, .int .i64 0, .int .i64 0] 28))) (al1 _ (.cells #[.slice none 0 0, .int .i64 0, .int .i64 0, .int .i64 0] 28))
  have bx0 := ((boxA_new w a n cap t f l 24 rfl).below (al1 _ (.cells #[.slice none 0 0, .int .i64 0, .int .i64 0, .int .i64 0] 28))).below (al1 _ (.cells #[.slice none 0 0, .int .i64 0, .int .i64 0, .int .i64 0] 28))
  have bx1 := (boxA_new (w.alloc (.cells #[.slice a n cap, .int .i64 t, .int .i64 f, .int .i64 l] 24)) none 0 0 0 0 0 28 (b := w.heap.size + 1) (by simp)).below (al1 _ (.cells #[.slice none 0 0, .int .i64 0, .int .i64 0, .int .i64 0] 28))
  have bx2 := boxA_new ((w.alloc (.cells #[.slice a n cap, .int .i64 t, .int .i64 f, .int .i64 l] 24)).alloc (.cells #[.slice none 0 0, .int .i64 0, .int .i64 0, .int .i64 0] 28)) none 0 0 0 0 0 28 (b := w.heap.size + 1 + 1) (by simp)
  go_enter Try.func8, Try.ntmps8
  go_wp2_with fail
  refine (toArnNodeS_any _ _ _ ns _ (hs.below B3) hn).mono ?_
  rintro e w1 ⟨rfl, ho, hb⟩
  have hb' := below_trans' B3 hb
  have b0 := bx0.below hb
  have b1 := bx1.below hb
  have b2 := bx2.below hb
  have p0 := b0.c0
  have p1 := b0.c1
  have p2 := b0.c2
  have p3 := b0.c3
  have q0 := b1.c0
  have q1 := b1.c1
  have q2 := b1.c2
  have q3 := b1.c3
  have r0 := b2.c0
  have r1 := b2.c1
  have r2 := b2.c2
  have r3 := b2.c3
  have fq : ∀ j, w1.frozen? ⟨w.heap.size + 1, j, none⟩ = false := fun j => by
    rw [hb.frozen (p := ⟨w.heap.size + 1, j, none⟩) (by simp), (al1 _ _).frozen (p := ⟨w.heap.size + 1, j, none⟩) (by simp)]
    have := frozen_at' (w.alloc (.cells #[.slice a n cap, .int .i64 t, .int .i64 f, .int .i64 l] 24)) #[.slice none 0 0, .int .i64 0, .int .i64 0, .int .i64 0] 28 j (b := w.heap.size + 1) (by simp)
    exact this
  have fr : ∀ j, w1.frozen? ⟨w.heap.size + 1 + 1, j, none⟩ = false := fun j => by
    rw [hb.frozen (p := ⟨w.heap.size + 1 + 1, j, none⟩) (by simp)]
    exact frozen_at' _ _ _ j (by simp)
  have fq0 := fq 0
  have fq1 := fq 1
  have fq2 := fq 2
  have fq3 := fq 3
  have fr0 := fr 0
  have fr1 := fr 1
  have fr2 := fr 2
  have fr3 := fr 3
  simp only [World.size_alloc] at ho ⊢
  have HO : Hid (w1.ownsRow (w.heap.size + 1 + 1 + 1) 46 6 (.slice (some ⟨w.heap.size + 1 + 1 + 1, 0, none⟩) n n) n (flatN ns)) := ho
  clear ho hb hs B3 bx0 bx1 bx2 b0 b1 b2 fq fr
  go_wp2
  refine bodyPost_ret (v := .agg #[.slice (some ⟨w.heap.size + 1 + 1 + 1, 0, none⟩) n n, .int .i64 t, .int .i64 f, .int .i64 l]) (by simp [results, Try.results8, go_sem, q0, q1, q2, q3]) rfl ⟨w.heap.size + 1 + 1 + 1, by omega, rfl, own_mono (own_putA (own_putA HO.out (by omega) _ _ _ _ _ _) (by omega) _ _ _ _ _ _) (by omega), below_putA (below_putA hb' (by omega) _ _ _ _ _ _) (by omega) _ _ _ _ _ _⟩

set_option maxHeartbeats 400000 in
theorem eqArnArena_yes (a a' : Option Addr) (n cap cap' : Nat) (ns : List Nd) (t f l : Int) (w : World) (hs : SNodes w a n ns) (hs' : SNodes w a' n ns) (hn : n ≤ 1000000000) :
    Calls Try.prog 10 #[.agg #[.slice a n cap, .int .i64 t, .int .i64 f, .int .i64 l], .agg #[.slice a' n cap', .int .i64 t, .int .i64 f, .int .i64 l]] w fun e w' => e = .returned (.bool true) ∧ Below w.heap.size w w' := by
  have B2 := below_trans' (al1 w (.cells #[.slice a n cap, .int .i64 t, .int .i64 f, .int .i64 l] 28)) (al1 _ (.cells #[.slice a' n cap', .int .i64 t, .int .i64 f, .int .i64 l] 28))
  have bx0 := (boxA_new w a n cap t f l 28 rfl).below (al1 _ (.cells #[.slice a' n cap', .int .i64 t, .int .i64 f, .int .i64 l] 28))
  have bx1 := boxA_new (w.alloc (.cells #[.slice a n cap, .int .i64 t, .int .i64 f, .int .i64 l] 28)) a' n cap' t f l 28 (b := w.heap.size + 1) (by simp)
  go_enter Try.func10, Try.ntmps10
  go_wp2_with fail
  refine (eqArnNodeS_yes _ _ _ _ _ ns _ (hs.below B2) (hs'.below B2) hn).mono ?_
  rintro e w1 ⟨rfl, hb1⟩
  have hb := below_trans' B2 hb1
  have b0 := bx0.below hb1
  have b1 := bx1.below hb1
  have p1 := b0.c1
  have p2 := b0.c2
  have p3 := b0.c3
  have q1 := b1.c1
  have q2 := b1.c2
  have q3 := b1.c3
  clear hb1 B2 hs hs' bx0 bx1 b0 b1
  go_wp2
  go_ret
  exact ⟨rfl, hb⟩

set_option maxHeartbeats 400000 in
theorem markArnArena_any (a : Option Addr) (n cap base : Nat) (ns : List Nd) (t f l : Int) (k : Int) (w : World) (ho : w.ownsRow base 46 6 (.slice a n cap) n (flatN ns)) (hk0 : 0 ≤ k) (hk : k ≤ 1000000000000) (hn : n ≤ 100000000000) :
    Calls Try.prog 11 #[.agg #[.slice a n cap, .int .i64 t, .int .i64 f, .int .i64 l], .int .i64 k] w fun e w' => e = .returned (.int .i64 (k + 6 * n)) ∧ w'.ownsRow base 46 6 (.slice a n cap) n (flatN (marksN k n)) ∧ w.grownBy w' (Value.ownBlock (.slice a n cap)) := by
  go_enter Try.func11, Try.ntmps11
  go_wp2_with fail
  refine (markArnNodeS_any _ _ _ _ ns _ _ (ho.alloc _) hk0 hk hn).mono ?_
  rintro e w1 ⟨rfl, ho1, hg1, _⟩
  have hg := grown_trans (World.grownBy_alloc w _ _) hg1
  have HO : Hid (w1.ownsRow base 46 6 (.slice a n cap) n (flatN (marksN k n))) := ho1
  clear ho ho1 hg1
  go_wp2
  go_ret
  exact ⟨rfl, HO.out, hg⟩

set_option maxHeartbeats 400000 in
theorem heldArnArena_any (a : Option Addr) (n cap : Nat) (t f l : Int) (k : Int) (w : World) (hs : SNodes w a n (marksN k n)) (hk0 : 0 ≤ k) (hk : k ≤ 1000000000000) (hn : n ≤ 100000000000) :
    Calls Try.prog 12 #[.agg #[.slice a n cap, .int .i64 t, .int .i64 f, .int .i64 l], .int .i64 k] w fun e w' => e = .returned (.int .i64 (k + 6 * n)) ∧ Below w.heap.size w w' := by
  go_enter Try.func12, Try.ntmps12
  go_wp2_with fail
  refine (heldArnNodeS_any _ _ _ _ _ (hs.below (al1 _ _)) hk0 hk hn).mono ?_
  rintro e w1 ⟨rfl, rfl⟩
  clear hs
  go_wp2
  go_ret
  exact ⟨rfl, al1 _ _⟩

end Go.Proofs.Ytbjgepcbbonceaa
