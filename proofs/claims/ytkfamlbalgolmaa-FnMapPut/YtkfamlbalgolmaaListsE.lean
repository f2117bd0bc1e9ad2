/- Contracts of the program's list methods at entries: replaced, same, without. -/
import Derived.Test.YtkfamlbalgolmaaLists
import Derived.Test.YtkfamlbalgolmaaEnts2
namespace Go.Proofs.Ytkfamlbalgolmaa
open Go.RowKit
set_option linter.unusedVariables false

set_option maxHeartbeats 800000 in
theorem replacedE_some (b off n cap : Nat) (zs : List Int) (f t : Nat) (a2 : Option Addr) (m cap2 : Nat) (ys : List Int) (w : World) (hs : SInts w (some ⟨b, off, none⟩) (n * 2) zs) (hn0 : ¬ n = 0) (hys : SInts w a2 (m * 2) ys)
    (hft : f ≤ t) (htn : t ≤ n) (hnc : n ≤ cap) (hcap : cap ≤ 9223372036854775807 ∧ n ≤ 1099511627776) (hm : m ≤ 1099511627776) (hz : ¬ n - (t - f) + m = 0) :
    Calls Try.prog 47 #[.slice (some ⟨b, off, none⟩) n cap, .int .i64 f, .int .i64 t, .slice a2 m cap2] w fun e w' => ∃ N a' c', N = n - (t - f) + m ∧ e = .returned (.slice a' N c') ∧
      w'.ownsRow w.heap.size 41 2 (.slice a' N c') N ((zs.take (f * 2) ++ ys ++ zs.drop (t * 2)).map (Value.int .i64)) ∧ Below w.heap.size w w' := by
  obtain ⟨i0, hi, hz0, hz1, hz2⟩ := info_parts Try.info41
  have hz' : ((n : Int) - (t - f) + m == 0) = false := by simp; omega
  have hzl := hs.1
  have hyl := hys.1
  go_enter Try.func47, Try.ntmps47
  go_wp2_with (at_make; refine wpList_make_own _ rfl _ _ 50 rfl w.heap.size 41 i0 (.agg #[.int .i64 0, .int .i64 0]) 2 Try.underlying50 hi hz0 hz1 _ _ _ (n - (t - f) + m) rfl rfl (by omega) ?b2 ?b3 (Nat.le_refl _) ?_)
  case b2 => rw [hz2]; omega
  case b3 => unfold maxLen; omega
  intro w0 hown0 hgrow0
  have hb0 : Below w.heap.size w w0 := (Below.refl _ _).grown hgrow0 (Nat.le_refl _) (fun k h => by cases h)
  have src1 : f = 0 ∨ ∃ ad, some (⟨b, off, none⟩ : Addr) = some ad ∧ ∀ j u, ((zs.take (f * 2)).map (Value.int .i64))[j]? = some u → w0.cell? (ad.add j) = some u := ((hs.below hb0).src_take (f := f * 2) (by omega)).imp (by omega) id
  have hl1 : ((zs.take (f * 2)).map (Value.int .i64)).length = f * 2 := by simp; omega
  have S1 : Hid (f = 0 ∨ ∃ ad, some (⟨b, off, none⟩ : Addr) = some ad ∧ ∀ j u, ((zs.take (f * 2)).map (Value.int .i64))[j]? = some u → w0.cell? (ad.add j) = some u) := src1
  have L1 : Hid (((zs.take (f * 2)).map (Value.int .i64)).length = f * 2) := hl1
  clear src1 hl1
  go_wp2_with (at_builtin; go_must (refine wpList_append_fits_two _ rfl (.tmp 24) (.tmp 27) 50 50 rfl w.heap.size 41 41 i0 2 Try.underlying50 Try.underlying50 hi hz1 w.heap.size 0 (n - (t - f) + m) _ rfl hown0 _ f _ ((zs.take (f * 2)).map (Value.int .i64)) rfl L1.out S1.out (ints_oneCell _ _) (by omega) ?_))
  intro w1 hown1 hgrow1
  have hb1 := hb0.grown hgrow1 hb0.size (fun k h => by cases h; exact Nat.le_refl _)
  have src2 : m = 0 ∨ ∃ ad, a2 = some ad ∧ ∀ j u, (ys.map (Value.int .i64))[j]? = some u → w1.cell? (ad.add j) = some u := by
    have := (hys.below hb1).src_take (Nat.le_refl (m * 2))
    rw [List.take_of_length_le (by omega)] at this
    exact this.imp (by omega) id
  have S2 : Hid (m = 0 ∨ ∃ ad, a2 = some ad ∧ ∀ j u, (ys.map (Value.int .i64))[j]? = some u → w1.cell? (ad.add j) = some u) := src2
  clear src2
  go_wp2_with (at_builtin; go_must (refine wpList_append_fits_two _ rfl (.tmp 29) (.tmp 30) 50 23 rfl w.heap.size 41 41 i0 2 Try.underlying50 Try.underlying23 hi hz1 w.heap.size f (n - (t - f) + m) _ rfl hown1 _ m _ (ys.map (Value.int .i64)) rfl (by simp [hyl]) S2.out (ints_oneCell _ _) (by omega) ?_))
  intro w2 hown2 hgrow2
  have hb2 := hb1.grown hgrow2 hb1.size (fun k h => by cases h; exact Nat.le_refl _)
  have S3 : Hid (∀ ao : Option Addr, (¬ cap = t → ao = some ⟨b, off + t * 2, none⟩) → (n - t = 0 ∨ ∃ ad, ao = some ad ∧ ∀ j u, ((zs.drop (t * 2)).map (Value.int .i64))[j]? = some u → w2.cell? (ad.add j) = some u)) := by
    intro ao hao
    obtain ⟨_, h0 | ⟨b', off', e, hc⟩⟩ := hs.below hb2
    · omega
    · cases e
      exact (SInts.src_drop (cap := cap * 2) (t := t * 2) hzl hc (by omega) (fun h => hao (by omega))).imp (by omega) id
  have L3 : Hid (((zs.drop (t * 2)).map (Value.int .i64)).length = (n - t) * 2) := by show _ = _; simp; omega
  go_wp2_with (at_builtin; refine wpList_append_fits_two _ rfl (.tmp 32) (.tmp 35) 50 50 rfl w.heap.size 41 41 i0 2 Try.underlying50 Try.underlying50 hi hz1 w.heap.size (f + m) (n - (t - f) + m) _ rfl hown2 _ (n - t) _ ((zs.drop (t * 2)).map (Value.int .i64)) rfl L3.out (S3.out _ (by intro h; first | rfl | simp [h])) (ints_oneCell _ _) (by omega) ?_)
  all_goals
    intro w3 hown3 hgrow3
    have hb3 := hb2.grown hgrow3 hb2.size (fun k h => by cases h; exact Nat.le_refl _)
    go_wp2
    go_ret
    refine ⟨f + m + (n - t), _, _, by omega, rfl, ?_, hb3⟩
    simpa using hown3

set_option maxHeartbeats 800000 in
theorem replacedE_bare (a : Option Addr) (cap : Nat) (a2 : Option Addr) (m cap2 : Nat) (ys : List Int) (w : World) (hys : SInts w a2 (m * 2) ys) (hm : m ≤ 1099511627776) (hz : ¬ m = 0) :
    Calls Try.prog 47 #[.slice a 0 cap, .int .i64 0, .int .i64 0, .slice a2 m cap2] w fun e w' => ∃ a' c', e = .returned (.slice a' m c') ∧
      w'.ownsRow w.heap.size 41 2 (.slice a' m c') m (ys.map (Value.int .i64)) ∧ Below w.heap.size w w' := by
  obtain ⟨i0, hi, hz0, hz1, hz2⟩ := info_parts Try.info41
  have hz' : ((m : Int) == 0) = false := by simp; omega
  have hyl := hys.1
  go_enter Try.func47, Try.ntmps47
  go_wp2_with (at_make; refine wpList_make_own _ rfl _ _ 50 rfl w.heap.size 41 i0 (.agg #[.int .i64 0, .int .i64 0]) 2 Try.underlying50 hi hz0 hz1 _ _ _ m rfl rfl (by omega) ?b2 ?b3 (Nat.le_refl _) ?_)
  case b2 => rw [hz2]; omega
  case b3 => unfold maxLen; omega
  intro w0 hown0 hgrow0
  have hb0 : Below w.heap.size w w0 := (Below.refl _ _).grown hgrow0 (Nat.le_refl _) (fun k h => by cases h)
  go_wp2_with (at_builtin; refine wpList_append_fits_two _ rfl (.tmp 24) (.tmp 27) 50 50 rfl w.heap.size 41 41 i0 2 Try.underlying50 Try.underlying50 hi hz1 w.heap.size 0 m _ rfl hown0 _ 0 _ [] rfl rfl (Or.inl rfl) (by simp) (by omega) ?_)
  intro w1 hown1 hgrow1
  have hb1 := hb0.grown hgrow1 hb0.size (fun k h => by cases h; exact Nat.le_refl _)
  have S2 : Hid (m = 0 ∨ ∃ ad, a2 = some ad ∧ ∀ j u, (ys.map (Value.int .i64))[j]? = some u → w1.cell? (ad.add j) = some u) := by
    have := (hys.below hb1).src_take (Nat.le_refl (m * 2))
    rw [List.take_of_length_le (by omega)] at this
    exact this.imp (by omega) id
  go_wp2_with (at_builtin; refine wpList_append_fits_two _ rfl (.tmp 29) (.tmp 30) 50 23 rfl w.heap.size 41 41 i0 2 Try.underlying50 Try.underlying23 hi hz1 w.heap.size 0 m _ rfl hown1 _ m _ (ys.map (Value.int .i64)) rfl (by simp [hyl]) S2.out (ints_oneCell _ _) (by omega) ?_)
  intro w2 hown2 hgrow2
  have hb2 := hb1.grown hgrow2 hb1.size (fun k h => by cases h; exact Nat.le_refl _)
  go_wp2_with (at_builtin; refine wpList_append_fits_two _ rfl (.tmp 32) (.tmp 35) 50 50 rfl w.heap.size 41 41 i0 2 Try.underlying50 Try.underlying50 hi hz1 w.heap.size m m _ rfl hown2 _ 0 _ [] rfl rfl (Or.inl rfl) (by simp) (by omega) ?_)
  all_goals
    intro w3 hown3 hgrow3
    have hb3 := hb2.grown hgrow3 hb2.size (fun k h => by cases h; exact Nat.le_refl _)
    go_wp2
    go_ret
    refine ⟨_, _, rfl, ?_, hb3⟩
    simpa using hown3

set_option maxHeartbeats 400000 in
theorem replacedE_none (a : Option Addr) (n cap : Nat) (f t : Nat) (a2 : Option Addr) (cap2 : Nat) (w : World) (hft : f ≤ t) (htn : t ≤ n) (hn : n ≤ 1099511627776) (hz : n - (t - f) = 0) :
    Calls Try.prog 47 #[.slice a n cap, .int .i64 f, .int .i64 t, .slice a2 0 cap2] w fun e w' => e = .returned (.slice none 0 0) ∧ w' = w := by
  have hz' : ((n : Int) - (t - f) == 0) = true := by simp; omega
  go_enter Try.func47, Try.ntmps47
  go_wp2
  go_ret
  exact ⟨rfl, rfl⟩

theorem replacedE_any (a : Option Addr) (n cap : Nat) (zs : List Int) (f t : Nat) (a2 : Option Addr) (m cap2 : Nat) (ys : List Int) (w : World) (hs : SInts w a (n * 2) zs) (hys : SInts w a2 (m * 2) ys)
    (hft : f ≤ t) (htn : t ≤ n) (hnc : n ≤ cap) (hcap : cap ≤ 9223372036854775807 ∧ n ≤ 1099511627776) (hm : m ≤ 1099511627776) :
    Calls Try.prog 47 #[.slice a n cap, .int .i64 f, .int .i64 t, .slice a2 m cap2] w fun e w' => ∃ N a' c', N = n - (t - f) + m ∧ e = .returned (.slice a' N c') ∧
      w'.ownsRow w.heap.size 41 2 (.slice a' N c') N ((zs.take (f * 2) ++ ys ++ zs.drop (t * 2)).map (Value.int .i64)) ∧ Below w.heap.size w w' := by
  have hzl := hs.1
  have hyl := hys.1
  by_cases hz : n - (t - f) + m = 0
  · obtain rfl : m = 0 := by omega
    refine (replacedE_none a n cap f t a2 cap2 w hft htn (by omega) (by omega)).mono ?_
    rintro e w' ⟨rfl, rfl⟩
    refine ⟨0, none, 0, by omega, rfl, ?_, Below.refl _ _⟩
    have : zs.take (f * 2) ++ ys ++ zs.drop (t * 2) = [] := List.eq_nil_of_length_eq_zero (by simp only [List.length_append, List.length_take, List.length_drop]; omega)
    rw [this]
    exact World.ownsRow_nil _ _ _ _
  · by_cases hn0 : n = 0
    · subst hn0
      obtain rfl : t = 0 := by omega
      obtain rfl : f = 0 := by omega
      refine (replacedE_bare a cap a2 m cap2 ys w hys hm (by omega)).mono ?_
      rintro e w' ⟨a', c', rfl, ho, hb⟩
      refine ⟨m, a', c', by omega, rfl, ?_, hb⟩
      have : zs = [] := List.eq_nil_of_length_eq_zero hzl
      subst this
      simpa using ho
    · obtain ⟨b, off, rfl⟩ : ∃ b off, a = some ⟨b, off, none⟩ := by
        rcases hs.2 with h | ⟨b, off, e, _⟩
        · omega
        · exact ⟨b, off, e⟩
      exact replacedE_some b off n cap zs f t a2 m cap2 ys w hs hn0 hys hft htn hnc hcap hm hz

set_option maxHeartbeats 400000 in
theorem sameE_any (a : Option Addr) (n cap : Nat) (zs : List Int) (w : World) (hs : SInts w a (n * 2) zs) (hnc : n ≤ cap) (hcap : cap ≤ 9223372036854775807 ∧ n ≤ 1099511627776) :
    Calls Try.prog 35 #[.slice a n cap] w fun e w' => ∃ a' c', e = .returned (.slice a' n c') ∧ w'.ownsRow w.heap.size 41 2 (.slice a' n c') n (zs.map (Value.int .i64)) ∧ Below w.heap.size w w' := by
  go_enter Try.func35, Try.ntmps35
  go_wp2_with fail
  refine (replacedE_any a n cap zs 0 0 none 0 0 [] _ hs ⟨rfl, .inl rfl⟩ (Nat.le_refl _) (Nat.zero_le _) hnc hcap (by omega)).mono ?_
  rintro e w1 ⟨N, a', c', hN, rfl, ho, hb⟩
  obtain rfl : N = n := by omega
  have HO : Hid (w1.ownsRow w.heap.size 41 2 (.slice a' N c') N (zs.map (Value.int .i64))) := by
    have := ho
    simp only [Nat.zero_mul, List.take_zero, List.nil_append, List.drop_zero] at this
    exact this
  clear ho hN hs
  go_wp2
  go_ret
  exact ⟨_, _, rfl, HO.out, hb⟩

set_option maxHeartbeats 400000 in
theorem withoutE_any (a : Option Addr) (n cap : Nat) (zs : List Int) (i : Nat) (w : World) (hs : SInts w a (n * 2) zs) (hi : i < n) (hnc : n ≤ cap) (hcap : cap ≤ 9223372036854775807 ∧ n ≤ 1099511627776) :
    Calls Try.prog 39 #[.slice a n cap, .int .i64 i] w fun e w' => ∃ a' c', e = .returned (.slice a' (n - 1) c') ∧ w'.ownsRow w.heap.size 41 2 (.slice a' (n - 1) c') (n - 1) ((zs.take (i * 2) ++ zs.drop ((i + 1) * 2)).map (Value.int .i64)) ∧ Below w.heap.size w w' := by
  have hi' : Hid ((i : Int) + 1 = ((i + 1 : Nat) : Int)) := by show _ = _; omega
  go_enter Try.func39, Try.ntmps39
  go_wp2_with fail
  rw [hi'.out]
  refine (replacedE_any a n cap zs i (i + 1) none 0 0 [] _ hs ⟨rfl, .inl rfl⟩ (by omega) (by omega) hnc hcap (by omega)).mono ?_
  rintro e w1 ⟨N, a', c', hN, rfl, ho, hb⟩
  obtain rfl : N = n - 1 := by omega
  have HO : Hid (w1.ownsRow w.heap.size 41 2 (.slice a' (n - 1) c') (n - 1) ((zs.take (i * 2) ++ zs.drop ((i + 1) * 2)).map (Value.int .i64))) := by
    have := ho
    simp only [List.append_nil] at this
    exact this
  clear ho hN hs hi'
  go_wp2
  go_ret
  exact ⟨_, _, rfl, HO.out, hb⟩

end Go.Proofs.Ytkfamlbalgolmaa
