/- Contracts of the program's list methods at integers: replaced, same, with, without. -/
import Derived.Test.YtleajkacfhhemagInts
import Derived.Test.YtleajkacfhhemagAppend
namespace Go.Proofs.Ytleajkacfhhemag
open Go.RowKit
set_option linter.unusedVariables false

/-- The cells of the first f numbers, for an append. -/
theorem SInts.src_take {w : World} {a : Option Addr} {n : Nat} {zs : List Int} (hs : SInts w a n zs) {f : Nat} (hf : f ≤ n) :
    f = 0 ∨ ∃ ad, a = some ad ∧ ∀ j u, ((zs.take f).map (Value.int .i64))[j]? = some u → w.cell? (ad.add j) = some u := by
  obtain ⟨hz, h0 | ⟨b, off, rfl, hc⟩⟩ := hs
  · exact .inl (by omega)
  · refine .inr ⟨_, rfl, fun j u hj => ?_⟩
    have hjf : j < f := by
      have := (List.getElem?_eq_some_iff.1 hj).1
      simp at this
      omega
    rw [Addr.add_lit, hc j (by omega)]
    simpa [List.getD, List.getElem?_take, hjf, show j < zs.length by omega] using hj

/-- The cells of the numbers from t on, for an append. -/
theorem SInts.src_drop {w : World} {b off : Nat} {n cap : Nat} {zs : List Int} (hz : zs.length = n) (hc : ∀ i, i < n → w.cell? ⟨b, off + i, none⟩ = some (.int .i64 (zs.getD i 0))) {t : Nat} (hnc : n ≤ cap) {ao : Option Addr} (hao : ¬ cap = t → ao = some ⟨b, off + t, none⟩) :
    n - t = 0 ∨ ∃ ad, ao = some ad ∧ ∀ j u, ((zs.drop t).map (Value.int .i64))[j]? = some u → w.cell? (ad.add j) = some u := by
  by_cases h : n - t = 0
  · exact .inl h
  · refine .inr ⟨_, hao (by omega), fun j u hj => ?_⟩
    have hjf : j < n - t := by
      have := (List.getElem?_eq_some_iff.1 hj).1
      simp at this
      omega
    rw [Addr.add_lit, Nat.add_assoc, hc (t + j) (by omega)]
    simpa [List.getD, show t + j < zs.length by omega] using hj

set_option maxHeartbeats 800000 in
/-- replaced, where something is left. -/
theorem replaced_some (b off n cap : Nat) (zs : List Int) (f t : Nat) (a2 : Option Addr) (m cap2 : Nat) (ys : List Int) (w : World) (hs : SInts w (some ⟨b, off, none⟩) n zs) (hn0 : ¬ n = 0) (hys : SInts w a2 m ys)
    (hft : f ≤ t) (htn : t ≤ n) (hnc : n ≤ cap) (hcap : cap ≤ 9223372036854775807 ∧ n ≤ 1099511627776) (hm : m ≤ 1099511627776) (hz : ¬ n - (t - f) + m = 0) :
    Calls Try.prog 32 #[.slice (some ⟨b, off, none⟩) n cap, .int .i64 f, .int .i64 t, .slice a2 m cap2] w fun e w' => ∃ N a' c', N = n - (t - f) + m ∧ e = .returned (.slice a' N c') ∧ 
      w'.ownsRow w.heap.size 3 1 (.slice a' N c') N ((zs.take f ++ ys ++ zs.drop t).map (Value.int .i64)) ∧ Below w.heap.size w w' := by
  obtain ⟨i0, hi, hz0, hz1, hz2⟩ := info_parts Try.info3
  have hz' : ((n : Int) - (t - f) + m == 0) = false := by simp; omega
  have hzl := hs.1
  have hyl := hys.1
  go_enter Try.func32, Try.ntmps32
  go_wp2_with (at_make; refine wpList_make_own _ rfl _ _ 47 rfl w.heap.size 3 i0 (.int .i64 0) 1 Try.underlying47 hi hz0 hz1 _ _ _ (n - (t - f) + m) rfl rfl (by omega) ?b2 ?b3 (Nat.le_refl _) ?_)
  case b2 => rw [hz2]; omega
  case b3 => unfold maxLen; omega
  intro w0 hown0 hgrow0
  have hb0 : Below w.heap.size w w0 := (Below.refl _ _).grown hgrow0 (Nat.le_refl _) (fun k h => by cases h)
  have hlt0 := (hown0.lt w.heap.size rfl).2
  have hs0 := hs.below hb0
  go_wp2_with (at_builtin; refine wpList_append_fits_two _ rfl (.tmp 24) (.tmp 27) 47 47 rfl w.heap.size 3 3 i0 1 Try.underlying47 Try.underlying47 hi hz1 w.heap.size 0 (n - (t - f) + m) _ rfl hown0 _ f _ ((zs.take f).map (Value.int .i64)) rfl (by simp; omega) (hs0.src_take (by omega)) (ints_oneCell _ _) (by omega) ?_)
  intro w1 hown1 hgrow1
  have hb1 := hb0.grown hgrow1 hb0.size (fun k h => by cases h; exact Nat.le_refl _)
  have hlt1 := (hown1.lt w.heap.size rfl).2
  have src2 := (hys.below hb1).src_take (Nat.le_refl m)
  rw [List.take_of_length_le (by omega)] at src2
  go_wp2_with (at_builtin; go_must (refine wpList_append_fits_two _ rfl (.tmp 29) (.tmp 30) 47 23 rfl w.heap.size 3 3 i0 1 Try.underlying47 Try.underlying23 hi hz1 w.heap.size f (n - (t - f) + m) _ rfl hown1 _ m _ (ys.map (Value.int .i64)) rfl (by simp; omega) src2 (ints_oneCell _ _) (by omega) ?_))
  intro w2 hown2 hgrow2
  have hb2 := hb1.grown hgrow2 hb1.size (fun k h => by cases h; exact Nat.le_refl _)
  have src3 : ∀ ao : Option Addr, (¬ cap = t → ao = some ⟨b, off + t, none⟩) → (n - t = 0 ∨ ∃ ad, ao = some ad ∧ ∀ j u, ((zs.drop t).map (Value.int .i64))[j]? = some u → w2.cell? (ad.add j) = some u) := by
    intro ao hao
    obtain ⟨_, h0 | ⟨b', off', e, hc⟩⟩ := hs.below hb2
    · exact absurd h0 hn0
    · cases e
      exact SInts.src_drop hzl hc hnc hao
  have S3 : Hid (∀ ao : Option Addr, (¬ cap = t → ao = some ⟨b, off + t, none⟩) → (n - t = 0 ∨ ∃ ad, ao = some ad ∧ ∀ j u, ((zs.drop t).map (Value.int .i64))[j]? = some u → w2.cell? (ad.add j) = some u)) := src3
  clear src3
  go_wp2_with (at_builtin; refine wpList_append_fits_two _ rfl (.tmp 32) (.tmp 35) 47 47 rfl w.heap.size 3 3 i0 1 Try.underlying47 Try.underlying47 hi hz1 w.heap.size (f + m) (n - (t - f) + m) _ rfl hown2 _ (n - t) _ ((zs.drop t).map (Value.int .i64)) rfl (by simp; omega) (S3.out _ (by intro h; first | rfl | simp [h])) (ints_oneCell _ _) (by omega) ?_)
  all_goals
    intro w3 hown3 hgrow3
    have hb3 := hb2.grown hgrow3 hb2.size (fun k h => by cases h; exact Nat.le_refl _)
    go_wp2
    go_ret
    refine ⟨f + m + (n - t), _, _, by omega, rfl, ?_, hb3⟩
    simpa using hown3

set_option maxHeartbeats 800000 in
/-- replaced of nothing by something. -/
theorem replaced_bare (a : Option Addr) (cap : Nat) (a2 : Option Addr) (m cap2 : Nat) (ys : List Int) (w : World) (hys : SInts w a2 m ys) (hcap : cap ≤ 9223372036854775807) (hm : m ≤ 1099511627776) (hz : ¬ m = 0) :
    Calls Try.prog 32 #[.slice a 0 cap, .int .i64 0, .int .i64 0, .slice a2 m cap2] w fun e w' => ∃ a' c', e = .returned (.slice a' m c') ∧ 
      w'.ownsRow w.heap.size 3 1 (.slice a' m c') m (ys.map (Value.int .i64)) ∧ Below w.heap.size w w' := by
  obtain ⟨i0, hi, hz0, hz1, hz2⟩ := info_parts Try.info3
  have hz' : ((m : Int) == 0) = false := by simp; omega
  have hyl := hys.1
  go_enter Try.func32, Try.ntmps32
  go_wp2_with (at_make; refine wpList_make_own _ rfl _ _ 47 rfl w.heap.size 3 i0 (.int .i64 0) 1 Try.underlying47 hi hz0 hz1 _ _ _ m rfl rfl (by omega) ?b2 ?b3 (Nat.le_refl _) ?_)
  case b2 => rw [hz2]; omega
  case b3 => unfold maxLen; omega
  intro w0 hown0 hgrow0
  have hb0 : Below w.heap.size w w0 := (Below.refl _ _).grown hgrow0 (Nat.le_refl _) (fun k h => by cases h)
  go_wp2_with (at_builtin; refine wpList_append_fits_two _ rfl (.tmp 24) (.tmp 27) 47 47 rfl w.heap.size 3 3 i0 1 Try.underlying47 Try.underlying47 hi hz1 w.heap.size 0 m _ rfl hown0 _ 0 _ [] rfl rfl (Or.inl rfl) (by simp) (by omega) ?_)
  intro w1 hown1 hgrow1
  have hb1 := hb0.grown hgrow1 hb0.size (fun k h => by cases h; exact Nat.le_refl _)
  have src2 := (hys.below hb1).src_take (Nat.le_refl m)
  rw [List.take_of_length_le (by omega)] at src2
  go_wp2_with (at_builtin; refine wpList_append_fits_two _ rfl (.tmp 29) (.tmp 30) 47 23 rfl w.heap.size 3 3 i0 1 Try.underlying47 Try.underlying23 hi hz1 w.heap.size 0 m _ rfl hown1 _ m _ (ys.map (Value.int .i64)) rfl (by simp; omega) src2 (ints_oneCell _ _) (by omega) ?_)
  intro w2 hown2 hgrow2
  have hb2 := hb1.grown hgrow2 hb1.size (fun k h => by cases h; exact Nat.le_refl _)
  go_wp2_with (at_builtin; refine wpList_append_fits_two _ rfl (.tmp 32) (.tmp 35) 47 47 rfl w.heap.size 3 3 i0 1 Try.underlying47 Try.underlying47 hi hz1 w.heap.size m m _ rfl hown2 _ 0 _ [] rfl rfl (Or.inl rfl) (by simp) (by omega) ?_)
  all_goals
    intro w3 hown3 hgrow3
    have hb3 := hb2.grown hgrow3 hb2.size (fun k h => by cases h; exact Nat.le_refl _)
    go_wp2
    go_ret
    refine ⟨_, _, rfl, ?_, hb3⟩
    simpa using hown3

set_option maxHeartbeats 400000 in
/-- replaced, where nothing is left. -/
theorem replaced_none (a : Option Addr) (n cap : Nat) (f t : Nat) (a2 : Option Addr) (cap2 : Nat) (w : World) (hft : f ≤ t) (htn : t ≤ n) (hn : n ≤ 1099511627776) (hz : n - (t - f) = 0) :
    Calls Try.prog 32 #[.slice a n cap, .int .i64 f, .int .i64 t, .slice a2 0 cap2] w fun e w' => e = .returned (.slice none 0 0) ∧ w' = w := by
  have hz' : ((n : Int) - (t - f) == 0) = true := by simp; omega
  go_enter Try.func32, Try.ntmps32
  go_wp2
  go_ret
  exact ⟨rfl, rfl⟩

/-- replaced, in all. -/
theorem replaced_any (a : Option Addr) (n cap : Nat) (zs : List Int) (f t : Nat) (a2 : Option Addr) (m cap2 : Nat) (ys : List Int) (w : World) (hs : SInts w a n zs) (hys : SInts w a2 m ys)
    (hft : f ≤ t) (htn : t ≤ n) (hnc : n ≤ cap) (hcap : cap ≤ 9223372036854775807 ∧ n ≤ 1099511627776) (hm : m ≤ 1099511627776) :
    Calls Try.prog 32 #[.slice a n cap, .int .i64 f, .int .i64 t, .slice a2 m cap2] w fun e w' => ∃ N a' c', N = n - (t - f) + m ∧ e = .returned (.slice a' N c') ∧ 
      w'.ownsRow w.heap.size 3 1 (.slice a' N c') N ((zs.take f ++ ys ++ zs.drop t).map (Value.int .i64)) ∧ Below w.heap.size w w' := by
  have hzl := hs.1
  have hyl := hys.1
  by_cases hz : n - (t - f) + m = 0
  · obtain rfl : m = 0 := by omega
    refine (replaced_none a n cap f t a2 cap2 w hft htn (by omega) (by omega)).mono ?_
    rintro e w' ⟨rfl, rfl⟩
    refine ⟨0, none, 0, by omega, rfl, ?_, Below.refl _ _⟩
    have : zs.take f ++ ys ++ zs.drop t = [] := List.eq_nil_of_length_eq_zero (by simp only [List.length_append, List.length_take, List.length_drop]; omega)
    rw [this]
    exact World.ownsRow_nil _ _ _ _
  · by_cases hn0 : n = 0
    · subst hn0
      obtain rfl : t = 0 := by omega
      obtain rfl : f = 0 := by omega
      refine (replaced_bare a cap a2 m cap2 ys w hys hcap.1 hm (by omega)).mono ?_
      rintro e w' ⟨a', c', rfl, ho, hb⟩
      refine ⟨m, a', c', by omega, rfl, ?_, hb⟩
      have : zs = [] := List.eq_nil_of_length_eq_zero hzl
      subst this
      simpa using ho
    · obtain ⟨b, off, rfl⟩ : ∃ b off, a = some ⟨b, off, none⟩ := by
        rcases hs.2 with h | ⟨b, off, e, _⟩
        · exact absurd h hn0
        · exact ⟨b, off, e⟩
      exact replaced_some b off n cap zs f t a2 m cap2 ys w hs hn0 hys hft htn hnc hcap hm hz

set_option maxHeartbeats 400000 in
theorem same_any (a : Option Addr) (n cap : Nat) (zs : List Int) (w : World) (hs : SInts w a n zs) (hnc : n ≤ cap) (hcap : cap ≤ 9223372036854775807 ∧ n ≤ 1099511627776) :
    Calls Try.prog 29 #[.slice a n cap] w fun e w' => ∃ a' c', e = .returned (.slice a' n c') ∧ w'.ownsRow w.heap.size 3 1 (.slice a' n c') n (zs.map (Value.int .i64)) ∧ Below w.heap.size w w' := by
  go_enter Try.func29, Try.ntmps29
  go_wp2_with fail
  refine (replaced_any a n cap zs 0 0 none 0 0 [] _ hs ⟨rfl, .inl rfl⟩ (Nat.le_refl _) (Nat.zero_le _) hnc hcap (by omega)).mono ?_
  rintro e w1 ⟨N, a', c', hN, rfl, ho, hb⟩
  obtain rfl : N = n := by omega
  have HO : Hid (w1.ownsRow w.heap.size 3 1 (.slice a' N c') N (zs.map (Value.int .i64))) := by
    have := ho
    simp only [List.take_zero, List.nil_append, List.drop_zero] at this
    exact this
  clear ho hN hs
  go_wp2
  go_ret
  exact ⟨_, _, rfl, HO.out, hb⟩

set_option maxHeartbeats 400000 in
theorem without_any (a : Option Addr) (n cap : Nat) (zs : List Int) (i : Nat) (w : World) (hs : SInts w a n zs) (hi : i < n) (hnc : n ≤ cap) (hcap : cap ≤ 9223372036854775807 ∧ n ≤ 1099511627776) :
    Calls Try.prog 26 #[.slice a n cap, .int .i64 i] w fun e w' => ∃ a' c', e = .returned (.slice a' (n - 1) c') ∧ w'.ownsRow w.heap.size 3 1 (.slice a' (n - 1) c') (n - 1) ((zs.take i ++ zs.drop (i + 1)).map (Value.int .i64)) ∧ Below w.heap.size w w' := by
  have hi' : Hid ((i : Int) + 1 = ((i + 1 : Nat) : Int)) := by show _ = _; omega
  go_enter Try.func26, Try.ntmps26
  go_wp2_with fail
  rw [hi'.out]
  refine (replaced_any a n cap zs i (i + 1) none 0 0 [] _ hs ⟨rfl, .inl rfl⟩ (by omega) (by omega) hnc hcap (by omega)).mono ?_
  rintro e w1 ⟨N, a', c', hN, rfl, ho, hb⟩
  obtain rfl : N = n - 1 := by omega
  have HO : Hid (w1.ownsRow w.heap.size 3 1 (.slice a' (n - 1) c') (n - 1) ((zs.take i ++ zs.drop (i + 1)).map (Value.int .i64))) := by
    have := ho
    simp only [List.append_nil] at this
    exact this
  clear ho hN hs hi'
  go_wp2
  go_ret
  exact ⟨_, _, rfl, HO.out, hb⟩

set_option maxHeartbeats 400000 in
theorem with_any (a : Option Addr) (n cap : Nat) (zs : List Int) (i : Nat) (x : Int) (w : World) (hs : SInts w a n zs) (hi : i ≤ n) (hnc : n ≤ cap) (hcap : cap ≤ 9223372036854775807 ∧ n ≤ 1099511627776) :
    Calls Try.prog 30 #[.slice a n cap, .int .i64 i, .int .i64 x] w fun e w' => ∃ a' c', e = .returned (.slice a' (n + 1) c') ∧ w'.ownsRow w.heap.size 3 1 (.slice a' (n + 1) c') (n + 1) ((zs.take i ++ [x] ++ zs.drop i).map (Value.int .i64)) ∧ Below w.heap.size w w' := by
  have hb0 : ∀ o, Below w.heap.size w (w.alloc o) := fun o => (Below.refl _ _).alloc (Nat.le_refl _) o
  go_enter Try.func30, Try.ntmps30
  go_wp2_with fail
  refine (replaced_any a n cap zs i i _ 1 1 [x] _ (hs.below (hb0 _)) ⟨rfl, .inr ⟨w.heap.size, 0, rfl, ?hc⟩⟩ (Nat.le_refl _) hi hnc hcap (by omega)).mono ?_
  case hc =>
    intro j hj
    obtain rfl : j = 0 := by omega
    simp
  rintro e w1 ⟨N, a', c', hN, rfl, ho, hb⟩
  obtain rfl : N = n + 1 := by omega
  have hb' := below_trans' (hb0 _) hb
  have HO : Hid (w1.ownsRow w.heap.size 3 1 (.slice a' (n + 1) c') (n + 1) ((zs.take i ++ [x] ++ zs.drop i).map (Value.int .i64))) := by
    obtain ⟨h1, h2⟩ := ho
    refine ⟨h1, ?_⟩
    rcases h2 with h2 | ⟨g, cap, cur, hv, hg, r⟩
    · exact .inl h2
    · exact .inr ⟨g, cap, cur, hv, by simp at hg; omega, r⟩
  clear ho hN hs hb0 hb
  go_wp2
  go_ret
  exact ⟨_, _, rfl, HO.out, hb'⟩

end Go.Proofs.Ytleajkacfhhemag
