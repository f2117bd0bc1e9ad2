/- slices.Concat of three lists of numbers. -/
import Derived.Test.YtcffoehldohooaaConcat
namespace Go.Proofs.Ytcffoehldohooaa
open Go.RowKit
set_option linter.unusedVariables false

theorem wpList_append_ints {ops : Array Oper} {rest : List Oper} {o : Oper} {a : Act} {w : World} {Q : Exit → Act → World → Prop}
    (hg : o.guard = none) (s x : Operand) (hop : o.op = Op.call { callee := Callee.builtin Builtin.append, args := #[s, x], argTypes := #[35, 35] })
    (base : Nat) (aa : Option Addr) (n c : Nat) (ys : List Int) (hs : a.eval s = .slice aa n c) (hown : w.ownsRow base 3 1 (.slice aa n c) n (ys.map (Value.int .i64)))
    (ad : Option Addr) (m c2 : Nat) (zs : List Int) (hx : a.eval x = .slice ad m c2) (hz : SInts w ad m zs) (hn : n ≤ 1048576) (hm : m ≤ 1048576) (hbase : base ≤ w.heap.size)
    (hK : ∀ a' c' w', w'.ownsRow base 3 1 (.slice a' (n + m) c') (n + m) ((ys ++ zs).map (Value.int .i64)) → Below base w w' → wpList Try.prog ops Q rest (a.put o.dst (.slice a' (n + m) c')) w') :
    wpList Try.prog ops Q (o :: rest) a w := by
  refine wpList_plain hg fun K hK' => ?_
  have hw : Region.wanted o (yielded ops a.tmps) = true := by simp [Region.wanted, hg]
  have h := step_append_ints (K := K) (Q := Q) (E := True) hw s x hop base aa n c ys hs hown ad m c2 zs hx hz hn hm hbase (fun a' c' w' h1 h2 => hK' _ _ (hK a' c' w' h1 h2))
  rw [if_pos hw] at h
  exact h

/-- The sum of the first k; the first k behind each other. -/
def sumTo (lens : Nat → Nat) : Nat → Nat
  | 0 => 0
  | k + 1 => sumTo lens k + lens k
def catTo (ls : Nat → List Int) : Nat → List Int
  | 0 => []
  | k + 1 => catTo ls k ++ ls k
theorem sumTo_le {lens : Nat → Nat} (hl : ∀ k, k < 3 → lens k ≤ 9) {k : Nat} (hk : k ≤ 3) : sumTo lens k ≤ 9 * k := by
  induction k with
  | zero => simp [sumTo]
  | succ k ih =>
    have := ih (by omega)
    have := hl k (by omega)
    unfold sumTo
    omega

/-- What stands in the second loop. -/
structure CatAt (w : World) (ls : Nat → List Int) (lens : Nat → Nat) (k : Nat) (a' : Option Addr) (c' : Nat) (W : World) : Prop where
  bel : Below w.heap.size w W
  own : W.ownsRow w.heap.size 3 1 (.slice a' (sumTo lens k) c') (sumTo lens k) ((catTo ls k).map (Value.int .i64))

set_option maxRecDepth 20000 in
set_option maxHeartbeats 2000000 in
theorem concat_any (g : Nat) (ads : Nat → Option Addr) (lens caps : Nat → Nat) (ls : Nat → List Int) (w : World) (hc0 : ∀ k, k < 3 → w.cell? ⟨g, k, none⟩ = some (.slice (ads k) (lens k) (caps k))) (hs0 : ∀ k, k < 3 → SInts w (ads k) (lens k) (ls k)) (hl0 : ∀ k, k < 3 → lens k ≤ 9) :
    Calls Try.prog 39 #[.slice (some ⟨g, 0, none⟩) 3 3] w fun e w' => ∃ a' c', e = .returned (.slice a' (sumTo lens 3) c') ∧ w'.ownsRow w.heap.size 3 1 (.slice a' (sumTo lens 3) c') (sumTo lens 3) ((catTo ls 3).map (Value.int .i64)) ∧ Below w.heap.size w w' := by
  have HC : Hid (∀ k, k < 3 → w.cell? ⟨g, k, none⟩ = some (.slice (ads k) (lens k) (caps k))) := hc0
  have HS : Hid (∀ k, k < 3 → SInts w (ads k) (lens k) (ls k)) := hs0
  have HL : Hid (∀ k, k < 3 → lens k ≤ 9) := hl0
  clear hc0 hs0 hl0
  go_enter Try.func39, Try.ntmps39
  go_wp2
  go_loop [3, 5, 11] (fun s _ i => ∃ k : Nat, k ≤ 3 ∧ i = .int .i64 k ∧ s = .int .i64 (sumTo lens k : Nat)) (fun _ _ i => 3 - (intOf i).toNat)
  case atStart => exact ⟨0, by omega, rfl, rfl⟩
  case round =>
    obtain ⟨k, hk, rfl, rfl⟩ := hrel
    obtain ⟨m, hm⟩ : ∃ m, sumTo lens k = m := ⟨_, rfl⟩
    have hmb := sumTo_le HL.out hk
    rw [hm] at hmb ⊢
    by_cases hlt : k < 3
    · obtain ⟨q, hq⟩ : ∃ q, lens k = q := ⟨_, rfl⟩
      have h1 := HC.out k hlt
      have hqb := HL.out k hlt
      rw [hq] at h1 hqb
      have HM : Hid (sumTo lens (k + 1) = m + q) := by show _ = _; unfold sumTo; rw [hm, hq]
      have wm : IntKind.i64.wrap ((m : Int) + (q : Int)) = ((m + q : Nat) : Int) := by rw [wrap_in64 (by omega) (by omega)]; omega
      have hge : ¬ (((m + q : Nat) : Int) < 0) := by omega
      have hk3 : (k : Int) < 3 := by omega
      clear hm hq
      go_wp2
      go_round
      case rel => exact ⟨k + 1, by omega, by go_num, by rw [HM.out]; first | rfl | go_num⟩
      case measure => simp [intOf]; omega
    · obtain rfl : k = 3 := by omega
      have HM : Hid (sumTo lens 3 = m) := hm
      clear hm hlt
      go_wp2_with fail
      refine (grow_any m (by omega) _).mono ?_
      rintro e w1 ⟨a1, c1, rfl, hown1, hb1⟩
      have I0 : Hid (CatAt w ls lens 0 a1 c1 w1) := ⟨hb1, hown1⟩
      clear hown1 hb1
      go_wp2
      go_loopw [6, 8, 27] (fun s _ i wr => ∃ (k : Nat) (a' : Option Addr) (c' : Nat), k ≤ 3 ∧ i = .int .i64 k ∧ s = .slice a' (sumTo lens k) c' ∧ CatAt w ls lens k a' c' wr) (fun _ _ i _ => 3 - (intOf i).toNat)
      case atStart => exact ⟨0, a1, c1, by omega, rfl, rfl, I0.out⟩
      case round =>
        obtain ⟨k, a', c', hk2, rfl, rfl, I⟩ := hrel
        clear I0
        have HI : Hid (CatAt w ls lens k a' c' wr) := I
        obtain ⟨p, hp⟩ : ∃ p, sumTo lens k = p := ⟨_, rfl⟩
        have hpb := sumTo_le HL.out hk2
        rw [hp] at hpb ⊢
        have HPk : Hid (sumTo lens k = p) := hp
        by_cases hlt : k < 3
        · obtain ⟨q, hq⟩ : ∃ q, lens k = q := ⟨_, rfl⟩
          have h1 : wr.cell? ⟨g, k, none⟩ = some (.slice (ads k) q (caps k)) := by
            have := HC.out k hlt
            rw [hq] at this
            exact (I.bel.cell (p := ⟨g, k, none⟩) (World.block_lt_of_cell? w ⟨g, k, none⟩ this)).trans this
          have hqb := HL.out k hlt
          have hsr := (HS.out k hlt).below I.bel
          rw [hq] at hqb hsr
          have HM : Hid (sumTo lens (k + 1) = p + q) := by show _ = _; unfold sumTo; rw [hp, hq]
          have hown := I.own
          rw [hp] at hown
          have hsz := I.bel.size
          have HSR : Hid (SInts wr (ads k) q (ls k)) := hsr
          have HOW : Hid (wr.ownsRow w.heap.size 3 1 (.slice a' p c') p ((catTo ls k).map (Value.int .i64))) := hown
          clear hp hq I hsr hown
          go_wp2_with (at_builtin; go_must (refine wpList_append_ints rfl (.tmp 31) (.tmp 32) rfl w.heap.size _ _ _ (catTo ls k) rfl HOW.out _ _ _ (ls k) rfl HSR.out (by omega) (by omega) hsz ?_))
          intro a2 c2 w2 hown2 hb2
          have HI2 : Hid (CatAt w ls lens (k + 1) a2 c2 w2) := ⟨HI.out.bel.trans hb2, by rw [HM.out]; unfold catTo; rw [List.map_append]; exact hown2⟩
          clear hown2 hb2
          go_wp2
          go_roundw
          case rel => exact ⟨k + 1, a2, c2, by omega, by go_num, by rw [HM.out], HI2.out⟩
          case measure => simp [intOf]; omega
        · obtain rfl : k = 3 := by omega
          clear I hp
          go_wp2
          go_ret
          exact ⟨a', c', by rw [HPk.out]; rfl, HI.out.own, HI.out.bel⟩

end Go.Proofs.Ytcffoehldohooaa
