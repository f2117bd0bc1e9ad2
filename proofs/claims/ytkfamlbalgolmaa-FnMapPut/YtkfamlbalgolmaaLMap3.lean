/- l20Map: the draw of entries, whole. -/
import Derived.Test.YtkfamlbalgolmaaLMap2
namespace Go.Proofs.Ytkfamlbalgolmaa
open Go.RowKit
set_option linter.unusedVariables false
set_option linter.unusedSimpArgs false

theorem LM.turn {w : World} {R q q' : Nat} {L L2 : List Int} {N : Nat} {a a2 : Option Addr} {c n2 c2 : Nat} {wr W : World} (h : LM w R q L N a c wr) (k : KB R wr W) (hr : Rd W R q') (ho : OwnR wr.heap.size N W a2 n2 c2 L2) :
    LM w R q' L2 n2 a2 c2 (W.setCell ⟨w.heap.size + 1, 0, none⟩ (.slice a2 n2 c2)) := by
  have hs := h.sz
  have hl := h.lt
  have h1 := h.kept k hr
  exact
  { rd := rd_setCell hr (by omega) _, kb := kb_setCell h1.kb (Nat.le_refl _) (by omega) (by omega) _, z := (World.cell?_setCell_other _ _ _ _ (by simp)).trans h1.z, zf := by rw [World.frozen?_setCell]; exact h1.zf,
    m := World.cell?_setCell_same _ _ _ h1.m, mf := by rw [World.frozen?_setCell]; exact h1.mf,
    own := own_mono (ownsRow_setCell_other ho.1 (fun e => by have := (own_typed ho.1 e).1; dsimp only at this; omega) _) (by omega), lt := h.lt }

theorem LM.below {w : World} {R q : Nat} {L : List Int} {N : Nat} {a : Option Addr} {c : Nat} {W W' : World} (h : LM w R q L N a c W) (hb : Below W.heap.size W W') : LM w R q L N a c W' :=
  h.kept (KB.of_below hb (by have := h.sz; have := h.lt; omega)) (rd_below h.rd hb)

/-- Behind an append onto the entries. -/
theorem LM.app {w : World} {R q : Nat} {L L2 : List Int} {N : Nat} {a a2 : Option Addr} {c c2 : Nat} {W W' : World} (h : LM w R q L N a c W) (hg : W.grownBy W' (Value.slice a N c).ownBlock) (ho : W'.ownsRow (w.heap.size + 2) 41 2 (.slice a2 (N + 1) c2) (N + 1) (L2.map (Value.int .i64))) :
    W'.cell? ⟨w.heap.size + 1, 0, none⟩ = some (.slice a N c) ∧ W'.frozen? ⟨w.heap.size + 1, 0, none⟩ = false ∧ LM w R q L2 (N + 1) a2 c2 (W'.setCell ⟨w.heap.size + 1, 0, none⟩ (.slice a2 (N + 1) c2)) := by
  have hs := h.sz
  have hl := h.lt
  have nb : ∀ b, b < w.heap.size + 2 → some b ≠ (Value.slice a N c).ownBlock := fun b hb e => by have := (own_typed h.own e.symm).1; omega
  have nb2 : ∀ b, b < w.heap.size + 2 → (Value.slice a2 (N + 1) c2).ownBlock ≠ some b := fun b hb e => by have := (own_typed ho e).1; omega
  have hm := hg.cell h.m (nb _ (by dsimp only; omega))
  have hz := hg.cell h.z (nb _ (by dsimp only; omega))
  have fm : W'.frozen? ⟨w.heap.size + 1, 0, none⟩ = false := (World.frozen?_of_block (w := W) (a := ⟨w.heap.size + 1, 0, none⟩) (hg.block (w.heap.size + 1) hs (nb (w.heap.size + 1) (by omega)))).trans h.mf
  have fz : W'.frozen? ⟨w.heap.size, 0, none⟩ = false := (World.frozen?_of_block (w := W) (a := ⟨w.heap.size, 0, none⟩) (hg.block w.heap.size (by omega) (nb _ (by omega)))).trans h.zf
  have k : KB R w W' := ⟨h.kb.bel.grown hg (by omega) (fun b e => by have := (own_typed h.own e).1; omega), Nat.le_trans h.kb.size hg.size, fun b hb hn => (hg.block b (by have := h.kb.size; omega) (nb b (by omega))).trans (h.kb.block b hb hn)⟩
  have kb2 : Below (w.heap.size) W W' := (Below.refl _ W).grown hg (by omega) (fun b e => by have := (own_typed h.own e).1; omega)
  have hr : Rd W' R q := by
    obtain ⟨x, y, z, hb, hy, hc⟩ := h.rd
    refine ⟨x, y, z, (hg.block R (by omega) (nb R (by omega))).trans hb, hy, ?_⟩
    rcases hc with h0 | ⟨b, off, ha, hbR, hc⟩
    · exact .inl h0
    · refine .inr ⟨b, off, ha, hbR, fun i hi => ?_⟩
      obtain ⟨v, v0, v1, hx⟩ := hc i hi
      exact ⟨v, v0, v1, hg.cell hx (nb _ (by dsimp only; omega))⟩
  refine ⟨hm, fm, ?_⟩
  exact
  { rd := rd_setCell hr (by omega) _, kb := kb_setCell k (Nat.le_refl _) (by omega) (by omega) _, z := (World.cell?_setCell_other _ _ _ _ (by simp)).trans hz, zf := by rw [World.frozen?_setCell]; exact fz,
    m := World.cell?_setCell_same _ _ _ hm, mf := by rw [World.frozen?_setCell]; exact fm, own := ownsRow_setCell_other ho (nb2 _ (by dsimp only; omega)) _, lt := h.lt }

/-- The entries are handed back. -/
theorem LM.drawn {w : World} {R q p : Nat} {L : List Int} {N : Nat} {a : Option Addr} {c : Nat} {W : World} (h : LM w R q L N a c W) (hN : N ≤ 9) (hq : q ≤ p + 400) : DrawnM R p w (.returned (.agg #[.slice a N c])) (W.setCell ⟨w.heap.size, 0, none⟩ (.slice a N c)) :=
  ⟨L, N, a, c, q, rfl, own_mono (ownsRow_setCell_other h.own (fun e => by have := (own_typed h.own e).1; dsimp only at this; omega) _) (by omega), hN, rd_setCell h.rd h.lt _, hq, kb_setCell h.kb (Nat.le_refl _) (Nat.le_refl _) h.lt _⟩

set_option maxRecDepth 20000 in
set_option maxHeartbeats 4000000 in
theorem map_any (R p : Nat) (n : Int) (w : World) (hr : Rd w R p) (hRw : R < w.heap.size) (hp : p ≤ 900000) (hn : 1 ≤ n) (hn2 : n ≤ 1000) :
    Calls Try.prog 30 #[.pointer (some ⟨R, 0, none⟩), .int .i64 n] w (DrawnM R p w) := by
  obtain ⟨i0, hi, hz0, hz1, hz2⟩ := info_parts Try.info41
  have A := below_trans' (al1 w (.cells #[.slice none 0 0] 25)) (al1 _ (.cells #[.slice none 0 0] 25))
  have I0 : LM w R p [] 0 none 0 ((w.alloc (.cells #[.slice none 0 0] 25)).alloc (.cells #[.slice none 0 0] 25)) :=
    { rd := rd_below hr A, kb := KB.of_below A (by omega), z := cell_kept (al1 _ _) (cell_at w _ _ 0 rfl rfl), zf := ((al1 (w.alloc (.cells #[.slice none 0 0] 25)) (.cells #[.slice none 0 0] 25)).frozen (p := ⟨w.heap.size, 0, none⟩) (by simp)).trans (frozen_at w _ _ 0 rfl),
      m := cell_at _ _ _ 0 (by simp) rfl, mf := frozen_at _ _ _ 0 (by simp), own := ⟨rfl, .inl ⟨rfl, rfl⟩⟩, lt := hRw }
  clear A hr
  go_enter Try.func30, Try.ntmps30
  go_wp2_with fail
  refine (pick_any R p 9 _ I0.rd (by omega) (by omega) (by omega)).mono ?_
  rintro e w1 ⟨y, ⟨hy0, hy1⟩, rfl, hpk⟩
  obtain ⟨y, rfl⟩ := Int.eq_ofNat_of_zero_le hy0
  have I1 : Hid (LM w R (p + 1) [] 0 none 0 w1) := I0.kept (KB.of_picked hpk) (rd_picked I0.rd hpk)
  clear I0 hpk
  go_wp2
  go_loopw [6, 7, 8] (fun i _ _ wr => ∃ (K : Nat) (L : List Int) (N : Nat) (a : Option Addr) (c q : Nat), i = .int .i64 K ∧ LM w R q L N a c wr ∧ N + K ≤ 8 ∧ q + 25 * K ≤ p + 1 + 25 * 8)
    (fun i _ _ _ => (intOf i).toNat)
  case atStart => exact ⟨y, [], 0, _, _, _, rfl, I1.out, by omega, by omega⟩
  case round =>
    clear I1
    obtain ⟨K, L, N, a, c, q, rfl, I, hNK, hq⟩ := hrel
    have HI : Hid (LM w R q L N a c wr) := I
    clear I
    by_cases hK : K = 0
    · subst hK
      go_wp2_with fail
      refine (odd_any R q n _ HI.out.rd (by omega) (by omega) (by omega)).mono ?_
      rintro e w2 ⟨od, rfl, hpk⟩
      have HI2 : Hid (LM w R (q + 1) L N a c w2) := HI.out.kept (KB.of_picked hpk) (rd_picked HI.out.rd hpk)
      clear HI hpk
      cases od
      · have hm := HI2.out.m
        have hz := HI2.out.z
        have hzf := HI2.out.zf
        go_wp2
        exact bodyPost_ret (v := .agg #[.slice a N c]) (by simp [results, Try.results30, go_sem, hz]) rfl (HI2.out.drawn (by omega) (by omega))
      · go_wp2_with fail
        refine (pick_any R (q + 1) 4 _ HI2.out.rd (by omega) (by omega) (by omega)).mono ?_
        rintro e w3 ⟨k, ⟨hk0, hk1⟩, rfl, hpk⟩
        have HI3 : Hid (LM w R (q + 2) L N a c w3) := HI2.out.kept (KB.of_picked hpk) (rd_picked HI2.out.rd hpk)
        clear HI2 hpk
        by_cases ek0 : k = 0
        · subst ek0
          have HI4 : Hid (LM w R (q + 2) L N a c (w3.alloc (.cells #[.int .i64 (0), .int .i64 (0)] 41))) := HI3.out.below (al1 _ _)
          have hm := HI3.out.m
          have HSZ : Hid (w.heap.size + 1 < w3.heap.size) := HI3.out.sz
          go_wp2_with (at_builtin; go_must (refine wpList_append_own _ rfl (.tmp 60) (.tmp 62) 23 rfl (w.heap.size + 2) 41 i0 (.agg #[.int .i64 0, .int .i64 0]) 2 16 Try.underlying23 hi hz0 hz1 hz2 rfl (by decide) (.slice a N c) N _ rfl HI4.out.own ⟨w3.heap.size, 0, none⟩ 1 1 [.int .i64 (0), .int .i64 (0)] rfl rfl (by intro jj u hjj; match jj, hjj with | 0, hjj => simp at hjj; subst hjj; exact cell_at _ _ _ 0 rfl rfl | 1, hjj => simp at hjj; subst hjj; exact cell_at _ _ _ 1 rfl rfl) (by intro u hu; simp at hu; rcases hu with rfl | rfl <;> rfl) (by unfold maxLen; omega) (by omega) (by have := HSZ.out; simp; omega) ?_))
          intro v' w5 hown hgrow _
          obtain ⟨a2, c2, hv, _⟩ := own2_shape (zs := L ++ [0, 0]) (by simpa using hown)
          subst hv
          obtain ⟨mc5, mf5, M5⟩ := HI4.out.app hgrow (L2 := L ++ [0, 0]) (by simpa using hown)
          have HI5 : Hid (LM w R (q + 2) (L ++ [0, 0]) (N + 1) a2 c2 (w5.setCell ⟨w.heap.size + 1, 0, none⟩ (.slice a2 (N + 1) c2))) := M5
          have z5 := HI5.out.z
          have zf5 := HI5.out.zf
          rw [World.frozen?_setCell] at zf5
          rw [World.cell?_setCell_other _ _ _ _ (by simp)] at z5
          clear hown hgrow HI3 HI4 M5 hm HSZ
          go_wp2
          exact bodyPost_ret (v := .agg #[.slice a2 (N + 1) c2]) (by simp [results, Try.results30, go_sem, z5]) rfl (HI5.out.drawn (by omega) (by omega))
        by_cases ek1 : k = 1
        · subst ek1
          have HI4 : Hid (LM w R (q + 2) L N a c (w3.alloc (.cells #[.int .i64 (100), .int .i64 (0)] 41))) := HI3.out.below (al1 _ _)
          have hm := HI3.out.m
          have HSZ : Hid (w.heap.size + 1 < w3.heap.size) := HI3.out.sz
          go_wp2_with (at_builtin; go_must (refine wpList_append_own _ rfl (.tmp 68) (.tmp 70) 23 rfl (w.heap.size + 2) 41 i0 (.agg #[.int .i64 0, .int .i64 0]) 2 16 Try.underlying23 hi hz0 hz1 hz2 rfl (by decide) (.slice a N c) N _ rfl HI4.out.own ⟨w3.heap.size, 0, none⟩ 1 1 [.int .i64 (100), .int .i64 (0)] rfl rfl (by intro jj u hjj; match jj, hjj with | 0, hjj => simp at hjj; subst hjj; exact cell_at _ _ _ 0 rfl rfl | 1, hjj => simp at hjj; subst hjj; exact cell_at _ _ _ 1 rfl rfl) (by intro u hu; simp at hu; rcases hu with rfl | rfl <;> rfl) (by unfold maxLen; omega) (by omega) (by have := HSZ.out; simp; omega) ?_))
          intro v' w5 hown hgrow _
          obtain ⟨a2, c2, hv, _⟩ := own2_shape (zs := L ++ [100, 0]) (by simpa using hown)
          subst hv
          obtain ⟨mc5, mf5, M5⟩ := HI4.out.app hgrow (L2 := L ++ [100, 0]) (by simpa using hown)
          have HI5 : Hid (LM w R (q + 2) (L ++ [100, 0]) (N + 1) a2 c2 (w5.setCell ⟨w.heap.size + 1, 0, none⟩ (.slice a2 (N + 1) c2))) := M5
          have z5 := HI5.out.z
          have zf5 := HI5.out.zf
          rw [World.frozen?_setCell] at zf5
          rw [World.cell?_setCell_other _ _ _ _ (by simp)] at z5
          clear hown hgrow HI3 HI4 M5 hm HSZ
          go_wp2
          exact bodyPost_ret (v := .agg #[.slice a2 (N + 1) c2]) (by simp [results, Try.results30, go_sem, z5]) rfl (HI5.out.drawn (by omega) (by omega))
        by_cases ek2 : k = 2
        · subst ek2
          have HI4 : Hid (LM w R (q + 2) L N a c (w3.alloc (.cells #[.int .i64 (99), .int .i64 (-1)] 41))) := HI3.out.below (al1 _ _)
          have hm := HI3.out.m
          have HSZ : Hid (w.heap.size + 1 < w3.heap.size) := HI3.out.sz
          go_wp2_with (at_builtin; go_must (refine wpList_append_own _ rfl (.tmp 76) (.tmp 78) 23 rfl (w.heap.size + 2) 41 i0 (.agg #[.int .i64 0, .int .i64 0]) 2 16 Try.underlying23 hi hz0 hz1 hz2 rfl (by decide) (.slice a N c) N _ rfl HI4.out.own ⟨w3.heap.size, 0, none⟩ 1 1 [.int .i64 (99), .int .i64 (-1)] rfl rfl (by intro jj u hjj; match jj, hjj with | 0, hjj => simp at hjj; subst hjj; exact cell_at _ _ _ 0 rfl rfl | 1, hjj => simp at hjj; subst hjj; exact cell_at _ _ _ 1 rfl rfl) (by intro u hu; simp at hu; rcases hu with rfl | rfl <;> rfl) (by unfold maxLen; omega) (by omega) (by have := HSZ.out; simp; omega) ?_))
          intro v' w5 hown hgrow _
          obtain ⟨a2, c2, hv, _⟩ := own2_shape (zs := L ++ [99, -1]) (by simpa using hown)
          subst hv
          obtain ⟨mc5, mf5, M5⟩ := HI4.out.app hgrow (L2 := L ++ [99, -1]) (by simpa using hown)
          have HI5 : Hid (LM w R (q + 2) (L ++ [99, -1]) (N + 1) a2 c2 (w5.setCell ⟨w.heap.size + 1, 0, none⟩ (.slice a2 (N + 1) c2))) := M5
          have z5 := HI5.out.z
          have zf5 := HI5.out.zf
          rw [World.frozen?_setCell] at zf5
          rw [World.cell?_setCell_other _ _ _ _ (by simp)] at z5
          clear hown hgrow HI3 HI4 M5 hm HSZ
          go_wp2
          exact bodyPost_ret (v := .agg #[.slice a2 (N + 1) c2]) (by simp [results, Try.results30, go_sem, z5]) rfl (HI5.out.drawn (by omega) (by omega))
        obtain rfl : k = 3 := by omega
        have hN8 : N ≤ 8 := by omega
        go_wp2
        clear hN8
        go_loopw [43] (fun _ wr => ∃ (L : List Int) (N : Nat) (a : Option Addr) (c : Nat), LM w R (q + 2) L N a c wr ∧ N ≤ 9) (fun _ wr => match wr.cell? ⟨w.heap.size + 1, 0, none⟩ with | some (.slice _ n _) => 9 - n | _ => 0)
        case atStart => exact ⟨L, N, a, c, HI3.out, by omega⟩
        case round =>
          obtain ⟨L, N, a, c, I, hN9⟩ := hrel
          clear HI3
          have hm := I.m
          by_cases h8 : N ≤ 8
          · have h8i : (N : Int) ≤ 8 := by omega
            obtain ⟨x, hx⟩ : ∃ x : Int, 90 + (N : Int) = x := ⟨_, rfl⟩
            have HI3 : Hid (LM w R (q + 2) L N a c wr) := I
            have HI4 : Hid (LM w R (q + 2) L N a c (wr.alloc (.cells #[.int .i64 x, .int .i64 0] 41))) := HI3.out.below (al1 _ _)
            have HSZ : Hid (w.heap.size + 1 < wr.heap.size) := HI3.out.sz
            clear I
            go_wp2_with (at_builtin; go_must (refine wpList_append_own _ rfl (.tmp 48) (.tmp 54) 23 rfl (w.heap.size + 2) 41 i0 (.agg #[.int .i64 0, .int .i64 0]) 2 16 Try.underlying23 hi hz0 hz1 hz2 rfl (by decide) (.slice a N c) N _ rfl HI4.out.own ⟨wr.heap.size, 0, none⟩ 1 1 [.int .i64 x, .int .i64 0] rfl rfl (by intro jj u hjj; match jj, hjj with | 0, hjj => simp at hjj; subst hjj; exact cell_at _ _ _ 0 rfl rfl | 1, hjj => simp at hjj; subst hjj; exact cell_at _ _ _ 1 rfl rfl) (by intro u hu; simp at hu; rcases hu with rfl | rfl <;> rfl) (by unfold maxLen; omega) (by omega) (by have := HSZ.out; simp; omega) ?_))
            intro v' w5 hown hgrow _
            obtain ⟨a2, c2, hv, _⟩ := own2_shape (zs := L ++ [x, 0]) (by simpa using hown)
            subst hv
            obtain ⟨mc5, mf5, M5⟩ := HI4.out.app hgrow (L2 := L ++ [x, 0]) (by simpa using hown)
            have HI5 : Hid (LM w R (q + 2) (L ++ [x, 0]) (N + 1) a2 c2 (w5.setCell ⟨w.heap.size + 1, 0, none⟩ (.slice a2 (N + 1) c2))) := M5
            have HME : Hid (wr.cell? ⟨w.heap.size + 1, 0, none⟩ = some (.slice a N c)) := hm
            clear hown hgrow HI3 HI4 M5 hm HSZ
            go_wp2
            go_roundw
            case rel => exact ⟨_, N + 1, a2, c2, HI5.out, by omega⟩
            case measure => rw [HI5.out.m, HME.out]; dsimp only; omega
          · have h8i : ¬ (N : Int) ≤ 8 := by omega
            have HI3 : Hid (LM w R (q + 2) L N a c wr) := I
            have hz := I.z
            have hzf := I.zf
            clear I
            go_wp2
            exact bodyPost_ret (v := .agg #[.slice a N c]) (by simp [results, Try.results30, go_sem, hz]) rfl (HI3.out.drawn (by omega) (by omega))
    · have hK0 : (0 : Int) < (K : Int) := by omega
      go_wp2
      have hsz := HI.out.sz
      refine region_inv (ops := ops5) (m := 25) (I := fun f W => ∃ q', Rd W R q' ∧ q' + f ≤ q + 25 ∧ KB R wr W) (V := VM R wr.heap.size N a c) (T := TT R wr.heap.size N) (by kernel_rfl) (by decide) (by kernel_rfl) (by kernel_rfl) (vm_keep (by omega)) ⟨q, rd_below HI.out.rd (Below.refl _ _).drew, by omega, (KB.refl R wr).drew⟩ (hop5 hRw hsz HI.out (by omega) (by omega) rfl rfl) ?hend
      case hend =>
        intro vs W hv _ hI
        obtain ⟨q', hr, hq', hkb⟩ := hI
        obtain ⟨v0, e0, h0⟩ := hv 0 (by omega)
        obtain ⟨v1, e1, h1⟩ := hv 1 (by omega)
        obtain ⟨v2, e2, h2⟩ := hv 2 (by omega)
        obtain ⟨v3, e3, h3⟩ := hv 3 (by omega)
        obtain ⟨v4, e4, h4⟩ := hv 4 (by omega)
        obtain ⟨v5, e5, h5⟩ := hv 5 (by omega)
        obtain ⟨v6, e6, h6⟩ := hv 6 (by omega)
        obtain ⟨v7, e7, h7⟩ := hv 7 (by omega)
        obtain ⟨v8, e8, h8⟩ := hv 8 (by omega)
        obtain ⟨v9, e9, h9⟩ := hv 9 (by omega)
        obtain ⟨v10, e10, h10⟩ := hv 10 (by omega)
        obtain ⟨v11, e11, h11⟩ := hv 11 (by omega)
        obtain ⟨v12, e12, h12⟩ := hv 12 (by omega)
        obtain ⟨v13, e13, h13⟩ := hv 13 (by omega)
        obtain ⟨v14, e14, h14⟩ := hv 14 (by omega)
        obtain ⟨v15, e15, h15⟩ := hv 15 (by omega)
        obtain ⟨v16, e16, h16⟩ := hv 16 (by omega)
        obtain ⟨v17, e17, h17⟩ := hv 17 (by omega)
        obtain ⟨v18, e18, h18⟩ := hv 18 (by omega)
        obtain ⟨v19, e19, h19⟩ := hv 19 (by omega)
        obtain ⟨v20, e20, h20⟩ := hv 20 (by omega)
        obtain ⟨v21, e21, h21⟩ := hv 21 (by omega)
        obtain ⟨v22, e22, h22⟩ := hv 22 (by omega)
        obtain ⟨v23, e23, h23⟩ := hv 23 (by omega)
        obtain ⟨v24, e24, h24⟩ := hv 24 (by omega)
        clear hv
        refine ⟨by kernel_rfl, ?_⟩
        unfold ops5
        simp only [putsF, e0, e1, e2, e3, e4, e5, e6, e7, e8, e9, e10, e11, e12, e13, e14, e15, e16, e17, e18, e19, e20, e21, e22, e23, e24, Nat.zero_add, Nat.reduceAdd, Act.put, List.setIfInBounds_toArray, List.set_cons_zero, List.set_cons_succ]
        obtain ⟨g, rfl, hg, a2, n2, c2, L2, hh, ho2⟩ := h21
        have hcell := cell_block0 hh
        have hne : ¬ g = w.heap.size + 1 := by omega
        have I2 := HI.out.kept hkb hr
        have hm := I2.m
        have hmf := I2.mf
        have HI3 : Hid (LM w R q' L2 n2 a2 c2 (W.setCell ⟨w.heap.size + 1, 0, none⟩ (.slice a2 n2 c2)) ∧ n2 ≤ N + 1 ∧ q' ≤ q + 25) := ⟨HI.out.turn hkb hr ho2, ho2.2, by omega⟩
        clear h0 e0 h1 e1 h2 e2 h3 e3 h4 e4 h5 e5 h6 e6 h7 e7 h8 e8 h9 e9 h10 e10 h11 e11 h12 e12 h13 e13 h14 e14 h15 e15 h16 e16 h17 e17 h18 e18 h19 e19 h20 e20 h22 e22 h23 e23 h24 e24 e21 hh ho2 I2 HI hkb hr
        go_wp2
        go_roundw
        case rel => exact ⟨K - 1, L2, n2, a2, c2, q', by go_num, HI3.out.1, by have := HI3.out.2.1; omega, by have := HI3.out.2.2; omega⟩
        case measure => simp [intOf]; omega

end Go.Proofs.Ytkfamlbalgolmaa
