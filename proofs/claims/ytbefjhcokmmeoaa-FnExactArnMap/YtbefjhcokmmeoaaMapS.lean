/- ArnMap of the specification, at all places. -/
import Derived.Test.YtbefjhcokmmeoaaMapI
namespace Go.Proofs.Ytbefjhcokmmeoaa
open Go.RowKit
set_option linter.unusedVariables false

/-- What stands in the loop: all as it stood ahead of it, but for the map's own cell. -/
structure MAt (w w2 : World) (a' : Option Addr) (m c' : Nat) (L : List Int) (W : World) : Prop where
  near : ∀ c, c < w2.heap.size → c ≠ w.heap.size + 1 + 1 → W.heap[c]? = w2.heap[c]?
  size : w2.heap.size ≤ W.heap.size
  bel : Below w.heap.size w W
  mc : W.cell? ⟨w.heap.size + 1 + 1, 0, none⟩ = some (.slice a' m c')
  mf : W.frozen? ⟨w.heap.size + 1 + 1, 0, none⟩ = false
  own : W.ownsRow w2.heap.size 51 2 (.slice a' m c') m (L.map (Value.int .i64))
  lt : w.heap.size + 1 + 1 < w2.heap.size

theorem MAt.cell {w w2 : World} {a' : Option Addr} {m c' : Nat} {L : List Int} {W : World} (h : MAt w w2 a' m c' L W) {b o : Nat} {v : Value} (hc : w2.cell? ⟨b, o, none⟩ = some v) (hne : b ≠ w.heap.size + 1 + 1) : W.cell? ⟨b, o, none⟩ = some v :=
  (World.cell?_of_block (w := w2) (a := ⟨b, o, none⟩) (h.near b (World.block_lt_of_cell? w2 ⟨b, o, none⟩ hc) hne)).trans hc
theorem MAt.below {w w2 : World} {a' : Option Addr} {m c' : Nat} {L : List Int} {W W' : World} (h : MAt w w2 a' m c' L W) (hb : Below W.heap.size W W') : MAt w w2 a' m c' L W' := by
  have hs := h.size
  have hl := h.lt
  exact
  { near := fun c hc hn => (hb.block c (by omega)).trans (h.near c hc hn), size := Nat.le_trans h.size hb.size, bel := below_trans' h.bel hb, mc := cell_kept hb h.mc,
    mf := (hb.frozen (p := ⟨w.heap.size + 1 + 1, 0, none⟩) (by show w.heap.size + 1 + 1 < _; omega)).trans h.mf, own := ownsRow_below h.own hb, lt := h.lt }
theorem MAt.put {w w2 : World} {a' : Option Addr} {m c' : Nat} {L : List Int} {W W' : World} (h : MAt w w2 a' m c' L W) (hg : W.grownBy W' (Value.slice a' m c').ownBlock) {a2 : Option Addr} {m2 c2 : Nat} {L2 : List Int} (ho : W'.ownsRow w2.heap.size 51 2 (.slice a2 m2 c2) m2 (L2.map (Value.int .i64))) :
    W'.cell? ⟨w.heap.size + 1 + 1, 0, none⟩ = some (.slice a' m c') ∧ W'.frozen? ⟨w.heap.size + 1 + 1, 0, none⟩ = false ∧ MAt w w2 a2 m2 c2 L2 (W'.setCell ⟨w.heap.size + 1 + 1, 0, none⟩ (.slice a2 m2 c2)) := by
  have hs := h.size
  have hl := h.lt
  have nb : ∀ c, c < w2.heap.size → some c ≠ (Value.slice a' m c').ownBlock := fun c hc e => by have := (h.own.lt c e.symm).1; omega
  have nb2 : ∀ c, c < w2.heap.size → (Value.slice a2 m2 c2).ownBlock ≠ some c := fun c hc e => by have := (ho.lt c e).1; omega
  have mc := hg.cell h.mc (nb _ hl)
  refine ⟨mc, frozen_grown hg (by omega) (nb _ hl) h.mf, ?_⟩
  exact
  { near := fun c hc hn => (Below.heap_setCell W' ⟨w.heap.size + 1 + 1, 0, none⟩ _ c hn).trans ((hg.block c (by omega) (nb c hc)).trans (h.near c hc hn)),
    size := by simp; exact Nat.le_trans h.size hg.size, bel := (h.bel.grown hg h.bel.size (fun k e => by have := (h.own.lt k e).1; omega)).setCell (p := ⟨w.heap.size + 1 + 1, 0, none⟩) (by show w.heap.size ≤ w.heap.size + 1 + 1; omega) _,
    mc := World.cell?_setCell_same _ _ _ mc, mf := by rw [World.frozen?_setCell]; exact frozen_grown hg (by omega) (nb _ hl) h.mf,
    own := ownsRow_setCell_other ho (nb2 _ hl) _, lt := hl }

set_option maxHeartbeats 1000000 in
theorem specArnMap_bad (a : Option Addr) (n cap : Nat) (ns : List Nd) (t f l : Int) (w : World) (hs : SNodes w a n ns) (hn : n ≤ 1048576) (hok : okA ns t f l = false) :
    Calls Try.prog 7 #[.agg #[.slice a n cap, .int .i64 t, .int .i64 f, .int .i64 l]] w fun e w' => MapR 0 [] e w w' := by
  have A := below_trans' (below_trans' (al1 w (.cells #[.slice a n cap, .int .i64 t, .int .i64 f, .int .i64 l] 32)) (al1 _ (.cells #[.slice none 0 0] 28))) (al1 _ (.cells #[.slice none 0 0] 28))
  have r0 := cell_kept (al1 _ (.cells #[.slice none 0 0] 28)) (cell_at (w.alloc (.cells #[.slice a n cap, .int .i64 t, .int .i64 f, .int .i64 l] 32)) #[.slice none 0 0] 28 0 (b := w.heap.size + 1) (by simp) (v := .slice none 0 0) rfl)
  have rf := ((al1 ((w.alloc (.cells #[.slice a n cap, .int .i64 t, .int .i64 f, .int .i64 l] 32)).alloc (.cells #[.slice none 0 0] 28)) (.cells #[.slice none 0 0] 28)).frozen (p := ⟨w.heap.size + 1, 0, none⟩) (by simp)).trans (frozen_at (w.alloc (.cells #[.slice a n cap, .int .i64 t, .int .i64 f, .int .i64 l] 32)) #[.slice none 0 0] 28 0 (b := w.heap.size + 1) (by simp))
  have m0 := cell_at ((w.alloc (.cells #[.slice a n cap, .int .i64 t, .int .i64 f, .int .i64 l] 32)).alloc (.cells #[.slice none 0 0] 28)) #[.slice none 0 0] 28 0 (b := w.heap.size + 1 + 1) (by simp) (v := .slice none 0 0) rfl
  go_enter Try.func7, Try.ntmps7
  go_wp2_with fail
  refine (specArnOk_any _ _ _ ns t f l _ (hs.below A) hn).mono ?_
  rintro e w1 ⟨rfl, hb1⟩
  have hbel := below_trans' A hb1
  have r1 := cell_kept hb1 r0
  have m1 := cell_kept hb1 m0
  have f1 := (hb1.frozen (p := ⟨w.heap.size + 1, 0, none⟩) (by simp)).trans rf
  rw [hok]
  clear hs hb1 r0 rf A m0
  go_wp2
  exact bodyPost_ret (v := .agg #[.slice none 0 0]) (by simp [results, Try.results7, go_sem, r1]) rfl ⟨none, 0, rfl, ⟨rfl, .inl ⟨rfl, rfl⟩⟩, hbel.setCell (p := ⟨w.heap.size + 1, 0, none⟩) (by show w.heap.size ≤ w.heap.size + 1; omega) _⟩

set_option maxRecDepth 20000 in
set_option maxHeartbeats 2000000 in
theorem specArnMap_ok (b off cap : Nat) (ns : List Nd) (t f l : Int) (w : World) (hs : SNodes w (some ⟨b, off, none⟩) 10 ns) (hok : okA ns t f l = true) :
    Calls Try.prog 7 #[.agg #[.slice (some ⟨b, off, none⟩) 10 cap, .int .i64 t, .int .i64 f, .int .i64 l]] w fun e w' => MapR (unm ns (pathOf begC ns t f l)).length (entsOf ns (unm ns (pathOf begC ns t f l))) e w w' := by
  obtain ⟨i0, hi, hz0, hz1, hz2⟩ := info_parts Try.info51
  have A := below_trans' (below_trans' (al1 w (.cells #[.slice (some ⟨b, off, none⟩) 10 cap, .int .i64 t, .int .i64 f, .int .i64 l] 32)) (al1 _ (.cells #[.slice none 0 0] 28))) (al1 _ (.cells #[.slice none 0 0] 28))
  have bx := ((boxA_new w (some ⟨b, off, none⟩) 10 cap t f l 32 rfl).below (al1 _ (.cells #[.slice none 0 0] 28))).below (al1 _ (.cells #[.slice none 0 0] 28))
  have r0 := cell_kept (al1 _ (.cells #[.slice none 0 0] 28)) (cell_at (w.alloc (.cells #[.slice (some ⟨b, off, none⟩) 10 cap, .int .i64 t, .int .i64 f, .int .i64 l] 32)) #[.slice none 0 0] 28 0 (b := w.heap.size + 1) (by simp) (v := .slice none 0 0) rfl)
  have rf := ((al1 ((w.alloc (.cells #[.slice (some ⟨b, off, none⟩) 10 cap, .int .i64 t, .int .i64 f, .int .i64 l] 32)).alloc (.cells #[.slice none 0 0] 28)) (.cells #[.slice none 0 0] 28)).frozen (p := ⟨w.heap.size + 1, 0, none⟩) (by simp)).trans (frozen_at (w.alloc (.cells #[.slice (some ⟨b, off, none⟩) 10 cap, .int .i64 t, .int .i64 f, .int .i64 l] 32)) #[.slice none 0 0] 28 0 (b := w.heap.size + 1) (by simp))
  have m0 := cell_at ((w.alloc (.cells #[.slice (some ⟨b, off, none⟩) 10 cap, .int .i64 t, .int .i64 f, .int .i64 l] 32)).alloc (.cells #[.slice none 0 0] 28)) #[.slice none 0 0] 28 0 (b := w.heap.size + 1 + 1) (by simp) (v := .slice none 0 0) rfl
  have mf := frozen_at ((w.alloc (.cells #[.slice (some ⟨b, off, none⟩) 10 cap, .int .i64 t, .int .i64 f, .int .i64 l] 32)).alloc (.cells #[.slice none 0 0] 28)) #[.slice none 0 0] 28 0 (b := w.heap.size + 1 + 1) (by simp)
  obtain ⟨zs, ez⟩ : ∃ zs, pathOf begC ns t f l = zs := ⟨_, rfl⟩
  have HP : Hid (placesB zs ∧ zs.length ≤ 9) := ez ▸ path_places (begC_in ns t f l)
  have hc0 := specArnChain_any (some ⟨b, off, none⟩) 10 cap ns t f l
  rw [ez] at hc0 ⊢
  obtain ⟨n, ln⟩ : ∃ n, zs.length = n := ⟨_, rfl⟩
  have HN : Hid (zs.length = n ∧ n ≤ 9) := ⟨ln, by have := HP.out.2; omega⟩
  have hn9 : n ≤ 9 := HN.out.2
  clear ez ln
  go_enter Try.func7, Try.ntmps7
  go_wp2_with fail
  refine (specArnOk_any _ _ _ ns t f l _ (hs.below A) (by omega)).mono ?_
  rintro e w1 ⟨rfl, hb1⟩
  rw [hok]
  have bx1 := bx.below hb1
  obtain ⟨p0, p1, p2, p3⟩ := bx1.cells
  go_wp2_with fail
  refine (hc0 _ (hs.below (below_trans' A hb1)) (by omega)).mono ?_
  rintro e w2 ⟨aC, cC, rfl, ho2, hb2⟩
  rw [HN.out.1] at ho2 ⊢
  have hb := below_trans' hb1 hb2
  have hlt2 := World.block_lt_of_cell? w2 ⟨w.heap.size + 1 + 1, 0, none⟩ (cell_kept hb m0)
  have hlt1 : w.heap.size + 1 + 1 < w1.heap.size := World.block_lt_of_cell? w1 ⟨w.heap.size + 1 + 1, 0, none⟩ (cell_kept hb1 m0)
  have HC : Hid (∀ k, k < n → ∃ g o, aC = some ⟨g, o, none⟩ ∧ w2.cell? ⟨g, o + k, none⟩ = some (.int .i64 (zs.getD k 0)) ∧ g ≠ w.heap.size + 1 + 1) := by
    intro k hk
    obtain ⟨_, h0 | ⟨g, o, e, hc⟩⟩ := own_sints ho2
    · omega
    · refine ⟨g, o, e, hc k hk, fun eg => ?_⟩
      have := (ho2.lt g (by rw [e]; rfl)).1
      omega
  have H2 : Hid (BoxA w2 w.heap.size (some ⟨b, off, none⟩) 10 cap t f l ∧ w2.cell? ⟨w.heap.size + 1, 0, none⟩ = some (.slice none 0 0) ∧ w2.frozen? ⟨w.heap.size + 1, 0, none⟩ = false ∧ SNodes w2 (some ⟨b, off, none⟩) 10 ns ∧ b < w.heap.size) :=
    ⟨bx1.below hb2, cell_kept hb r0, (hb.frozen (p := ⟨w.heap.size + 1, 0, none⟩) (by simp)).trans rf, hs.below (below_trans' A hb), by
      obtain ⟨b', off', x, e, _, hN⟩ := hs.at (k := 0) (by omega)
      cases e
      exact World.block_lt_of_cell? w ⟨b, off + 0 * 6, none⟩ hN.c0⟩
  have T0 : Hid (MAt w w2 none 0 0 [] w2) := ⟨fun _ _ _ => rfl, Nat.le_refl _, below_trans' A hb, cell_kept hb m0, (hb.frozen (p := ⟨w.heap.size + 1 + 1, 0, none⟩) (by simp)).trans mf, ⟨rfl, .inl ⟨rfl, rfl⟩⟩, hlt2⟩
  clear hb hb1 hb2 ho2 bx bx1 r0 rf A hs hok hc0 p0 p1 p2 p3 m0 mf hlt1 hlt2
  go_wp2
  go_loopw [5, 6] (fun i _ wr => ∃ (k m : Nat) (a' : Option Addr) (c' : Nat), k ≤ n ∧ i = .int .i64 k ∧ m = (unm ns (zs.take k)).length ∧ MAt w w2 a' m c' (entsOf ns (unm ns (zs.take k))) wr) (fun i _ _ => n - (intOf i).toNat)
  case atStart => exact ⟨0, 0, none, 0, Nat.zero_le _, rfl, rfl, T0.out⟩
  case round =>
    obtain ⟨k, m, a', c', hk, rfl, hm, I⟩ := hrel
    clear T0
    have HM : Hid (m = (unm ns (zs.take k)).length) := hm
    have hm9 : m ≤ 9 := by
      have := unm_len ns (zs.take k)
      have h2 := List.length_take_le k zs
      have := HN.out.2
      omega
    clear hm
    by_cases hlt : k < n
    · obtain ⟨b', off', rfl, hc, hne⟩ := HC.out k hlt
      obtain ⟨y, hy⟩ : ∃ y, zs.getD k 0 = y := ⟨_, rfl⟩
      have hyb := HP.out.1 k (by rw [HN.out.1]; exact hlt)
      rw [hy] at hyb hc
      have h1 := I.cell hc hne
      obtain ⟨j, rfl⟩ : ∃ j : Nat, y = j := ⟨y.toNat, by omega⟩
      have hj : j < 10 := by omega
      have hji : (j : Int) < 10 := by omega
      obtain ⟨b2, off2, ⟨x0, x1, x2, x3, x4, x5⟩, eab, hx, hN⟩ := H2.out.2.2.2.1.at hj
      cases eab
      have hbne : b ≠ w.heap.size + 1 + 1 := by have := H2.out.2.2.2.2; omega
      have n0 := I.cell hN.c0 hbne
      have n1 := I.cell hN.c1 hbne
      have n2 := I.cell hN.c2 hbne
      have n3 := I.cell hN.c3 hbne
      have n4 := I.cell hN.c4 hbne
      have n5 := I.cell hN.c5 hbne
      dsimp only at n0 n1 n2 n3 n4 n5
      have c0 := I.cell H2.out.1.c0 (by omega)
      obtain ⟨ys, hys⟩ : ∃ ys, unm ns (zs.take k) = ys := ⟨_, rfl⟩
      rw [hys] at I HM
      have HE : Hid (unm ns (zs.take (k + 1)) = ys ++ (if wMark x2 then [] else [(j : Int)])) := by
        show _ = _
        rw [unm_next ns (x := ⟨x0, x1, x2, x3, x4, x5⟩) (by rw [HN.out.1]; exact hlt) hy (by simp [ndAt, List.getD, hx]), hys]
      have HX : Hid (entsOf ns (ys ++ [(j : Int)]) = entsOf ns ys ++ [x0, x1]) := by
        show _ = _
        unfold entsOf
        rw [List.flatMap_append]
        simp [ndAt, List.getD, hx]
      have HI : Hid (MAt w w2 a' m c' (entsOf ns ys) wr) := I
      clear hc hy hN hx hyb I
      go_wp2
      go_region_held_law (fun V => V.cell? ⟨w.heap.size, 0, none⟩ = some (.slice (some ⟨b, off, none⟩) 10 cap) ∧ V.cell? ⟨b', off' + k, none⟩ = some (.int .i64 (j : Int)) ∧ V.cell? ⟨b, off + j * 6, none⟩ = some (.int .i64 x0) ∧ V.cell? ⟨b, off + j * 6 + 1, none⟩ = some (.int .i64 x1) ∧ V.cell? ⟨b, off + j * 6 + 2, none⟩ = some (.int .i64 x2) ∧ V.cell? ⟨b, off + j * 6 + 3, none⟩ = some (.int .i64 x3) ∧ V.cell? ⟨b, off + j * 6 + 4, none⟩ = some (.bool x4) ∧ V.cell? ⟨b, off + j * 6 + 5, none⟩ = some (.int .i64 x5)) (go_keep) (fail)
      have HI2 : Hid (MAt w w2 a' m c' (entsOf ns ys) (wr.alloc (.cells #[.int .i64 x0, .int .i64 x1, .int .i64 x2, .int .i64 x3, .bool x4, .int .i64 x5] 48)).drew) := HI.out.below (al1 wr _).drew
      have q0 : (wr.alloc (.cells #[.int .i64 x0, .int .i64 x1, .int .i64 x2, .int .i64 x3, .bool x4, .int .i64 x5] 48)).drew.cell? ⟨wr.heap.size, 0, none⟩ = some (.int .i64 x0) := cell_at wr _ _ 0 rfl rfl
      have q1 : (wr.alloc (.cells #[.int .i64 x0, .int .i64 x1, .int .i64 x2, .int .i64 x3, .bool x4, .int .i64 x5] 48)).drew.cell? ⟨wr.heap.size, 1, none⟩ = some (.int .i64 x1) := cell_at wr _ _ 1 rfl rfl
      have q2 : (wr.alloc (.cells #[.int .i64 x0, .int .i64 x1, .int .i64 x2, .int .i64 x3, .bool x4, .int .i64 x5] 48)).drew.cell? ⟨wr.heap.size, 2, none⟩ = some (.int .i64 x2) := cell_at wr _ _ 2 rfl rfl
      clear HI n0 n1 n2 n3 n4 n5 c0 h1
      generalize (wr.alloc (.cells #[.int .i64 x0, .int .i64 x1, .int .i64 x2, .int .i64 x3, .bool x4, .int .i64 x5] 48)).drew = V at HI2 q0 q1 q2 ⊢
      go_wp2_with fail
      refine (specWrdMark_any _ _).mono ?_
      rintro e w3 ⟨rfl, rfl⟩
      have HI4 : Hid (MAt w w2 a' m c' (entsOf ns ys) (w3.alloc (.cells #[.int .i64 x0, .int .i64 x1] 51))) := HI2.out.below (al1 _ _)
      have mc := HI2.out.mc
      have HSZ : Hid (w2.heap.size ≤ w3.heap.size) := HI2.out.size
      cases hmk : wMark x2
      · rw [hmk] at HE
        have HE2 : Hid (unm ns (zs.take (k + 1)) = ys ++ [(j : Int)]) := by show _ = _; simpa using HE.out
        clear HE
        go_wp2_with (at_builtin; go_must (refine wpList_append_own _ rfl (.tmp 33) (.tmp 39) 26 rfl w2.heap.size 51 i0 (.agg #[.int .i64 0, .int .i64 0]) 2 16 Try.underlying26 hi hz0 hz1 hz2 rfl (by decide) (.slice a' m c') m _ rfl HI4.out.own ⟨w3.heap.size, 0, none⟩ 1 1 [.int .i64 x0, .int .i64 x1] rfl rfl (by intro jj u hjj; match jj, hjj with | 0, hjj => simp at hjj; subst hjj; exact cell_at _ _ _ 0 rfl rfl | 1, hjj => simp at hjj; subst hjj; exact cell_at _ _ _ 1 rfl rfl) (by intro u hu; simp at hu; rcases hu with rfl | rfl <;> rfl) (by unfold maxLen; omega) (by omega) (by have := HSZ.out; simp; omega) ?_))
        intro v' w5 hown hgrow _
        obtain ⟨a2, c2, hv, _⟩ := own2_shape (zs := entsOf ns ys ++ [x0, x1]) (by simpa using hown)
        subst hv
        obtain ⟨mc5, mf5, M5⟩ := HI4.out.put hgrow (L2 := entsOf ns ys ++ [x0, x1]) (by simpa using hown)
        have HI5 : Hid (MAt w w2 a2 (m + 1) c2 (entsOf ns ys ++ [x0, x1]) (w5.setCell ⟨w.heap.size + 1 + 1, 0, none⟩ (.slice a2 (m + 1) c2))) := M5
        clear hown hgrow HI2 HI4 M5 mc q0 q1 q2
        go_wp2
        go_roundw
        case rel => exact ⟨k + 1, m + 1, a2, c2, by omega, by go_num, by rw [HE2.out, HM.out]; simp, by rw [HE2.out, HX.out]; exact HI5.out⟩
        case measure => simp [intOf]; omega
      · rw [hmk] at HE
        have HE2 : Hid (unm ns (zs.take (k + 1)) = ys) := by show _ = _; simpa using HE.out
        clear HE HI4 mc q0 q1 q2
        go_wp2
        go_roundw
        case rel => exact ⟨k + 1, m, a', c', by omega, by go_num, by rw [HE2.out]; exact HM.out, by rw [HE2.out]; exact HI2.out⟩
        case measure => simp [intOf]; omega
    · obtain rfl : k = n := by omega
      have et : zs.take k = zs := List.take_of_length_le (by rw [HN.out.1]; exact Nat.le_refl _)
      rw [et] at I HM
      have HMI : Hid (m = (unm ns zs).length) := HM
      have mc := I.mc
      have r1 := I.cell H2.out.2.1 (by omega)
      have f1 : wr.frozen? ⟨w.heap.size + 1, 0, none⟩ = false := (World.frozen?_of_block (w := w2) (a := ⟨w.heap.size + 1, 0, none⟩) (I.near (w.heap.size + 1) (by have := I.lt; omega) (by omega))).trans H2.out.2.2.1
      have R : Hid (wr.ownsRow w2.heap.size 51 2 (.slice a' m c') m ((entsOf ns (unm ns zs)).map (Value.int .i64)) ∧ Below w.heap.size w wr ∧ w.heap.size + 1 + 1 < w2.heap.size) := ⟨I.own, I.bel, I.lt⟩
      clear I et HM
      go_wp2
      refine bodyPost_ret (v := .agg #[.slice a' m c']) (by simp [results, Try.results7, go_sem, r1]) rfl ⟨a', c', by rw [← HMI.out], ?_, R.out.2.1.setCell (p := ⟨w.heap.size + 1, 0, none⟩) (by show w.heap.size ≤ w.heap.size + 1; omega) _⟩
      rw [← HMI.out]
      have hw := R.out.2.2
      exact own_mono (ownsRow_setCell_other R.out.1 (fun e => by have := (R.out.1.lt (w.heap.size + 1) e).1; omega) _) (by omega)

theorem specArnMap_any (a : Option Addr) (n cap : Nat) (ns : List Nd) (t f l : Int) (w : World) (hs : SNodes w a n ns) (hn : n ≤ 1048576) :
    Calls Try.prog 7 #[.agg #[.slice a n cap, .int .i64 t, .int .i64 f, .int .i64 l]] w fun e w' => MapR (mapP ns t f l).length (entsOf ns (mapP ns t f l)) e w w' := by
  cases hok : okA ns t f l
  · have e : mapP ns t f l = [] := by simp [mapP, hok]
    rw [e]
    exact specArnMap_bad a n cap ns t f l w hs hn hok
  · have hsh : shapeB ns t f l = true := by
      unfold okA at hok
      exact (Bool.and_eq_true _ _ ▸ hok).1
    obtain ⟨hl, _⟩ := shapeB_parts hsh
    obtain ⟨rfl, b, off, rfl⟩ := snodes_some hs hl
    have e : mapP ns t f l = unm ns (pathOf begC ns t f l) := by simp [mapP, hok]
    rw [e]
    exact specArnMap_ok b off cap ns t f l w hs hok

end Go.Proofs.Ytbefjhcokmmeoaa
