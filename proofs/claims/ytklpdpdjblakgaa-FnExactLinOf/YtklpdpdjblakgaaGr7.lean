/- Several texts in one: MapS, LInv, EInv, InvM, Draw, RegInv, KB, LinB. -/
import Derived.Test.YtklpdpdjblakgaaGr6
import Derived.Test.YtklpdpdjblakgaaGr4
import Derived.Test.YtklpdpdjblakgaaGr2
import Derived.Test.YtklpdpdjblakgaaGr3
import Derived.Test.YtklpdpdjblakgaaGr1
import Derived.Orders
import Derived.Test.YtklpdpdjblakgaaRows
import Derived.Lib.SmallJoins
/- MapS -/
namespace Go.Proofs.Ytklpdpdjblakgaa
open Go.RowKit
set_option linter.unusedVariables false

/-- What stands in the loop: all as it stood ahead of it, but for the map's own cell. -/
structure MAt (w w2 : World) (a' : Option Addr) (m c' : Nat) (L : List Int) (W : World) : Prop where
  near : ∀ c, c < w2.heap.size → c ≠ w.heap.size + 1 + 1 → W.heap[c]? = w2.heap[c]?
  size : w2.heap.size ≤ W.heap.size
  bel : Below w.heap.size w W
  mc : W.cell? ⟨w.heap.size + 1 + 1, 0, none⟩ = some (.slice a' m c')
  mf : W.frozen? ⟨w.heap.size + 1 + 1, 0, none⟩ = false
  own : W.ownsRow w2.heap.size 88 2 (.slice a' m c') m (L.map (Value.int .i64))
  lt : w.heap.size + 1 + 1 < w2.heap.size

theorem MAt.cell {w w2 : World} {a' : Option Addr} {m c' : Nat} {L : List Int} {W : World} (h : MAt w w2 a' m c' L W) {b o : Nat} {v : Value} (hc : w2.cell? ⟨b, o, none⟩ = some v) (hne : b ≠ w.heap.size + 1 + 1) : W.cell? ⟨b, o, none⟩ = some v :=
  (World.cell?_of_block (w := w2) (a := ⟨b, o, none⟩) (h.near b (World.block_lt_of_cell? w2 ⟨b, o, none⟩ hc) hne)).trans hc
theorem MAt.below {w w2 : World} {a' : Option Addr} {m c' : Nat} {L : List Int} {W W' : World} (h : MAt w w2 a' m c' L W) (hb : Below W.heap.size W W') : MAt w w2 a' m c' L W' := by
  have hs := h.size
  have hl := h.lt
  exact
  { near := fun c hc hn => (hb.block c (by omega)).trans (h.near c hc hn), size := Nat.le_trans h.size hb.size, bel := below_trans' h.bel hb, mc := cell_kept hb h.mc,
    mf := (hb.frozen (p := ⟨w.heap.size + 1 + 1, 0, none⟩) (by show w.heap.size + 1 + 1 < _; omega)).trans h.mf, own := ownsRow_below h.own hb, lt := h.lt }
theorem MAt.put {w w2 : World} {a' : Option Addr} {m c' : Nat} {L : List Int} {W W' : World} (h : MAt w w2 a' m c' L W) (hg : W.grownBy W' (Value.slice a' m c').ownBlock) {a2 : Option Addr} {m2 c2 : Nat} {L2 : List Int} (ho : W'.ownsRow w2.heap.size 88 2 (.slice a2 m2 c2) m2 (L2.map (Value.int .i64))) :
    W'.cell? ⟨w.heap.size + 1 + 1, 0, none⟩ = some (.slice a' m c') ∧ W'.frozen? ⟨w.heap.size + 1 + 1, 0, none⟩ = false ∧ MAt w w2 a2 m2 c2 L2 (W'.setCell ⟨w.heap.size + 1 + 1, 0, none⟩ (.slice a2 m2 c2)) := by
  have hs := h.size
  have hl := h.lt
  have nb : ∀ c, c < w2.heap.size → some c ≠ (Value.slice a' m c').ownBlock := fun c hc e => by have := (h.own.lt c e.symm).1; omega
  have nb2 : ∀ c, c < w2.heap.size → (Value.slice a2 m2 c2).ownBlock ≠ some c := fun c hc e => by have := (ho.lt c e).1; omega
  have mc := hg.cell h.mc (nb _ hl)
  refine ⟨mc, frozen_grown hg (by omega) (nb _ hl) h.mf, ?_⟩
  exact
  { near := fun c hc hn => (Below.heap_setCell W' ⟨w.heap.size + 1 + 1, 0, none⟩ _ c hn).trans ((hg.block c (by omega) (nb c hc)).trans (h.near c hc hn)),
    size := by simp; exact Nat.le_trans h.size hg.size, bel := (h.bel.grown hg h.bel.size (fun k e => by have := (h.own.lt k e).1; omega)).setCell (p := ⟨w.heap.size + 1 + 1, 0, none⟩) (by show w.heap.size ≤ w.heap.size + 1 + 1; omega) _,
    mc := World.cell?_setCell_same _ _ _ mc, mf := by rw [World.frozen?_setCell]; exact frozen_grown hg (by omega) (nb _ hl) h.mf,
    own := ownsRow_setCell_other ho (nb2 _ hl) _, lt := hl }

set_option maxHeartbeats 1000000 in
theorem specArnMap_bad (a : Option Addr) (n cap : Nat) (ns : List Nd) (t f l : Int) (w : World) (hs : SNodes w a n ns) (hn : n ≤ 1048576) (hok : okA ns t f l = false) :
    Calls Try.prog 29 #[.agg #[.slice a n cap, .int .i64 t, .int .i64 f, .int .i64 l]] w fun e w' => MapR 0 [] e w w' := by
  have A := below_trans' (below_trans' (al1 w (.cells #[.slice a n cap, .int .i64 t, .int .i64 f, .int .i64 l] 43)) (al1 _ (.cells #[.slice none 0 0] 36))) (al1 _ (.cells #[.slice none 0 0] 36))
  have r0 := cell_kept (al1 _ (.cells #[.slice none 0 0] 36)) (cell_at (w.alloc (.cells #[.slice a n cap, .int .i64 t, .int .i64 f, .int .i64 l] 43)) #[.slice none 0 0] 36 0 (b := w.heap.size + 1) (by simp) (v := .slice none 0 0) rfl)
  have rf := ((al1 ((w.alloc (.cells #[.slice a n cap, .int .i64 t, .int .i64 f, .int .i64 l] 43)).alloc (.cells #[.slice none 0 0] 36)) (.cells #[.slice none 0 0] 36)).frozen (p := ⟨w.heap.size + 1, 0, none⟩) (by simp)).trans (frozen_at (w.alloc (.cells #[.slice a n cap, .int .i64 t, .int .i64 f, .int .i64 l] 43)) #[.slice none 0 0] 36 0 (b := w.heap.size + 1) (by simp))
  have m0 := cell_at ((w.alloc (.cells #[.slice a n cap, .int .i64 t, .int .i64 f, .int .i64 l] 43)).alloc (.cells #[.slice none 0 0] 36)) #[.slice none 0 0] 36 0 (b := w.heap.size + 1 + 1) (by simp) (v := .slice none 0 0) rfl
  go_enter Try.func29, Try.ntmps29
  go_wp2_with fail
  refine (specArnOk_any _ _ _ ns t f l _ (hs.below A) hn).mono ?_
  rintro e w1 ⟨rfl, hb1⟩
  have hbel := below_trans' A hb1
  have r1 := cell_kept hb1 r0
  have m1 := cell_kept hb1 m0
  have f1 := (hb1.frozen (p := ⟨w.heap.size + 1, 0, none⟩) (by simp)).trans rf
  rw [hok]
  clear hs hb1 r0 rf A m0
  go_wp2
  exact bodyPost_ret (v := .agg #[.slice none 0 0]) (by simp [results, Try.results29, go_sem, r1]) rfl ⟨none, 0, rfl, ⟨rfl, .inl ⟨rfl, rfl⟩⟩, hbel.setCell (p := ⟨w.heap.size + 1, 0, none⟩) (by show w.heap.size ≤ w.heap.size + 1; omega) _⟩

set_option maxRecDepth 20000 in
set_option maxHeartbeats 2000000 in
theorem specArnMap_ok (b off cap : Nat) (ns : List Nd) (t f l : Int) (w : World) (hs : SNodes w (some ⟨b, off, none⟩) 10 ns) (hok : okA ns t f l = true) :
    Calls Try.prog 29 #[.agg #[.slice (some ⟨b, off, none⟩) 10 cap, .int .i64 t, .int .i64 f, .int .i64 l]] w fun e w' => MapR (unm ns (pathOf begC ns t f l)).length (entsOf ns (unm ns (pathOf begC ns t f l))) e w w' := by
  obtain ⟨i0, hi, hz0, hz1, hz2⟩ := info_parts Try.info88
  have A := below_trans' (below_trans' (al1 w (.cells #[.slice (some ⟨b, off, none⟩) 10 cap, .int .i64 t, .int .i64 f, .int .i64 l] 43)) (al1 _ (.cells #[.slice none 0 0] 36))) (al1 _ (.cells #[.slice none 0 0] 36))
  have bx := ((boxA_new w (some ⟨b, off, none⟩) 10 cap t f l 43 rfl).below (al1 _ (.cells #[.slice none 0 0] 36))).below (al1 _ (.cells #[.slice none 0 0] 36))
  have r0 := cell_kept (al1 _ (.cells #[.slice none 0 0] 36)) (cell_at (w.alloc (.cells #[.slice (some ⟨b, off, none⟩) 10 cap, .int .i64 t, .int .i64 f, .int .i64 l] 43)) #[.slice none 0 0] 36 0 (b := w.heap.size + 1) (by simp) (v := .slice none 0 0) rfl)
  have rf := ((al1 ((w.alloc (.cells #[.slice (some ⟨b, off, none⟩) 10 cap, .int .i64 t, .int .i64 f, .int .i64 l] 43)).alloc (.cells #[.slice none 0 0] 36)) (.cells #[.slice none 0 0] 36)).frozen (p := ⟨w.heap.size + 1, 0, none⟩) (by simp)).trans (frozen_at (w.alloc (.cells #[.slice (some ⟨b, off, none⟩) 10 cap, .int .i64 t, .int .i64 f, .int .i64 l] 43)) #[.slice none 0 0] 36 0 (b := w.heap.size + 1) (by simp))
  have m0 := cell_at ((w.alloc (.cells #[.slice (some ⟨b, off, none⟩) 10 cap, .int .i64 t, .int .i64 f, .int .i64 l] 43)).alloc (.cells #[.slice none 0 0] 36)) #[.slice none 0 0] 36 0 (b := w.heap.size + 1 + 1) (by simp) (v := .slice none 0 0) rfl
  have mf := frozen_at ((w.alloc (.cells #[.slice (some ⟨b, off, none⟩) 10 cap, .int .i64 t, .int .i64 f, .int .i64 l] 43)).alloc (.cells #[.slice none 0 0] 36)) #[.slice none 0 0] 36 0 (b := w.heap.size + 1 + 1) (by simp)
  obtain ⟨zs, ez⟩ : ∃ zs, pathOf begC ns t f l = zs := ⟨_, rfl⟩
  have HP : Hid (placesB zs ∧ zs.length ≤ 9) := ez ▸ path_places (begC_in ns t f l)
  have hc0 := specArnChain_any (some ⟨b, off, none⟩) 10 cap ns t f l
  rw [ez] at hc0 ⊢
  obtain ⟨n, ln⟩ : ∃ n, zs.length = n := ⟨_, rfl⟩
  have HN : Hid (zs.length = n ∧ n ≤ 9) := ⟨ln, by have := HP.out.2; omega⟩
  have hn9 : n ≤ 9 := HN.out.2
  clear ez ln
  go_enter Try.func29, Try.ntmps29
  go_wp2_with fail
  refine (specArnOk_any _ _ _ ns t f l _ (hs.below A) (by omega)).mono ?_
  rintro e w1 ⟨rfl, hb1⟩
  rw [hok]
  have bx1 := bx.below hb1
  obtain ⟨p0, p1, p2, p3⟩ := bx1.cells
  go_wp2_with fail
  refine (hc0 _ (hs.below (below_trans' A hb1)) (by omega)).mono ?_
  rintro e w2 ⟨aC, cC, rfl, ho2, hb2⟩
  rw [HN.out.1] at ho2 ⊢
  have hb := below_trans' hb1 hb2
  have hlt2 := World.block_lt_of_cell? w2 ⟨w.heap.size + 1 + 1, 0, none⟩ (cell_kept hb m0)
  have hlt1 : w.heap.size + 1 + 1 < w1.heap.size := World.block_lt_of_cell? w1 ⟨w.heap.size + 1 + 1, 0, none⟩ (cell_kept hb1 m0)
  have HC : Hid (∀ k, k < n → ∃ g o, aC = some ⟨g, o, none⟩ ∧ w2.cell? ⟨g, o + k, none⟩ = some (.int .i64 (zs.getD k 0)) ∧ g ≠ w.heap.size + 1 + 1) := by
    intro k hk
    obtain ⟨_, h0 | ⟨g, o, e, hc⟩⟩ := own_sints ho2
    · omega
    · refine ⟨g, o, e, hc k hk, fun eg => ?_⟩
      have := (ho2.lt g (by rw [e]; rfl)).1
      omega
  have H2 : Hid (BoxA w2 w.heap.size (some ⟨b, off, none⟩) 10 cap t f l ∧ w2.cell? ⟨w.heap.size + 1, 0, none⟩ = some (.slice none 0 0) ∧ w2.frozen? ⟨w.heap.size + 1, 0, none⟩ = false ∧ SNodes w2 (some ⟨b, off, none⟩) 10 ns ∧ b < w.heap.size) :=
    ⟨bx1.below hb2, cell_kept hb r0, (hb.frozen (p := ⟨w.heap.size + 1, 0, none⟩) (by simp)).trans rf, hs.below (below_trans' A hb), by
      obtain ⟨b', off', x, e, _, hN⟩ := hs.at (k := 0) (by omega)
      cases e
      exact World.block_lt_of_cell? w ⟨b, off + 0 * 6, none⟩ hN.c0⟩
  have T0 : Hid (MAt w w2 none 0 0 [] w2) := ⟨fun _ _ _ => rfl, Nat.le_refl _, below_trans' A hb, cell_kept hb m0, (hb.frozen (p := ⟨w.heap.size + 1 + 1, 0, none⟩) (by simp)).trans mf, ⟨rfl, .inl ⟨rfl, rfl⟩⟩, hlt2⟩
  clear hb hb1 hb2 ho2 bx bx1 r0 rf A hs hok hc0 p0 p1 p2 p3 m0 mf hlt1 hlt2
  go_wp2
  go_loopw [5, 6] (fun i _ wr => ∃ (k m : Nat) (a' : Option Addr) (c' : Nat), k ≤ n ∧ i = .int .i64 k ∧ m = (unm ns (zs.take k)).length ∧ MAt w w2 a' m c' (entsOf ns (unm ns (zs.take k))) wr) (fun i _ _ => n - (intOf i).toNat)
  case atStart => exact ⟨0, 0, none, 0, Nat.zero_le _, rfl, rfl, T0.out⟩
  case round =>
    obtain ⟨k, m, a', c', hk, rfl, hm, I⟩ := hrel
    clear T0
    have HM : Hid (m = (unm ns (zs.take k)).length) := hm
    have hm9 : m ≤ 9 := by
      have := unm_len ns (zs.take k)
      have h2 := List.length_take_le k zs
      have := HN.out.2
      omega
    clear hm
    by_cases hlt : k < n
    · obtain ⟨b', off', rfl, hc, hne⟩ := HC.out k hlt
      obtain ⟨y, hy⟩ : ∃ y, zs.getD k 0 = y := ⟨_, rfl⟩
      have hyb := HP.out.1 k (by rw [HN.out.1]; exact hlt)
      rw [hy] at hyb hc
      have h1 := I.cell hc hne
      obtain ⟨j, rfl⟩ : ∃ j : Nat, y = j := ⟨y.toNat, by omega⟩
      have hj : j < 10 := by omega
      have hji : (j : Int) < 10 := by omega
      obtain ⟨b2, off2, ⟨x0, x1, x2, x3, x4, x5⟩, eab, hx, hN⟩ := H2.out.2.2.2.1.at hj
      cases eab
      have hbne : b ≠ w.heap.size + 1 + 1 := by have := H2.out.2.2.2.2; omega
      have n0 := I.cell hN.c0 hbne
      have n1 := I.cell hN.c1 hbne
      have n2 := I.cell hN.c2 hbne
      have n3 := I.cell hN.c3 hbne
      have n4 := I.cell hN.c4 hbne
      have n5 := I.cell hN.c5 hbne
      dsimp only at n0 n1 n2 n3 n4 n5
      have c0 := I.cell H2.out.1.c0 (by omega)
      obtain ⟨ys, hys⟩ : ∃ ys, unm ns (zs.take k) = ys := ⟨_, rfl⟩
      rw [hys] at I HM
      have HE : Hid (unm ns (zs.take (k + 1)) = ys ++ (if wMark x2 then [] else [(j : Int)])) := by
        show _ = _
        rw [unm_next ns (x := ⟨x0, x1, x2, x3, x4, x5⟩) (by rw [HN.out.1]; exact hlt) hy (by simp [ndAt, List.getD, hx]), hys]
      have HX : Hid (entsOf ns (ys ++ [(j : Int)]) = entsOf ns ys ++ [x0, x1]) := by
        show _ = _
        unfold entsOf
        rw [List.flatMap_append]
        simp [ndAt, List.getD, hx]
      have HI : Hid (MAt w w2 a' m c' (entsOf ns ys) wr) := I
      clear hc hy hN hx hyb I
      go_wp2
      go_region_held_law (fun V => V.cell? ⟨w.heap.size, 0, none⟩ = some (.slice (some ⟨b, off, none⟩) 10 cap) ∧ V.cell? ⟨b', off' + k, none⟩ = some (.int .i64 (j : Int)) ∧ V.cell? ⟨b, off + j * 6, none⟩ = some (.int .i64 x0) ∧ V.cell? ⟨b, off + j * 6 + 1, none⟩ = some (.int .i64 x1) ∧ V.cell? ⟨b, off + j * 6 + 2, none⟩ = some (.int .i64 x2) ∧ V.cell? ⟨b, off + j * 6 + 3, none⟩ = some (.int .i64 x3) ∧ V.cell? ⟨b, off + j * 6 + 4, none⟩ = some (.bool x4) ∧ V.cell? ⟨b, off + j * 6 + 5, none⟩ = some (.int .i64 x5)) (go_keep) (fail)
      have HI2 : Hid (MAt w w2 a' m c' (entsOf ns ys) (wr.alloc (.cells #[.int .i64 x0, .int .i64 x1, .int .i64 x2, .int .i64 x3, .bool x4, .int .i64 x5] 86)).drew) := HI.out.below (al1 wr _).drew
      have q0 : (wr.alloc (.cells #[.int .i64 x0, .int .i64 x1, .int .i64 x2, .int .i64 x3, .bool x4, .int .i64 x5] 86)).drew.cell? ⟨wr.heap.size, 0, none⟩ = some (.int .i64 x0) := cell_at wr _ _ 0 rfl rfl
      have q1 : (wr.alloc (.cells #[.int .i64 x0, .int .i64 x1, .int .i64 x2, .int .i64 x3, .bool x4, .int .i64 x5] 86)).drew.cell? ⟨wr.heap.size, 1, none⟩ = some (.int .i64 x1) := cell_at wr _ _ 1 rfl rfl
      have q2 : (wr.alloc (.cells #[.int .i64 x0, .int .i64 x1, .int .i64 x2, .int .i64 x3, .bool x4, .int .i64 x5] 86)).drew.cell? ⟨wr.heap.size, 2, none⟩ = some (.int .i64 x2) := cell_at wr _ _ 2 rfl rfl
      clear HI n0 n1 n2 n3 n4 n5 c0 h1
      generalize (wr.alloc (.cells #[.int .i64 x0, .int .i64 x1, .int .i64 x2, .int .i64 x3, .bool x4, .int .i64 x5] 86)).drew = V at HI2 q0 q1 q2 ⊢
      go_wp2_with fail
      refine (specWrdMark_any _ _).mono ?_
      rintro e w3 ⟨rfl, rfl⟩
      have HI4 : Hid (MAt w w2 a' m c' (entsOf ns ys) (w3.alloc (.cells #[.int .i64 x0, .int .i64 x1] 88))) := HI2.out.below (al1 _ _)
      have mc := HI2.out.mc
      have HSZ : Hid (w2.heap.size ≤ w3.heap.size) := HI2.out.size
      cases hmk : wMark x2
      · rw [hmk] at HE
        have HE2 : Hid (unm ns (zs.take (k + 1)) = ys ++ [(j : Int)]) := by show _ = _; simpa using HE.out
        clear HE
        go_wp2_with (at_builtin; go_must (refine wpList_append_own _ rfl (.tmp 33) (.tmp 39) 34 rfl w2.heap.size 88 i0 (.agg #[.int .i64 0, .int .i64 0]) 2 16 Try.underlying34 hi hz0 hz1 hz2 rfl (by decide) (.slice a' m c') m _ rfl HI4.out.own ⟨w3.heap.size, 0, none⟩ 1 1 [.int .i64 x0, .int .i64 x1] rfl rfl (by intro jj u hjj; match jj, hjj with | 0, hjj => simp at hjj; subst hjj; exact cell_at _ _ _ 0 rfl rfl | 1, hjj => simp at hjj; subst hjj; exact cell_at _ _ _ 1 rfl rfl) (by intro u hu; simp at hu; rcases hu with rfl | rfl <;> rfl) (by unfold maxLen; omega) (by omega) (by have := HSZ.out; simp; omega) ?_))
        intro v' w5 hown hgrow _
        obtain ⟨a2, c2, hv, _⟩ := own2_shape (zs := entsOf ns ys ++ [x0, x1]) (by simpa using hown)
        subst hv
        obtain ⟨mc5, mf5, M5⟩ := HI4.out.put hgrow (L2 := entsOf ns ys ++ [x0, x1]) (by simpa using hown)
        have HI5 : Hid (MAt w w2 a2 (m + 1) c2 (entsOf ns ys ++ [x0, x1]) (w5.setCell ⟨w.heap.size + 1 + 1, 0, none⟩ (.slice a2 (m + 1) c2))) := M5
        clear hown hgrow HI2 HI4 M5 mc q0 q1 q2
        go_wp2
        go_roundw
        case rel => exact ⟨k + 1, m + 1, a2, c2, by omega, by go_num, by rw [HE2.out, HM.out]; simp, by rw [HE2.out, HX.out]; exact HI5.out⟩
        case measure => simp [intOf]; omega
      · rw [hmk] at HE
        have HE2 : Hid (unm ns (zs.take (k + 1)) = ys) := by show _ = _; simpa using HE.out
        clear HE HI4 mc q0 q1 q2
        go_wp2
        go_roundw
        case rel => exact ⟨k + 1, m, a', c', by omega, by go_num, by rw [HE2.out]; exact HM.out, by rw [HE2.out]; exact HI2.out⟩
        case measure => simp [intOf]; omega
    · obtain rfl : k = n := by omega
      have et : zs.take k = zs := List.take_of_length_le (by rw [HN.out.1]; exact Nat.le_refl _)
      rw [et] at I HM
      have HMI : Hid (m = (unm ns zs).length) := HM
      have mc := I.mc
      have r1 := I.cell H2.out.2.1 (by omega)
      have f1 : wr.frozen? ⟨w.heap.size + 1, 0, none⟩ = false := (World.frozen?_of_block (w := w2) (a := ⟨w.heap.size + 1, 0, none⟩) (I.near (w.heap.size + 1) (by have := I.lt; omega) (by omega))).trans H2.out.2.2.1
      have R : Hid (wr.ownsRow w2.heap.size 88 2 (.slice a' m c') m ((entsOf ns (unm ns zs)).map (Value.int .i64)) ∧ Below w.heap.size w wr ∧ w.heap.size + 1 + 1 < w2.heap.size) := ⟨I.own, I.bel, I.lt⟩
      clear I et HM
      go_wp2
      refine bodyPost_ret (v := .agg #[.slice a' m c']) (by simp [results, Try.results29, go_sem, r1]) rfl ⟨a', c', by rw [← HMI.out], ?_, R.out.2.1.setCell (p := ⟨w.heap.size + 1, 0, none⟩) (by show w.heap.size ≤ w.heap.size + 1; omega) _⟩
      rw [← HMI.out]
      have hw := R.out.2.2
      exact own_mono (ownsRow_setCell_other R.out.1 (fun e => by have := (R.out.1.lt (w.heap.size + 1) e).1; omega) _) (by omega)

theorem specArnMap_any (a : Option Addr) (n cap : Nat) (ns : List Nd) (t f l : Int) (w : World) (hs : SNodes w a n ns) (hn : n ≤ 1048576) :
    Calls Try.prog 29 #[.agg #[.slice a n cap, .int .i64 t, .int .i64 f, .int .i64 l]] w fun e w' => MapR (mapP ns t f l).length (entsOf ns (mapP ns t f l)) e w w' := by
  cases hok : okA ns t f l
  · have e : mapP ns t f l = [] := by simp [mapP, hok]
    rw [e]
    exact specArnMap_bad a n cap ns t f l w hs hn hok
  · have hsh : shapeB ns t f l = true := by
      unfold okA at hok
      exact (Bool.and_eq_true _ _ ▸ hok).1
    obtain ⟨hl, _⟩ := shapeB_parts hsh
    obtain ⟨rfl, b, off, rfl⟩ := snodes_some hs hl
    have e : mapP ns t f l = unm ns (pathOf begC ns t f l) := by simp [mapP, hok]
    rw [e]
    exact specArnMap_ok b off cap ns t f l w hs hok

end Go.Proofs.Ytklpdpdjblakgaa

/- LInv -/
namespace Go.Proofs.Ytklpdpdjblakgaa
open Go.RowKit
set_option linter.unusedVariables false

theorem pathOf_len (p : List Nd → Int → Int → Int → Int) (ns : List Nd) (t f l : Int) : (pathOf p ns t f l).length ≤ 2000000 := by
  unfold pathOf
  split
  · have := fromTo_len ns (p ns t f l) 9; omega
  · simp

structure LInv (w : World) (a : Option Addr) (n cap : Nat) (t f l : Int) (S1 S2 S3 : Nat) (aw : Option Addr) (N cw : Nat) (L : List Int) (bx gx : Nat) (X : List Nd) (ag : Option Addr) (cg : Nat) (G : List Int) (W : World) : Prop where
  inv : Inv3 w S1 S2 S3 (fun W => BoxA W w.heap.size a n cap t f l ∧ RowIn w.heap.size S1 3 1 (.slice aw N cw) N (L.map (Value.int .i64)) W) (ArIn S1 S2 bx (some ⟨gx, 0, none⟩) n n X t f l) (RowIn S2 S3 3 1 (.slice ag N cg) N (G.map (Value.int .i64))) W
  x1 : S1 ≤ bx
  x2 : bx < S2
  xr : ∀ k, (Value.slice (some ⟨gx, 0, none⟩) n n).ownBlock = some k → S1 ≤ k ∧ k < S2
  xn : ∀ k, (Value.slice (some ⟨gx, 0, none⟩) n n).ownBlock = some k → k < bx
  gr : ∀ k, (Value.slice ag N cg).ownBlock = some k → S2 ≤ k ∧ k < S3

section
variable {w : World} {a : Option Addr} {n cap : Nat} {t f l : Int} {S1 S2 S3 : Nat} {aw : Option Addr} {N cw : Nat} {L : List Int} {bx gx : Nat} {X : List Nd} {ag : Option Addr} {cg : Nat} {G : List Int} {W W' : World}

theorem LInv.bel (h : LInv w a n cap t f l S1 S2 S3 aw N cw L bx gx X ag cg G W) : Below w.heap.size w W := h.inv.bel
theorem LInv.bp_ (h : LInv w a n cap t f l S1 S2 S3 aw N cw L bx gx X ag cg G W) : BoxA W w.heap.size a n cap t f l := h.inv.hw.1
theorem LInv.ow (h : LInv w a n cap t f l S1 S2 S3 aw N cw L bx gx X ag cg G W) : W.ownsRow w.heap.size 3 1 (.slice aw N cw) N (L.map (Value.int .i64)) := h.inv.hw.2.1
theorem LInv.bx_ (h : LInv w a n cap t f l S1 S2 S3 aw N cw L bx gx X ag cg G W) : BoxA W bx (some ⟨gx, 0, none⟩) n n t f l := h.inv.hx.1
theorem LInv.ox (h : LInv w a n cap t f l S1 S2 S3 aw N cw L bx gx X ag cg G W) : W.ownsRow S1 86 6 (.slice (some ⟨gx, 0, none⟩) n n) n (flatN X) := h.inv.hx.2.1
theorem LInv.og (h : LInv w a n cap t f l S1 S2 S3 aw N cw L bx gx X ag cg G W) : W.ownsRow S2 3 1 (.slice ag N cg) N (G.map (Value.int .i64)) := h.inv.hg.1

theorem LInv.below (h : LInv w a n cap t f l S1 S2 S3 aw N cw L bx gx X ag cg G W) (hb : Below W.heap.size W W') : LInv w a n cap t f l S1 S2 S3 aw N cw L bx gx X ag cg G W' :=
  { inv := h.inv.below hb, x1 := h.x1, x2 := h.x2, xr := h.xr, xn := h.xn, gr := h.gr }

theorem LInv.markX (h : LInv w a n cap t f l S1 S2 S3 aw N cw L bx gx X ag cg G W) {X' : List Nd} (hg : W.grownBy W' (Value.slice (some ⟨gx, 0, none⟩) n n).ownBlock) (ho : W'.ownsRow S1 86 6 (.slice (some ⟨gx, 0, none⟩) n n) n (flatN X')) : LInv w a n cap t f l S1 S2 S3 aw N cw L bx gx X' ag cg G W' :=
  { inv := h.inv.markX hg h.xr ⟨h.bx_.grown hg (fun e => by have := h.xn _ e.symm; omega), ho, fun k e => (h.xr k e).2⟩ (onlyB_ar _ _ _ _ _ _ _ h.x1 h.x2), x1 := h.x1, x2 := h.x2, xr := h.xr, xn := h.xn, gr := h.gr }

theorem LInv.markG (h : LInv w a n cap t f l S1 S2 S3 aw N cw L bx gx X ag cg G W) {G' : List Int} (hg : W.grownBy W' (Value.slice ag N cg).ownBlock) (ho : W'.ownsRow S2 3 1 (.slice ag N cg) N (G'.map (Value.int .i64))) : LInv w a n cap t f l S1 S2 S3 aw N cw L bx gx X ag cg G' W' :=
  { inv := h.inv.markG hg h.gr ⟨ho, fun k e => (h.gr k e).2⟩ (onlyB_row _ _ _ _ _ _ _), x1 := h.x1, x2 := h.x2, xr := h.xr, xn := h.xn, gr := h.gr }

end

theorem linv_start {w w1 w2 w4 w6 : World} {a : Option Addr} {n cap : Nat} {t f l : Int} {aw : Option Addr} {N cw : Nat} {L : List Int} {gx : Nat} {ns : List Nd} {ag : Option Addr} {cg : Nat}
    (hA1 : Below w.heap.size w w1) (bx1 : BoxA w1 w.heap.size a n cap t f l) (hb2 : Below w1.heap.size w1 w2) (ow : w2.ownsRow w1.heap.size 3 1 (.slice aw N cw) N (L.map (Value.int .i64)))
    (hb4 : Below w2.heap.size w2 w4) (ox : w4.ownsRow w2.heap.size 86 6 (.slice (some ⟨gx, 0, none⟩) n n) n (flatN ns))
    (hb6 : Below (w4.alloc (.cells #[.slice (some ⟨gx, 0, none⟩) n n, .int .i64 t, .int .i64 f, .int .i64 l] 43)).heap.size (w4.alloc (.cells #[.slice (some ⟨gx, 0, none⟩) n n, .int .i64 t, .int .i64 f, .int .i64 l] 43)) w6)
    (og : w6.ownsRow (w4.alloc (.cells #[.slice (some ⟨gx, 0, none⟩) n n, .int .i64 t, .int .i64 f, .int .i64 l] 43)).heap.size 3 1 (.slice ag N cg) N (L.map (Value.int .i64))) :
    ∃ S1 S2 S3, LInv w a n cap t f l S1 S2 S3 aw N cw L w4.heap.size gx ns ag cg L w6 := by
  have T5 := al1 w4 (.cells #[.slice (some ⟨gx, 0, none⟩) n n, .int .i64 t, .int .i64 f, .int .i64 l] 43)
  have bx3 := bx1.below hb2
  refine ⟨_, _, _,
    { inv := Inv3.start (below_trans' hA1 hb2) ⟨bx3, rowIn_of (own_mono ow hA1.size) (Nat.le_refl _)⟩
        ((onlyB_box a n cap t f l (Nat.le_refl _) bx3.lt).and (onlyB_row _ _ _ _ _ _ _))
        (below_trans' hb4 T5) ⟨boxA_new w4 _ _ _ _ _ _ 43 rfl, rowIn_of (ownsRow_below ox T5) (Nat.le_refl _)⟩ (onlyB_ar _ _ _ _ _ _ _ hb4.size (by simp))
        hb6 (rowIn_of og (Nat.le_refl _)) (onlyB_row _ _ _ _ _ _ _),
      x1 := hb4.size, x2 := by simp, xr := fun k e => ⟨(ox.lt k e).1, by have := (ox.lt k e).2; simp; omega⟩, xn := fun k e => (ox.lt k e).2,
      gr := fun k e => ⟨(og.lt k e).1, (og.lt k e).2⟩ }⟩

end Go.Proofs.Ytklpdpdjblakgaa

/- EInv -/
namespace Go.Proofs.Ytklpdpdjblakgaa
open Go.RowKit
set_option linter.unusedVariables false

set_option maxHeartbeats 400000 in
theorem markMapMap_any (a : Option Addr) (n cap base : Nat) (zs : List Int) (k : Int) (w : World) (ho : w.ownsRow base 88 2 (.slice a n cap) n (zs.map (Value.int .i64))) (hk0 : 0 ≤ k) (hk : k + n ≤ 1000000000000) (hn : n ≤ 1000000000000) :
    Calls Try.prog 40 #[.agg #[.slice a n cap], .int .i64 k] w fun e w' => e = .returned (.int .i64 (k + 2 * n)) ∧ w'.ownsRow base 88 2 (.slice a n cap) n ((marks k (n * 2)).map (Value.int .i64)) ∧ w.grownBy w' (Value.ownBlock (.slice a n cap)) := by
  go_enter Try.func40, Try.ntmps40
  go_wp2_with fail
  refine (markMapEntryS_any _ _ _ _ zs _ _ (ho.alloc _) hk0 hk hn).mono ?_
  rintro e w1 ⟨rfl, ho1, hg1, _⟩
  have hg := grown_trans (World.grownBy_alloc w _ _) hg1
  have HO : Hid (w1.ownsRow base 88 2 (.slice a n cap) n ((marks k (n * 2)).map (Value.int .i64))) := ho1
  clear ho ho1 hg1
  go_wp2
  go_ret
  exact ⟨rfl, HO.out, hg⟩

set_option maxHeartbeats 400000 in
theorem heldMapMap_any (a : Option Addr) (n cap : Nat) (k : Int) (w : World) (hs : SInts w a (n * 2) (marks k (n * 2))) (hk0 : 0 ≤ k) (hk : k + n ≤ 1000000000000) :
    Calls Try.prog 42 #[.agg #[.slice a n cap], .int .i64 k] w fun e w' => e = .returned (.int .i64 (k + 2 * n)) ∧ Below w.heap.size w w' := by
  have hb0 : ∀ o, Below w.heap.size w (w.alloc o) := fun o => (Below.refl _ _).alloc (Nat.le_refl _) o
  go_enter Try.func42, Try.ntmps42
  go_wp2_with fail
  refine (heldMapEntryS_any _ _ _ _ _ (hs.below (hb0 _)) hk0 hk).mono ?_
  rintro e w1 ⟨rfl, rfl⟩
  clear hs
  go_wp2
  go_ret
  exact ⟨rfl, hb0 _⟩

structure EInv (w : World) (a : Option Addr) (n cap : Nat) (t f l : Int) (S1 S2 S3 : Nat) (b1 : Nat) (aw : Option Addr) (N cw : Nat) (L : List Int) (bx gx : Nat) (X : List Nd) (b3 : Nat) (ag : Option Addr) (cg : Nat) (G : List Int) (W : World) : Prop where
  inv : Inv3 w S1 S2 S3 (fun W => (BoxA W w.heap.size a n cap t f l ∧ W.cell? ⟨b1, 0, none⟩ = some (.slice aw N cw)) ∧ RowIn w.heap.size S1 88 2 (.slice aw N cw) N (L.map (Value.int .i64)) W) (ArIn S1 S2 bx (some ⟨gx, 0, none⟩) n n X t f l) (fun W => W.cell? ⟨b3, 0, none⟩ = some (.slice ag N cg) ∧ RowIn S2 S3 88 2 (.slice ag N cg) N (G.map (Value.int .i64)) W) W
  x1 : S1 ≤ bx
  x2 : bx < S2
  xr : ∀ k, (Value.slice (some ⟨gx, 0, none⟩) n n).ownBlock = some k → S1 ≤ k ∧ k < S2
  xn : ∀ k, (Value.slice (some ⟨gx, 0, none⟩) n n).ownBlock = some k → k < bx
  gr : ∀ k, (Value.slice ag N cg).ownBlock = some k → S2 ≤ k ∧ k < S3
  gn : ∀ k, (Value.slice ag N cg).ownBlock = some k → k < b3
  g3 : S2 ≤ b3 ∧ b3 < S3

section
variable {w : World} {a : Option Addr} {n cap : Nat} {t f l : Int} {S1 S2 S3 b1 : Nat} {aw : Option Addr} {N cw : Nat} {L : List Int} {bx gx : Nat} {X : List Nd} {b3 : Nat} {ag : Option Addr} {cg : Nat} {G : List Int} {W W' : World}

theorem EInv.bel (h : EInv w a n cap t f l S1 S2 S3 b1 aw N cw L bx gx X b3 ag cg G W) : Below w.heap.size w W := h.inv.bel
theorem EInv.bp_ (h : EInv w a n cap t f l S1 S2 S3 b1 aw N cw L bx gx X b3 ag cg G W) : BoxA W w.heap.size a n cap t f l := h.inv.hw.1.1
theorem EInv.c1 (h : EInv w a n cap t f l S1 S2 S3 b1 aw N cw L bx gx X b3 ag cg G W) : W.cell? ⟨b1, 0, none⟩ = some (.slice aw N cw) := h.inv.hw.1.2
theorem EInv.ow (h : EInv w a n cap t f l S1 S2 S3 b1 aw N cw L bx gx X b3 ag cg G W) : W.ownsRow w.heap.size 88 2 (.slice aw N cw) N (L.map (Value.int .i64)) := h.inv.hw.2.1
theorem EInv.bx_ (h : EInv w a n cap t f l S1 S2 S3 b1 aw N cw L bx gx X b3 ag cg G W) : BoxA W bx (some ⟨gx, 0, none⟩) n n t f l := h.inv.hx.1
theorem EInv.ox (h : EInv w a n cap t f l S1 S2 S3 b1 aw N cw L bx gx X b3 ag cg G W) : W.ownsRow S1 86 6 (.slice (some ⟨gx, 0, none⟩) n n) n (flatN X) := h.inv.hx.2.1
theorem EInv.c3 (h : EInv w a n cap t f l S1 S2 S3 b1 aw N cw L bx gx X b3 ag cg G W) : W.cell? ⟨b3, 0, none⟩ = some (.slice ag N cg) := h.inv.hg.1
theorem EInv.og (h : EInv w a n cap t f l S1 S2 S3 b1 aw N cw L bx gx X b3 ag cg G W) : W.ownsRow S2 88 2 (.slice ag N cg) N (G.map (Value.int .i64)) := h.inv.hg.2.1

theorem EInv.below (h : EInv w a n cap t f l S1 S2 S3 b1 aw N cw L bx gx X b3 ag cg G W) (hb : Below W.heap.size W W') : EInv w a n cap t f l S1 S2 S3 b1 aw N cw L bx gx X b3 ag cg G W' :=
  { inv := h.inv.below hb, x1 := h.x1, x2 := h.x2, xr := h.xr, xn := h.xn, gr := h.gr, gn := h.gn, g3 := h.g3 }

theorem EInv.markX (h : EInv w a n cap t f l S1 S2 S3 b1 aw N cw L bx gx X b3 ag cg G W) {X' : List Nd} (hg : W.grownBy W' (Value.slice (some ⟨gx, 0, none⟩) n n).ownBlock) (ho : W'.ownsRow S1 86 6 (.slice (some ⟨gx, 0, none⟩) n n) n (flatN X')) : EInv w a n cap t f l S1 S2 S3 b1 aw N cw L bx gx X' b3 ag cg G W' :=
  { inv := h.inv.markX hg h.xr ⟨h.bx_.grown hg (fun e => by have := h.xn _ e.symm; omega), ho, fun k e => (h.xr k e).2⟩ (onlyB_ar _ _ _ _ _ _ _ h.x1 h.x2), x1 := h.x1, x2 := h.x2, xr := h.xr, xn := h.xn, gr := h.gr, gn := h.gn, g3 := h.g3 }

theorem EInv.markG (h : EInv w a n cap t f l S1 S2 S3 b1 aw N cw L bx gx X b3 ag cg G W) {G' : List Int} (hg : W.grownBy W' (Value.slice ag N cg).ownBlock) (ho : W'.ownsRow S2 88 2 (.slice ag N cg) N (G'.map (Value.int .i64))) : EInv w a n cap t f l S1 S2 S3 b1 aw N cw L bx gx X b3 ag cg G' W' :=
  { inv := h.inv.markG hg h.gr ⟨hg.cell h.c3 (fun e => by have := h.gn b3 e.symm; omega), ho, fun k e => (h.gr k e).2⟩ ((onlyB_cell h.g3.1 h.g3.2).and (onlyB_row _ _ _ _ _ _ _)), x1 := h.x1, x2 := h.x2, xr := h.xr, xn := h.xn, gr := h.gr, gn := h.gn, g3 := h.g3 }

end

theorem einv_start {w w1 w2 w4 w6 : World} {a : Option Addr} {n cap : Nat} {t f l : Int} {aw : Option Addr} {N cw : Nat} {L : List Int} {gx : Nat} {ns : List Nd} {ag : Option Addr} {cg : Nat}
    (hA1 : Below w.heap.size w w1) (bx1 : BoxA w1 w.heap.size a n cap t f l) (hb2 : Below w1.heap.size w1 w2) (ow : w2.ownsRow w1.heap.size 88 2 (.slice aw N cw) N (L.map (Value.int .i64)))
    (hb4 : Below (w2.alloc (.cells #[.slice aw N cw] 36)).heap.size (w2.alloc (.cells #[.slice aw N cw] 36)) w4) (ox : w4.ownsRow (w2.alloc (.cells #[.slice aw N cw] 36)).heap.size 86 6 (.slice (some ⟨gx, 0, none⟩) n n) n (flatN ns))
    (hb6 : Below (w4.alloc (.cells #[.slice (some ⟨gx, 0, none⟩) n n, .int .i64 t, .int .i64 f, .int .i64 l] 43)).heap.size (w4.alloc (.cells #[.slice (some ⟨gx, 0, none⟩) n n, .int .i64 t, .int .i64 f, .int .i64 l] 43)) w6)
    (og : w6.ownsRow (w4.alloc (.cells #[.slice (some ⟨gx, 0, none⟩) n n, .int .i64 t, .int .i64 f, .int .i64 l] 43)).heap.size 88 2 (.slice ag N cg) N (L.map (Value.int .i64))) :
    ∃ S1 S2 S3, EInv w a n cap t f l S1 S2 S3 w2.heap.size aw N cw L w4.heap.size gx ns w6.heap.size ag cg L (w6.alloc (.cells #[.slice ag N cg] 36)) := by
  have T3 := al1 w2 (.cells #[.slice aw N cw] 36)
  have T5 := al1 w4 (.cells #[.slice (some ⟨gx, 0, none⟩) n n, .int .i64 t, .int .i64 f, .int .i64 l] 43)
  have T7 := al1 w6 (.cells #[.slice ag N cg] 36)
  have bx3 := (bx1.below hb2).below T3
  refine ⟨_, _, _,
    { inv := Inv3.start (below_trans' (below_trans' hA1 hb2) T3) ⟨⟨bx3, cell_at w2 _ _ 0 rfl rfl⟩, rowIn_of (ownsRow_below (own_mono ow hA1.size) T3) (Nat.le_refl _)⟩
        (((onlyB_box a n cap t f l (Nat.le_refl _) bx3.lt).and (onlyB_cell (Nat.le_trans hA1.size hb2.size) (by simp))).and (onlyB_row _ _ _ _ _ _ _))
        (below_trans' hb4 T5) ⟨boxA_new w4 _ _ _ _ _ _ 43 rfl, rowIn_of (ownsRow_below ox T5) (Nat.le_refl _)⟩ (onlyB_ar _ _ _ _ _ _ _ hb4.size (by simp))
        (below_trans' hb6 T7) ⟨cell_at w6 _ _ 0 rfl rfl, rowIn_of (ownsRow_below og T7) (Nat.le_refl _)⟩ ((onlyB_cell hb6.size (by simp)).and (onlyB_row _ _ _ _ _ _ _)),
      x1 := hb4.size, x2 := by simp, xr := fun k e => ⟨(ox.lt k e).1, by have := (ox.lt k e).2; simp; omega⟩, xn := fun k e => (ox.lt k e).2,
      gr := fun k e => ⟨(og.lt k e).1, by have := (og.lt k e).2; simp; omega⟩, gn := fun k e => (og.lt k e).2, g3 := ⟨hb6.size, by simp⟩ }⟩

end Go.Proofs.Ytklpdpdjblakgaa

/- InvM -/
namespace Go.Proofs.Ytklpdpdjblakgaa
open Go.RowKit
set_option linter.unusedVariables false




structure MInv (w : World) (a : Option Addr) (n cap : Nat) (aw : Option Addr) (Nw cw : Nat) (L : List Int) (B1 : Nat) (C V : Int) (gx B2 : Nat) (X : List Int) (ag : Option Addr) (Ng cg : Nat) (G : List Int) (B3 : Nat) (W : World) : Prop where
  bel : Below w.heap.size w W
  p : W.cell? ⟨w.heap.size, 0, none⟩ = some (.slice a n cap)
  lt0 : w.heap.size < B1
  ow : W.ownsRow (w.heap.size + 1) 88 2 (.slice aw Nw cw) Nw (L.map (Value.int .i64))
  owlt : ∀ k, (Value.slice aw Nw cw).ownBlock = some k → k < B1
  mw : W.cell? ⟨B1, 0, none⟩ = some (.slice aw Nw cw)
  r0 : W.cell? ⟨B1 + 1, 0, none⟩ = some (.int .i64 C)
  r1 : W.cell? ⟨B1 + 1, 1, none⟩ = some (.int .i64 V)
  lt1 : B1 + 1 < gx
  ox : W.ownsRow (w.heap.size + 1) 88 2 (.slice (some ⟨gx, 0, none⟩) n n) n (X.map (Value.int .i64))
  lt2 : gx < B2
  mx : W.cell? ⟨B2, 0, none⟩ = some (.slice (some ⟨gx, 0, none⟩) n n)
  og : W.ownsRow (B2 + 1) 88 2 (.slice ag Ng cg) Ng (G.map (Value.int .i64))
  oglt : ∀ k, (Value.slice ag Ng cg).ownBlock = some k → k < B3
  lt3 : B2 < B3
  mg : W.cell? ⟨B3, 0, none⟩ = some (.slice ag Ng cg)
  s0 : W.cell? ⟨B3 + 1, 0, none⟩ = some (.int .i64 C)
  s1 : W.cell? ⟨B3 + 1, 1, none⟩ = some (.int .i64 V)

section
variable {w : World} {a : Option Addr} {n cap : Nat} {aw : Option Addr} {Nw cw : Nat} {L : List Int} {B1 : Nat} {C V : Int} {gx B2 : Nat} {X : List Int} {ag : Option Addr} {Ng cg : Nat} {G : List Int} {B3 : Nat} {W W' : World}

theorem MInv.below (h : MInv w a n cap aw Nw cw L B1 C V gx B2 X ag Ng cg G B3 W) (hb : Below W.heap.size W W') : MInv w a n cap aw Nw cw L B1 C V gx B2 X ag Ng cg G B3 W' :=
  { bel := below_trans' h.bel hb, p := cell_kept hb h.p, lt0 := h.lt0, ow := ownsRow_below h.ow hb, owlt := h.owlt, mw := cell_kept hb h.mw, r0 := cell_kept hb h.r0, r1 := cell_kept hb h.r1, lt1 := h.lt1,
    ox := ownsRow_below h.ox hb, lt2 := h.lt2, mx := cell_kept hb h.mx, og := ownsRow_below h.og hb, oglt := h.oglt, lt3 := h.lt3, mg := cell_kept hb h.mg, s0 := cell_kept hb h.s0, s1 := cell_kept hb h.s1 }

theorem cell_grown {row : Option Nat} {b o : Nat} {v : Value} (hg : W.grownBy W' row) (h : W.cell? ⟨b, o, none⟩ = some v) (hne : ∀ k, row = some k → k ≠ b) : W'.cell? ⟨b, o, none⟩ = some v :=
  hg.cell h (fun e => hne b e.symm rfl)
theorem own_grown {row : Option Nat} {base : Nat} {e : TypeId} {size : Nat} {v : Value} {m : Nat} {xs : List Value} (hg : W.grownBy W' row) (h : W.ownsRow base e size v m xs) (hne : ∀ k j, row = some k → v.ownBlock = some j → k ≠ j) : W'.ownsRow base e size v m xs :=
  h.kept hg (by
    cases e : v.ownBlock with
    | none => exact .inl rfl
    | some j => exact .inr (fun e' => hne j j e'.symm e rfl))

theorem MInv.markX (h : MInv w a n cap aw Nw cw L B1 C V gx B2 X ag Ng cg G B3 W) {X' : List Int} (hg : W.grownBy W' (some gx)) (ho : W'.ownsRow (w.heap.size + 1) 88 2 (.slice (some ⟨gx, 0, none⟩) n n) n (X'.map (Value.int .i64))) :
    MInv w a n cap aw Nw cw L B1 C V gx B2 X' ag Ng cg G B3 W' := by
  have l0 := h.lt0
  have l1 := h.lt1
  have l2 := h.lt2
  have l3 := h.lt3
  exact
  { bel := h.bel.grown hg h.bel.size (fun k e => by cases e; omega), p := cell_grown hg h.p (fun k e => by cases e; omega), lt0 := h.lt0,
    ow := own_grown hg h.ow (fun k j e e' => by cases e; have := h.owlt _ e'; omega), owlt := h.owlt, mw := cell_grown hg h.mw (fun k e => by cases e; omega), r0 := cell_grown hg h.r0 (fun k e => by cases e; omega), r1 := cell_grown hg h.r1 (fun k e => by cases e; omega), lt1 := h.lt1,
    ox := ho, lt2 := h.lt2, mx := cell_grown hg h.mx (fun k e => by cases e; omega), og := own_grown hg h.og (fun k j e e' => by cases e; have := (h.og.lt _ e').1; omega), oglt := h.oglt, lt3 := h.lt3,
    mg := cell_grown hg h.mg (fun k e => by cases e; omega), s0 := cell_grown hg h.s0 (fun k e => by cases e; omega), s1 := cell_grown hg h.s1 (fun k e => by cases e; omega) }

theorem MInv.markG (h : MInv w a n cap aw Nw cw L B1 C V gx B2 X ag Ng cg G B3 W) {G' : List Int} (hg : W.grownBy W' (Value.slice ag Ng cg).ownBlock) (ho : W'.ownsRow (B2 + 1) 88 2 (.slice ag Ng cg) Ng (G'.map (Value.int .i64))) :
    MInv w a n cap aw Nw cw L B1 C V gx B2 X ag Ng cg G' B3 W' := by
  have l0 := h.lt0
  have l1 := h.lt1
  have l2 := h.lt2
  have l3 := h.lt3
  have lo : ∀ k, (Value.slice ag Ng cg).ownBlock = some k → B2 + 1 ≤ k ∧ k < B3 := fun k e => ⟨(h.og.lt _ e).1, h.oglt k e⟩
  exact
  { bel := h.bel.grown hg h.bel.size (fun k e => by have := lo k e; omega), p := cell_grown hg h.p (fun k e => by have := lo k e; omega), lt0 := h.lt0,
    ow := own_grown hg h.ow (fun k j e e' => by have := lo k e; have := h.owlt _ e'; omega), owlt := h.owlt, mw := cell_grown hg h.mw (fun k e => by have := lo k e; omega), r0 := cell_grown hg h.r0 (fun k e => by have := lo k e; omega), r1 := cell_grown hg h.r1 (fun k e => by have := lo k e; omega), lt1 := h.lt1,
    ox := own_grown hg h.ox (fun k j e e' => by have := lo k e; have e2 : gx = j := (by cases e'; rfl); omega), lt2 := h.lt2, mx := cell_grown hg h.mx (fun k e => by have := lo k e; omega), og := ho, oglt := h.oglt, lt3 := h.lt3,
    mg := cell_grown hg h.mg (fun k e => by have := lo k e; omega), s0 := cell_grown hg h.s0 (fun k e => by have := lo k e; omega), s1 := cell_grown hg h.s1 (fun k e => by have := lo k e; omega) }

end

/-- The facts behind the program's first call: all stands. -/
theorem minv_start {w w2 w4 w6 : World} {a : Option Addr} {n cap : Nat} {aw : Option Addr} {Nw cw : Nat} {L : List Int} {C V : Int} {X : List Int} {gx : Nat} {ag : Option Addr} {Ng cg : Nat} {b : Nat}
    (hb2 : Below w.heap.size w w2) (hp : w2.cell? ⟨w.heap.size, 0, none⟩ = some (.slice a n cap)) (hb : w.heap.size + 1 ≤ b) (ow : w2.ownsRow b 88 2 (.slice aw Nw cw) Nw (L.map (Value.int .i64)))
    (hb4 : Below ((w2.alloc (.cells #[.slice aw Nw cw] 36)).alloc (.cells #[.int .i64 C, .int .i64 V] 54)).heap.size ((w2.alloc (.cells #[.slice aw Nw cw] 36)).alloc (.cells #[.int .i64 C, .int .i64 V] 54)) w4)
    (hgx : ((w2.alloc (.cells #[.slice aw Nw cw] 36)).alloc (.cells #[.int .i64 C, .int .i64 V] 54)).heap.size ≤ gx)
    (ox : w4.ownsRow ((w2.alloc (.cells #[.slice aw Nw cw] 36)).alloc (.cells #[.int .i64 C, .int .i64 V] 54)).heap.size 88 2 (.slice (some ⟨gx, 0, none⟩) n n) n (X.map (Value.int .i64)))
    (og : w6.ownsRow (w4.alloc (.cells #[.slice (some ⟨gx, 0, none⟩) n n] 36)).heap.size 88 2 (.slice ag Ng cg) Ng (L.map (Value.int .i64)))
    (hb6 : Below (w4.alloc (.cells #[.slice (some ⟨gx, 0, none⟩) n n] 36)).heap.size (w4.alloc (.cells #[.slice (some ⟨gx, 0, none⟩) n n] 36)) w6) :
    MInv w a n cap aw Nw cw L w2.heap.size C V gx w4.heap.size X ag Ng cg L w6.heap.size ((w6.alloc (.cells #[.slice ag Ng cg] 36)).alloc (.cells #[.int .i64 C, .int .i64 V] 54)) := by
  have al : ∀ (W : World) (o : Obj), Below W.heap.size W (W.alloc o) := fun W o => (Below.refl _ _).alloc (Nat.le_refl _) o
  have T3 := below_trans' (al w6 (.cells #[.slice ag Ng cg] 36)) (al _ (.cells #[.int .i64 C, .int .i64 V] 54))
  have T2 := below_trans' (below_trans' (al w4 (.cells #[.slice (some ⟨gx, 0, none⟩) n n] 36)) hb6) T3
  have T1 := below_trans' hb4 T2
  have T0 := below_trans' (below_trans' (al w2 (.cells #[.slice aw Nw cw] 36)) (al _ (.cells #[.int .i64 C, .int .i64 V] 54))) T1
  have hplt := World.block_lt_of_cell? w2 ⟨w.heap.size, 0, none⟩ hp
  have s4 := hb4.size
  have s6 := hb6.size
  have hx := ox.lt _ rfl
  simp at s4 s6 hgx hx hplt
  exact
    { bel := below_trans' hb2 T0, p := cell_kept T0 hp, lt0 := hplt, ow := own_mono (ownsRow_below ow T0) hb, owlt := fun k e => (ow.lt k e).2,
      mw := cell_kept T1 (cell_kept (al _ _) (cell_at w2 _ _ 0 rfl rfl)), r0 := cell_kept T1 (cell_at (w2.alloc _) _ _ 0 (by simp) rfl), r1 := cell_kept T1 (cell_at (w2.alloc _) _ _ 1 (by simp) rfl),
      lt1 := by omega, ox := own_mono (ownsRow_below ox T2) (by simp; omega), lt2 := by omega, mx := cell_kept (below_trans' hb6 T3) (cell_at w4 _ _ 0 rfl rfl),
      og := own_mono (ownsRow_below og T3) (by simp), oglt := fun k e => (og.lt k e).2, lt3 := by omega,
      mg := cell_kept (al _ _) (cell_at w6 _ _ 0 rfl rfl), s0 := cell_at (w6.alloc _) _ _ 0 (by simp) rfl, s1 := cell_at (w6.alloc _) _ _ 1 (by simp) rfl }

end Go.Proofs.Ytklpdpdjblakgaa

/- Draw -/
namespace Go.Proofs.Ytklpdpdjblakgaa
open Go.RowKit
set_option linter.unusedVariables false

/-- The slice of length n at a reads as some bytes. -/
def SBytes (w : World) (a : Option Addr) (n : Nat) : Prop :=
  n = 0 ∨ ∃ b off, a = some ⟨b, off, none⟩ ∧ ∀ i, i < n → ∃ x : Int, 0 ≤ x ∧ x ≤ 255 ∧ w.cell? ⟨b, off + i, none⟩ = some (.int .u8 x)

/-- What pick does to the world. -/
def Picked (R : Nat) (q : Nat) (w w' : World) : Prop := w'.heap = (w.setCell ⟨R, 1, none⟩ (.int .i64 q)).heap ∧ Below R w w'

theorem picked_mk (R q : Nat) (w : World) : Picked R q w (w.setCell ⟨R, 1, none⟩ (.int .i64 q)) := ⟨rfl, (Below.refl R w).setCell (p := ⟨R, 1, none⟩) (Nat.le_refl _) _⟩

theorem Picked.drewN {R q : Nat} {w w' : World} (h : Picked R q w w') (n : Nat) : Picked R q w (w'.drewN n) := by
  obtain ⟨h1, h2⟩ := h
  exact ⟨h1, ⟨h2.os, h2.tape, h2.output, h2.size, h2.block⟩⟩

theorem wrap_i64_small (n : Int) (h0 : 0 ≤ n) (h1 : n < 9223372036854775808) : IntKind.i64.wrap n = n := by
  simp [IntKind.wrap, IntKind.bits, IntKind.signed]
  omega

theorem xor_i64_pos (X Y : Int) (h0 : 0 ≤ X) (h1 : X < 9223372036854775808) (h2 : 0 ≤ Y) (h3 : Y < 9223372036854775808) : 0 ≤ bits .xor .i64 X Y := by
  obtain ⟨a, rfl⟩ := Int.eq_ofNat_of_zero_le h0
  obtain ⟨b, rfl⟩ := Int.eq_ofNat_of_zero_le h2
  have hx : a ^^^ b < 2 ^ 63 := Nat.xor_lt_two_pow (by omega) (by omega)
  have e1 : (BitVec.ofInt 64 (a : Int)).toNat = a := by
    rw [BitVec.ofInt_natCast, BitVec.toNat_ofNat]; exact Nat.mod_eq_of_lt (by omega)
  have e2 : (BitVec.ofInt 64 (b : Int)).toNat = b := by
    rw [BitVec.ofInt_natCast, BitVec.toNat_ofNat]; exact Nat.mod_eq_of_lt (by omega)
  show 0 ≤ IntKind.i64.wrap ((BitVec.ofInt 64 (a : Int) ^^^ BitVec.ofInt 64 (b : Int)).toNat : Int)
  rw [BitVec.toNat_xor, e1, e2, wrap_i64_small _ (by omega) (by omega)]
  omega

theorem tmod_in {x n : Int} (h0 : 0 ≤ x) (hn : 1 ≤ n) : 0 ≤ x.tmod n ∧ x.tmod n < n :=
  ⟨Int.tmod_nonneg _ h0, Int.tmod_lt_of_pos _ (by omega)⟩

/-- What pick answers. -/
def Picks (R p : Nat) (n : Int) (w : World) (e : Ending) (w' : World) : Prop := ∃ k : Int, (0 ≤ k ∧ k < n) ∧ e = .returned (.int .i64 k) ∧ Picked R (p + 1) w w'

theorem heap_picked {w w' : World} {R q g : Nat} (h : Picked R q w w') (hg : g ≠ R) : w'.heap[g]? = w.heap[g]? := by
  rw [h.1]
  simp [World.setCell, Array.getElem?_modify, Ne.symm hg]

/-- What odd answers. -/
def Odds (R p : Nat) (w : World) (e : Ending) (w' : World) : Prop := ∃ k : Bool, e = .returned (.bool k) ∧ Picked R (p + 1) w w'

end Go.Proofs.Ytklpdpdjblakgaa

/- RegInv -/
namespace Go.Proofs.Ytklpdpdjblakgaa
set_option linter.unusedVariables false

section
variable {P : Program} {ops : Array Oper} {Q : Exit → Act → World → Prop} {md : Region.Mode}

/-- What those that have come up leave, in the operations' order. -/
def putsF (vs : Nat → Option Value) : Nat → List Oper → Act → Act
  | _, [], a => a
  | i, o :: os, a => putsF vs (i + 1) os (match vs i with | some v => a.put o.dst v | none => a)
/-- One more has come up. -/
def updF (vs : Nat → Option Value) (i : Nat) (v : Value) : Nat → Option Value := fun j => if j = i then some v else vs j

theorem updF_same (vs : Nat → Option Value) (i : Nat) (v : Value) : updF vs i v i = some v := by simp [updF]
theorem updF_other (vs : Nat → Option Value) {i j : Nat} (v : Value) (h : j ≠ i) : updF vs i v j = vs j := by simp [updF, h]

theorem putsF_congr {vs us : Nat → Option Value} : ∀ (os : List Oper) (n : Nat) (a : Act), (∀ j, n ≤ j → vs j = us j) → putsF vs n os a = putsF us n os a
  | [], _, _, _ => rfl
  | o :: os, n, a, h => by
    unfold putsF
    rw [h n (Nat.le_refl _)]
    exact putsF_congr os (n + 1) _ (fun j hj => h j (by omega))

theorem putsF_put {vs : Nat → Option Value} {x : Option Tmp} {v : Value} : ∀ (os : List Oper) (n : Nat) (a : Act), (∀ o ∈ os, ∀ d, x = some d → o.dst ≠ some d) → putsF vs n os (a.put x v) = (putsF vs n os a).put x v
  | [], _, _, _ => rfl
  | o :: os, n, a, h => by
    unfold putsF
    have ih := fun b => putsF_put (vs := vs) (v := v) os (n + 1) b (fun o' ho' => h o' (List.mem_cons_of_mem _ ho'))
    cases vs n with
    | none => exact ih a
    | some u =>
      show putsF vs (n + 1) os ((a.put x v).put o.dst u) = _
      rw [Act.put_comm a v u (h o (List.mem_cons_self ..))]
      exact ih _

theorem putsF_upd {vs : Nat → Option Value} {v : Value} : ∀ (os : List Oper) (n i : Nat) (o : Oper) (a : Act), os[i]? = some o → vs (n + i) = none →
    (∀ (k : Nat) (o' : Oper), os[k]? = some o' → k ≠ i → ∀ d, o.dst = some d → o'.dst ≠ some d) → putsF (updF vs (n + i) v) n os a = (putsF vs n os a).put o.dst v
  | [], _, _, _, _, h, _, _ => by simp at h
  | o' :: os, n, 0, o, a, h, hn, hd => by
    obtain rfl : o' = o := by simpa using h
    unfold putsF
    rw [Nat.add_zero, updF_same]
    rw [Nat.add_zero] at hn
    rw [hn]
    show putsF _ (n + 1) os (a.put o'.dst v) = _
    rw [putsF_congr (us := vs) os (n + 1) _ (fun j hj => updF_other vs v (by omega))]
    exact putsF_put os (n + 1) a (fun x hx d e => by
      obtain ⟨k, hk, rfl⟩ := List.mem_iff_getElem.1 hx
      exact hd (k + 1) os[k] (by simp [hk]) (by omega) d e)
  | o' :: os, n, i + 1, o, a, h, hn, hd => by
    unfold putsF
    rw [updF_other vs v (show n ≠ n + (i + 1) by omega), show n + (i + 1) = n + 1 + i by omega]
    exact putsF_upd os (n + 1) i o _ (by simpa using h) (by rw [show n + 1 + i = n + (i + 1) by omega]; exact hn) (fun k o'' hk hne => hd (k + 1) o'' (by simpa using hk) (by omega))

theorem putsF_size {vs : Nat → Option Value} : ∀ (os : List Oper) (n : Nat) (a : Act), (putsF vs n os a).tmps.size = a.tmps.size
  | [], _, _ => rfl
  | o :: os, n, a => by
    unfold putsF
    rw [putsF_size os (n + 1)]
    cases vs n with
    | none => rfl
    | some u => cases o.dst <;> simp [Act.put]

theorem putsF_other {vs : Nat → Option Value} {d : Tmp} : ∀ (os : List Oper) (n : Nat) (a : Act), (∀ o ∈ os, o.dst ≠ some d) → (putsF vs n os a).eval (.tmp d) = a.eval (.tmp d)
  | [], _, _, _ => rfl
  | o :: os, n, a, h => by
    unfold putsF
    rw [putsF_other os (n + 1) _ (fun o' ho' => h o' (List.mem_cons_of_mem _ ho'))]
    cases vs n with
    | none => rfl
    | some u => exact Act.eval_put (fun x hx e => by cases e; exact h o (List.mem_cons_self ..) hx)

theorem putsF_at {vs : Nat → Option Value} {v : Value} {d : Tmp} : ∀ (os : List Oper) (n j : Nat) (o : Oper) (a : Act), os[j]? = some o → o.dst = some d → vs (n + j) = some v → d < a.tmps.size →
    (∀ (k : Nat) (o' : Oper), os[k]? = some o' → k ≠ j → o'.dst ≠ some d) → (putsF vs n os a).eval (.tmp d) = v
  | [], _, _, _, _, h, _, _, _, _ => by simp at h
  | o' :: os, n, 0, o, a, h, hd, hv, hs, hne => by
    obtain rfl : o' = o := by simpa using h
    unfold putsF
    rw [Nat.add_zero] at hv
    rw [hv, putsF_other os (n + 1) _ (fun x hx => by
      obtain ⟨k, hk, rfl⟩ := List.mem_iff_getElem.1 hx
      exact hne (k + 1) os[k] (by simp [hk]) (by omega))]
    simp [Act.put, Act.eval, hd, hs]
  | o' :: os, n, j + 1, o, a, h, hd, hv, hs, hne => by
    unfold putsF
    refine putsF_at os (n + 1) j o _ (by simpa using h) hd (by rw [show n + 1 + j = n + (j + 1) by omega]; exact hv) ?_ (fun k o'' hk hkj => hne (k + 1) o'' (by simpa using hk) (by omega))
    cases vs n with
    | none => exact hs
    | some u => cases hx : o'.dst <;> simp [Act.put, hs]

/-- How many of the first m have not come up. -/
def leftF (vs : Nat → Option Value) : Nat → Nat
  | 0 => 0
  | m + 1 => leftF vs m + (if (vs m).isSome then 0 else 1)
theorem leftF_upd {vs : Nat → Option Value} {i : Nat} {v : Value} (hn : vs i = none) : ∀ m, leftF (updF vs i v) m + (if i < m then 1 else 0) = leftF vs m
  | 0 => by simp [leftF]
  | m + 1 => by
    unfold leftF
    have ih := leftF_upd (v := v) hn m
    by_cases e : m = i
    · subst e
      rw [updF_same, hn]
      simp at ih ⊢
      omega
    · rw [updF_other vs v e]
      by_cases h : i < m
      · rw [if_pos h] at ih
        rw [if_pos (show i < m + 1 by omega)]
        omega
      · rw [if_neg h] at ih
        rw [if_neg (show ¬ i < m + 1 by omega)]
        omega
theorem leftF_zero {vs : Nat → Option Value} : ∀ m, leftF vs m = 0 → ∀ i, i < m → (vs i).isSome = true
  | 0, _, i, hi => by omega
  | m + 1, h, i, hi => by
    unfold leftF at h
    by_cases e : i = m
    · subst e
      by_cases hs : (vs i).isSome = true
      · exact hs
      · rw [if_neg hs] at h; omega
    · exact leftF_zero m (by omega) i (by omega)
theorem leftF_some {vs : Nat → Option Value} : ∀ m, (∀ i, i < m → (vs i).isSome = true) → leftF vs m = 0
  | 0, _ => rfl
  | m + 1, h => by
    unfold leftF
    rw [leftF_some m (fun i hi => h i (by omega)), if_pos (h m (by omega))]
/-- Of those that have not come up there is a first one. -/
theorem leftF_first {vs : Nat → Option Value} : ∀ m, leftF vs m ≠ 0 → ∃ i, i < m ∧ vs i = none ∧ ∀ j, j < i → (vs j).isSome = true
  | 0, h => absurd rfl h
  | m + 1, h => by
    by_cases h0 : leftF vs m = 0
    · refine ⟨m, by omega, ?_, leftF_zero m h0⟩
      unfold leftF at h
      cases hv : vs m with
      | none => rfl
      | some v => rw [hv] at h; simp at h; omega
    · obtain ⟨i, hi, hn, hj⟩ := leftF_first m h0
      exact ⟨i, by omega, hn, hj⟩

/-- No two leave what they leave in one temporary; all have room. -/
def dstsOk (n : Nat) : List Oper → Bool
  | [] => true
  | o :: os => (match o.dst with | none => true | some d => decide (d < n) && os.all (fun x => x.dst != some d)) && dstsOk n os
theorem dstsOk_ne {n : Nat} : ∀ {os : List Oper}, dstsOk n os = true → ∀ (i j : Nat) (o o' : Oper) (d : Tmp), os[i]? = some o → os[j]? = some o' → i < j → o.dst = some d → o'.dst ≠ some d
  | [], _, _, _, _, _, _, h, _, _, _ => by simp at h
  | x :: os, h, 0, j + 1, o, o', d, hi, hj, _, hd => by
    obtain rfl : x = o := by simpa using hi
    unfold dstsOk at h
    rw [hd] at h
    simp only [Bool.and_eq_true, List.all_eq_true] at h
    have := h.1.2 o' (List.mem_of_getElem? (i := j) (by simpa using hj))
    simpa using this
  | x :: os, h, i + 1, j + 1, o, o', d, hi, hj, hij, hd => by
    unfold dstsOk at h
    simp only [Bool.and_eq_true] at h
    exact dstsOk_ne h.2 i j o o' d (by simpa using hi) (by simpa using hj) (by omega) hd
  | x :: os, h, i, 0, o, o', d, hi, hj, hij, hd => by omega
theorem dstsOk_lt {n : Nat} : ∀ {os : List Oper}, dstsOk n os = true → ∀ (i : Nat) (o : Oper) (d : Tmp), os[i]? = some o → o.dst = some d → d < n
  | [], _, _, _, _, h, _ => by simp at h
  | x :: os, h, 0, o, d, hi, hd => by
    obtain rfl : x = o := by simpa using hi
    unfold dstsOk at h
    rw [hd] at h
    simp only [Bool.and_eq_true, decide_eq_true_eq] at h
    exact h.1.1
  | x :: os, h, i + 1, o, d, hi, hd => by
    unfold dstsOk at h
    simp only [Bool.and_eq_true] at h
    exact dstsOk_lt h.2 i o d (by simpa using hi) hd

/-- The first m: no guard, each waits for earlier ones alone; all others wait for all of these. -/
def frontOk (md : Region.Mode) (m : Nat) (ops : Array Oper) : Bool :=
  (List.range ops.size).all fun i => match ops[i]? with
    | none => true
    | some o => if i < m then o.guard.isNone && o.after.toList.all (fun e => !(Region.binds md e) || decide (e.on < i)) else (List.range m).all (fun j => o.after.toList.any (fun e => e.on == j && Region.binds md e))

theorem frontOk_near {m : Nat} (h : frontOk md m ops = true) {i : Nat} {o : Oper} (ho : ops[i]? = some o) (hi : i < m) : o.guard = none ∧ ∀ e ∈ o.after, Region.binds md e = true → e.on < i := by
  have := List.all_eq_true.1 h i (List.mem_range.2 (Array.getElem?_eq_some_iff.1 ho).1)
  rw [ho] at this
  simp only [hi, if_true, Bool.and_eq_true, Option.isNone_iff_eq_none, List.all_eq_true, Bool.or_eq_true, Bool.not_eq_true', decide_eq_true_eq] at this
  exact ⟨this.1, fun e he hb => (this.2 e (by simpa using he)).resolve_left (by simp [hb])⟩
theorem frontOk_far {m : Nat} (h : frontOk md m ops = true) {i : Nat} {o : Oper} (ho : ops[i]? = some o) (hi : ¬ i < m) {j : Nat} (hj : j < m) : ∃ e ∈ o.after, e.on = j ∧ Region.binds md e = true := by
  have := List.all_eq_true.1 h i (List.mem_range.2 (Array.getElem?_eq_some_iff.1 ho).1)
  rw [ho] at this
  simp only [hi, if_false, List.all_eq_true, List.any_eq_true, Bool.and_eq_true, beq_iff_eq] at this
  obtain ⟨e, he, h1, h2⟩ := this j (List.mem_range.2 hj)
  exact ⟨e, by simpa using he, h1, h2⟩

theorem wanted_plain {o : Oper} (h : o.guard = none) (f : Nat → Option Bool) : Region.wanted o f = true := by
  unfold Region.wanted
  rw [h]

theorem wpAny_front {a0 : Act} {m : Nat} {I : Nat → World → Prop} {V : Nat → Value → World → Prop} {T : World → World → Prop}
    (hm : m ≤ ops.size) (hf : frontOk md m ops = true) (hd : dstsOk a0.tmps.size ops.toList = true) (hT : ∀ i v w w', V i v w → T w w' → V i v w')
    (hop : ∀ (i : Nat) (o : Oper) (f : Nat) (a : Act) (w : World), i < m → ops[i]? = some o → I (f + 1) w →
      (∀ e ∈ o.after, Region.binds md e = true → ∀ oj, ops[e.on]? = some oj → ∃ v, V e.on v w ∧ ∀ d, oj.dst = some d → a.eval (.tmp d) = v) →
      (∀ d, (∀ oj ∈ ops.toList, oj.dst ≠ some d) → a.eval (.tmp d) = a0.eval (.tmp d)) → Oper.wp P o a w (fun a' w' => ∃ v, a' = a.put o.dst v ∧ V i v w' ∧ I f w' ∧ T w w') Q)
    (hend : ∀ (vs : Nat → Option Value) (w : World), (∀ i, i < m → ∃ v, vs i = some v ∧ V i v w) → (∀ i, m ≤ i → vs i = none) → I 0 w →
      wpAny P md ops Q (ops.size - m) ((List.replicate m true ++ List.replicate (ops.size - m) false).toArray) (putsF vs 0 ops.toList a0) w) :
    ∀ (r : Nat) (vs : Nat → Option Value) (listed : Array Bool) (w : World), leftF vs m = r → listed.size = ops.size → (∀ i, i < ops.size → listed[i]? = some (vs i).isSome) → (∀ i v, vs i = some v → V i v w) → (∀ i, m ≤ i → vs i = none) → I r w →
      wpAny P md ops Q (r + (ops.size - m)) listed (putsF vs 0 ops.toList a0) w := by
  intro r
  induction r with
  | zero =>
    intro vs listed w hr hsz hl hV hlate hI
    have hall := leftF_zero m hr
    have el : listed = (List.replicate m true ++ List.replicate (ops.size - m) false).toArray := by
      refine Array.ext_getElem? (fun i => ?_)
      by_cases hi : i < ops.size
      · rw [hl i hi]
        rw [List.getElem?_toArray]
        by_cases him : i < m
        · rw [hall i him, List.getElem?_append_left (by simp; exact him), List.getElem?_replicate, if_pos him]
        · rw [hlate i (by omega), List.getElem?_append_right (by simp; omega), List.getElem?_replicate, if_pos (by simp; omega)]
          rfl
      · rw [Array.getElem?_eq_none (by omega), Array.getElem?_eq_none (by simp; omega)]
    rw [el, Nat.zero_add]
    refine hend vs w (fun i hi => ?_) hlate hI
    cases hv : vs i with
    | none => have := hall i hi; rw [hv] at this; simp at this
    | some v => exact ⟨v, rfl, hV i v hv⟩
  | succ r ih =>
    intro vs listed w hr hsz hl hV hlate hI
    have hg : ∀ i, i < ops.size → ∀ b, listed.getD i b = (vs i).isSome := fun i hi b => by simp [Array.getD_eq_getD_getElem?, hl i hi]
    have hup : ∀ i b, ¬ i < ops.size → listed.getD i b = b := fun i b hi => by simp [Array.getD_eq_getD_getElem?, Array.getElem?_eq_none (show listed.size ≤ i by omega)]
    rw [show r + 1 + (ops.size - m) = (r + (ops.size - m)) + 1 by omega]
    refine ⟨fun h0 => ?_, fun i hi => ?_⟩
    · exfalso
      obtain ⟨i, him, hn, hj⟩ := leftF_first (vs := vs) m (by omega)
      have hlt : i < ops.size := by omega
      have hmem : i ∈ Region.ready md ops listed := by
        refine mem_ready.2 ⟨by rw [hg i hlt, hn]; rfl, ops[i], Array.getElem?_eq_getElem hlt, fun e he hb => ?_⟩
        have hlt2 := (frontOk_near hf (Array.getElem?_eq_getElem hlt) him).2 e he hb
        rw [hg e.on (by omega)]
        exact hj e.on hlt2
      rw [h0] at hmem
      cases hmem
    · obtain ⟨hun, o, ho, hall⟩ := mem_ready.1 hi
      have hlt : i < ops.size := (Array.getElem?_eq_some_iff.1 ho).1
      have hn : vs i = none := by
        rw [hg i hlt] at hun
        cases hv : vs i with
        | none => rfl
        | some v => rw [hv] at hun; simp at hun
      have him : i < m := by
        refine Decidable.byContradiction fun hnm => ?_
        have : leftF vs m = 0 := leftF_some m (fun j hj => by
          obtain ⟨e, he, rfl, hb⟩ := frontOk_far hf ho hnm hj
          have := hall e he hb
          rwa [hg e.on (by omega)] at this)
        omega
      have hne : ∀ (k : Nat) (o' : Oper), ops.toList[k]? = some o' → k ≠ i → ∀ d, o.dst = some d → o'.dst ≠ some d := fun k o' hk hki d hdd hdk => by
        have ho' : ops.toList[i]? = some o := by rw [Array.getElem?_toList]; exact ho
        rcases Nat.lt_or_gt_of_ne hki with h | h
        · exact dstsOk_ne hd k i o' o d hk ho' h hdk hdd
        · exact dstsOk_ne hd i k o o' d ho' hk h hdd hdk
      have hstep := hop i o r (putsF vs 0 ops.toList a0) w him ho hI (fun e he hb oj hoj => ?_) (fun d hdd => putsF_other _ 0 a0 hdd)
      · have hlu := leftF_upd (v := undef) hn m
        rw [if_pos him] at hlu
        have go : ∀ a' w', (∃ v, a' = (putsF vs 0 ops.toList a0).put o.dst v ∧ V i v w' ∧ I r w' ∧ T w w') → wpAny P md ops Q (r + (ops.size - m)) (listed.setIfInBounds i true) a' w' := by
          rintro a' w' ⟨v, rfl, hv, hI', hTw⟩
          have e := putsF_upd (vs := vs) (v := v) ops.toList 0 i o a0 (by rw [Array.getElem?_toList]; exact ho) (by rw [Nat.zero_add]; exact hn) hne
          rw [Nat.zero_add] at e
          rw [← e]
          refine ih (updF vs i v) _ w' ?_ (by simp [hsz]) (fun j hj => ?_) (fun j u hu => ?_) (fun j hj => ?_) hI'
          · have := leftF_upd (v := v) hn m
            rw [if_pos him] at this
            omega
          · by_cases hji : j = i
            · subst hji
              rw [updF_same, Array.getElem?_setIfInBounds_self_of_lt (by omega)]
              rfl
            · rw [updF_other vs v hji, Array.getElem?_setIfInBounds_ne (by omega)]
              exact hl j hj
          · by_cases hji : j = i
            · subst hji
              rw [updF_same] at hu
              cases hu
              exact hv
            · rw [updF_other vs v hji] at hu
              exact hT j u w w' (hV j u hu) hTw
          · rw [updF_other vs v (by omega)]
            exact hlate j hj
        have hw : wpOp P ops Q i (fun a' w' => ∃ v, a' = (putsF vs 0 ops.toList a0).put o.dst v ∧ V i v w' ∧ I r w' ∧ T w w') (putsF vs 0 ops.toList a0) w := by
          unfold wpOp
          rw [ho]
          simp only [wanted_plain (frontOk_near hf ho him).1, if_true]
          exact .inl hstep
        exact wpOp_mono go hw
      · have hlt2 : e.on < ops.size := (Array.getElem?_eq_some_iff.1 hoj).1
        have hs := hall e he hb
        rw [hg e.on hlt2] at hs
        cases hv : vs e.on with
        | none => rw [hv] at hs; simp at hs
        | some v =>
          refine ⟨v, hV e.on v hv, fun d hdd => ?_⟩
          have hoj' : ops.toList[e.on]? = some oj := by rw [Array.getElem?_toList]; exact hoj
          exact putsF_at ops.toList 0 e.on oj a0 hoj' hdd (by rw [Nat.zero_add]; exact hv) (dstsOk_lt hd e.on oj d hoj' hdd) (fun k o' hk hkj hdk => by
            rcases Nat.lt_or_gt_of_ne hkj with h | h
            · exact dstsOk_ne hd k e.on o' oj d hk hoj' h hdk hdd
            · exact dstsOk_ne hd e.on k oj o' d hoj' hk h hdd hdk)

theorem region_inv {a0 : Act} {m id : Nat} {I : Nat → World → Prop} {V : Nat → Value → World → Prop} {T : World → World → Prop} {w : World} (hmo : P.follows .mixedOrders = true)
    (hm : m ≤ ops.size) (hf : frontOk .any m ops = true) (hd : dstsOk a0.tmps.size ops.toList = true) (hT : ∀ i v w w', V i v w → T w w' → V i v w') (hI : I m w.drew)
    (hop : ∀ (i : Nat) (o : Oper) (f : Nat) (a : Act) (w : World), i < m → ops[i]? = some o → I (f + 1) w →
      (∀ e ∈ o.after, Region.binds .any e = true → ∀ oj, ops[e.on]? = some oj → ∃ v, V e.on v w ∧ ∀ d, oj.dst = some d → a.eval (.tmp d) = v) →
      (∀ d, (∀ oj ∈ ops.toList, oj.dst ≠ some d) → a.eval (.tmp d) = a0.eval (.tmp d)) → Oper.wp P o a w (fun a' w' => ∃ v, a' = a.put o.dst v ∧ V i v w' ∧ I f w' ∧ T w w') Q)
    (hend : ∀ (vs : Nat → Option Value) (w : World), (∀ i, i < m → ∃ v, vs i = some v ∧ V i v w) → (∀ i, m ≤ i → vs i = none) → I 0 w →
      wpAny P .any ops Q (ops.size - m) ((List.replicate m true ++ List.replicate (ops.size - m) false).toArray) (putsF vs 0 ops.toList a0) w) :
    (Code.region id ops true).wp P Q a0 w := by
  have none_left : ∀ k, leftF (fun _ => none) k = k := fun k => by
    induction k with
    | zero => rfl
    | succ k ih => unfold leftF; rw [ih]; rfl
  have none_put : ∀ (os : List Oper) (n : Nat), putsF (fun _ => none) n os a0 = a0 := fun os => by
    induction os with
    | nil => intro n; rfl
    | cons o os ih => intro n; exact ih (n + 1)
  have := wpAny_front (P := P) (Q := Q) hm hf hd hT hop hend m (fun _ => none) (Array.replicate ops.size false) w.drew (none_left m) (by simp) (fun i hi => by simp [hi]) (fun i v h => by cases h) (fun _ _ => rfl) hI
  rw [none_put, show m + (ops.size - m) = ops.size by omega] at this
  exact wp_region_any hmo this

end

end Go.Proofs.Ytklpdpdjblakgaa

/- KB -/
namespace Go.Proofs.Ytklpdpdjblakgaa
open Go.RowKit
set_option linter.unusedVariables false
set_option linter.unusedSimpArgs false


theorem picked_size' {R q : Nat} {w w' : World} (h : Picked R q w w') : w'.heap.size = w.heap.size := by
  rw [h.1]
  simp

/-- A row stays where its block does. -/
theorem own_block {W W' : World} {b n : Nat} {e : TypeId} {sz : Nat} {v : Value} {xs : List Value} (h : W.ownsRow b e sz v n xs) (hb : ∀ g, v.ownBlock = some g → W'.heap[g]? = W.heap[g]?) : W'.ownsRow b e sz v n xs := by
  refine ⟨h.1, ?_⟩
  rcases h.2 with h2 | ⟨g, cap, cur, hv, hg, hh, r⟩
  · exact .inl h2
  · exact .inr ⟨g, cap, cur, hv, hg, (hb g (by subst hv; rfl)).trans hh, r⟩

theorem own_typed {W : World} {b n : Nat} {e : TypeId} {sz : Nat} {v : Value} {xs : List Value} (h : W.ownsRow b e sz v n xs) {g : Nat} (hg : v.ownBlock = some g) : b ≤ g ∧ g < W.heap.size ∧ ∃ cur, W.heap[g]? = some (.cells cur e) := by
  have hl := h.lt g hg
  rcases h.2 with ⟨rfl, _⟩ | ⟨g', cap, cur, rfl, _, hh, _⟩
  · cases hg
  · obtain rfl : g' = g := Option.some.inj hg
    exact ⟨hl.1, hl.2, cur, hh⟩

theorem cells_type {a b : Array Value} {s t : TypeId} {o : Option Obj} (h1 : o = some (.cells a s)) (h2 : o = some (.cells b t)) : s = t := by
  rw [h1] at h2
  injection h2 with h
  injection h

def Lit (B : Nat) (W : World) (g n : Nat) : Prop := B ≤ g ∧ ∃ xs : List Int, xs.length = n ∧ W.heap[g]? = some (.cells (xs.map (Value.int .i64)).toArray 3)

theorem Lit.cell {B : Nat} {W : World} {g n : Nat} (h : Lit B W g n) {k : Nat} (hk : k < n) : ∃ x : Int, W.cell? ⟨g, k, none⟩ = some (.int .i64 x) := by
  obtain ⟨hb, xs, hx, hh⟩ := h
  refine ⟨xs.getD k 0, ?_⟩
  have : k < xs.length := by omega
  simp [World.cell?, hh, List.getD, this]

theorem dst_none {ops : List Oper} {d : Tmp} (h : ops.all (fun o => o.dst != some d) = true) : ∀ o ∈ ops, o.dst ≠ some d := fun o ho e => by
  have := List.all_eq_true.1 h o ho
  simp [e] at this
theorem lt25 {i : Nat} (h : i < 25) : i = 0 ∨ i = 1 ∨ i = 2 ∨ i = 3 ∨ i = 4 ∨ i = 5 ∨ i = 6 ∨ i = 7 ∨ i = 8 ∨ i = 9 ∨ i = 10 ∨ i = 11 ∨ i = 12 ∨ i = 13 ∨ i = 14 ∨ i = 15 ∨ i = 16 ∨ i = 17 ∨ i = 18 ∨ i = 19 ∨ i = 20 ∨ i = 21 ∨ i = 22 ∨ i = 23 ∨ i = 24 := by omega
theorem cell_block0 {W : World} {g : Nat} {x : Value} {xs : List Value} {t : TypeId} (h : W.heap[g]? = some (.cells ⟨x :: xs⟩ t)) : W.cell? ⟨g, 0, none⟩ = some x := by simp [World.cell?, h]
theorem cell_block1 {W : World} {g : Nat} {x y : Value} {xs : List Value} {t : TypeId} (h : W.heap[g]? = some (.cells ⟨x :: y :: xs⟩ t)) : W.cell? ⟨g, 1, none⟩ = some y := by simp [World.cell?, h]
theorem frozen_block {W : World} {g : Nat} {xs : Array Value} {t : TypeId} (h : W.heap[g]? = some (.cells xs t)) (j : Nat) : W.frozen? ⟨g, j, none⟩ = false := by simp [World.frozen?, h]

theorem new_block (W : World) (o : Obj) : (W.alloc o).heap[W.heap.size]? = some o := by
  show (W.heap.push _)[W.heap.size]? = _
  simp

theorem eval_tmp {a : Act} {d : Tmp} {v : Value} (h : a.eval (.tmp d) = v) : a.tmps[d]?.getD undef = v := by
  rw [← h]
  simp [Act.eval]

theorem lit_new (W : World) (xs : List Int) {k : Nat} (hk : k < xs.length) : ∃ x : Int, (W.alloc (.cells (xs.map (Value.int .i64)).toArray 3)).cell? ⟨W.heap.size, k, none⟩ = some (.int .i64 x) :=
  ⟨xs.getD k 0, by rw [World.cell?_alloc_new]; simp [hk, List.getD]⟩

theorem sbytes_below {w w' : World} {a : Option Addr} {n : Nat} (h : SBytes w a n) (hb : Below w.heap.size w w') : SBytes w' a n := by
  rcases h with h0 | ⟨b, off, ha, hc⟩
  · exact .inl h0
  · refine .inr ⟨b, off, ha, fun i hi => ?_⟩
    obtain ⟨x, x0, x1, hx⟩ := hc i hi
    exact ⟨x, x0, x1, cell_kept hb hx⟩


end Go.Proofs.Ytklpdpdjblakgaa

/- LinB -/
namespace Go.Proofs.Ytklpdpdjblakgaa
open Go.RowKit
set_option linter.unusedVariables false





theorem RowIn.mono {lo hi lo' hi' : Nat} {e : TypeId} {sz : Nat} {v : Value} {n : Nat} {xs : List Value} {W : World} (h : RowIn lo hi e sz v n xs W) (h1 : lo' ≤ lo) (h2 : hi ≤ hi') : RowIn lo' hi' e sz v n xs W :=
  ⟨own_mono h.1 h1, fun k hk => Nat.lt_of_lt_of_le (h.2 k hk) h2⟩

/-- Just blocks from lo to hi have turned. -/
structure TurnIn (lo hi : Nat) (w w' : World) : Prop where
  os : w'.os = w.os
  tape : w'.tape = w.tape
  output : w'.output = w.output
  size : w.heap.size ≤ w'.heap.size
  block : ∀ k, k < w.heap.size → (k < lo ∨ hi ≤ k) → w'.heap[k]? = w.heap[k]?
theorem TurnIn.trans {lo hi : Nat} {w w1 w2 : World} (h : TurnIn lo hi w w1) (k : TurnIn lo hi w1 w2) : TurnIn lo hi w w2 :=
  ⟨k.os.trans h.os, k.tape.trans h.tape, k.output.trans h.output, Nat.le_trans h.size k.size, fun i hi ho => (k.block i (Nat.lt_of_lt_of_le hi h.size) ho).trans (h.block i hi ho)⟩
theorem turnIn_grown {lo hi : Nat} {w w' : World} {row : Option Nat} (h : w.grownBy w' row) (hr : ∀ k, row = some k → lo ≤ k ∧ k < hi) : TurnIn lo hi w w' :=
  ⟨h.os, h.tape, h.output, h.size, fun k hk ho => h.block k hk (fun e => by have := hr k e.symm; omega)⟩
theorem turnIn_below {lo hi : Nat} {w w' : World} (h : Below w.heap.size w w') : TurnIn lo hi w w' :=
  ⟨h.os, h.tape, h.output, h.size, fun k hk _ => h.block k hk⟩
theorem TurnIn.below {lo hi B : Nat} {w w' : World} (h : TurnIn lo hi w w') (hB : B ≤ lo) (hw : B ≤ w.heap.size) : Below B w w' :=
  ⟨h.os, h.tape, h.output, h.size, fun k hk => h.block k (by omega) (by omega)⟩

/-- A state in numbers: how many entries, the entries, the stack, the queue. -/
structure LD where
  n : Nat
  zs : List Int
  s : List Int
  q : List Int

/-- A state's three slices: where they begin, and their room. -/
structure SV where
  ma : Option Addr
  mc : Nat
  sa : Option Addr
  sc : Nat
  qa : Option Addr
  qc : Nat

abbrev SV.m (v : SV) (d : LD) : Value := .slice v.ma d.n v.mc
abbrev SV.s (v : SV) (d : LD) : Value := .slice v.sa d.s.length v.sc
abbrev SV.q (v : SV) (d : LD) : Value := .slice v.qa d.q.length v.qc
abbrev stV (v : SV) (d : LD) : Value := .agg #[v.m d, v.s d, v.q d]

/-- The state can be read. -/
structure SS (W : World) (v : SV) (d : LD) : Prop where
  m : SInts W v.ma (d.n * 2) d.zs
  s : SInts W v.sa d.s.length d.s
  q : SInts W v.qa d.q.length d.q
theorem SS.below {W W' : World} {v : SV} {d : LD} (h : SS W v d) (hb : Below W.heap.size W W') : SS W' v d := ⟨h.m.below hb, h.s.below hb, h.q.below hb⟩

/-- There is room for what is there. -/
structure Room (v : SV) (d : LD) : Prop where
  m : d.n ≤ v.mc ∧ v.mc ≤ 9223372036854775807
  s : d.s.length ≤ v.sc ∧ v.sc ≤ 9223372036854775807
  q : d.q.length ≤ v.qc ∧ v.qc ≤ 9223372036854775807
/-- Not too much is there. -/
structure Few (d : LD) : Prop where
  m : d.n ≤ 1048576
  s : d.s.length ≤ 1048576
  q : d.q.length ≤ 1048576

/-- The state in memory of its own, in blocks from lo to hi. -/
structure St (lo hi : Nat) (v : SV) (d : LD) (W : World) : Prop where
  m : RowIn lo hi 88 2 (v.m d) d.n (d.zs.map (Value.int .i64)) W
  s : RowIn lo hi 3 1 (v.s d) d.s.length (d.s.map (Value.int .i64)) W
  q : RowIn lo hi 3 1 (v.q d) d.q.length (d.q.map (Value.int .i64)) W
/-- No two of its lists share a block. -/
structure Apart (v : SV) (d : LD) : Prop where
  ms : ∀ k, (v.m d).ownBlock = some k → (v.s d).ownBlock ≠ some k
  mq : ∀ k, (v.m d).ownBlock = some k → (v.q d).ownBlock ≠ some k
  sq : ∀ k, (v.s d).ownBlock = some k → (v.q d).ownBlock ≠ some k

theorem St.only {lo hi : Nat} {v : SV} {d : LD} : OnlyB lo hi (St lo hi v d) :=
  fun W W' h hk => ⟨onlyB_row _ _ _ _ _ _ _ W W' h.m hk, onlyB_row _ _ _ _ _ _ _ W W' h.s hk, onlyB_row _ _ _ _ _ _ _ W W' h.q hk⟩
theorem St.mono {lo hi lo' hi' : Nat} {v : SV} {d : LD} {W : World} (h : St lo hi v d W) (h1 : lo' ≤ lo) (h2 : hi ≤ hi') : St lo' hi' v d W := ⟨h.m.mono h1 h2, h.s.mono h1 h2, h.q.mono h1 h2⟩
theorem St.below {lo hi : Nat} {v : SV} {d : LD} {W W' : World} (h : St lo hi v d W) (hh : hi ≤ W.heap.size) (hb : Below W.heap.size W W') : St lo hi v d W' :=
  St.only W W' h (fun k _ hk => hb.block k (by omega))
theorem St.ss {lo hi : Nat} {v : SV} {d : LD} {W : World} (h : St lo hi v d W) : SS W v d := ⟨own2_sints h.m.1, own_sints h.s.1, own_sints h.q.1⟩
theorem own_cap {W : World} {base : Nat} {e : TypeId} {sz : Nat} {a : Option Addr} {n c : Nat} {xs : List Value} (h : W.ownsRow base e sz (.slice a n c) n xs) : n ≤ c ∧ c ≤ 9223372036854775807 := by
  rcases h.2 with ⟨e, _⟩ | ⟨g, cap, cur, hv, hg, hh, hc, hm, hs, ht⟩
  · injection e with _ e1 e2
    subst e1 e2
    exact ⟨Nat.le_refl _, by omega⟩
  · injection hv with _ _ e2
    subst e2
    unfold maxLen at hm
    exact ⟨hc, by omega⟩
theorem St.room {lo hi : Nat} {v : SV} {d : LD} {W : World} (h : St lo hi v d W) : Room v d := ⟨own_cap h.m.1, own_cap h.s.1, own_cap h.q.1⟩

/-- Three cells at the beginning of a block. -/
structure B3 (W : World) (b : Nat) (x y z : Value) : Prop where
  c0 : W.cell? ⟨b, 0, none⟩ = some x
  c1 : W.cell? ⟨b, 1, none⟩ = some y
  c2 : W.cell? ⟨b, 2, none⟩ = some z
  f : ∀ j, W.frozen? ⟨b, j, none⟩ = false
section
variable {W W' : World} {b : Nat} {x y z v : Value}
theorem B3.lt (h : B3 W b x y z) : b < W.heap.size := World.block_lt_of_cell? W ⟨b, 0, none⟩ h.c0
theorem B3.below (h : B3 W b x y z) (hb : Below W.heap.size W W') : B3 W' b x y z :=
  ⟨cell_kept hb h.c0, cell_kept hb h.c1, cell_kept hb h.c2, fun j => (hb.frozen (p := ⟨b, j, none⟩) h.lt).trans (h.f j)⟩
theorem b3_new (W : World) (x y z : Value) (t : TypeId) {b : Nat} (hb : b = W.heap.size) : B3 (W.alloc (.cells #[x, y, z] t)) b x y z := by
  subst hb
  exact ⟨by simp, by simp, by simp, fun j => frozen_at _ _ _ j rfl⟩
theorem B3.set0 (h : B3 W b x y z) : B3 (W.setCell ⟨b, 0, none⟩ v) b v y z :=
  ⟨World.cell?_setCell_same _ _ _ h.c0, (World.cell?_setCell_other _ _ _ _ (by simp)).trans h.c1, (World.cell?_setCell_other _ _ _ _ (by simp)).trans h.c2, fun j => by rw [World.frozen?_setCell]; exact h.f j⟩
theorem B3.set1 (h : B3 W b x y z) : B3 (W.setCell ⟨b, 1, none⟩ v) b x v z :=
  ⟨(World.cell?_setCell_other _ _ _ _ (by simp)).trans h.c0, World.cell?_setCell_same _ _ _ h.c1, (World.cell?_setCell_other _ _ _ _ (by simp)).trans h.c2, fun j => by rw [World.frozen?_setCell]; exact h.f j⟩
theorem B3.set2 (h : B3 W b x y z) : B3 (W.setCell ⟨b, 2, none⟩ v) b x y v :=
  ⟨(World.cell?_setCell_other _ _ _ _ (by simp)).trans h.c0, (World.cell?_setCell_other _ _ _ _ (by simp)).trans h.c1, World.cell?_setCell_same _ _ _ h.c2, fun j => by rw [World.frozen?_setCell]; exact h.f j⟩
theorem B3.far (h : B3 W b x y z) {g i : Nat} (hg : g ≠ b) : B3 (W.setCell ⟨g, i, none⟩ v) b x y z :=
  ⟨(World.cell?_setCell_other _ _ _ _ (fun e => by have := congrArg Addr.block e; dsimp only at this; omega)).trans h.c0, (World.cell?_setCell_other _ _ _ _ (fun e => by have := congrArg Addr.block e; dsimp only at this; omega)).trans h.c1, (World.cell?_setCell_other _ _ _ _ (fun e => by have := congrArg Addr.block e; dsimp only at this; omega)).trans h.c2, fun j => by rw [World.frozen?_setCell]; exact h.f j⟩
theorem B3.only {lo hi : Nat} (h1 : lo ≤ b) (h2 : b < hi) : OnlyB lo hi (fun W => B3 W b x y z) :=
  fun W W' h hk => ⟨onlyB_cell h1 h2 W W' h.c0 hk, onlyB_cell h1 h2 W W' h.c1 hk, onlyB_cell h1 h2 W W' h.c2 hk, fun j => (World.frozen?_of_block (w := W) (a := ⟨b, j, none⟩) (hk b h1 h2)).trans (h.f j)⟩
theorem B3.cells (h : B3 W b x y z) : W.cell? ⟨b, 0, none⟩ = some x ∧ W.cell? ⟨b, 1, none⟩ = some y ∧ W.cell? ⟨b, 2, none⟩ = some z := ⟨h.c0, h.c1, h.c2⟩
theorem B3.frees (h : B3 W b x y z) : W.frozen? ⟨b, 0, none⟩ = false ∧ W.frozen? ⟨b, 1, none⟩ = false ∧ W.frozen? ⟨b, 2, none⟩ = false := ⟨h.f 0, h.f 1, h.f 2⟩
end
theorem own_far {W : World} {base : Nat} {e : TypeId} {sz : Nat} {v : Value} {n : Nat} {xs : List Value} (h : W.ownsRow base e sz v n xs) {g i : Nat} (hg : g < base) (u : Value) : (W.setCell ⟨g, i, none⟩ u).ownsRow base e sz v n xs :=
  ownsRow_setCell_below h (a := ⟨g, i, none⟩) hg u

/-- How much is left. -/
def leftS (n l : Int) : Int := if n ≤ l then l - n else -1

set_option maxHeartbeats 800000 in
theorem eqLinState_yes (v v' : SV) (d : LD) (w : World) (h : SS w v d) (h' : SS w v' d) (hf : Few d) :
    Calls Try.prog 16 #[stV v d, stV v' d] w fun e w' => e = .returned (.bool true) ∧ Below w.heap.size w w' := by
  have A := below_trans' (al1 w (.cells #[v.m d, v.s d, v.q d] 39)) (al1 _ (.cells #[v'.m d, v'.s d, v'.q d] 39))
  have bx := (b3_new w (v.m d) (v.s d) (v.q d) 39 rfl).below (al1 _ (.cells #[v'.m d, v'.s d, v'.q d] 39))
  have by' := b3_new (w.alloc (.cells #[v.m d, v.s d, v.q d] 39)) (v'.m d) (v'.s d) (v'.q d) 39 (b := w.heap.size + 1) (by simp)
  have H0 := h.below A
  have H0' := h'.below A
  obtain ⟨f1, f2, f3⟩ := hf
  clear h h'
  go_enter Try.func16, Try.ntmps16
  go_wp2_with fail
  refine (eqMapMap_yes _ _ _ _ _ d.zs _ H0.m H0'.m (by omega)).mono ?_
  rintro e w1 ⟨rfl, hb1⟩
  have hA := below_trans' A hb1
  obtain ⟨c0, c1, c2⟩ := (bx.below hb1).cells
  obtain ⟨d0, d1, d2⟩ := (by'.below hb1).cells
  have H1 : Hid (SS w1 v d ∧ SS w1 v' d) := ⟨H0.below hb1, H0'.below hb1⟩
  clear A bx by' hb1 H0 H0'
  go_wp2_with fail
  refine (eqIntS_yes _ _ _ _ _ d.s _ H1.out.1.s H1.out.2.s (by omega)).mono ?_
  rintro e w2 ⟨rfl, hb2⟩
  have hB := below_trans' hA hb2
  have e0 := cell_kept hb2 c0
  have e2 := cell_kept hb2 c2
  have g2 := cell_kept hb2 d2
  have H2 : Hid (SS w2 v d ∧ SS w2 v' d) := ⟨H1.out.1.below hb2, H1.out.2.below hb2⟩
  clear hA c0 c1 c2 d0 d1 d2 H1 hb2
  go_wp2_with fail
  refine (eqIntS_yes _ _ _ _ _ d.q _ H2.out.1.q H2.out.2.q (by omega)).mono ?_
  rintro e w3 ⟨rfl, hb3⟩
  have hC := below_trans' hB hb3
  clear hB e0 e2 g2 H2 hb3
  go_wp2
  go_ret
  exact ⟨rfl, hC⟩

/-- The numbers that are written in. -/
def markD (d : LD) : LD := ⟨d.n, marks 1 (d.n * 2), marks (1 + 2 * (d.n : Int)) d.s.length, marks (1 + 2 * (d.n : Int) + d.s.length) d.q.length⟩
theorem own_len (a : Option Addr) (n m c : Nat) : (Value.slice a n c).ownBlock = (Value.slice a m c).ownBlock := by cases a <;> rfl

set_option maxHeartbeats 800000 in
theorem markLinState_any (lo hi : Nat) (v : SV) (d : LD) (w : World) (h : St lo hi v d w) (hp : Apart v d) (hf : Few d) (hlo : lo ≤ w.heap.size) (hh : hi ≤ w.heap.size) :
    Calls Try.prog 19 #[stV v d, .int .i64 1] w fun e w' => e = .returned (.int .i64 (1 + 2 * (d.n : Int) + d.s.length + d.q.length)) ∧ St lo hi v (markD d) w' ∧ TurnIn lo hi w w' := by
  have A := al1 w (.cells #[v.m d, v.s d, v.q d] 39)
  have bx := b3_new w (v.m d) (v.s d) (v.q d) 39 rfl
  have H0 := h.below hh A
  obtain ⟨f1, f2, f3⟩ := hf
  go_enter Try.func19, Try.ntmps19
  go_wp2_with fail
  refine (markMapMap_any _ _ _ lo d.zs 1 _ H0.m.1 (by omega) (by omega) (by omega)).mono ?_
  rintro e w1 ⟨rfl, o1, g1⟩
  have s1 := own_grown g1 H0.s.1 (fun k j e e' hkj => by subst hkj; exact hp.ms _ e e')
  have q1 := own_grown g1 H0.q.1 (fun k j e e' hkj => by subst hkj; exact hp.mq _ e e')
  have T1 : TurnIn lo hi w w1 := (turnIn_below A).trans (turnIn_grown g1 (fun k e => ⟨(H0.m.1.lt k e).1, h.m.2 k e⟩))
  have nb : ∀ k, (v.m d).ownBlock = some k → k ≠ w.heap.size := fun k e => by have := h.m.2 k e; omega
  have b1 := cell_grown g1 bx.c1 nb
  have b2 := cell_grown g1 bx.c2 nb
  have H1 : Hid (w1.ownsRow lo 3 1 (v.q d) d.q.length (d.q.map (Value.int .i64)) ∧ w1.ownsRow lo 88 2 (v.m d) d.n ((marks 1 (d.n * 2)).map (Value.int .i64)) ∧ TurnIn lo hi w w1 ∧ w.heap.size < w1.heap.size) := ⟨q1, o1, T1, World.block_lt_of_cell? w1 ⟨w.heap.size, 1, none⟩ b1⟩
  clear g1 nb q1 o1 T1 A bx H0
  go_wp2_with fail
  refine (markIntS_any _ _ _ lo d.s _ _ s1 (by omega) (by omega)).mono ?_
  rintro e w2 ⟨rfl, o2, g2, z2⟩
  have q2 := own_grown g2 H1.out.1 (fun k j e e' hkj => by subst hkj; exact hp.sq _ e e')
  have m2 := own_grown g2 H1.out.2.1 (fun k j e e' hkj => by subst hkj; exact hp.ms _ e' e)
  have T2 : TurnIn lo hi w w2 := H1.out.2.2.1.trans (turnIn_grown g2 (fun k e => ⟨(s1.lt k e).1, h.s.2 k e⟩))
  have nb : ∀ k, (v.s d).ownBlock = some k → k ≠ w.heap.size := fun k e => by have := h.s.2 k e; omega
  have e2 := cell_grown g2 b2 nb
  have H2 : Hid (w2.ownsRow lo 3 1 (v.s d) d.s.length ((marks (1 + 2 * (d.n : Int)) d.s.length).map (Value.int .i64)) ∧ w2.ownsRow lo 88 2 (v.m d) d.n ((marks 1 (d.n * 2)).map (Value.int .i64)) ∧ TurnIn lo hi w w2) := ⟨o2, m2, T2⟩
  clear g2 nb o2 m2 T2 H1 s1 b1 b2 z2
  go_wp2_with fail
  refine (markIntS_any _ _ _ lo d.q _ _ q2 (by omega) (by omega)).mono ?_
  rintro e w3 ⟨rfl, o3, g3, z3⟩
  have m3 := own_grown g3 H2.out.2.1 (fun k j e e' hkj => by subst hkj; exact hp.mq _ e' e)
  have s3 := own_grown g3 H2.out.1 (fun k j e e' hkj => by subst hkj; exact hp.sq _ e' e)
  have T3 : TurnIn lo hi w w3 := H2.out.2.2.trans (turnIn_grown g3 (fun k e => ⟨(q2.lt k e).1, h.q.2 k e⟩))
  have H3 : Hid (St lo hi v (markD d) w3 ∧ TurnIn lo hi w w3) := by
    refine ⟨⟨⟨m3, h.m.2⟩, ⟨?_, fun k e => h.s.2 k ((own_len _ _ _ _).trans e)⟩, ⟨?_, fun k e => h.q.2 k ((own_len _ _ _ _).trans e)⟩⟩, T3⟩
    · show w3.ownsRow lo 3 1 (.slice v.sa (marks (1 + 2 * (d.n : Int)) d.s.length).length v.sc) (marks (1 + 2 * (d.n : Int)) d.s.length).length _
      rw [marks_len]
      exact s3
    · show w3.ownsRow lo 3 1 (.slice v.qa (marks (1 + 2 * (d.n : Int) + d.s.length) d.q.length).length v.qc) (marks (1 + 2 * (d.n : Int) + d.s.length) d.q.length).length _
      rw [marks_len]
      exact o3
  clear m3 s3 T3 o3 g3 z3 H2 q2 e2
  go_wp2
  go_ret
  exact ⟨rfl, H3.out.1, H3.out.2⟩

set_option maxHeartbeats 800000 in
theorem heldLinState_any (v : SV) (d : LD) (w : World) (h : SS w v (markD d)) (hf : Few d) :
    Calls Try.prog 20 #[stV v d, .int .i64 1] w fun e w' => e = .returned (.int .i64 (1 + 2 * (d.n : Int) + d.s.length + d.q.length)) ∧ Below w.heap.size w w' := by
  have A := al1 w (.cells #[v.m d, v.s d, v.q d] 39)
  have bx := b3_new w (v.m d) (v.s d) (v.q d) 39 rfl
  have H0 := h.below A
  obtain ⟨f1, f2, f3⟩ := hf
  have hs0 : SInts (w.alloc (.cells #[v.m d, v.s d, v.q d] 39)) v.sa d.s.length (marks (1 + 2 * (d.n : Int)) d.s.length) := by
    have := H0.s
    simp only [markD, marks_len] at this
    exact this
  have hq0 : SInts (w.alloc (.cells #[v.m d, v.s d, v.q d] 39)) v.qa d.q.length (marks (1 + 2 * (d.n : Int) + d.s.length) d.q.length) := by
    have := H0.q
    simp only [markD, marks_len] at this
    exact this
  go_enter Try.func20, Try.ntmps20
  go_wp2_with fail
  refine (heldMapMap_any v.ma d.n v.mc 1 _ H0.m (by omega) (by omega)).mono ?_
  rintro e w1 ⟨rfl, hb1⟩
  have hA := below_trans' A hb1
  obtain ⟨c0, c1, c2⟩ := (bx.below hb1).cells
  have hs1 := hs0.below hb1
  have hq1 := hq0.below hb1
  clear A bx H0 hs0 hq0 hb1 h
  go_wp2_with fail
  refine (heldIntS_any _ _ _ _ _ hs1 (by omega) (by omega)).mono ?_
  rintro e w2 ⟨rfl, rfl⟩
  go_wp2_with fail
  refine (heldIntS_any _ _ _ _ _ hq1 (by omega) (by omega)).mono ?_
  rintro e w3 ⟨rfl, rfl⟩
  clear hs1 hq1
  go_wp2
  go_ret
  exact ⟨rfl, hA⟩

end Go.Proofs.Ytklpdpdjblakgaa
