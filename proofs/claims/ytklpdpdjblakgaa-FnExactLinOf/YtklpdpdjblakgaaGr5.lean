/- Several texts in one: MapS, Queue, Stack, LInv, Ents2, Next, MapOk, Entry, ListsE, Del, Get, Put, MapM, PutM, Count, First, SpecPush, SpecQue, Take, Frame, OpS. -/
import Derived.Test.YtklpdpdjblakgaaGr4
import Derived.Test.YtklpdpdjblakgaaGr2
import Derived.Test.YtklpdpdjblakgaaGr1
import Derived.Deep.QuietTactic
import Derived.BigQuiet
import Derived.Deep.RegionLawGrows
import Derived.ProofKit
import Derived.OpenShut
import Derived.ShutString
import Derived.ChangeOld
import Derived.Below
/- MapS -/
namespace Go.Proofs.Ytklpdpdjblakgaa
open Go.RowKit
set_option linter.unusedVariables false

/-- What stands in the loop: all as it stood ahead of it, but for the map's own cell. -/
structure MAt (w w2 : World) (a' : Option Addr) (m c' : Nat) (L : List Int) (W : World) : Prop where
  near : ∀ c, c < w2.heap.size → c ≠ w.heap.size + 1 + 1 → W.heap[c]? = w2.heap[c]?
  size : w2.heap.size ≤ W.heap.size
  bel : Below w.heap.size w W
  mc : W.cell? ⟨w.heap.size + 1 + 1, 0, none⟩ = some (.slice a' m c')
  mf : W.frozen? ⟨w.heap.size + 1 + 1, 0, none⟩ = false
  own : W.ownsRow w2.heap.size 88 2 (.slice a' m c') m (L.map (Value.int .i64))
  lt : w.heap.size + 1 + 1 < w2.heap.size

theorem MAt.cell {w w2 : World} {a' : Option Addr} {m c' : Nat} {L : List Int} {W : World} (h : MAt w w2 a' m c' L W) {b o : Nat} {v : Value} (hc : w2.cell? ⟨b, o, none⟩ = some v) (hne : b ≠ w.heap.size + 1 + 1) : W.cell? ⟨b, o, none⟩ = some v :=
  (World.cell?_of_block (w := w2) (a := ⟨b, o, none⟩) (h.near b (World.block_lt_of_cell? w2 ⟨b, o, none⟩ hc) hne)).trans hc
theorem MAt.below {w w2 : World} {a' : Option Addr} {m c' : Nat} {L : List Int} {W W' : World} (h : MAt w w2 a' m c' L W) (hb : Below W.heap.size W W') : MAt w w2 a' m c' L W' := by
  have hs := h.size
  have hl := h.lt
  exact
  { near := fun c hc hn => (hb.block c (by omega)).trans (h.near c hc hn), size := Nat.le_trans h.size hb.size, bel := below_trans' h.bel hb, mc := cell_kept hb h.mc,
    mf := (hb.frozen (p := ⟨w.heap.size + 1 + 1, 0, none⟩) (by show w.heap.size + 1 + 1 < _; omega)).trans h.mf, own := ownsRow_below h.own hb, lt := h.lt }
theorem MAt.put {w w2 : World} {a' : Option Addr} {m c' : Nat} {L : List Int} {W W' : World} (h : MAt w w2 a' m c' L W) (hg : W.grownBy W' (Value.slice a' m c').ownBlock) {a2 : Option Addr} {m2 c2 : Nat} {L2 : List Int} (ho : W'.ownsRow w2.heap.size 88 2 (.slice a2 m2 c2) m2 (L2.map (Value.int .i64))) :
    W'.cell? ⟨w.heap.size + 1 + 1, 0, none⟩ = some (.slice a' m c') ∧ W'.frozen? ⟨w.heap.size + 1 + 1, 0, none⟩ = false ∧ MAt w w2 a2 m2 c2 L2 (W'.setCell ⟨w.heap.size + 1 + 1, 0, none⟩ (.slice a2 m2 c2)) := by
  have hs := h.size
  have hl := h.lt
  have nb : ∀ c, c < w2.heap.size → some c ≠ (Value.slice a' m c').ownBlock := fun c hc e => by have := (h.own.lt c e.symm).1; omega
  have nb2 : ∀ c, c < w2.heap.size → (Value.slice a2 m2 c2).ownBlock ≠ some c := fun c hc e => by have := (ho.lt c e).1; omega
  have mc := hg.cell h.mc (nb _ hl)
  refine ⟨mc, frozen_grown hg (by omega) (nb _ hl) h.mf, ?_⟩
  exact
  { near := fun c hc hn => (Below.heap_setCell W' ⟨w.heap.size + 1 + 1, 0, none⟩ _ c hn).trans ((hg.block c (by omega) (nb c hc)).trans (h.near c hc hn)),
    size := by simp; exact Nat.le_trans h.size hg.size, bel := (h.bel.grown hg h.bel.size (fun k e => by have := (h.own.lt k e).1; omega)).setCell (p := ⟨w.heap.size + 1 + 1, 0, none⟩) (by show w.heap.size ≤ w.heap.size + 1 + 1; omega) _,
    mc := World.cell?_setCell_same _ _ _ mc, mf := by rw [World.frozen?_setCell]; exact frozen_grown hg (by omega) (nb _ hl) h.mf,
    own := ownsRow_setCell_other ho (nb2 _ hl) _, lt := hl }

set_option maxHeartbeats 1000000 in
theorem specArnMap_bad (a : Option Addr) (n cap : Nat) (ns : List Nd) (t f l : Int) (w : World) (hs : SNodes w a n ns) (hn : n ≤ 1048576) (hok : okA ns t f l = false) :
    Calls Try.prog 29 #[.agg #[.slice a n cap, .int .i64 t, .int .i64 f, .int .i64 l]] w fun e w' => MapR 0 [] e w w' := by
  have A := below_trans' (below_trans' (al1 w (.cells #[.slice a n cap, .int .i64 t, .int .i64 f, .int .i64 l] 43)) (al1 _ (.cells #[.slice none 0 0] 36))) (al1 _ (.cells #[.slice none 0 0] 36))
  have r0 := cell_kept (al1 _ (.cells #[.slice none 0 0] 36)) (cell_at (w.alloc (.cells #[.slice a n cap, .int .i64 t, .int .i64 f, .int .i64 l] 43)) #[.slice none 0 0] 36 0 (b := w.heap.size + 1) (by simp) (v := .slice none 0 0) rfl)
  have rf := ((al1 ((w.alloc (.cells #[.slice a n cap, .int .i64 t, .int .i64 f, .int .i64 l] 43)).alloc (.cells #[.slice none 0 0] 36)) (.cells #[.slice none 0 0] 36)).frozen (p := ⟨w.heap.size + 1, 0, none⟩) (by simp)).trans (frozen_at (w.alloc (.cells #[.slice a n cap, .int .i64 t, .int .i64 f, .int .i64 l] 43)) #[.slice none 0 0] 36 0 (b := w.heap.size + 1) (by simp))
  have m0 := cell_at ((w.alloc (.cells #[.slice a n cap, .int .i64 t, .int .i64 f, .int .i64 l] 43)).alloc (.cells #[.slice none 0 0] 36)) #[.slice none 0 0] 36 0 (b := w.heap.size + 1 + 1) (by simp) (v := .slice none 0 0) rfl
  go_enter Try.func29, Try.ntmps29
  go_wp2_with fail
  refine (specArnOk_any _ _ _ ns t f l _ (hs.below A) hn).mono ?_
  rintro e w1 ⟨rfl, hb1⟩
  have hbel := below_trans' A hb1
  have r1 := cell_kept hb1 r0
  have m1 := cell_kept hb1 m0
  have f1 := (hb1.frozen (p := ⟨w.heap.size + 1, 0, none⟩) (by simp)).trans rf
  rw [hok]
  clear hs hb1 r0 rf A m0
  go_wp2
  exact bodyPost_ret (v := .agg #[.slice none 0 0]) (by simp [results, Try.results29, go_sem, r1]) rfl ⟨none, 0, rfl, ⟨rfl, .inl ⟨rfl, rfl⟩⟩, hbel.setCell (p := ⟨w.heap.size + 1, 0, none⟩) (by show w.heap.size ≤ w.heap.size + 1; omega) _⟩

set_option maxRecDepth 20000 in
set_option maxHeartbeats 2000000 in
theorem specArnMap_ok (b off cap : Nat) (ns : List Nd) (t f l : Int) (w : World) (hs : SNodes w (some ⟨b, off, none⟩) 10 ns) (hok : okA ns t f l = true) :
    Calls Try.prog 29 #[.agg #[.slice (some ⟨b, off, none⟩) 10 cap, .int .i64 t, .int .i64 f, .int .i64 l]] w fun e w' => MapR (unm ns (pathOf begC ns t f l)).length (entsOf ns (unm ns (pathOf begC ns t f l))) e w w' := by
  obtain ⟨i0, hi, hz0, hz1, hz2⟩ := info_parts Try.info88
  have A := below_trans' (below_trans' (al1 w (.cells #[.slice (some ⟨b, off, none⟩) 10 cap, .int .i64 t, .int .i64 f, .int .i64 l] 43)) (al1 _ (.cells #[.slice none 0 0] 36))) (al1 _ (.cells #[.slice none 0 0] 36))
  have bx := ((boxA_new w (some ⟨b, off, none⟩) 10 cap t f l 43 rfl).below (al1 _ (.cells #[.slice none 0 0] 36))).below (al1 _ (.cells #[.slice none 0 0] 36))
  have r0 := cell_kept (al1 _ (.cells #[.slice none 0 0] 36)) (cell_at (w.alloc (.cells #[.slice (some ⟨b, off, none⟩) 10 cap, .int .i64 t, .int .i64 f, .int .i64 l] 43)) #[.slice none 0 0] 36 0 (b := w.heap.size + 1) (by simp) (v := .slice none 0 0) rfl)
  have rf := ((al1 ((w.alloc (.cells #[.slice (some ⟨b, off, none⟩) 10 cap, .int .i64 t, .int .i64 f, .int .i64 l] 43)).alloc (.cells #[.slice none 0 0] 36)) (.cells #[.slice none 0 0] 36)).frozen (p := ⟨w.heap.size + 1, 0, none⟩) (by simp)).trans (frozen_at (w.alloc (.cells #[.slice (some ⟨b, off, none⟩) 10 cap, .int .i64 t, .int .i64 f, .int .i64 l] 43)) #[.slice none 0 0] 36 0 (b := w.heap.size + 1) (by simp))
  have m0 := cell_at ((w.alloc (.cells #[.slice (some ⟨b, off, none⟩) 10 cap, .int .i64 t, .int .i64 f, .int .i64 l] 43)).alloc (.cells #[.slice none 0 0] 36)) #[.slice none 0 0] 36 0 (b := w.heap.size + 1 + 1) (by simp) (v := .slice none 0 0) rfl
  have mf := frozen_at ((w.alloc (.cells #[.slice (some ⟨b, off, none⟩) 10 cap, .int .i64 t, .int .i64 f, .int .i64 l] 43)).alloc (.cells #[.slice none 0 0] 36)) #[.slice none 0 0] 36 0 (b := w.heap.size + 1 + 1) (by simp)
  obtain ⟨zs, ez⟩ : ∃ zs, pathOf begC ns t f l = zs := ⟨_, rfl⟩
  have HP : Hid (placesB zs ∧ zs.length ≤ 9) := ez ▸ path_places (begC_in ns t f l)
  have hc0 := specArnChain_any (some ⟨b, off, none⟩) 10 cap ns t f l
  rw [ez] at hc0 ⊢
  obtain ⟨n, ln⟩ : ∃ n, zs.length = n := ⟨_, rfl⟩
  have HN : Hid (zs.length = n ∧ n ≤ 9) := ⟨ln, by have := HP.out.2; omega⟩
  have hn9 : n ≤ 9 := HN.out.2
  clear ez ln
  go_enter Try.func29, Try.ntmps29
  go_wp2_with fail
  refine (specArnOk_any _ _ _ ns t f l _ (hs.below A) (by omega)).mono ?_
  rintro e w1 ⟨rfl, hb1⟩
  rw [hok]
  have bx1 := bx.below hb1
  obtain ⟨p0, p1, p2, p3⟩ := bx1.cells
  go_wp2_with fail
  refine (hc0 _ (hs.below (below_trans' A hb1)) (by omega)).mono ?_
  rintro e w2 ⟨aC, cC, rfl, ho2, hb2⟩
  rw [HN.out.1] at ho2 ⊢
  have hb := below_trans' hb1 hb2
  have hlt2 := World.block_lt_of_cell? w2 ⟨w.heap.size + 1 + 1, 0, none⟩ (cell_kept hb m0)
  have hlt1 : w.heap.size + 1 + 1 < w1.heap.size := World.block_lt_of_cell? w1 ⟨w.heap.size + 1 + 1, 0, none⟩ (cell_kept hb1 m0)
  have HC : Hid (∀ k, k < n → ∃ g o, aC = some ⟨g, o, none⟩ ∧ w2.cell? ⟨g, o + k, none⟩ = some (.int .i64 (zs.getD k 0)) ∧ g ≠ w.heap.size + 1 + 1) := by
    intro k hk
    obtain ⟨_, h0 | ⟨g, o, e, hc⟩⟩ := own_sints ho2
    · omega
    · refine ⟨g, o, e, hc k hk, fun eg => ?_⟩
      have := (ho2.lt g (by rw [e]; rfl)).1
      omega
  have H2 : Hid (BoxA w2 w.heap.size (some ⟨b, off, none⟩) 10 cap t f l ∧ w2.cell? ⟨w.heap.size + 1, 0, none⟩ = some (.slice none 0 0) ∧ w2.frozen? ⟨w.heap.size + 1, 0, none⟩ = false ∧ SNodes w2 (some ⟨b, off, none⟩) 10 ns ∧ b < w.heap.size) :=
    ⟨bx1.below hb2, cell_kept hb r0, (hb.frozen (p := ⟨w.heap.size + 1, 0, none⟩) (by simp)).trans rf, hs.below (below_trans' A hb), by
      obtain ⟨b', off', x, e, _, hN⟩ := hs.at (k := 0) (by omega)
      cases e
      exact World.block_lt_of_cell? w ⟨b, off + 0 * 6, none⟩ hN.c0⟩
  have T0 : Hid (MAt w w2 none 0 0 [] w2) := ⟨fun _ _ _ => rfl, Nat.le_refl _, below_trans' A hb, cell_kept hb m0, (hb.frozen (p := ⟨w.heap.size + 1 + 1, 0, none⟩) (by simp)).trans mf, ⟨rfl, .inl ⟨rfl, rfl⟩⟩, hlt2⟩
  clear hb hb1 hb2 ho2 bx bx1 r0 rf A hs hok hc0 p0 p1 p2 p3 m0 mf hlt1 hlt2
  go_wp2
  go_loopw [5, 6] (fun i _ wr => ∃ (k m : Nat) (a' : Option Addr) (c' : Nat), k ≤ n ∧ i = .int .i64 k ∧ m = (unm ns (zs.take k)).length ∧ MAt w w2 a' m c' (entsOf ns (unm ns (zs.take k))) wr) (fun i _ _ => n - (intOf i).toNat)
  case atStart => exact ⟨0, 0, none, 0, Nat.zero_le _, rfl, rfl, T0.out⟩
  case round =>
    obtain ⟨k, m, a', c', hk, rfl, hm, I⟩ := hrel
    clear T0
    have HM : Hid (m = (unm ns (zs.take k)).length) := hm
    have hm9 : m ≤ 9 := by
      have := unm_len ns (zs.take k)
      have h2 := List.length_take_le k zs
      have := HN.out.2
      omega
    clear hm
    by_cases hlt : k < n
    · obtain ⟨b', off', rfl, hc, hne⟩ := HC.out k hlt
      obtain ⟨y, hy⟩ : ∃ y, zs.getD k 0 = y := ⟨_, rfl⟩
      have hyb := HP.out.1 k (by rw [HN.out.1]; exact hlt)
      rw [hy] at hyb hc
      have h1 := I.cell hc hne
      obtain ⟨j, rfl⟩ : ∃ j : Nat, y = j := ⟨y.toNat, by omega⟩
      have hj : j < 10 := by omega
      have hji : (j : Int) < 10 := by omega
      obtain ⟨b2, off2, ⟨x0, x1, x2, x3, x4, x5⟩, eab, hx, hN⟩ := H2.out.2.2.2.1.at hj
      cases eab
      have hbne : b ≠ w.heap.size + 1 + 1 := by have := H2.out.2.2.2.2; omega
      have n0 := I.cell hN.c0 hbne
      have n1 := I.cell hN.c1 hbne
      have n2 := I.cell hN.c2 hbne
      have n3 := I.cell hN.c3 hbne
      have n4 := I.cell hN.c4 hbne
      have n5 := I.cell hN.c5 hbne
      dsimp only at n0 n1 n2 n3 n4 n5
      have c0 := I.cell H2.out.1.c0 (by omega)
      obtain ⟨ys, hys⟩ : ∃ ys, unm ns (zs.take k) = ys := ⟨_, rfl⟩
      rw [hys] at I HM
      have HE : Hid (unm ns (zs.take (k + 1)) = ys ++ (if wMark x2 then [] else [(j : Int)])) := by
        show _ = _
        rw [unm_next ns (x := ⟨x0, x1, x2, x3, x4, x5⟩) (by rw [HN.out.1]; exact hlt) hy (by simp [ndAt, List.getD, hx]), hys]
      have HX : Hid (entsOf ns (ys ++ [(j : Int)]) = entsOf ns ys ++ [x0, x1]) := by
        show _ = _
        unfold entsOf
        rw [List.flatMap_append]
        simp [ndAt, List.getD, hx]
      have HI : Hid (MAt w w2 a' m c' (entsOf ns ys) wr) := I
      clear hc hy hN hx hyb I
      go_wp2
      go_region_held_law (fun V => V.cell? ⟨w.heap.size, 0, none⟩ = some (.slice (some ⟨b, off, none⟩) 10 cap) ∧ V.cell? ⟨b', off' + k, none⟩ = some (.int .i64 (j : Int)) ∧ V.cell? ⟨b, off + j * 6, none⟩ = some (.int .i64 x0) ∧ V.cell? ⟨b, off + j * 6 + 1, none⟩ = some (.int .i64 x1) ∧ V.cell? ⟨b, off + j * 6 + 2, none⟩ = some (.int .i64 x2) ∧ V.cell? ⟨b, off + j * 6 + 3, none⟩ = some (.int .i64 x3) ∧ V.cell? ⟨b, off + j * 6 + 4, none⟩ = some (.bool x4) ∧ V.cell? ⟨b, off + j * 6 + 5, none⟩ = some (.int .i64 x5)) (go_keep) (fail)
      have HI2 : Hid (MAt w w2 a' m c' (entsOf ns ys) (wr.alloc (.cells #[.int .i64 x0, .int .i64 x1, .int .i64 x2, .int .i64 x3, .bool x4, .int .i64 x5] 86)).drew) := HI.out.below (al1 wr _).drew
      have q0 : (wr.alloc (.cells #[.int .i64 x0, .int .i64 x1, .int .i64 x2, .int .i64 x3, .bool x4, .int .i64 x5] 86)).drew.cell? ⟨wr.heap.size, 0, none⟩ = some (.int .i64 x0) := cell_at wr _ _ 0 rfl rfl
      have q1 : (wr.alloc (.cells #[.int .i64 x0, .int .i64 x1, .int .i64 x2, .int .i64 x3, .bool x4, .int .i64 x5] 86)).drew.cell? ⟨wr.heap.size, 1, none⟩ = some (.int .i64 x1) := cell_at wr _ _ 1 rfl rfl
      have q2 : (wr.alloc (.cells #[.int .i64 x0, .int .i64 x1, .int .i64 x2, .int .i64 x3, .bool x4, .int .i64 x5] 86)).drew.cell? ⟨wr.heap.size, 2, none⟩ = some (.int .i64 x2) := cell_at wr _ _ 2 rfl rfl
      clear HI n0 n1 n2 n3 n4 n5 c0 h1
      generalize (wr.alloc (.cells #[.int .i64 x0, .int .i64 x1, .int .i64 x2, .int .i64 x3, .bool x4, .int .i64 x5] 86)).drew = V at HI2 q0 q1 q2 ⊢
      go_wp2_with fail
      refine (specWrdMark_any _ _).mono ?_
      rintro e w3 ⟨rfl, rfl⟩
      have HI4 : Hid (MAt w w2 a' m c' (entsOf ns ys) (w3.alloc (.cells #[.int .i64 x0, .int .i64 x1] 88))) := HI2.out.below (al1 _ _)
      have mc := HI2.out.mc
      have HSZ : Hid (w2.heap.size ≤ w3.heap.size) := HI2.out.size
      cases hmk : wMark x2
      · rw [hmk] at HE
        have HE2 : Hid (unm ns (zs.take (k + 1)) = ys ++ [(j : Int)]) := by show _ = _; simpa using HE.out
        clear HE
        go_wp2_with (at_builtin; go_must (refine wpList_append_own _ rfl (.tmp 33) (.tmp 39) 34 rfl w2.heap.size 88 i0 (.agg #[.int .i64 0, .int .i64 0]) 2 16 Try.underlying34 hi hz0 hz1 hz2 rfl (by decide) (.slice a' m c') m _ rfl HI4.out.own ⟨w3.heap.size, 0, none⟩ 1 1 [.int .i64 x0, .int .i64 x1] rfl rfl (by intro jj u hjj; match jj, hjj with | 0, hjj => simp at hjj; subst hjj; exact cell_at _ _ _ 0 rfl rfl | 1, hjj => simp at hjj; subst hjj; exact cell_at _ _ _ 1 rfl rfl) (by intro u hu; simp at hu; rcases hu with rfl | rfl <;> rfl) (by unfold maxLen; omega) (by omega) (by have := HSZ.out; simp; omega) ?_))
        intro v' w5 hown hgrow _
        obtain ⟨a2, c2, hv, _⟩ := own2_shape (zs := entsOf ns ys ++ [x0, x1]) (by simpa using hown)
        subst hv
        obtain ⟨mc5, mf5, M5⟩ := HI4.out.put hgrow (L2 := entsOf ns ys ++ [x0, x1]) (by simpa using hown)
        have HI5 : Hid (MAt w w2 a2 (m + 1) c2 (entsOf ns ys ++ [x0, x1]) (w5.setCell ⟨w.heap.size + 1 + 1, 0, none⟩ (.slice a2 (m + 1) c2))) := M5
        clear hown hgrow HI2 HI4 M5 mc q0 q1 q2
        go_wp2
        go_roundw
        case rel => exact ⟨k + 1, m + 1, a2, c2, by omega, by go_num, by rw [HE2.out, HM.out]; simp, by rw [HE2.out, HX.out]; exact HI5.out⟩
        case measure => simp [intOf]; omega
      · rw [hmk] at HE
        have HE2 : Hid (unm ns (zs.take (k + 1)) = ys) := by show _ = _; simpa using HE.out
        clear HE HI4 mc q0 q1 q2
        go_wp2
        go_roundw
        case rel => exact ⟨k + 1, m, a', c', by omega, by go_num, by rw [HE2.out]; exact HM.out, by rw [HE2.out]; exact HI2.out⟩
        case measure => simp [intOf]; omega
    · obtain rfl : k = n := by omega
      have et : zs.take k = zs := List.take_of_length_le (by rw [HN.out.1]; exact Nat.le_refl _)
      rw [et] at I HM
      have HMI : Hid (m = (unm ns zs).length) := HM
      have mc := I.mc
      have r1 := I.cell H2.out.2.1 (by omega)
      have f1 : wr.frozen? ⟨w.heap.size + 1, 0, none⟩ = false := (World.frozen?_of_block (w := w2) (a := ⟨w.heap.size + 1, 0, none⟩) (I.near (w.heap.size + 1) (by have := I.lt; omega) (by omega))).trans H2.out.2.2.1
      have R : Hid (wr.ownsRow w2.heap.size 88 2 (.slice a' m c') m ((entsOf ns (unm ns zs)).map (Value.int .i64)) ∧ Below w.heap.size w wr ∧ w.heap.size + 1 + 1 < w2.heap.size) := ⟨I.own, I.bel, I.lt⟩
      clear I et HM
      go_wp2
      refine bodyPost_ret (v := .agg #[.slice a' m c']) (by simp [results, Try.results29, go_sem, r1]) rfl ⟨a', c', by rw [← HMI.out], ?_, R.out.2.1.setCell (p := ⟨w.heap.size + 1, 0, none⟩) (by show w.heap.size ≤ w.heap.size + 1; omega) _⟩
      rw [← HMI.out]
      have hw := R.out.2.2
      exact own_mono (ownsRow_setCell_other R.out.1 (fun e => by have := (R.out.1.lt (w.heap.size + 1) e).1; omega) _) (by omega)

theorem specArnMap_any (a : Option Addr) (n cap : Nat) (ns : List Nd) (t f l : Int) (w : World) (hs : SNodes w a n ns) (hn : n ≤ 1048576) :
    Calls Try.prog 29 #[.agg #[.slice a n cap, .int .i64 t, .int .i64 f, .int .i64 l]] w fun e w' => MapR (mapP ns t f l).length (entsOf ns (mapP ns t f l)) e w w' := by
  cases hok : okA ns t f l
  · have e : mapP ns t f l = [] := by simp [mapP, hok]
    rw [e]
    exact specArnMap_bad a n cap ns t f l w hs hn hok
  · have hsh : shapeB ns t f l = true := by
      unfold okA at hok
      exact (Bool.and_eq_true _ _ ▸ hok).1
    obtain ⟨hl, _⟩ := shapeB_parts hsh
    obtain ⟨rfl, b, off, rfl⟩ := snodes_some hs hl
    have e : mapP ns t f l = unm ns (pathOf begC ns t f l) := by simp [mapP, hok]
    rw [e]
    exact specArnMap_ok b off cap ns t f l w hs hok

end Go.Proofs.Ytklpdpdjblakgaa

/- Queue -/
namespace Go.Proofs.Ytklpdpdjblakgaa
open Go.RowKit
set_option linter.unusedVariables false
set_option maxRecDepth 20000

/-- The queue's values, of places that are ok: all but the first place's. -/
def queueL (ns : List Nd) (t f l : Int) : List Int := if okA ns t f l then valsOf ns (pathOf begQ ns t f l).tail else []

theorem placesB_tail {S : List Int} (h : placesB S) : placesB S.tail := by
  intro i hi
  have hi' : i + 1 < S.length := by simp at hi; omega
  have := h (i + 1) hi'
  cases S with
  | nil => simp at hi
  | cons x S => simpa [List.getD] using this

theorem own_some {w : World} {base : Nat} {a : Option Addr} {n c : Nat} {xs : List Value} (h : w.ownsRow base 3 1 (.slice a n c) n xs) (hn : 1 ≤ n) : ∃ g, a = some ⟨g, 0, none⟩ ∧ n ≤ c := by
  rcases h.2 with ⟨e, rfl⟩ | ⟨g, cap, cur, e, hg, hh, hc, r⟩
  · omega
  · cases e; exact ⟨g, rfl, hc⟩

theorem sints_tail {w : World} {g n o : Nat} {S : List Int} (h : SInts w (some ⟨g, 0, none⟩) n S) (ho : o = 1 ∨ n = 1) : SInts w (some ⟨g, o, none⟩) (n - 1) S.tail := by
  obtain ⟨hz, h0⟩ := h
  refine ⟨by simp [hz], ?_⟩
  by_cases h1 : n - 1 = 0
  · exact .inl h1
  · obtain rfl : o = 1 := by omega
    rcases h0 with h0 | ⟨b, off, e, hc⟩
    · omega
    · cases e
      refine .inr ⟨g, 1, rfl, fun i hi => ?_⟩
      have := hc (i + 1) (by omega)
      rw [show 0 + (i + 1) = 1 + i by omega] at this
      rw [this]
      cases S with
      | nil => simp at hz; omega
      | cons x S => simp [List.getD]

theorem fromTo_some (ns : List Nd) {p : Int} (h : p ≠ 0) (k : Nat) : 1 ≤ (fromTo ns p (k + 1)).length := by
  induction k with
  | zero => simp [fromTo, stepK, h]
  | succ k ih =>
    unfold fromTo
    split
    · exact ih
    · simp

theorem queue_some (ns : List Nd) {f : Int} (t l : Int) (hsh : shapeB ns t f l = true) (h : inP f = true) : 1 ≤ (pathOf begQ ns t f l).length := by
  have e : pathOf begQ ns t f l = fromTo ns f 9 := by simp [pathOf, hsh, begQ]
  rw [e]
  exact fromTo_some ns (by intro e; subst e; simp [inP] at h) 8

set_option maxHeartbeats 1000000 in
theorem specArnQueue_bad (a : Option Addr) (n cap : Nat) (ns : List Nd) (t f l : Int) (w : World) (hs : SNodes w a n ns) (hn : n ≤ 1048576) (hok : okA ns t f l = false) :
    Calls Try.prog 31 #[.agg #[.slice a n cap, .int .i64 t, .int .i64 f, .int .i64 l]] w fun e w' => ListI [] e w w' := by
  go_enter Try.func31, Try.ntmps31
  go_wp2_with fail
  refine (specArnOk_any _ _ _ ns t f l _ (hs.below (al1 w (.cells #[.slice a n cap, .int .i64 t, .int .i64 f, .int .i64 l] 43))) hn).mono ?_
  rintro e w1 ⟨rfl, hb1⟩
  have hbel := below_trans' (al1 w (.cells #[.slice a n cap, .int .i64 t, .int .i64 f, .int .i64 l] 43)) hb1
  rw [hok]
  clear hs hb1
  go_wp2
  go_ret
  exact ⟨_, 0, rfl, own_mono (own_int_lit1 _) hbel.size, below_trans' hbel (al1 _ _)⟩

set_option maxRecDepth 20000 in
set_option maxHeartbeats 2000000 in
theorem specArnQueue_ok (b off cap : Nat) (ns : List Nd) (t f l : Int) (w : World) (hs : SNodes w (some ⟨b, off, none⟩) 10 ns) (hok : okA ns t f l = true) (hin : inB f 9 = true) (h1 : 1 ≤ (pathOf begQ ns t f l).length) :
    Calls Try.prog 31 #[.agg #[.slice (some ⟨b, off, none⟩) 10 cap, .int .i64 t, .int .i64 f, .int .i64 l]] w fun e w' => ListI (valsOf ns (pathOf begQ ns t f l).tail) e w w' := by
  obtain ⟨S, eS⟩ : ∃ S, pathOf begQ ns t f l = S := ⟨_, rfl⟩
  have HP : Hid (placesB S.tail ∧ S.length ≤ 9) := eS ▸ ⟨placesB_tail (path_places (p := begQ) hin).1, (path_places (p := begQ) hin).2⟩
  have hst0 := specArnQueued_any (some ⟨b, off, none⟩) 10 cap ns t f l
  rw [eS] at hst0 h1 ⊢
  obtain ⟨nS, lS⟩ : ∃ n, S.length = n := ⟨_, rfl⟩
  have HL : Hid (nS ≤ 9) := by show _ ≤ _; rw [← lS]; exact HP.out.2
  have hst : Hid (∀ W, SNodes W (some ⟨b, off, none⟩) 10 ns → Calls Try.prog 56 #[.agg #[.slice (some ⟨b, off, none⟩) 10 cap, .int .i64 t, .int .i64 f, .int .i64 l]] W fun e w' => ∃ g c, e = .returned (.slice (some ⟨g, 0, none⟩) nS c) ∧ nS ≤ c ∧ SInts w' (some ⟨g, 0, none⟩) nS S ∧ Below W.heap.size W w') := fun W h => (hst0 W h (by omega)).mono (by rintro e w' ⟨a, c, rfl, ho, hb⟩; rw [lS] at ho ⊢; obtain ⟨g, rfl, hc⟩ := own_some ho (by omega); exact ⟨g, c, rfl, hc, own_sints ho, hb⟩)
  have HN : Hid (1 ≤ nS) := by show _ ≤ _; omega
  obtain ⟨m, hm⟩ : ∃ m, (valsOf ns S.tail).length = m := ⟨_, rfl⟩
  have HMV : Hid ((valsOf ns S.tail).length = m) := hm
  have A := al1 w (.cells #[.slice (some ⟨b, off, none⟩) 10 cap, .int .i64 t, .int .i64 f, .int .i64 l] 43)
  have bx := boxA_new w (some ⟨b, off, none⟩) 10 cap t f l 43 rfl
  have hn1 : 1 ≤ nS := by omega
  have hn1i : (1 : Int) ≤ (nS : Int) := by omega
  clear hst0 eS lS hm hin h1
  go_enter Try.func31, Try.ntmps31
  go_wp2_with fail
  refine (specArnOk_any _ _ _ ns t f l _ (hs.below A) (by omega)).mono ?_
  rintro e w1 ⟨rfl, hb1⟩
  rw [hok]
  have HX : Hid (BoxA w1 w.heap.size (some ⟨b, off, none⟩) 10 cap t f l ∧ SNodes w1 (some ⟨b, off, none⟩) 10 ns ∧ Below w.heap.size w w1) := ⟨bx.below hb1, hs.below (below_trans' A hb1), below_trans' A hb1⟩
  clear hb1 bx A hok hs
  obtain ⟨p0, p1, p2, p3⟩ := HX.out.1.cells
  go_wp2
  have HB0 : Hid (Below w1.heap.size w1 w1.drew) := (Below.refl _ _).drew
  refine wp_region_held_drew (S := (fun w' => w'.cell? ⟨w.heap.size, 0, none⟩ = some (.slice (some ⟨b, off, none⟩) 10 cap) ∧ w'.cell? ⟨w.heap.size, 1, none⟩ = some (.int .i64 t) ∧ w'.cell? ⟨w.heap.size, 2, none⟩ = some (.int .i64 f) ∧ w'.cell? ⟨w.heap.size, 3, none⟩ = some (.int .i64 l))) (by kernel_rfl) ?_ (fun hHeld => ?_)
  · exact ⟨p0, p1, p2, p3⟩
  clear p0 p1 p2 p3
  refine wpAnyH_take (i := 0) (oi := ({ dst := some 7, op := Op.load 43 (Operand.tmp 1), type := 43, pos := "l2_arena.go:184", after := #[], guard := none } : Oper)) (v := ?_) rfl (by kernel_rfl) (by kernel_rfl) (by kernel_rfl) (fun _ _ _ h => h) (Or.inl ⟨by rfl, ?_⟩) (by assumption) ?_
  rotate_left
  · (intro wz hSw; (try dsimp only at hSw); go_simp; first | done | with_reducible rfl)
  (try simp only [Act.put, List.setIfInBounds_toArray, List.set_cons_zero, List.set_cons_succ])
  refine wpAnyH_take (i := 1) (oi := ({ dst := some 8, op := Op.load 43 (Operand.tmp 1), type := 43, pos := "l2_arena.go:184", after := #[], guard := none } : Oper)) (v := ?_) rfl (by kernel_rfl) (by kernel_rfl) (by kernel_rfl) (fun _ _ _ h => h) (Or.inl ⟨by rfl, ?_⟩) (by assumption) ?_
  rotate_left
  · (intro wz hSw; (try dsimp only at hSw); go_simp; first | done | with_reducible rfl)
  (try simp only [Act.put, List.setIfInBounds_toArray, List.set_cons_zero, List.set_cons_succ])
  refine wpAnyH_ready (rs := [2]) (by kernel_rfl) (by simp) ?_
  refine AllReadyH.cons (o := ({ dst := some 9, op := Op.call { callee := Callee.value (Operand.func 56), args := #[Operand.tmp 8], argTypes := #[43] }, type := 37, pos := "l2_arena.go:184", after := #[{ on := 1, ground := Ground.data }], guard := none } : Oper)) rfl (fun K hK => ?_) AllReadyH.nil
  clear hHeld
  go_simp
  go_wp2_with (go_at_call 56; refine (hst.out _ (HX.out.2.1.below HB0.out)).mono ?_; rintro e w2 ⟨gS, cS, rfl, hcS, sS, hb2⟩; have HC : Hid (∀ o, o = 1 ∨ nS = 1 → SInts w2 (some ⟨gS, o, none⟩) (nS - 1) S.tail) := fun o ho => sints_tail sS ho; have HB2 : Hid (Below w1.heap.size w1 w2) := below_trans' HB0.out hb2; have KP : Hid (w2.cell? ⟨w.heap.size, 0, none⟩ = some (.slice (some ⟨b, off, none⟩) 10 cap) ∧ w2.cell? ⟨w.heap.size, 1, none⟩ = some (.int .i64 t) ∧ w2.cell? ⟨w.heap.size, 2, none⟩ = some (.int .i64 f) ∧ w2.cell? ⟨w.heap.size, 3, none⟩ = some (.int .i64 l)) := (HX.out.1.below HB2.out).cells; clear sS hb2)
  refine hK.out _ _ ?_ (fun hHeld => ?_)
  · exact KP.out
  clear hK K KP
  (try simp only [Act.put, List.setIfInBounds_toArray, List.set_cons_zero, List.set_cons_succ])
  obtain ⟨aT, haT⟩ : ∃ aT : Option Addr, (if cS = 1 then some ⟨gS, 0, none⟩ else some ⟨gS, 1, none⟩) = aT := ⟨_, rfl⟩
  have HC2 : Hid (SInts w2 aT (nS - 1) S.tail) := by
    show SInts _ _ _ _
    rw [← haT]
    split
    · exact HC.out _ (.inr (by omega))
    · exact HC.out _ (.inl rfl)
  refine wpAnyH_take (i := 3) (oi := ({ dst := some 10, op := Op.slice 37 (Operand.tmp 9) (some (Operand.const (Value.int IntKind.i64 1))) none none, type := 37, pos := "l2_arena.go:184", after := #[{ on := 2, ground := Ground.data }], guard := none } : Oper)) (v := .slice aT (nS - 1) (cS - 1)) rfl (by kernel_rfl) (by kernel_rfl) (by kernel_rfl) (fun _ _ _ h => h) (Or.inl ⟨by rfl, ?_⟩) (by assumption) ?_
  · (intro wz hSw; (try dsimp only at hSw); go_simp; first | done | (rw [if_pos hn1i, haT]))
  (try simp only [Act.put, List.setIfInBounds_toArray, List.set_cons_zero, List.set_cons_succ])
  clear haT hcS
  refine wpAnyH_ready (rs := [4]) (by kernel_rfl) (by simp) ?_
  refine AllReadyH.cons (o := ({ dst := some 11, op := Op.call { callee := Callee.value (Operand.func 54), args := #[Operand.tmp 7, Operand.tmp 10], argTypes := #[43, 37] }, type := 37, pos := "l2_arena.go:184", after := #[{ on := 0, ground := Ground.data }, { on := 3, ground := Ground.data }, { on := 2, ground := Ground.chain }], guard := none } : Oper)) rfl (fun K hK => ?_) AllReadyH.nil
  clear hHeld
  go_simp
  go_wp2_with (go_at_call 54; refine (l2Vals_any b off cap ns t f l _ _ _ S.tail _ (HX.out.2.1.below HB2.out) HC2.out (by have := HL.out; omega) HP.out.1).mono ?_; rintro e w3 ⟨aV, cV, rfl, oV, hb3⟩; rw [HMV.out] at oV ⊢; have HV : Hid (w3.ownsRow w.heap.size 3 1 (.slice aV m cV) m ((valsOf ns S.tail).map (Value.int .i64)) ∧ Below w.heap.size w w3) := ⟨own_mono oV (Nat.le_trans HX.out.2.2.size HB2.out.size), below_trans' HX.out.2.2 (below_trans' HB2.out hb3)⟩; have KP : Hid (w3.cell? ⟨w.heap.size, 0, none⟩ = some (.slice (some ⟨b, off, none⟩) 10 cap) ∧ w3.cell? ⟨w.heap.size, 1, none⟩ = some (.int .i64 t) ∧ w3.cell? ⟨w.heap.size, 2, none⟩ = some (.int .i64 f) ∧ w3.cell? ⟨w.heap.size, 3, none⟩ = some (.int .i64 l)) := (HX.out.1.below (below_trans' HB2.out hb3)).cells; clear oV hb3)
  refine hK.out _ _ ?_ (fun hHeld => ?_)
  · exact KP.out
  clear hK K KP
  (try simp only [Act.put, List.setIfInBounds_toArray, List.set_cons_zero, List.set_cons_succ])
  refine wpAnyH_take (i := 5) (oi := ({ dst := some 2, op := Op.assign (Operand.tmp 11), type := 37, pos := "l2_arena.go:184", after := #[{ on := 4, ground := Ground.data }, { on := 4, ground := Ground.chain }, { on := 0, ground := Ground.phase }, { on := 1, ground := Ground.phase }, { on := 2, ground := Ground.phase }, { on := 3, ground := Ground.phase }, { on := 4, ground := Ground.phase }], guard := none } : Oper)) (v := ?_) rfl (by kernel_rfl) (by kernel_rfl) (by kernel_rfl) (fun _ _ _ h => h) (Or.inl ⟨by rfl, ?_⟩) (by assumption) ?_
  rotate_left
  · (intro wz hSw; (try dsimp only at hSw); go_simp; first | done | with_reducible rfl)
  (try simp only [Act.put, List.setIfInBounds_toArray, List.set_cons_zero, List.set_cons_succ])
  refine wpAnyH_done (by kernel_rfl) ?_ _
  go_wp2
  go_ret
  refine ⟨aV, cV, ?_⟩
  rw [HMV.out]
  exact ⟨rfl, HV.out.1, HV.out.2⟩

theorem specArnQueue_any (a : Option Addr) (n cap : Nat) (ns : List Nd) (t f l : Int) (w : World) (hs : SNodes w a n ns) (hn : n ≤ 1048576) :
    Calls Try.prog 31 #[.agg #[.slice a n cap, .int .i64 t, .int .i64 f, .int .i64 l]] w fun e w' => ListI (queueL ns t f l) e w w' := by
  cases hok : okA ns t f l
  · have e : queueL ns t f l = [] := by simp [queueL, hok]
    rw [e]
    exact specArnQueue_bad a n cap ns t f l w hs hn hok
  · have hsh : shapeB ns t f l = true := by
      unfold okA at hok
      exact (Bool.and_eq_true _ _ ▸ hok).1
    obtain ⟨hl, _, _, _, h5, _⟩ := shapeB_parts hsh
    obtain ⟨rfl, b, off, rfl⟩ := snodes_some hs hl
    have e : queueL ns t f l = valsOf ns (pathOf begQ ns t f l).tail := by simp [queueL, hok]
    rw [e]
    exact specArnQueue_ok b off cap ns t f l w hs hok (inP_inB h5) (queue_some ns t l hsh h5)

set_option maxHeartbeats 1000000 in
theorem implArnQueue_bad (a : Option Addr) (n cap : Nat) (ns : List Nd) (t f l : Int) (w : World) (hs : SNodes w a n ns) (hn : n ≤ 1048576) (hok : okA ns t f l = false) :
    Calls Try.prog 35 #[.agg #[.slice a n cap, .int .i64 t, .int .i64 f, .int .i64 l]] w fun e w' => ListI [] e w w' := by
  go_enter Try.func35, Try.ntmps35
  go_wp2_with fail
  refine (implArnOk_any _ _ _ ns t f l _ (hs.below (al1 w (.cells #[.slice a n cap, .int .i64 t, .int .i64 f, .int .i64 l] 43))) hn).mono ?_
  rintro e w1 ⟨rfl, hb1⟩
  have hbel := below_trans' (al1 w (.cells #[.slice a n cap, .int .i64 t, .int .i64 f, .int .i64 l] 43)) hb1
  rw [hok]
  clear hs hb1
  go_wp2
  go_ret
  exact ⟨none, 0, rfl, ⟨rfl, .inl ⟨rfl, rfl⟩⟩, hbel⟩

set_option maxRecDepth 20000 in
set_option maxHeartbeats 2000000 in
theorem implArnQueue_ok (b off cap : Nat) (ns : List Nd) (t f l : Int) (w : World) (hs : SNodes w (some ⟨b, off, none⟩) 10 ns) (hok : okA ns t f l = true) (hin : inB f 9 = true) (h1 : 1 ≤ (pathOf begQ ns t f l).length) :
    Calls Try.prog 35 #[.agg #[.slice (some ⟨b, off, none⟩) 10 cap, .int .i64 t, .int .i64 f, .int .i64 l]] w fun e w' => ListI (valsOf ns (pathOf begQ ns t f l).tail) e w w' := by
  obtain ⟨S, eS⟩ : ∃ S, pathOf begQ ns t f l = S := ⟨_, rfl⟩
  have HP : Hid (placesB S.tail ∧ S.length ≤ 9) := eS ▸ ⟨placesB_tail (path_places (p := begQ) hin).1, (path_places (p := begQ) hin).2⟩
  have hst0 := implArnQueued_any (some ⟨b, off, none⟩) 10 cap ns t f l
  rw [eS] at hst0 h1 ⊢
  obtain ⟨nS, lS⟩ : ∃ n, S.length = n := ⟨_, rfl⟩
  have HL : Hid (nS ≤ 9) := by show _ ≤ _; rw [← lS]; exact HP.out.2
  have hst : Hid (∀ W, SNodes W (some ⟨b, off, none⟩) 10 ns → Calls Try.prog 64 #[.agg #[.slice (some ⟨b, off, none⟩) 10 cap, .int .i64 t, .int .i64 f, .int .i64 l]] W fun e w' => ∃ g c, e = .returned (.slice (some ⟨g, 0, none⟩) nS c) ∧ nS ≤ c ∧ SInts w' (some ⟨g, 0, none⟩) nS S ∧ Below W.heap.size W w') := fun W h => (hst0 W h (by omega)).mono (by rintro e w' ⟨a, c, rfl, ho, hb⟩; rw [lS] at ho ⊢; obtain ⟨g, rfl, hc⟩ := own_some ho (by omega); exact ⟨g, c, rfl, hc, own_sints ho, hb⟩)
  have HN : Hid (1 ≤ nS) := by show _ ≤ _; omega
  obtain ⟨m, hm⟩ : ∃ m, (valsOf ns S.tail).length = m := ⟨_, rfl⟩
  have HMV : Hid ((valsOf ns S.tail).length = m) := hm
  have A := al1 w (.cells #[.slice (some ⟨b, off, none⟩) 10 cap, .int .i64 t, .int .i64 f, .int .i64 l] 43)
  have bx := boxA_new w (some ⟨b, off, none⟩) 10 cap t f l 43 rfl
  have hn1 : 1 ≤ nS := by omega
  have hn1i : (1 : Int) ≤ (nS : Int) := by omega
  clear hst0 eS lS hm hin h1
  go_enter Try.func35, Try.ntmps35
  go_wp2_with fail
  refine (implArnOk_any _ _ _ ns t f l _ (hs.below A) (by omega)).mono ?_
  rintro e w1 ⟨rfl, hb1⟩
  rw [hok]
  have HX : Hid (BoxA w1 w.heap.size (some ⟨b, off, none⟩) 10 cap t f l ∧ SNodes w1 (some ⟨b, off, none⟩) 10 ns ∧ Below w.heap.size w w1) := ⟨bx.below hb1, hs.below (below_trans' A hb1), below_trans' A hb1⟩
  clear hb1 bx A hok hs
  obtain ⟨p0, p1, p2, p3⟩ := HX.out.1.cells
  go_wp2
  have HB0 : Hid (Below w1.heap.size w1 w1.drew) := (Below.refl _ _).drew
  refine wp_region_held_drew (S := (fun w' => w'.cell? ⟨w.heap.size, 0, none⟩ = some (.slice (some ⟨b, off, none⟩) 10 cap) ∧ w'.cell? ⟨w.heap.size, 1, none⟩ = some (.int .i64 t) ∧ w'.cell? ⟨w.heap.size, 2, none⟩ = some (.int .i64 f) ∧ w'.cell? ⟨w.heap.size, 3, none⟩ = some (.int .i64 l))) (by kernel_rfl) ?_ (fun hHeld => ?_)
  · exact ⟨p0, p1, p2, p3⟩
  clear p0 p1 p2 p3
  refine wpAnyH_take (i := 0) (oi := ({ dst := some 6, op := Op.load 43 (Operand.tmp 1), type := 43, pos := "l2_arena.go:269", after := #[], guard := none } : Oper)) (v := ?_) rfl (by kernel_rfl) (by kernel_rfl) (by kernel_rfl) (fun _ _ _ h => h) (Or.inl ⟨by rfl, ?_⟩) (by assumption) ?_
  rotate_left
  · (intro wz hSw; (try dsimp only at hSw); go_simp; first | done | with_reducible rfl)
  (try simp only [Act.put, List.setIfInBounds_toArray, List.set_cons_zero, List.set_cons_succ])
  refine wpAnyH_take (i := 1) (oi := ({ dst := some 7, op := Op.load 43 (Operand.tmp 1), type := 43, pos := "l2_arena.go:269", after := #[], guard := none } : Oper)) (v := ?_) rfl (by kernel_rfl) (by kernel_rfl) (by kernel_rfl) (fun _ _ _ h => h) (Or.inl ⟨by rfl, ?_⟩) (by assumption) ?_
  rotate_left
  · (intro wz hSw; (try dsimp only at hSw); go_simp; first | done | with_reducible rfl)
  (try simp only [Act.put, List.setIfInBounds_toArray, List.set_cons_zero, List.set_cons_succ])
  refine wpAnyH_ready (rs := [2]) (by kernel_rfl) (by simp) ?_
  refine AllReadyH.cons (o := ({ dst := some 8, op := Op.call { callee := Callee.value (Operand.func 64), args := #[Operand.tmp 7], argTypes := #[43] }, type := 37, pos := "l2_arena.go:269", after := #[{ on := 1, ground := Ground.data }], guard := none } : Oper)) rfl (fun K hK => ?_) AllReadyH.nil
  clear hHeld
  go_simp
  go_wp2_with (go_at_call 64; refine (hst.out _ (HX.out.2.1.below HB0.out)).mono ?_; rintro e w2 ⟨gS, cS, rfl, hcS, sS, hb2⟩; have HC : Hid (∀ o, o = 1 ∨ nS = 1 → SInts w2 (some ⟨gS, o, none⟩) (nS - 1) S.tail) := fun o ho => sints_tail sS ho; have HB2 : Hid (Below w1.heap.size w1 w2) := below_trans' HB0.out hb2; have KP : Hid (w2.cell? ⟨w.heap.size, 0, none⟩ = some (.slice (some ⟨b, off, none⟩) 10 cap) ∧ w2.cell? ⟨w.heap.size, 1, none⟩ = some (.int .i64 t) ∧ w2.cell? ⟨w.heap.size, 2, none⟩ = some (.int .i64 f) ∧ w2.cell? ⟨w.heap.size, 3, none⟩ = some (.int .i64 l)) := (HX.out.1.below HB2.out).cells; clear sS hb2)
  refine hK.out _ _ ?_ (fun hHeld => ?_)
  · exact KP.out
  clear hK K KP
  (try simp only [Act.put, List.setIfInBounds_toArray, List.set_cons_zero, List.set_cons_succ])
  obtain ⟨aT, haT⟩ : ∃ aT : Option Addr, (if cS = 1 then some ⟨gS, 0, none⟩ else some ⟨gS, 1, none⟩) = aT := ⟨_, rfl⟩
  have HC2 : Hid (SInts w2 aT (nS - 1) S.tail) := by
    show SInts _ _ _ _
    rw [← haT]
    split
    · exact HC.out _ (.inr (by omega))
    · exact HC.out _ (.inl rfl)
  refine wpAnyH_take (i := 3) (oi := ({ dst := some 9, op := Op.slice 37 (Operand.tmp 8) (some (Operand.const (Value.int IntKind.i64 1))) none none, type := 37, pos := "l2_arena.go:269", after := #[{ on := 2, ground := Ground.data }], guard := none } : Oper)) (v := .slice aT (nS - 1) (cS - 1)) rfl (by kernel_rfl) (by kernel_rfl) (by kernel_rfl) (fun _ _ _ h => h) (Or.inl ⟨by rfl, ?_⟩) (by assumption) ?_
  · (intro wz hSw; (try dsimp only at hSw); go_simp; first | done | (rw [if_pos hn1i, haT]))
  (try simp only [Act.put, List.setIfInBounds_toArray, List.set_cons_zero, List.set_cons_succ])
  clear haT hcS
  refine wpAnyH_ready (rs := [4]) (by kernel_rfl) (by simp) ?_
  refine AllReadyH.cons (o := ({ dst := some 10, op := Op.call { callee := Callee.value (Operand.func 62), args := #[Operand.tmp 6, Operand.tmp 9], argTypes := #[43, 37] }, type := 37, pos := "l2_arena.go:269", after := #[{ on := 0, ground := Ground.data }, { on := 3, ground := Ground.data }, { on := 2, ground := Ground.chain }], guard := none } : Oper)) rfl (fun K hK => ?_) AllReadyH.nil
  clear hHeld
  go_simp
  go_wp2_with (go_at_call 62; refine (values_any b off cap ns t f l _ _ _ S.tail _ (HX.out.2.1.below HB2.out) HC2.out (by have := HL.out; omega) HP.out.1).mono ?_; rintro e w3 ⟨aV, cV, rfl, oV, hb3⟩; rw [HMV.out] at oV ⊢; have HV : Hid (w3.ownsRow w.heap.size 3 1 (.slice aV m cV) m ((valsOf ns S.tail).map (Value.int .i64)) ∧ Below w.heap.size w w3) := ⟨own_mono oV (Nat.le_trans HX.out.2.2.size HB2.out.size), below_trans' HX.out.2.2 (below_trans' HB2.out hb3)⟩; have KP : Hid (w3.cell? ⟨w.heap.size, 0, none⟩ = some (.slice (some ⟨b, off, none⟩) 10 cap) ∧ w3.cell? ⟨w.heap.size, 1, none⟩ = some (.int .i64 t) ∧ w3.cell? ⟨w.heap.size, 2, none⟩ = some (.int .i64 f) ∧ w3.cell? ⟨w.heap.size, 3, none⟩ = some (.int .i64 l)) := (HX.out.1.below (below_trans' HB2.out hb3)).cells; clear oV hb3)
  refine hK.out _ _ ?_ (fun hHeld => ?_)
  · exact KP.out
  clear hK K KP
  (try simp only [Act.put, List.setIfInBounds_toArray, List.set_cons_zero, List.set_cons_succ])
  refine wpAnyH_take (i := 5) (oi := ({ dst := some 2, op := Op.assign (Operand.tmp 10), type := 37, pos := "l2_arena.go:269", after := #[{ on := 4, ground := Ground.data }, { on := 4, ground := Ground.chain }, { on := 0, ground := Ground.phase }, { on := 1, ground := Ground.phase }, { on := 2, ground := Ground.phase }, { on := 3, ground := Ground.phase }, { on := 4, ground := Ground.phase }], guard := none } : Oper)) (v := ?_) rfl (by kernel_rfl) (by kernel_rfl) (by kernel_rfl) (fun _ _ _ h => h) (Or.inl ⟨by rfl, ?_⟩) (by assumption) ?_
  rotate_left
  · (intro wz hSw; (try dsimp only at hSw); go_simp; first | done | with_reducible rfl)
  (try simp only [Act.put, List.setIfInBounds_toArray, List.set_cons_zero, List.set_cons_succ])
  refine wpAnyH_done (by kernel_rfl) ?_ _
  go_wp2
  go_ret
  refine ⟨aV, cV, ?_⟩
  rw [HMV.out]
  exact ⟨rfl, HV.out.1, HV.out.2⟩

theorem implArnQueue_any (a : Option Addr) (n cap : Nat) (ns : List Nd) (t f l : Int) (w : World) (hs : SNodes w a n ns) (hn : n ≤ 1048576) :
    Calls Try.prog 35 #[.agg #[.slice a n cap, .int .i64 t, .int .i64 f, .int .i64 l]] w fun e w' => ListI (queueL ns t f l) e w w' := by
  cases hok : okA ns t f l
  · have e : queueL ns t f l = [] := by simp [queueL, hok]
    rw [e]
    exact implArnQueue_bad a n cap ns t f l w hs hn hok
  · have hsh : shapeB ns t f l = true := by
      unfold okA at hok
      exact (Bool.and_eq_true _ _ ▸ hok).1
    obtain ⟨hl, _, _, _, h5, _⟩ := shapeB_parts hsh
    obtain ⟨rfl, b, off, rfl⟩ := snodes_some hs hl
    have e : queueL ns t f l = valsOf ns (pathOf begQ ns t f l).tail := by simp [queueL, hok]
    rw [e]
    exact implArnQueue_ok b off cap ns t f l w hs hok (inP_inB h5) (queue_some ns t l hsh h5)

end Go.Proofs.Ytklpdpdjblakgaa

/- Stack -/
namespace Go.Proofs.Ytklpdpdjblakgaa
open Go.RowKit
set_option linter.unusedVariables false
set_option maxRecDepth 20000

/-- The stack's values, of places that are ok. -/
def stackL (ns : List Nd) (t f l : Int) : List Int := if okA ns t f l then valsOf ns (pathOf begS ns t f l) else []

set_option maxHeartbeats 1000000 in
theorem specArnStack_bad (a : Option Addr) (n cap : Nat) (ns : List Nd) (t f l : Int) (w : World) (hs : SNodes w a n ns) (hn : n ≤ 1048576) (hok : okA ns t f l = false) :
    Calls Try.prog 30 #[.agg #[.slice a n cap, .int .i64 t, .int .i64 f, .int .i64 l]] w fun e w' => ListI [] e w w' := by
  go_enter Try.func30, Try.ntmps30
  go_wp2_with fail
  refine (specArnOk_any _ _ _ ns t f l _ (hs.below (al1 w (.cells #[.slice a n cap, .int .i64 t, .int .i64 f, .int .i64 l] 43))) hn).mono ?_
  rintro e w1 ⟨rfl, hb1⟩
  have hbel := below_trans' (al1 w (.cells #[.slice a n cap, .int .i64 t, .int .i64 f, .int .i64 l] 43)) hb1
  rw [hok]
  clear hs hb1
  go_wp2
  go_ret
  exact ⟨_, 0, rfl, own_mono (own_int_lit1 _) hbel.size, below_trans' hbel (al1 _ _)⟩

set_option maxRecDepth 20000 in
set_option maxHeartbeats 2000000 in
theorem specArnStack_ok (b off cap : Nat) (ns : List Nd) (t f l : Int) (w : World) (hs : SNodes w (some ⟨b, off, none⟩) 10 ns) (hok : okA ns t f l = true) (hin : inB t 9 = true) :
    Calls Try.prog 30 #[.agg #[.slice (some ⟨b, off, none⟩) 10 cap, .int .i64 t, .int .i64 f, .int .i64 l]] w fun e w' => ListI (valsOf ns (pathOf begS ns t f l)) e w w' := by
  obtain ⟨S, eS⟩ : ∃ S, pathOf begS ns t f l = S := ⟨_, rfl⟩
  have HP : Hid (placesB S ∧ S.length ≤ 9) := eS ▸ path_places (p := begS) hin
  have hst0 := specArnStacked_any (some ⟨b, off, none⟩) 10 cap ns t f l
  rw [eS] at hst0 ⊢
  obtain ⟨nS, lS⟩ : ∃ n, S.length = n := ⟨_, rfl⟩
  have HL : Hid (nS ≤ 9) := by show _ ≤ _; rw [← lS]; exact HP.out.2
  have hst : Hid (∀ W, SNodes W (some ⟨b, off, none⟩) 10 ns → Calls Try.prog 55 #[.agg #[.slice (some ⟨b, off, none⟩) 10 cap, .int .i64 t, .int .i64 f, .int .i64 l]] W fun e w' => ∃ a c, e = .returned (.slice a nS c) ∧ SInts w' a nS S ∧ Below W.heap.size W w') := fun W h => (hst0 W h (by omega)).mono (by rintro e w' ⟨a, c, rfl, ho, hb⟩; rw [lS] at ho ⊢; exact ⟨a, c, rfl, own_sints ho, hb⟩)
  obtain ⟨m, hm⟩ : ∃ m, (valsOf ns S).length = m := ⟨_, rfl⟩
  have HMV : Hid ((valsOf ns S).length = m) := hm
  have A := al1 w (.cells #[.slice (some ⟨b, off, none⟩) 10 cap, .int .i64 t, .int .i64 f, .int .i64 l] 43)
  have bx := boxA_new w (some ⟨b, off, none⟩) 10 cap t f l 43 rfl
  clear hst0 eS lS hm hin
  go_enter Try.func30, Try.ntmps30
  go_wp2_with fail
  refine (specArnOk_any _ _ _ ns t f l _ (hs.below A) (by omega)).mono ?_
  rintro e w1 ⟨rfl, hb1⟩
  rw [hok]
  have HX : Hid (BoxA w1 w.heap.size (some ⟨b, off, none⟩) 10 cap t f l ∧ SNodes w1 (some ⟨b, off, none⟩) 10 ns ∧ Below w.heap.size w w1) := ⟨bx.below hb1, hs.below (below_trans' A hb1), below_trans' A hb1⟩
  clear hb1 bx A hok hs
  obtain ⟨p0, p1, p2, p3⟩ := HX.out.1.cells
  go_wp2
  have HB0 : Hid (Below w1.heap.size w1 w1.drew) := (Below.refl _ _).drew
  go_region_held_law (fun w' => w'.cell? ⟨w.heap.size, 0, none⟩ = some (.slice (some ⟨b, off, none⟩) 10 cap) ∧ w'.cell? ⟨w.heap.size, 1, none⟩ = some (.int .i64 t) ∧ w'.cell? ⟨w.heap.size, 2, none⟩ = some (.int .i64 f) ∧ w'.cell? ⟨w.heap.size, 3, none⟩ = some (.int .i64 l)) (first | (go_keep; done) | exact KP.out)
    ((first
      | (go_at_call 55; refine (hst.out _ (HX.out.2.1.below HB0.out)).mono ?_; rintro e w2 ⟨aS, cS, rfl, sS, hb2⟩; have HC : Hid (SInts w2 aS nS S) := sS; have HB2 : Hid (Below w1.heap.size w1 w2) := below_trans' HB0.out hb2; have KP : Hid (w2.cell? ⟨w.heap.size, 0, none⟩ = some (.slice (some ⟨b, off, none⟩) 10 cap) ∧ w2.cell? ⟨w.heap.size, 1, none⟩ = some (.int .i64 t) ∧ w2.cell? ⟨w.heap.size, 2, none⟩ = some (.int .i64 f) ∧ w2.cell? ⟨w.heap.size, 3, none⟩ = some (.int .i64 l)) := (HX.out.1.below HB2.out).cells; clear sS hb2)
      | (go_at_call 54; refine (l2Vals_any b off cap ns t f l aS nS cS S _ (HX.out.2.1.below HB2.out) HC.out (by have := HL.out; omega) HP.out.1).mono ?_; rintro e w3 ⟨aV, cV, rfl, oV, hb3⟩; rw [HMV.out] at oV ⊢; have HV : Hid (w3.ownsRow w.heap.size 3 1 (.slice aV m cV) m ((valsOf ns S).map (Value.int .i64)) ∧ Below w.heap.size w w3) := ⟨own_mono oV (Nat.le_trans HX.out.2.2.size HB2.out.size), below_trans' HX.out.2.2 (below_trans' HB2.out hb3)⟩; have KP : Hid (w3.cell? ⟨w.heap.size, 0, none⟩ = some (.slice (some ⟨b, off, none⟩) 10 cap) ∧ w3.cell? ⟨w.heap.size, 1, none⟩ = some (.int .i64 t) ∧ w3.cell? ⟨w.heap.size, 2, none⟩ = some (.int .i64 f) ∧ w3.cell? ⟨w.heap.size, 3, none⟩ = some (.int .i64 l)) := (HX.out.1.below (below_trans' HB2.out hb3)).cells; clear oV hb3)))
  go_wp2
  go_ret
  refine ⟨aV, cV, ?_⟩
  rw [HMV.out]
  exact ⟨rfl, HV.out.1, HV.out.2⟩

theorem specArnStack_any (a : Option Addr) (n cap : Nat) (ns : List Nd) (t f l : Int) (w : World) (hs : SNodes w a n ns) (hn : n ≤ 1048576) :
    Calls Try.prog 30 #[.agg #[.slice a n cap, .int .i64 t, .int .i64 f, .int .i64 l]] w fun e w' => ListI (stackL ns t f l) e w w' := by
  cases hok : okA ns t f l
  · have e : stackL ns t f l = [] := by simp [stackL, hok]
    rw [e]
    exact specArnStack_bad a n cap ns t f l w hs hn hok
  · have hsh : shapeB ns t f l = true := by
      unfold okA at hok
      exact (Bool.and_eq_true _ _ ▸ hok).1
    obtain ⟨hl, _, _, h4, _⟩ := shapeB_parts hsh
    obtain ⟨rfl, b, off, rfl⟩ := snodes_some hs hl
    have e : stackL ns t f l = valsOf ns (pathOf begS ns t f l) := by simp [stackL, hok]
    rw [e]
    exact specArnStack_ok b off cap ns t f l w hs hok h4

set_option maxHeartbeats 1000000 in
theorem implArnStack_bad (a : Option Addr) (n cap : Nat) (ns : List Nd) (t f l : Int) (w : World) (hs : SNodes w a n ns) (hn : n ≤ 1048576) (hok : okA ns t f l = false) :
    Calls Try.prog 34 #[.agg #[.slice a n cap, .int .i64 t, .int .i64 f, .int .i64 l]] w fun e w' => ListI [] e w w' := by
  go_enter Try.func34, Try.ntmps34
  go_wp2_with fail
  refine (implArnOk_any _ _ _ ns t f l _ (hs.below (al1 w (.cells #[.slice a n cap, .int .i64 t, .int .i64 f, .int .i64 l] 43))) hn).mono ?_
  rintro e w1 ⟨rfl, hb1⟩
  have hbel := below_trans' (al1 w (.cells #[.slice a n cap, .int .i64 t, .int .i64 f, .int .i64 l] 43)) hb1
  rw [hok]
  clear hs hb1
  go_wp2
  go_ret
  exact ⟨none, 0, rfl, ⟨rfl, .inl ⟨rfl, rfl⟩⟩, hbel⟩

set_option maxRecDepth 20000 in
set_option maxHeartbeats 2000000 in
theorem implArnStack_ok (b off cap : Nat) (ns : List Nd) (t f l : Int) (w : World) (hs : SNodes w (some ⟨b, off, none⟩) 10 ns) (hok : okA ns t f l = true) (hin : inB t 9 = true) :
    Calls Try.prog 34 #[.agg #[.slice (some ⟨b, off, none⟩) 10 cap, .int .i64 t, .int .i64 f, .int .i64 l]] w fun e w' => ListI (valsOf ns (pathOf begS ns t f l)) e w w' := by
  obtain ⟨S, eS⟩ : ∃ S, pathOf begS ns t f l = S := ⟨_, rfl⟩
  have HP : Hid (placesB S ∧ S.length ≤ 9) := eS ▸ path_places (p := begS) hin
  have hst0 := implArnStacked_any (some ⟨b, off, none⟩) 10 cap ns t f l
  rw [eS] at hst0 ⊢
  obtain ⟨nS, lS⟩ : ∃ n, S.length = n := ⟨_, rfl⟩
  have HL : Hid (nS ≤ 9) := by show _ ≤ _; rw [← lS]; exact HP.out.2
  have hst : Hid (∀ W, SNodes W (some ⟨b, off, none⟩) 10 ns → Calls Try.prog 63 #[.agg #[.slice (some ⟨b, off, none⟩) 10 cap, .int .i64 t, .int .i64 f, .int .i64 l]] W fun e w' => ∃ a c, e = .returned (.slice a nS c) ∧ SInts w' a nS S ∧ Below W.heap.size W w') := fun W h => (hst0 W h (by omega)).mono (by rintro e w' ⟨a, c, rfl, ho, hb⟩; rw [lS] at ho ⊢; exact ⟨a, c, rfl, own_sints ho, hb⟩)
  obtain ⟨m, hm⟩ : ∃ m, (valsOf ns S).length = m := ⟨_, rfl⟩
  have HMV : Hid ((valsOf ns S).length = m) := hm
  have A := al1 w (.cells #[.slice (some ⟨b, off, none⟩) 10 cap, .int .i64 t, .int .i64 f, .int .i64 l] 43)
  have bx := boxA_new w (some ⟨b, off, none⟩) 10 cap t f l 43 rfl
  clear hst0 eS lS hm hin
  go_enter Try.func34, Try.ntmps34
  go_wp2_with fail
  refine (implArnOk_any _ _ _ ns t f l _ (hs.below A) (by omega)).mono ?_
  rintro e w1 ⟨rfl, hb1⟩
  rw [hok]
  have HX : Hid (BoxA w1 w.heap.size (some ⟨b, off, none⟩) 10 cap t f l ∧ SNodes w1 (some ⟨b, off, none⟩) 10 ns ∧ Below w.heap.size w w1) := ⟨bx.below hb1, hs.below (below_trans' A hb1), below_trans' A hb1⟩
  clear hb1 bx A hok hs
  obtain ⟨p0, p1, p2, p3⟩ := HX.out.1.cells
  go_wp2
  have HB0 : Hid (Below w1.heap.size w1 w1.drew) := (Below.refl _ _).drew
  go_region_held_law (fun w' => w'.cell? ⟨w.heap.size, 0, none⟩ = some (.slice (some ⟨b, off, none⟩) 10 cap) ∧ w'.cell? ⟨w.heap.size, 1, none⟩ = some (.int .i64 t) ∧ w'.cell? ⟨w.heap.size, 2, none⟩ = some (.int .i64 f) ∧ w'.cell? ⟨w.heap.size, 3, none⟩ = some (.int .i64 l)) (first | (go_keep; done) | exact KP.out)
    ((first
      | (go_at_call 63; refine (hst.out _ (HX.out.2.1.below HB0.out)).mono ?_; rintro e w2 ⟨aS, cS, rfl, sS, hb2⟩; have HC : Hid (SInts w2 aS nS S) := sS; have HB2 : Hid (Below w1.heap.size w1 w2) := below_trans' HB0.out hb2; have KP : Hid (w2.cell? ⟨w.heap.size, 0, none⟩ = some (.slice (some ⟨b, off, none⟩) 10 cap) ∧ w2.cell? ⟨w.heap.size, 1, none⟩ = some (.int .i64 t) ∧ w2.cell? ⟨w.heap.size, 2, none⟩ = some (.int .i64 f) ∧ w2.cell? ⟨w.heap.size, 3, none⟩ = some (.int .i64 l)) := (HX.out.1.below HB2.out).cells; clear sS hb2)
      | (go_at_call 62; refine (values_any b off cap ns t f l aS nS cS S _ (HX.out.2.1.below HB2.out) HC.out (by have := HL.out; omega) HP.out.1).mono ?_; rintro e w3 ⟨aV, cV, rfl, oV, hb3⟩; rw [HMV.out] at oV ⊢; have HV : Hid (w3.ownsRow w.heap.size 3 1 (.slice aV m cV) m ((valsOf ns S).map (Value.int .i64)) ∧ Below w.heap.size w w3) := ⟨own_mono oV (Nat.le_trans HX.out.2.2.size HB2.out.size), below_trans' HX.out.2.2 (below_trans' HB2.out hb3)⟩; have KP : Hid (w3.cell? ⟨w.heap.size, 0, none⟩ = some (.slice (some ⟨b, off, none⟩) 10 cap) ∧ w3.cell? ⟨w.heap.size, 1, none⟩ = some (.int .i64 t) ∧ w3.cell? ⟨w.heap.size, 2, none⟩ = some (.int .i64 f) ∧ w3.cell? ⟨w.heap.size, 3, none⟩ = some (.int .i64 l)) := (HX.out.1.below (below_trans' HB2.out hb3)).cells; clear oV hb3)))
  go_wp2
  go_ret
  refine ⟨aV, cV, ?_⟩
  rw [HMV.out]
  exact ⟨rfl, HV.out.1, HV.out.2⟩

theorem implArnStack_any (a : Option Addr) (n cap : Nat) (ns : List Nd) (t f l : Int) (w : World) (hs : SNodes w a n ns) (hn : n ≤ 1048576) :
    Calls Try.prog 34 #[.agg #[.slice a n cap, .int .i64 t, .int .i64 f, .int .i64 l]] w fun e w' => ListI (stackL ns t f l) e w w' := by
  cases hok : okA ns t f l
  · have e : stackL ns t f l = [] := by simp [stackL, hok]
    rw [e]
    exact implArnStack_bad a n cap ns t f l w hs hn hok
  · have hsh : shapeB ns t f l = true := by
      unfold okA at hok
      exact (Bool.and_eq_true _ _ ▸ hok).1
    obtain ⟨hl, _, _, h4, _⟩ := shapeB_parts hsh
    obtain ⟨rfl, b, off, rfl⟩ := snodes_some hs hl
    have e : stackL ns t f l = valsOf ns (pathOf begS ns t f l) := by simp [stackL, hok]
    rw [e]
    exact implArnStack_ok b off cap ns t f l w hs hok h4

end Go.Proofs.Ytklpdpdjblakgaa

/- LInv -/
namespace Go.Proofs.Ytklpdpdjblakgaa
open Go.RowKit
set_option linter.unusedVariables false

theorem pathOf_len (p : List Nd → Int → Int → Int → Int) (ns : List Nd) (t f l : Int) : (pathOf p ns t f l).length ≤ 2000000 := by
  unfold pathOf
  split
  · have := fromTo_len ns (p ns t f l) 9; omega
  · simp

structure LInv (w : World) (a : Option Addr) (n cap : Nat) (t f l : Int) (S1 S2 S3 : Nat) (aw : Option Addr) (N cw : Nat) (L : List Int) (bx gx : Nat) (X : List Nd) (ag : Option Addr) (cg : Nat) (G : List Int) (W : World) : Prop where
  inv : Inv3 w S1 S2 S3 (fun W => BoxA W w.heap.size a n cap t f l ∧ RowIn w.heap.size S1 3 1 (.slice aw N cw) N (L.map (Value.int .i64)) W) (ArIn S1 S2 bx (some ⟨gx, 0, none⟩) n n X t f l) (RowIn S2 S3 3 1 (.slice ag N cg) N (G.map (Value.int .i64))) W
  x1 : S1 ≤ bx
  x2 : bx < S2
  xr : ∀ k, (Value.slice (some ⟨gx, 0, none⟩) n n).ownBlock = some k → S1 ≤ k ∧ k < S2
  xn : ∀ k, (Value.slice (some ⟨gx, 0, none⟩) n n).ownBlock = some k → k < bx
  gr : ∀ k, (Value.slice ag N cg).ownBlock = some k → S2 ≤ k ∧ k < S3

section
variable {w : World} {a : Option Addr} {n cap : Nat} {t f l : Int} {S1 S2 S3 : Nat} {aw : Option Addr} {N cw : Nat} {L : List Int} {bx gx : Nat} {X : List Nd} {ag : Option Addr} {cg : Nat} {G : List Int} {W W' : World}

theorem LInv.bel (h : LInv w a n cap t f l S1 S2 S3 aw N cw L bx gx X ag cg G W) : Below w.heap.size w W := h.inv.bel
theorem LInv.bp_ (h : LInv w a n cap t f l S1 S2 S3 aw N cw L bx gx X ag cg G W) : BoxA W w.heap.size a n cap t f l := h.inv.hw.1
theorem LInv.ow (h : LInv w a n cap t f l S1 S2 S3 aw N cw L bx gx X ag cg G W) : W.ownsRow w.heap.size 3 1 (.slice aw N cw) N (L.map (Value.int .i64)) := h.inv.hw.2.1
theorem LInv.bx_ (h : LInv w a n cap t f l S1 S2 S3 aw N cw L bx gx X ag cg G W) : BoxA W bx (some ⟨gx, 0, none⟩) n n t f l := h.inv.hx.1
theorem LInv.ox (h : LInv w a n cap t f l S1 S2 S3 aw N cw L bx gx X ag cg G W) : W.ownsRow S1 86 6 (.slice (some ⟨gx, 0, none⟩) n n) n (flatN X) := h.inv.hx.2.1
theorem LInv.og (h : LInv w a n cap t f l S1 S2 S3 aw N cw L bx gx X ag cg G W) : W.ownsRow S2 3 1 (.slice ag N cg) N (G.map (Value.int .i64)) := h.inv.hg.1

theorem LInv.below (h : LInv w a n cap t f l S1 S2 S3 aw N cw L bx gx X ag cg G W) (hb : Below W.heap.size W W') : LInv w a n cap t f l S1 S2 S3 aw N cw L bx gx X ag cg G W' :=
  { inv := h.inv.below hb, x1 := h.x1, x2 := h.x2, xr := h.xr, xn := h.xn, gr := h.gr }

theorem LInv.markX (h : LInv w a n cap t f l S1 S2 S3 aw N cw L bx gx X ag cg G W) {X' : List Nd} (hg : W.grownBy W' (Value.slice (some ⟨gx, 0, none⟩) n n).ownBlock) (ho : W'.ownsRow S1 86 6 (.slice (some ⟨gx, 0, none⟩) n n) n (flatN X')) : LInv w a n cap t f l S1 S2 S3 aw N cw L bx gx X' ag cg G W' :=
  { inv := h.inv.markX hg h.xr ⟨h.bx_.grown hg (fun e => by have := h.xn _ e.symm; omega), ho, fun k e => (h.xr k e).2⟩ (onlyB_ar _ _ _ _ _ _ _ h.x1 h.x2), x1 := h.x1, x2 := h.x2, xr := h.xr, xn := h.xn, gr := h.gr }

theorem LInv.markG (h : LInv w a n cap t f l S1 S2 S3 aw N cw L bx gx X ag cg G W) {G' : List Int} (hg : W.grownBy W' (Value.slice ag N cg).ownBlock) (ho : W'.ownsRow S2 3 1 (.slice ag N cg) N (G'.map (Value.int .i64))) : LInv w a n cap t f l S1 S2 S3 aw N cw L bx gx X ag cg G' W' :=
  { inv := h.inv.markG hg h.gr ⟨ho, fun k e => (h.gr k e).2⟩ (onlyB_row _ _ _ _ _ _ _), x1 := h.x1, x2 := h.x2, xr := h.xr, xn := h.xn, gr := h.gr }

end

theorem linv_start {w w1 w2 w4 w6 : World} {a : Option Addr} {n cap : Nat} {t f l : Int} {aw : Option Addr} {N cw : Nat} {L : List Int} {gx : Nat} {ns : List Nd} {ag : Option Addr} {cg : Nat}
    (hA1 : Below w.heap.size w w1) (bx1 : BoxA w1 w.heap.size a n cap t f l) (hb2 : Below w1.heap.size w1 w2) (ow : w2.ownsRow w1.heap.size 3 1 (.slice aw N cw) N (L.map (Value.int .i64)))
    (hb4 : Below w2.heap.size w2 w4) (ox : w4.ownsRow w2.heap.size 86 6 (.slice (some ⟨gx, 0, none⟩) n n) n (flatN ns))
    (hb6 : Below (w4.alloc (.cells #[.slice (some ⟨gx, 0, none⟩) n n, .int .i64 t, .int .i64 f, .int .i64 l] 43)).heap.size (w4.alloc (.cells #[.slice (some ⟨gx, 0, none⟩) n n, .int .i64 t, .int .i64 f, .int .i64 l] 43)) w6)
    (og : w6.ownsRow (w4.alloc (.cells #[.slice (some ⟨gx, 0, none⟩) n n, .int .i64 t, .int .i64 f, .int .i64 l] 43)).heap.size 3 1 (.slice ag N cg) N (L.map (Value.int .i64))) :
    ∃ S1 S2 S3, LInv w a n cap t f l S1 S2 S3 aw N cw L w4.heap.size gx ns ag cg L w6 := by
  have T5 := al1 w4 (.cells #[.slice (some ⟨gx, 0, none⟩) n n, .int .i64 t, .int .i64 f, .int .i64 l] 43)
  have bx3 := bx1.below hb2
  refine ⟨_, _, _,
    { inv := Inv3.start (below_trans' hA1 hb2) ⟨bx3, rowIn_of (own_mono ow hA1.size) (Nat.le_refl _)⟩
        ((onlyB_box a n cap t f l (Nat.le_refl _) bx3.lt).and (onlyB_row _ _ _ _ _ _ _))
        (below_trans' hb4 T5) ⟨boxA_new w4 _ _ _ _ _ _ 43 rfl, rowIn_of (ownsRow_below ox T5) (Nat.le_refl _)⟩ (onlyB_ar _ _ _ _ _ _ _ hb4.size (by simp))
        hb6 (rowIn_of og (Nat.le_refl _)) (onlyB_row _ _ _ _ _ _ _),
      x1 := hb4.size, x2 := by simp, xr := fun k e => ⟨(ox.lt k e).1, by have := (ox.lt k e).2; simp; omega⟩, xn := fun k e => (ox.lt k e).2,
      gr := fun k e => ⟨(og.lt k e).1, (og.lt k e).2⟩ }⟩

end Go.Proofs.Ytklpdpdjblakgaa

/- Ents2 -/
namespace Go.Proofs.Ytklpdpdjblakgaa
open Go.RowKit
set_option linter.unusedVariables false

set_option maxHeartbeats 400000 in
theorem eqMapMap_yes (a a' : Option Addr) (n cap cap' : Nat) (zs : List Int) (w : World) (hs : SInts w a (n * 2) zs) (hs' : SInts w a' (n * 2) zs) (hn : n ≤ 4000000000) :
    Calls Try.prog 36 #[.agg #[.slice a n cap], .agg #[.slice a' n cap']] w fun e w' => e = .returned (.bool true) ∧ Below w.heap.size w w' := by
  have hb0 : ∀ o o1, Below w.heap.size w ((w.alloc o).alloc o1) := fun o o1 => ((Below.refl _ _).alloc (Nat.le_refl _) o).alloc (by simp) o1
  go_enter Try.func36, Try.ntmps36
  go_wp2_with fail
  refine (eqMapEntryS_yes _ _ _ _ _ zs _ (hs.below (hb0 _ _)) (hs'.below (hb0 _ _)) hn).mono ?_
  rintro e w1 ⟨rfl, hb1⟩
  have hb := below_trans' (hb0 _ _) hb1
  clear hb1 hb0 hs hs'
  go_wp2
  go_ret
  exact ⟨rfl, hb⟩

set_option maxHeartbeats 800000 in
theorem markMapEntryS_any (a : Option Addr) (n cap base : Nat) (zs : List Int) (k : Int) (w : World) (ho : w.ownsRow base 88 2 (.slice a n cap) n (zs.map (Value.int .i64))) (hk0 : 0 ≤ k) (hk : k + n ≤ 1000000000000) (hn : n ≤ 1000000000000) :
    Calls Try.prog 67 #[.slice a n cap, .int .i64 k] w fun e w' => e = .returned (.int .i64 (k + 2 * n)) ∧ w'.ownsRow base 88 2 (.slice a n cap) n ((marks k (n * 2)).map (Value.int .i64)) ∧ w.grownBy w' (Value.ownBlock (.slice a n cap)) ∧ w'.heap.size = w.heap.size := by
  have hz : zs.length = n * 2 := by simpa using ho.1
  by_cases hn0 : n = 0
  · subst hn0
    obtain rfl : zs = [] := List.eq_nil_of_length_eq_zero hz
    go_enter Try.func67, Try.ntmps67
    go_wp2
    go_loop [1, 5] (fun s i => s = .int .i64 k ∧ i = .int .i64 0) (fun _ _ => 0)
    case atStart => exact ⟨rfl, rfl⟩
    case round =>
      obtain ⟨rfl, rfl⟩ := hrel
      go_wp2
      go_ret
      exact ⟨by simp, by simpa [marks] using ho, World.grownBy.refl _ _, rfl⟩
  · obtain ⟨g, rfl⟩ : ∃ g, a = some ⟨g, 0, none⟩ := by
      rcases ho.2 with ⟨h, h0⟩ | ⟨g, c, cur, h, _⟩
      · exact absurd h0 hn0
      · cases h; exact ⟨g, rfl⟩
    go_enter Try.func67, Try.ntmps67
    go_wp2
    go_loopw [1, 5] (fun s i wr => ∃ (j : Nat) (ys : List Int), j ≤ n ∧ i = .int .i64 j ∧ s = .int .i64 (k + 2 * j) ∧ wr.ownsRow base 88 2 (.slice (some ⟨g, 0, none⟩) n cap) n (ys.map (Value.int .i64)) ∧ ys.take (j * 2) = (marks k (n * 2)).take (j * 2) ∧ w.grownBy wr (some g) ∧ wr.heap.size = w.heap.size)
      (fun _ i _ => n - (intOf i).toNat)
    case atStart => exact ⟨0, zs, Nat.zero_le _, rfl, by go_num, ho, by simp, World.grownBy.refl _ _, rfl⟩
    case round =>
      obtain ⟨j, ys, hj, rfl, rfl, hown, htake, hg, hsz⟩ := hrel
      by_cases hlt : j < n
      · have hyl : ys.length = n * 2 := by simpa using hown.1
        have o0 := own2_cell hown (j := j * 2) (by omega)
        have o1 := own2_cell hown (j := j * 2 + 1) (by omega)
        have f0 := hown.frozenAt (j * 2)
        have f1 := hown.frozenAt (j * 2 + 1)
        have st1 := hown.stored (j * 2) (.int .i64 (k + 2 * j))
        have st2 := st1.1.stored (j * 2 + 1) (.int .i64 (k + 2 * j + 1))
        have R : Hid (((wr.setCell ⟨g, j * 2, none⟩ (.int .i64 (k + 2 * j))).setCell ⟨g, j * 2 + 1, none⟩ (.int .i64 (k + 2 * j + 1))).ownsRow base 88 2 (.slice (some ⟨g, 0, none⟩) n cap) n (((ys.set (j * 2) (k + 2 * j)).set (j * 2 + 1) (k + 2 * j + 1)).map (Value.int .i64)) ∧
            ((ys.set (j * 2) (k + 2 * j)).set (j * 2 + 1) (k + 2 * j + 1)).take ((j + 1) * 2) = (marks k (n * 2)).take ((j + 1) * 2) ∧ w.grownBy ((wr.setCell ⟨g, j * 2, none⟩ (.int .i64 (k + 2 * j))).setCell ⟨g, j * 2 + 1, none⟩ (.int .i64 (k + 2 * j + 1))) (some g) ∧ ((wr.setCell ⟨g, j * 2, none⟩ (.int .i64 (k + 2 * j))).setCell ⟨g, j * 2 + 1, none⟩ (.int .i64 (k + 2 * j + 1))).heap.size = w.heap.size) := by
          refine ⟨by simpa using st2.1, ?_, ⟨st2.2.os.trans (st1.2.os.trans hg.os), st2.2.tape.trans (st1.2.tape.trans hg.tape), st2.2.output.trans (st1.2.output.trans hg.output), Nat.le_trans hg.size (Nat.le_trans st1.2.size st2.2.size), fun c hc hne => ?_⟩, by simpa using hsz⟩
          · have e0 : (marks k (n * 2)).getD (j * 2) 0 = k + 2 * j := by rw [marks_get k (by omega)]; omega
            have e1 : (marks k (n * 2)).getD (j * 2 + 1) 0 = k + 2 * j + 1 := by rw [marks_get k (by omega)]; omega
            have := take_set2 ys (marks k (n * 2)) j (by omega) (by rw [marks_len]; omega) htake
            rw [e0, e1] at this
            exact this
          · exact (st2.2.block c (Nat.lt_of_lt_of_le (by omega) st1.2.size) hne).trans ((st1.2.block c (by omega) hne).trans (hg.block c hc hne))
        clear hown htake hg st1 st2 hsz hyl
        go_wp2
        go_roundw
        case rel => exact ⟨j + 1, _, by omega, by go_num, by go_num, R.out⟩
        case measure => simp [intOf]; omega
      · obtain rfl : j = n := by omega
        have hyl : ys.length = j * 2 := by simpa using hown.1
        have e : ys = marks k (j * 2) := by
          rw [List.take_of_length_le (by omega), List.take_of_length_le (by rw [marks_len]; omega)] at htake
          exact htake
        subst e
        have HO : Hid (wr.ownsRow base 88 2 (.slice (some ⟨g, 0, none⟩) j cap) j ((marks k (j * 2)).map (Value.int .i64))) := hown
        clear hown htake hyl
        go_wp2
        go_ret
        exact ⟨rfl, HO.out, hg, hsz⟩

set_option maxHeartbeats 400000 in
theorem heldMapEntryS_any (a : Option Addr) (n cap : Nat) (k : Int) (w : World) (hs : SInts w a (n * 2) (marks k (n * 2))) (hk0 : 0 ≤ k) (hk : k + n ≤ 1000000000000) :
    Calls Try.prog 68 #[.slice a n cap, .int .i64 k] w fun e w' => e = .returned (.int .i64 (k + 2 * n)) ∧ w' = w := by
  go_enter Try.func68, Try.ntmps68
  go_wp2
  go_loop [1, 5] (fun s i => ∃ j : Nat, j ≤ n ∧ i = .int .i64 j ∧ s = .int .i64 (k + 2 * j)) (fun _ i => n - (intOf i).toNat)
  case atStart => exact ⟨0, Nat.zero_le _, rfl, by go_num⟩
  case round =>
    obtain ⟨j, hj, rfl, rfl⟩ := hrel
    by_cases hlt : j < n
    · obtain ⟨hz, h0 | ⟨b, off, rfl, hc⟩⟩ := hs
      · omega
      · have h1 : w.cell? ⟨b, off + j * 2, none⟩ = some (.int .i64 (k + 2 * j)) := by rw [hc _ (by omega), marks_get k (by omega)]; congr 2; omega
        have h2 : w.cell? ⟨b, off + j * 2 + 1, none⟩ = some (.int .i64 (k + 2 * j + 1)) := by rw [Nat.add_assoc, hc _ (by omega), marks_get k (by omega)]; congr 2; omega
        clear hc hz
        go_wp2
        go_round
        case rel => exact ⟨j + 1, by omega, by go_num, by go_num⟩
        case measure => simp [intOf]; omega
    · obtain rfl : j = n := by omega
      clear hs
      go_wp2
      go_ret
      exact ⟨rfl, rfl⟩

end Go.Proofs.Ytklpdpdjblakgaa

/- Next -/
namespace Go.Proofs.Ytklpdpdjblakgaa
open Go.RowKit
set_option linter.unusedVariables false


/-- The first place below n of which p holds, or n. -/
def fIdx (p : Nat → Bool) (n : Nat) : Nat := ((List.range n).find? p).getD n

theorem fIdx_eq {p : Nat → Bool} {n i : Nat} (hi : i ≤ n) (hlow : ∀ j, j < i → p j = false) (hat : i = n ∨ p i = true) : fIdx p n = i := by
  unfold fIdx
  by_cases h : i < n
  · have hp : p i = true := by rcases hat with h' | h'; omega; exact h'
    have : (List.range n).find? p = some i := by
      rw [List.find?_eq_some_iff_getElem]
      refine ⟨hp, i, by simpa using h, by simp, fun j hj => ?_⟩
      simp [hlow j hj]
    rw [this]
    rfl
  · have : (List.range n).find? p = none := by
      rw [List.find?_eq_none]
      intro x hx
      rw [List.mem_range] at hx
      simp [hlow x (by omega)]
    rw [this]
    show n = i
    omega

/-- The key of the i-th entry. -/
def keyAt (zs : List Int) (i : Nat) : Int := zs.getD (i * 2) 0
/-- The value of the i-th entry. -/
def valAt (zs : List Int) (i : Nat) : Int := zs.getD (i * 2 + 1) 0

theorem SInts.keyCell {w : World} {b off n : Nat} {zs : List Int} (hs : SInts w (some ⟨b, off, none⟩) (n * 2) zs) {i : Nat} (hi : i < n) : w.cell? ⟨b, off + i * 2, none⟩ = some (.int .i64 (keyAt zs i)) := by
  obtain ⟨hz, h0 | ⟨b', off', e, hc⟩⟩ := hs
  · omega
  · cases e
    exact hc (i * 2) (by omega)
theorem SInts.valCell {w : World} {b off n : Nat} {zs : List Int} (hs : SInts w (some ⟨b, off, none⟩) (n * 2) zs) {i : Nat} (hi : i < n) : w.cell? ⟨b, off + i * 2 + 1, none⟩ = some (.int .i64 (valAt zs i)) := by
  obtain ⟨hz, h0 | ⟨b', off', e, hc⟩⟩ := hs
  · omega
  · cases e
    exact hc (i * 2 + 1) (by omega)
theorem SInts.addr {w : World} {a : Option Addr} {m : Nat} {zs : List Int} (hs : SInts w a m zs) (hm : 0 < m) : ∃ b off, a = some ⟨b, off, none⟩ := by
  obtain ⟨hz, h0 | ⟨b', off', e, hc⟩⟩ := hs
  · omega
  · exact ⟨b', off', e⟩

/-- keys from a key on; keys that are it. -/
def geK (key k : Int) : Bool := decide (key ≤ k)
def eqK (key k : Int) : Bool := k == key
theorem geK_yes {key k : Int} (h : key ≤ k) : geK key k = true := by simp [geK, h]
theorem geK_no {key k : Int} (h : k < key) : geK key k = false := by simp [geK]; omega
theorem eqK_yes {key k : Int} (h : (k == key) = true) : eqK key k = true := h
theorem eqK_no {key k : Int} (h : (k == key) = false) : eqK key k = false := h

/-- What MapNext answers: a code and a value. -/
def nextC (zs : List Int) (n : Nat) (key : Int) : Int := if fIdx (fun i => geK key (keyAt zs i)) n = n then 1 else 2
def nextV (zs : List Int) (n : Nat) (key : Int) : Int := if fIdx (fun i => geK key (keyAt zs i)) n = n then 0 else keyAt zs (fIdx (fun i => geK key (keyAt zs i)) n)

theorem fIdx_le (p : Nat → Bool) (n : Nat) : fIdx p n ≤ n := by
  unfold fIdx
  cases h : (List.range n).find? p with
  | none => exact Nat.le_refl _
  | some i =>
    have := List.mem_of_find?_eq_some h
    rw [List.mem_range] at this
    show i ≤ n
    omega

end Go.Proofs.Ytklpdpdjblakgaa

/- MapOk -/
namespace Go.Proofs.Ytklpdpdjblakgaa
open Go.RowKit
set_option linter.unusedVariables false

/-- The i-th entry is in bounds; it stands behind the one ahead of it. -/
def entIn (zs : List Int) (i : Nat) : Bool := inB (keyAt zs i) 99 && inB (valAt zs i) 999
def entUp (zs : List Int) (i : Nat) : Bool := decide (i = 0) || decide (keyAt zs (i - 1) < keyAt zs i)
/-- The entries are ok. -/
def okM (zs : List Int) (n : Nat) : Bool := decide (n ≤ 8) && ((List.range n).all (entIn zs) && (List.range n).all (entUp zs))

theorem okM_long {zs : List Int} {n : Nat} (h : 8 < n) : okM zs n = false := by simp [okM]; omega
theorem okM_in {zs : List Int} {n k : Nat} (hk : k < n) (h : entIn zs k = false) : okM zs n = false := by
  have : (List.range n).all (entIn zs) = false := by
    rw [List.all_eq_false]
    exact ⟨k, List.mem_range.2 hk, by simp [h]⟩
  simp [okM, this]
theorem okM_up {zs : List Int} {n k : Nat} (hk : k < n) (h : entUp zs k = false) : okM zs n = false := by
  have : (List.range n).all (entUp zs) = false := by
    rw [List.all_eq_false]
    exact ⟨k, List.mem_range.2 hk, by simp [h]⟩
  simp [okM, this]
theorem okM_yes {zs : List Int} {n : Nat} (h8 : n ≤ 8) (h1 : ∀ i, i < n → entIn zs i = true) (h2 : ∀ i, i < n → entUp zs i = true) : okM zs n = true := by
  have e1 : (List.range n).all (entIn zs) = true := by rw [List.all_eq_true]; intro i hi; exact h1 i (List.mem_range.1 hi)
  have e2 : (List.range n).all (entUp zs) = true := by rw [List.all_eq_true]; intro i hi; exact h2 i (List.mem_range.1 hi)
  simp [okM, h8, e1, e2]
theorem okM_parts {zs : List Int} {n : Nat} (h : okM zs n = true) : n ≤ 8 ∧ (∀ i, i < n → entIn zs i = true) ∧ (∀ i, i < n → entUp zs i = true) := by
  simp only [okM, Bool.and_eq_true, decide_eq_true_eq, List.all_eq_true, List.mem_range] at h
  exact ⟨h.1, h.2.1, h.2.2⟩

theorem l1In_as {x hi : Int} {b : Bool} (h : inB x hi = b) (w : World) : Calls Try.prog 77 #[.int .i64 x, .int .i64 0, .int .i64 hi] w fun e w' => e = .returned (.bool b) ∧ w' = w := by
  subst h; exact l1In_any x hi w

/-- The keys rise. -/
def upM (zs : List Int) (n : Nat) : Bool := (List.range n).all (entUp zs)
theorem upM_no {zs : List Int} {n k : Nat} (hk : k < n) (h : entUp zs k = false) : upM zs n = false := by
  unfold upM
  rw [List.all_eq_false]
  exact ⟨k, List.mem_range.2 hk, by simp [h]⟩
theorem upM_yes {zs : List Int} {n : Nat} (h : ∀ i, i < n → entUp zs i = true) : upM zs n = true := by
  unfold upM
  rw [List.all_eq_true]; intro i hi; exact h i (List.mem_range.1 hi)
theorem upM_parts {zs : List Int} {n : Nat} (h : upM zs n = true) : ∀ i, i < n → entUp zs i = true := by
  unfold upM at h
  rw [List.all_eq_true] at h
  exact fun i hi => h i (List.mem_range.2 hi)

set_option maxHeartbeats 1000000 in
theorem keysRise_any (a : Option Addr) (n cap : Nat) (zs : List Int) (w : World) (hs : SInts w a (n * 2) zs) (hn : n ≤ 1048576) :
    Calls Try.prog 83 #[.slice a n cap] w fun e w' => e = .returned (.bool (upM zs n)) ∧ Below w.heap.size w w' := by
  go_enter Try.func83, Try.ntmps83
  go_wp2
  go_loopw [3] (fun i wr => ∃ k : Nat, 1 ≤ k ∧ k ≤ n + 1 ∧ i = .int .i64 k ∧ (∀ j, j < k → j < n → entUp zs j = true) ∧ Below w.heap.size w wr) (fun i _ => n + 1 - (intOf i).toNat)
  case atStart => exact ⟨1, by omega, by omega, rfl, fun j hj _ => by obtain rfl : j = 0 := by omega
                                                                      simp [entUp], Below.refl _ _⟩
  case round =>
    obtain ⟨k, hk1, hk, rfl, hall, hbel⟩ := hrel
    have H2 : Hid (∀ j, j < k → j < n → entUp zs j = true) := hall
    clear hall
    by_cases hlt : k < n
    · obtain ⟨b, off, rfl⟩ := hs.addr (by omega)
      obtain ⟨x, hx⟩ : ∃ x, keyAt zs k = x := ⟨_, rfl⟩
      obtain ⟨z, hz⟩ : ∃ z, keyAt zs (k - 1) = z := ⟨_, rfl⟩
      have h1 : wr.cell? ⟨b, off + k * 2, none⟩ = some (.int .i64 x) := by rw [← hx]; exact (hs.below hbel).keyCell hlt
      have h3 : wr.cell? ⟨b, off + (k - 1) * 2, none⟩ = some (.int .i64 z) := by rw [← hz]; exact (hs.below hbel).keyCell (by omega)
      have HU0 : Hid (entUp zs k = decide (z < x)) := by show _ = _; unfold entUp; rw [hx, hz]; simp; omega
      have hkm : k - 1 < n := by omega
      clear hx hz hs
      by_cases hup : z < x
      · have HU : Hid (entUp zs k = true) := by show _ = _; rw [HU0.out]; simp [hup]
        go_wp2
        go_quiet (fail)
        have hb2 := below_drewN hbel nq
        go_wp2
        go_roundw
        case rel => exact ⟨k + 1, by omega, by omega, by go_num, fun j hj hjn => by
          by_cases e : j = k
          · subst e; exact HU.out
          · exact H2.out j (by omega) hjn, hb2⟩
        case measure => simp [intOf]; omega
      · have HK : Hid (upM zs n = false) := upM_no hlt (by rw [HU0.out]; simp; omega)
        go_wp2
        go_quiet (fail)
        go_wp2
        go_ret
        exact ⟨ret_bool HK.out.symm, below_drewN hbel _⟩
    · have HK : Hid (upM zs n = true) := upM_yes (fun i hi => H2.out i (by omega) hi)
      clear hs
      go_wp2
      go_ret
      exact ⟨ret_bool HK.out.symm, hbel⟩

theorem within_as {x hi : Int} {b : Bool} (h : inB x hi = b) (w : World) : Calls Try.prog 95 #[.int .i64 x, .int .i64 hi] w fun e w' => e = .returned (.bool b) ∧ w' = w := by
  subst h; exact within_any x hi w

end Go.Proofs.Ytklpdpdjblakgaa

/- Entry -/
namespace Go.Proofs.Ytklpdpdjblakgaa
open Go.RowKit
set_option linter.unusedVariables false

/-- Where keys rise a later one is greater. -/
theorem up_lt {zs : List Int} {n : Nat} (h : ∀ i, i < n → entUp zs i = true) : ∀ j i, i < j → j < n → keyAt zs i < keyAt zs j := by
  intro j
  induction j with
  | zero => intro i hi; omega
  | succ j ih =>
    intro i hij hjn
    have h1 := h (j + 1) hjn
    simp [entUp] at h1
    by_cases e : i = j
    · subst e; exact h1
    · have := ih i (by omega) (by omega)
      omega

/-- The place that entryOf tells, and whether the key is there. -/
def entI (zs : List Int) (n : Nat) (key : Int) : Nat := if upM zs n then fIdx (fun i => geK key (keyAt zs i)) n else fIdx (fun i => eqK key (keyAt zs i)) n
def entB (zs : List Int) (n : Nat) (key : Int) : Bool := decide (entI zs n key < n) && (keyAt zs (entI zs n key) == key)
theorem entI_le (zs : List Int) (n : Nat) (key : Int) : entI zs n key ≤ n := by
  unfold entI
  split <;> exact fIdx_le _ _

theorem ret_pair {k : IntKind} {a b : Int} {p q : Bool} (h : a = b) (h' : p = q) : Ending.returned (.tuple #[.int k a, .bool p]) = .returned (.tuple #[.int k b, .bool q]) := by rw [h, h']

end Go.Proofs.Ytklpdpdjblakgaa

/- ListsE -/
namespace Go.Proofs.Ytklpdpdjblakgaa
open Go.RowKit
set_option linter.unusedVariables false

end Go.Proofs.Ytklpdpdjblakgaa

/- Del -/
namespace Go.Proofs.Ytklpdpdjblakgaa
open Go.RowKit
set_option linter.unusedVariables false

/-- A map and an answer come back, in new memory. -/
def MapRes (zs : List Int) (n : Nat) (c v : Int) (e : Ending) (w w' : World) : Prop :=
  ∃ a' c', e = .returned (.tuple #[.agg #[.slice a' n c'], .agg #[.int .i64 c, .int .i64 v]]) ∧ w'.ownsRow w.heap.size 88 2 (.slice a' n c') n (zs.map (Value.int .i64)) ∧ Below w.heap.size w w'

def delT (zs : List Int) (n : Nat) (key : Int) : Bool := okM zs n && entB zs n key
def delL (zs : List Int) (n : Nat) (key : Int) : List Int := if okM zs n then (if entB zs n key then zs.take (entI zs n key * 2) ++ zs.drop ((entI zs n key + 1) * 2) else zs) else []
def delN (zs : List Int) (n : Nat) (key : Int) : Nat := if okM zs n then (if entB zs n key then n - 1 else n) else 0
def delC (zs : List Int) (n : Nat) (key : Int) : Int := if okM zs n then (if entB zs n key then 2 else 1) else 0
def delV (zs : List Int) (n : Nat) (key : Int) : Int := if okM zs n then (if entB zs n key then valAt zs (entI zs n key) else 0) else 0

theorem delN_le (zs : List Int) (n : Nat) (key : Int) : delN zs n key ≤ n := by
  unfold delN
  split
  · split <;> omega
  · omega

/-- The blocks that MapDel and MapPut lay first: the argument, the map and the answer that they hand back. -/
structure Loc (w : World) (a : Option Addr) (n cap : Nat) (W : World) : Prop where
  bel : Below w.heap.size w W
  sz : w.heap.size + 1 + 1 < W.heap.size
  box : W.cell? ⟨w.heap.size, 0, none⟩ = some (.slice a n cap)
  m0 : W.cell? ⟨w.heap.size + 1, 0, none⟩ = some (.slice none 0 0)
  r0 : W.cell? ⟨w.heap.size + 1 + 1, 0, none⟩ = some (.int .i64 0)
  r1 : W.cell? ⟨w.heap.size + 1 + 1, 1, none⟩ = some (.int .i64 0)
  fm : W.frozen? ⟨w.heap.size + 1, 0, none⟩ = false
  f0 : W.frozen? ⟨w.heap.size + 1 + 1, 0, none⟩ = false
  f1 : W.frozen? ⟨w.heap.size + 1 + 1, 1, none⟩ = false

theorem frozen_kept {W W' : World} {b o : Nat} (hb : Below W.heap.size W W') (hlt : b < W.heap.size) (h : W.frozen? ⟨b, o, none⟩ = false) : W'.frozen? ⟨b, o, none⟩ = false :=
  (hb.frozen (p := ⟨b, o, none⟩) hlt).trans h

theorem Loc.below {w : World} {a : Option Addr} {n cap : Nat} {W W' : World} (h : Loc w a n cap W) (hb : Below W.heap.size W W') : Loc w a n cap W' :=
  { bel := below_trans' h.bel hb, sz := Nat.lt_of_lt_of_le h.sz hb.size, box := cell_kept hb h.box, m0 := cell_kept hb h.m0, r0 := cell_kept hb h.r0, r1 := cell_kept hb h.r1,
    fm := frozen_kept hb (by have := h.sz; omega) h.fm, f0 := frozen_kept hb h.sz h.f0, f1 := frozen_kept hb h.sz h.f1 }

theorem loc_start (w : World) (a : Option Addr) (n cap : Nat) : Loc w a n cap (((w.alloc (.cells #[.slice a n cap] 36)).alloc (.cells #[.slice none 0 0] 36)).alloc (.cells #[.int .i64 0, .int .i64 0] 54)) := by
  have al : ∀ (W : World) (o : Obj), Below W.heap.size W (W.alloc o) := fun W o => (Below.refl _ _).alloc (Nat.le_refl _) o
  exact
    { bel := below_trans' (below_trans' (al _ _) (al _ _)) (al _ _), sz := by simp,
      box := cell_kept (al _ _) (cell_kept (al _ _) (cell_at w _ _ 0 rfl rfl)), m0 := cell_kept (al _ _) (cell_at (w.alloc _) _ _ 0 (by simp) rfl),
      r0 := cell_at ((w.alloc _).alloc _) _ _ 0 (by simp) rfl, r1 := cell_at ((w.alloc _).alloc _) _ _ 1 (by simp) rfl,
      fm := frozen_kept (al _ _) (by simp) (frozen_at (w.alloc _) _ _ 0 (by simp)),
      f0 := frozen_at ((w.alloc _).alloc _) _ _ 0 (by simp), f1 := frozen_at ((w.alloc _).alloc _) _ _ 1 (by simp) }

end Go.Proofs.Ytklpdpdjblakgaa

/- Get -/
namespace Go.Proofs.Ytklpdpdjblakgaa
open Go.RowKit
set_option linter.unusedVariables false

theorem fIdx_spec (p : Nat → Bool) (n : Nat) : (∀ j, j < fIdx p n → p j = false) ∧ (fIdx p n < n → p (fIdx p n) = true) := by
  unfold fIdx
  cases h : (List.range n).find? p with
  | none =>
    rw [List.find?_eq_none] at h
    refine ⟨fun j hj => ?_, fun hlt => ?_⟩
    · have := h j (List.mem_range.2 hj)
      simpa using this
    · exact absurd hlt (Nat.lt_irrefl n)
  | some i =>
    rw [List.find?_eq_some_iff_getElem] at h
    obtain ⟨hp, i', hi', he, hlow⟩ := h
    simp at he
    subst he
    refine ⟨fun j hj => ?_, fun _ => hp⟩
    have := hlow j hj
    simpa using this

/-- Under rising keys no other place has the key. -/
theorem ent_only {zs : List Int} {n : Nat} {key : Int} (hup : upM zs n = true) : ∀ j, j < n → j ≠ entI zs n key → (keyAt zs j == key) = false := by
  have hrise := up_lt (upM_parts hup)
  have hI : entI zs n key = fIdx (fun i => geK key (keyAt zs i)) n := by simp [entI, hup]
  obtain ⟨hlow, hat⟩ := fIdx_spec (fun i => geK key (keyAt zs i)) n
  rw [← hI] at hlow hat
  intro j hj hji
  by_cases h : j < entI zs n key
  · have h1 := hlow j h
    simp [geK] at h1
    simp
    omega
  · have h3 := hat (by omega)
    simp [geK] at h3
    have h4 := hrise j (entI zs n key) (by omega) hj
    simp
    omega

theorem ent_get (zs : List Int) (n : Nat) (key : Int) : (entB zs n key = true → fIdx (fun i => eqK key (keyAt zs i)) n = entI zs n key ∧ entI zs n key < n) ∧ (entB zs n key = false → fIdx (fun i => eqK key (keyAt zs i)) n = n) := by
  cases hup : upM zs n
  · have hI : entI zs n key = fIdx (fun i => eqK key (keyAt zs i)) n := by simp [entI, hup]
    obtain ⟨hlow, hat⟩ := fIdx_spec (fun i => eqK key (keyAt zs i)) n
    rw [← hI] at hat ⊢
    refine ⟨fun h => ⟨rfl, ?_⟩, fun h => ?_⟩
    · simp only [entB, Bool.and_eq_true, decide_eq_true_eq] at h
      exact h.1
    · have hle := entI_le zs n key
      by_cases hlt : entI zs n key < n
      · have h2 := hat hlt
        simp only [eqK] at h2
        simp only [entB, hlt, decide_true, Bool.true_and, h2] at h
        exact absurd h (by decide)
      · omega
  · have honly := ent_only (key := key) hup
    refine ⟨fun h => ?_, fun h => ?_⟩
    · simp only [entB, Bool.and_eq_true, decide_eq_true_eq] at h
      exact ⟨fIdx_eq (entI_le zs n key) (fun j hj => honly j (by omega) (by omega)) (.inr h.2), h.1⟩
    · refine fIdx_eq (Nat.le_refl n) (fun j hj => ?_) (.inl rfl)
      by_cases e : j = entI zs n key
      · subst e
        simp only [entB, hj, decide_true, Bool.true_and] at h
        exact h
      · exact honly j hj e

/-- What MapGet answers: a code and a value. -/
def getC (zs : List Int) (n : Nat) (key : Int) : Int := if fIdx (fun i => eqK key (keyAt zs i)) n = n then 1 else 2
def getV (zs : List Int) (n : Nat) (key : Int) : Int := if fIdx (fun i => eqK key (keyAt zs i)) n = n then 0 else valAt zs (fIdx (fun i => eqK key (keyAt zs i)) n)

/-- What l1Find tells. -/
def findI (zs : List Int) (n : Nat) (key : Int) : Int := if fIdx (fun i => eqK key (keyAt zs i)) n = n then -1 else fIdx (fun i => eqK key (keyAt zs i)) n

/-- The blocks that MapGet lays first: the argument and the answer. -/
structure LocG (w : World) (a : Option Addr) (n cap : Nat) (W : World) : Prop where
  bel : Below w.heap.size w W
  sz : w.heap.size + 1 < W.heap.size
  box : W.cell? ⟨w.heap.size, 0, none⟩ = some (.slice a n cap)
  r0 : W.cell? ⟨w.heap.size + 1, 0, none⟩ = some (.int .i64 0)
  r1 : W.cell? ⟨w.heap.size + 1, 1, none⟩ = some (.int .i64 0)
  f0 : W.frozen? ⟨w.heap.size + 1, 0, none⟩ = false
  f1 : W.frozen? ⟨w.heap.size + 1, 1, none⟩ = false

theorem LocG.below {w : World} {a : Option Addr} {n cap : Nat} {W W' : World} (h : LocG w a n cap W) (hb : Below W.heap.size W W') : LocG w a n cap W' :=
  { bel := below_trans' h.bel hb, sz := Nat.lt_of_lt_of_le h.sz hb.size, box := cell_kept hb h.box, r0 := cell_kept hb h.r0, r1 := cell_kept hb h.r1, f0 := frozen_kept hb h.sz h.f0, f1 := frozen_kept hb h.sz h.f1 }

theorem locG_start (w : World) (a : Option Addr) (n cap : Nat) : LocG w a n cap ((w.alloc (.cells #[.slice a n cap] 36)).alloc (.cells #[.int .i64 0, .int .i64 0] 54)) := by
  have al : ∀ (W : World) (o : Obj), Below W.heap.size W (W.alloc o) := fun W o => (Below.refl _ _).alloc (Nat.le_refl _) o
  exact
    { bel := below_trans' (al _ _) (al _ _), sz := by simp, box := cell_kept (al _ _) (cell_at w _ _ 0 rfl rfl),
      r0 := cell_at (w.alloc _) _ _ 0 (by simp) rfl, r1 := cell_at (w.alloc _) _ _ 1 (by simp) rfl, f0 := frozen_at (w.alloc _) _ _ 0 (by simp), f1 := frozen_at (w.alloc _) _ _ 1 (by simp) }

end Go.Proofs.Ytklpdpdjblakgaa

/- Put -/
namespace Go.Proofs.Ytklpdpdjblakgaa
open Go.RowKit
set_option linter.unusedVariables false

/-- What MapPut makes, and answers. -/
def ptOk (zs : List Int) (n : Nat) (key val : Int) : Bool := okM zs n && (inB key 99 && inB val 999)
def ptL (zs : List Int) (n : Nat) (key val : Int) : List Int := if ptOk zs n key val then (if entB zs n key then zs else if n = 8 then zs else zs.take (entI zs n key * 2) ++ [key, val] ++ zs.drop (entI zs n key * 2)) else []
def ptN (zs : List Int) (n : Nat) (key val : Int) : Nat := if ptOk zs n key val then (if entB zs n key then n else if n = 8 then n else n + 1) else 0
def ptC (zs : List Int) (n : Nat) (key val : Int) : Int := if ptOk zs n key val then (if entB zs n key then 1 else if n = 8 then 3 else 2) else 0
theorem ptN_le (zs : List Int) (n : Nat) (key val : Int) : ptN zs n key val ≤ n + 1 := by
  unfold ptN
  split
  · split
    · omega
    · split <;> omega
  · omega

theorem ptOk_parts {zs : List Int} {n : Nat} {key val : Int} (h : ptOk zs n key val = true) : okM zs n = true ∧ inB key 99 = true ∧ inB val 999 = true := by
  simp only [ptOk, Bool.and_eq_true] at h
  exact ⟨h.1, h.2.1, h.2.2⟩

end Go.Proofs.Ytklpdpdjblakgaa

/- MapM -/
namespace Go.Proofs.Ytklpdpdjblakgaa
open Go.RowKit
set_option linter.unusedVariables false

theorem okM_iff {zs : List Int} {n : Nat} : okM zs n = true ↔ n ≤ 8 ∧ (∀ i, i < n → entIn zs i = true) ∧ (∀ i j, i < j → j < n → keyAt zs i < keyAt zs j) := by
  constructor
  · intro h
    obtain ⟨h1, h2, h3⟩ := okM_parts h
    exact ⟨h1, h2, fun i j hij hj => up_lt h3 j i hij hj⟩
  · rintro ⟨h1, h2, h3⟩
    simp only [okM, Bool.and_eq_true, decide_eq_true_eq, List.all_eq_true, List.mem_range]
    refine ⟨h1, h2, fun i hi => ?_⟩
    unfold entUp
    by_cases e : i = 0
    · simp [e]
    · simp [e]
      exact h3 (i - 1) i (by omega) hi

theorem cut_key {zs : List Int} {i j : Nat} : keyAt (zs.take (i * 2) ++ zs.drop ((i + 1) * 2)) j = keyAt zs (if j < i then j else j + 1) ∨ zs.length < i * 2 := by
  by_cases hl : zs.length < i * 2
  · exact .inr hl
  left
  unfold keyAt
  by_cases h : j < i
  · rw [if_pos h]
    simp only [List.getD_eq_getElem?_getD]
    rw [List.getElem?_append_left (by simp; omega), List.getElem?_take_of_lt (by omega)]
  · rw [if_neg h]
    simp only [List.getD_eq_getElem?_getD]
    rw [List.getElem?_append_right (by simp; omega), List.getElem?_drop]
    congr 2
    simp
    omega
theorem cut_val {zs : List Int} {i j : Nat} : valAt (zs.take (i * 2) ++ zs.drop ((i + 1) * 2)) j = valAt zs (if j < i then j else j + 1) ∨ zs.length < i * 2 := by
  by_cases hl : zs.length < i * 2
  · exact .inr hl
  left
  unfold valAt
  by_cases h : j < i
  · rw [if_pos h]
    simp only [List.getD_eq_getElem?_getD]
    rw [List.getElem?_append_left (by simp; omega), List.getElem?_take_of_lt (by omega)]
  · rw [if_neg h]
    simp only [List.getD_eq_getElem?_getD]
    rw [List.getElem?_append_right (by simp; omega), List.getElem?_drop]
    congr 2
    simp
    omega

/-- The entries without one are ok. -/
theorem cut_ok {zs : List Int} {n i : Nat} (hl : zs.length = n * 2) (h : okM zs n = true) (hi : i < n) : okM (zs.take (i * 2) ++ zs.drop ((i + 1) * 2)) (n - 1) = true := by
  obtain ⟨h1, h2, h3⟩ := okM_iff.1 h
  have ck : ∀ j, keyAt (zs.take (i * 2) ++ zs.drop ((i + 1) * 2)) j = keyAt zs (if j < i then j else j + 1) := fun j => (cut_key).resolve_right (by omega)
  have cv : ∀ j, valAt (zs.take (i * 2) ++ zs.drop ((i + 1) * 2)) j = valAt zs (if j < i then j else j + 1) := fun j => (cut_val).resolve_right (by omega)
  refine okM_iff.2 ⟨by omega, fun j hj => ?_, fun j k hjk hk => ?_⟩
  · have := h2 (if j < i then j else j + 1) (by split <;> omega)
    unfold entIn at this ⊢
    rw [ck, cv]
    exact this
  · rw [ck, ck]
    exact h3 _ _ (by split <;> split <;> omega) (by split <;> omega)

/-- A beginning of entries is ok. -/
theorem take_ok {zs : List Int} {n k : Nat} (h : okM zs n = true) (hk : k ≤ n) : okM (zs.take (k * 2)) k = true := by
  obtain ⟨h1, h2, h3⟩ := okM_iff.1 h
  have ck : ∀ j, j < k → keyAt (zs.take (k * 2)) j = keyAt zs j := fun j hj => by
    unfold keyAt
    simp only [List.getD_eq_getElem?_getD]
    rw [List.getElem?_take_of_lt (by omega)]
  have cv : ∀ j, j < k → valAt (zs.take (k * 2)) j = valAt zs j := fun j hj => by
    unfold valAt
    simp only [List.getD_eq_getElem?_getD]
    rw [List.getElem?_take_of_lt (by omega)]
  refine okM_iff.2 ⟨by omega, fun j hj => ?_, fun i j hij hj => ?_⟩
  · have := h2 j (by omega)
    unfold entIn at this ⊢
    rw [ck j hj, cv j hj]
    exact this
  · rw [ck i (by omega), ck j hj]
    exact h3 i j hij (by omega)

/-- Where a key is, among entries that are ok. -/
theorem ent_at {zs : List Int} {n k : Nat} (h : okM zs n = true) (hk : k < n) : entI zs n (keyAt zs k) = k ∧ entB zs n (keyAt zs k) = true := by
  obtain ⟨h1, h2, h3⟩ := okM_iff.1 h
  have hup := upM_yes (okM_parts h).2.2
  have hI : entI zs n (keyAt zs k) = k := by
    unfold entI
    rw [hup]
    exact fIdx_eq (by omega) (fun j hj => geK_no (h3 j k hj hk)) (.inr (geK_yes (Int.le_refl _)))
  refine ⟨hI, ?_⟩
  unfold entB
  rw [hI]
  simp [hk]

/-- MapGet by what stands where. -/
theorem get_yes {zs : List Int} {n i : Nat} {key : Int} (hup : ∀ i j, i < j → j < n → keyAt zs i < keyAt zs j) (hi : i < n) (hk : keyAt zs i = key) : getC zs n key = 2 ∧ getV zs n key = valAt zs i := by
  have h : fIdx (fun j => eqK key (keyAt zs j)) n = i := fIdx_eq (by omega) (fun j hj => by
    have := hup j i hj hi
    simp [eqK]
    omega) (.inr (by simp [eqK, hk]))
  unfold getC getV
  rw [h, if_neg (by omega), if_neg (by omega)]
  exact ⟨rfl, rfl⟩
theorem get_no {zs : List Int} {n : Nat} {key : Int} (h : ∀ j, j < n → keyAt zs j ≠ key) : getC zs n key = 1 ∧ getV zs n key = 0 := by
  have h : fIdx (fun j => eqK key (keyAt zs j)) n = n := fIdx_eq (Nat.le_refl _) (fun j hj => by
    have := h j hj
    simpa [eqK] using this) (.inl rfl)
  unfold getC getV
  rw [h, if_pos rfl, if_pos rfl]
  exact ⟨rfl, rfl⟩
/-- Either a key is there, once, or it is not. -/
theorem ent_cases {zs : List Int} {n : Nat} (key : Int) (h : okM zs n = true) :
    (entB zs n key = true ∧ entI zs n key < n ∧ keyAt zs (entI zs n key) = key) ∨ (entB zs n key = false ∧ ∀ j, j < n → keyAt zs j ≠ key) := by
  by_cases hx : ∃ j, j < n ∧ keyAt zs j = key
  · obtain ⟨j, hj, rfl⟩ := hx
    have := ent_at h hj
    exact .inl ⟨this.2, by rw [this.1]; exact hj, by rw [this.1]⟩
  · refine .inr ⟨?_, fun j hj e => hx ⟨j, hj, e⟩⟩
    unfold entB
    by_cases hl : entI zs n key < n
    · have : ¬ keyAt zs (entI zs n key) = key := fun e => hx ⟨_, hl, e⟩
      simp [this]
    · simp [hl]
/-- Without a key: what is got then. -/
theorem cut_get {zs : List Int} {n i : Nat} (hl : zs.length = n * 2) (h : okM zs n = true) (hi : i < n) :
    (getC (zs.take (i * 2) ++ zs.drop ((i + 1) * 2)) (n - 1) (keyAt zs i) = 1) ∧ ∀ k, k ≠ keyAt zs i → getC (zs.take (i * 2) ++ zs.drop ((i + 1) * 2)) (n - 1) k = getC zs n k ∧ getV (zs.take (i * 2) ++ zs.drop ((i + 1) * 2)) (n - 1) k = getV zs n k := by
  obtain ⟨h1, h2, h3⟩ := okM_iff.1 h
  obtain ⟨_, _, h3'⟩ := okM_iff.1 (cut_ok hl h hi)
  have ck : ∀ j, keyAt (zs.take (i * 2) ++ zs.drop ((i + 1) * 2)) j = keyAt zs (if j < i then j else j + 1) := fun j => (cut_key).resolve_right (by omega)
  have cv : ∀ j, valAt (zs.take (i * 2) ++ zs.drop ((i + 1) * 2)) j = valAt zs (if j < i then j else j + 1) := fun j => (cut_val).resolve_right (by omega)
  refine ⟨(get_no (fun j hj e => ?_)).1, fun k hk => ?_⟩
  · rw [ck] at e
    by_cases hji : j < i
    · rw [if_pos hji] at e
      have := h3 j i hji hi
      omega
    · rw [if_neg hji] at e
      have := h3 i (j + 1) (by omega) (by omega)
      omega
  · by_cases hx : ∃ j, j < n ∧ keyAt zs j = k
    · obtain ⟨j, hj, e⟩ := hx
      have hji : j ≠ i := fun e2 => by subst e2; exact hk e.symm
      have a := get_yes h3 hj e
      by_cases hlt : j < i
      · have b := get_yes (i := j) (key := k) h3' (by omega) (by rw [ck, if_pos hlt]; exact e)
        rw [a.1, a.2, b.1, b.2, cv, if_pos hlt]
        exact ⟨rfl, rfl⟩
      · have b := get_yes (i := j - 1) (key := k) h3' (by omega) (by rw [ck, if_neg (by omega), show j - 1 + 1 = j by omega]; exact e)
        rw [a.1, a.2, b.1, b.2, cv, if_neg (by omega), show j - 1 + 1 = j by omega]
        exact ⟨rfl, rfl⟩
    · have a := get_no (zs := zs) (n := n) (key := k) (fun j hj e => hx ⟨j, hj, e⟩)
      have b := get_no (zs := zs.take (i * 2) ++ zs.drop ((i + 1) * 2)) (n := n - 1) (key := k) (fun j hj e => hx (by rw [ck] at e; exact ⟨_, by split <;> omega, e⟩))
      rw [a.1, a.2, b.1, b.2]
      exact ⟨rfl, rfl⟩
/-- To put back what was taken out. -/
theorem cut_back {zs : List Int} {n i : Nat} (hl : zs.length = n * 2) (h : okM zs n = true) (hi : i < n) :
    ptL (zs.take (i * 2) ++ zs.drop ((i + 1) * 2)) (n - 1) (keyAt zs i) (valAt zs i) = zs ∧ ptN (zs.take (i * 2) ++ zs.drop ((i + 1) * 2)) (n - 1) (keyAt zs i) (valAt zs i) = n := by
  obtain ⟨h1, h2, h3⟩ := okM_iff.1 h
  have hok := cut_ok hl h hi
  have hin := h2 i hi
  have ck : ∀ j, keyAt (zs.take (i * 2) ++ zs.drop ((i + 1) * 2)) j = keyAt zs (if j < i then j else j + 1) := fun j => (cut_key).resolve_right (by omega)
  have hpt : ptOk (zs.take (i * 2) ++ zs.drop ((i + 1) * 2)) (n - 1) (keyAt zs i) (valAt zs i) = true := by
    unfold ptOk
    unfold entIn at hin
    rw [hok, Bool.true_and]
    exact hin
  have hI : entI (zs.take (i * 2) ++ zs.drop ((i + 1) * 2)) (n - 1) (keyAt zs i) = i := by
    unfold entI
    rw [upM_yes (okM_parts hok).2.2]
    refine fIdx_eq (by omega) (fun j hj => geK_no (by rw [ck, if_pos hj]; exact h3 j i hj hi)) ?_
    by_cases e : i = n - 1
    · exact .inl e
    · right
      refine geK_yes ?_
      rw [ck, if_neg (by omega)]
      have := h3 i (i + 1) (by omega) (by omega)
      omega
  have hB : entB (zs.take (i * 2) ++ zs.drop ((i + 1) * 2)) (n - 1) (keyAt zs i) = false := by
    unfold entB
    rw [hI, ck, if_neg (by omega)]
    by_cases e : i < n - 1
    · have := h3 i (i + 1) (by omega) (by omega)
      have : ¬ keyAt zs (i + 1) = keyAt zs i := by omega
      simp [this]
    · simp [e]
  unfold ptL ptN
  rw [hpt, hB, hI, if_neg (show ¬ n - 1 = 8 by omega), if_neg (show ¬ n - 1 = 8 by omega)]
  simp only [if_true, Bool.false_eq_true, if_false]
  refine ⟨?_, by omega⟩
  have t1 : (zs.take (i * 2) ++ zs.drop ((i + 1) * 2)).take (i * 2) = zs.take (i * 2) := by
    rw [List.take_append_of_le_length (by simp; omega), List.take_take, Nat.min_self]
  have t2 : (zs.take (i * 2) ++ zs.drop ((i + 1) * 2)).drop (i * 2) = zs.drop ((i + 1) * 2) := by
    rw [List.drop_append_of_le_length (by simp; omega), List.drop_take]
    simp
  rw [t1, t2]
  have hk : zs[i * 2]? = some (keyAt zs i) := by
    unfold keyAt
    rw [List.getD_eq_getElem?_getD, List.getElem?_eq_getElem (by omega)]
    rfl
  have hv : zs[i * 2 + 1]? = some (valAt zs i) := by
    unfold valAt
    rw [List.getD_eq_getElem?_getD, List.getElem?_eq_getElem (by omega)]
    rfl
  have e2 : zs.drop (i * 2) = keyAt zs i :: valAt zs i :: zs.drop ((i + 1) * 2) := by
    obtain ⟨ha, ea⟩ := List.getElem?_eq_some_iff.1 hk
    obtain ⟨hb, eb⟩ := List.getElem?_eq_some_iff.1 hv
    rw [List.drop_eq_getElem_cons ha, ea, List.drop_eq_getElem_cons hb, eb]
    rw [show i * 2 + 1 + 1 = (i + 1) * 2 by omega]
  rw [show zs.take (i * 2) ++ [keyAt zs i, valAt zs i] ++ zs.drop ((i + 1) * 2) = zs.take (i * 2) ++ (keyAt zs i :: valAt zs i :: zs.drop ((i + 1) * 2)) by simp, ← e2, List.take_append_drop]

end Go.Proofs.Ytklpdpdjblakgaa

/- PutM -/
namespace Go.Proofs.Ytklpdpdjblakgaa
open Go.RowKit
set_option linter.unusedVariables false

theorem ins_at {zs : List Int} {i m : Nat} {k v : Int} (hl : i * 2 ≤ zs.length) (b : Nat) (hb : b < 2) : (zs.take (i * 2) ++ [k, v] ++ zs.drop (i * 2))[m * 2 + b]? = if m < i then zs[m * 2 + b]? else if m = i then some (if b = 0 then k else v) else zs[(m - 1) * 2 + b]? := by
  have ht : (zs.take (i * 2)).length = i * 2 := by simp; omega
  rw [List.append_assoc]
  by_cases h : m < i
  · rw [if_pos h, List.getElem?_append_left (by omega), List.getElem?_take_of_lt (by omega)]
  · rw [if_neg h, List.getElem?_append_right (by omega), ht]
    by_cases e : m = i
    · subst e
      rw [if_pos rfl, show m * 2 + b - m * 2 = b by omega]
      rcases (show b = 0 ∨ b = 1 by omega) with rfl | rfl <;> rfl
    · rw [if_neg e, show m * 2 + b - i * 2 = ((m - i - 1) * 2 + b) + 2 by omega]
      show (zs.drop (i * 2))[(m - i - 1) * 2 + b]? = _
      rw [List.getElem?_drop]
      congr 1
      omega
theorem ins_key {zs : List Int} {i m : Nat} {k v : Int} (hl : i * 2 ≤ zs.length) : keyAt (zs.take (i * 2) ++ [k, v] ++ zs.drop (i * 2)) m = if m < i then keyAt zs m else if m = i then k else keyAt zs (m - 1) := by
  have h := ins_at (m := m) (k := k) (v := v) hl 0 (by omega)
  simp only [Nat.add_zero] at h
  unfold keyAt
  simp only [List.getD_eq_getElem?_getD]
  rw [h]
  split
  · rfl
  · split <;> rfl
theorem ins_val {zs : List Int} {i m : Nat} {k v : Int} (hl : i * 2 ≤ zs.length) : valAt (zs.take (i * 2) ++ [k, v] ++ zs.drop (i * 2)) m = if m < i then valAt zs m else if m = i then v else valAt zs (m - 1) := by
  have h := ins_at (m := m) (k := k) (v := v) hl 1 (by omega)
  unfold valAt
  simp only [List.getD_eq_getElem?_getD]
  rw [h]
  split
  · rfl
  · split <;> rfl
theorem ins_cut {zs : List Int} {i : Nat} {k v : Int} (hl : i * 2 ≤ zs.length) : (zs.take (i * 2) ++ [k, v] ++ zs.drop (i * 2)).take (i * 2) ++ (zs.take (i * 2) ++ [k, v] ++ zs.drop (i * 2)).drop ((i + 1) * 2) = zs := by
  have ht : (zs.take (i * 2)).length = i * 2 := by simp; omega
  have e1 : (zs.take (i * 2) ++ [k, v] ++ zs.drop (i * 2)).take (i * 2) = zs.take (i * 2) := by
    rw [List.append_assoc, List.take_append_of_le_length (by omega), List.take_take, Nat.min_self]
  have e2 : (zs.take (i * 2) ++ [k, v] ++ zs.drop (i * 2)).drop ((i + 1) * 2) = zs.drop (i * 2) := by
    have : (zs.take (i * 2) ++ [k, v]).length = (i + 1) * 2 := by simp [ht]; omega
    rw [← this, List.drop_left]
  rw [e1, e2, List.take_append_drop]

/-- Entries that are ok, and one more. -/
theorem put_new {L : List Int} {N : Nat} {key val : Int} (hl : L.length = N * 2) (hok : okM L N = true) (hin : (inB key 99 && inB val 999) = true) (hno : ∀ j, j < N → keyAt L j ≠ key) (h8 : N < 8) (D : List Int) (hD : D = L.take (entI L N key * 2) ++ [key, val] ++ L.drop (entI L N key * 2)) :
    okM D (N + 1) = true ∧ getC D (N + 1) key = 2 ∧ getV D (N + 1) key = val ∧ ∀ k, k ≠ key → getC D (N + 1) k = getC L N k ∧ getV D (N + 1) k = getV L N k := by
  obtain ⟨h1, h2, h3⟩ := okM_iff.1 hok
  have hI : entI L N key = fIdx (fun i => geK key (keyAt L i)) N := by simp [entI, upM_yes (okM_parts hok).2.2]
  obtain ⟨hlow0, hat0⟩ := fIdx_spec (fun i => geK key (keyAt L i)) N
  have hle := fIdx_le (fun i => geK key (keyAt L i)) N
  rw [← hI] at hlow0 hat0 hle
  have hlow : ∀ j, j < entI L N key → keyAt L j < key := by
    intro j hj
    have := hlow0 j hj
    simp [geK] at this
    exact this
  have hhigh : ∀ j, entI L N key ≤ j → j < N → key < keyAt L j := by
    intro j hj hjn
    have h4 := hat0 (by omega)
    simp [geK] at h4
    have h5 := hno (entI L N key) (by omega)
    by_cases e : j = entI L N key
    · subst e; omega
    · have := h3 (entI L N key) j (by omega) hjn
      omega
  generalize entI L N key = i at hD hlow hhigh hle
  clear hI hlow0 hat0
  have hil : i * 2 ≤ L.length := by omega
  have ck : ∀ m, keyAt D m = if m < i then keyAt L m else if m = i then key else keyAt L (m - 1) := fun m => by rw [hD]; exact ins_key hil
  have cv : ∀ m, valAt D m = if m < i then valAt L m else if m = i then val else valAt L (m - 1) := fun m => by rw [hD]; exact ins_val hil
  have hDl : D.length = (N + 1) * 2 := by rw [hD]; simp; omega
  have hDok : okM D (N + 1) = true := by
    refine okM_iff.2 ⟨by omega, fun j hj => ?_, fun a b hab hb => ?_⟩
    · unfold entIn
      rw [ck, cv]
      by_cases e1 : j < i
      · rw [if_pos e1, if_pos e1]
        exact h2 j (by omega)
      · rw [if_neg e1, if_neg e1]
        by_cases e2 : j = i
        · rw [if_pos e2, if_pos e2]
          exact hin
        · rw [if_neg e2, if_neg e2]
          exact h2 (j - 1) (by omega)
    · rw [ck, ck]
      by_cases a1 : a < i
      · rw [if_pos a1]
        by_cases b1 : b < i
        · rw [if_pos b1]; exact h3 a b hab (by omega)
        · rw [if_neg b1]
          by_cases b2 : b = i
          · rw [if_pos b2]; exact hlow a a1
          · rw [if_neg b2]; exact h3 a (b - 1) (by omega) (by omega)
      · rw [if_neg a1, if_neg (show ¬ b < i by omega), if_neg (show ¬ b = i by omega)]
        by_cases a2 : a = i
        · rw [if_pos a2]; exact hhigh (b - 1) (by omega) (by omega)
        · rw [if_neg a2]; exact h3 (a - 1) (b - 1) (by omega) (by omega)
  have hki : keyAt D i = key := by rw [ck, if_neg (by omega), if_pos rfl]
  have hvi : valAt D i = val := by rw [cv, if_neg (by omega), if_pos rfl]
  have hc : D.take (i * 2) ++ D.drop ((i + 1) * 2) = L := by rw [hD]; exact ins_cut hil
  have g := get_yes (okM_iff.1 hDok).2.2 (show i < N + 1 by omega) hki
  have c := (cut_get hDl hDok (show i < N + 1 by omega)).2
  rw [hki, hc] at c
  exact ⟨hDok, g.1, by rw [g.2, hvi], fun k hk => ⟨(c k hk).1.symm, (c k hk).2.symm⟩⟩

/-- What MapPut of entries that are ok makes, and answers. -/
theorem put_all {L : List Int} {N : Nat} {key val : Int} (hl : L.length = N * 2) (hp : ptOk L N key val = true) :
    okM (ptL L N key val) (ptN L N key val) = true ∧
    ((ptC L N key val = 1 ∧ ptL L N key val = L ∧ ptN L N key val = N ∧ getC L N key = 2) ∨
     (ptC L N key val = 3 ∧ ptL L N key val = L ∧ ptN L N key val = N ∧ getC L N key = 1 ∧ N = 8) ∨
     (ptC L N key val = 2 ∧ getC L N key = 1 ∧ getC (ptL L N key val) (ptN L N key val) key = 2 ∧ getV (ptL L N key val) (ptN L N key val) key = val ∧
       ∀ k, k ≠ key → getC (ptL L N key val) (ptN L N key val) k = getC L N k ∧ getV (ptL L N key val) (ptN L N key val) k = getV L N k)) := by
  obtain ⟨hok, hin⟩ : okM L N = true ∧ (inB key 99 && inB val 999) = true := by
    have := hp
    unfold ptOk at this
    rw [Bool.and_eq_true] at this
    exact this
  obtain ⟨h1, h2, h3⟩ := okM_iff.1 hok
  rcases ent_cases key hok with ⟨hB, hi, hk⟩ | ⟨hB, hno⟩
  · have e1 : ptL L N key val = L := by simp [ptL, hp, hB]
    have e2 : ptN L N key val = N := by simp [ptN, hp, hB]
    have e3 : ptC L N key val = 1 := by simp [ptC, hp, hB]
    rw [e1, e2, e3]
    exact ⟨hok, .inl ⟨rfl, rfl, rfl, (get_yes h3 hi hk).1⟩⟩
  · by_cases h8 : N = 8
    · have e1 : ptL L N key val = L := by unfold ptL; rw [hp, hB, if_pos h8]; rfl
      have e2 : ptN L N key val = N := by unfold ptN; rw [hp, hB, if_pos h8]; rfl
      have e3 : ptC L N key val = 3 := by unfold ptC; rw [hp, hB, if_pos h8]; rfl
      rw [e1, e2, e3]
      exact ⟨hok, .inr (.inl ⟨rfl, rfl, rfl, (get_no hno).1, h8⟩)⟩
    · have e1 : ptL L N key val = L.take (entI L N key * 2) ++ [key, val] ++ L.drop (entI L N key * 2) := by simp [ptL, hp, hB, h8]
      have e2 : ptN L N key val = N + 1 := by simp [ptN, hp, hB, h8]
      have e3 : ptC L N key val = 2 := by simp [ptC, hp, hB, h8]
      rw [e2, e3]
      obtain ⟨a, b, c, d⟩ := put_new hl hok hin hno (by omega) _ e1
      exact ⟨a, .inr (.inr ⟨rfl, (get_no hno).1, b, c, d⟩)⟩
theorem put_not {L : List Int} {N : Nat} {key val : Int} (hp : ptOk L N key val = false) : ptC L N key val = 0 ∧ ptN L N key val = 0 := ⟨by simp [ptC, hp], by simp [ptN, hp]⟩
theorem ptOk_yes {L : List Int} {N : Nat} {key val : Int} (h : okM L N = true) (h1 : 0 ≤ key) (h2 : key ≤ 99) (h3 : 0 ≤ val) (h4 : val ≤ 999) : ptOk L N key val = true := by
  simp [ptOk, h, inB]
  omega
theorem ptOk_no {L : List Int} {N : Nat} {key val : Int} (h : okM L N = false ∨ key < 0 ∨ 99 < key ∨ val < 0 ∨ 999 < val) : ptOk L N key val = false := by
  cases e : ptOk L N key val
  · rfl
  · exfalso
    simp [ptOk, inB] at e
    rcases h with h | h
    · rw [h] at e; simp at e
    · omega

end Go.Proofs.Ytklpdpdjblakgaa

/- Count -/
namespace Go.Proofs.Ytklpdpdjblakgaa
open Go.RowKit
set_option linter.unusedVariables false

/-- How many of the first k keys are from a key on. -/
def cntN (zs : List Int) (key : Int) : Nat → Nat
  | 0 => 0
  | k + 1 => if geK key (keyAt zs k) then cntN zs key k + 1 else cntN zs key k
def cntV (zs : List Int) (n : Nat) (key : Int) : Int := cntN zs key n
theorem cntN_le (zs : List Int) (key : Int) (k : Nat) : cntN zs key k ≤ k := by
  induction k with
  | zero => simp [cntN]
  | succ k ih => unfold cntN; split <;> omega
theorem cntN_yes {zs : List Int} {key x : Int} {k : Nat} (hx : keyAt zs k = x) (h : key ≤ x) : cntN zs key (k + 1) = cntN zs key k + 1 := by
  simp [cntN, hx, geK_yes h]
theorem cntN_no {zs : List Int} {key x : Int} {k : Nat} (hx : keyAt zs k = x) (h : x < key) : cntN zs key (k + 1) = cntN zs key k := by
  simp [cntN, hx, geK_no h]

end Go.Proofs.Ytklpdpdjblakgaa

/- First -/
namespace Go.Proofs.Ytklpdpdjblakgaa
open Go.RowKit
set_option linter.unusedVariables false

/-- What ListFirst answers. -/
def firstC (zs : List Int) : Int := if zs.length = 0 then 1 else 2
def firstV (zs : List Int) : Int := zs.headD 0

end Go.Proofs.Ytklpdpdjblakgaa

/- SpecPush -/
namespace Go.Proofs.Ytklpdpdjblakgaa
open Go.RowKit
set_option linter.unusedVariables false

theorem own_lit2 (w : World) (o : Obj) (cs : Array Value) (n : Nat) (hs : cs.size = n) (hn : n ≤ maxLen) :
    ((w.alloc o).alloc (.cells cs 3)).ownsRow (w.heap.size + 1) 3 1 (.slice (some ⟨w.heap.size + 1, 0, none⟩) n n) n cs.toList := by
  have := World.ownsRow_lit (base := w.heap.size + 1) (e := 3) (size := 1) (w.alloc o) cs n (by simp) hn (by simpa using hs)
  simpa using this

/-- What stays behind an append onto the second of two new blocks: the first one, and all that was there. -/
theorem behind_append {w w1 : World} {c0 c1 : Value} {cs : Array Value} (hg : ((w.alloc (.cells #[c0, c1] 54)).alloc (.cells cs 3)).grownBy w1 (some (w.heap.size + 1))) :
    w1.cell? ⟨w.heap.size, 0, none⟩ = some c0 ∧ w1.cell? ⟨w.heap.size, 1, none⟩ = some c1 ∧ w1.frozen? ⟨w.heap.size, 0, none⟩ = false ∧ w1.frozen? ⟨w.heap.size, 1, none⟩ = false ∧ Below w.heap.size w w1 := by
  have hblk := hg.block w.heap.size (by simp; omega) (by simp)
  refine ⟨?_, ?_, ?_, ?_, ?_⟩
  · rw [World.cell?_of_block (a := ⟨w.heap.size, 0, none⟩) hblk]; simp
  · rw [World.cell?_of_block (a := ⟨w.heap.size, 1, none⟩) hblk]; simp
  · rw [World.frozen?_of_block (a := ⟨w.heap.size, 0, none⟩) hblk]; simp
  · rw [World.frozen?_of_block (a := ⟨w.heap.size, 1, none⟩) hblk]; simp
  · exact (((Below.refl _ _).alloc (Nat.le_refl _) _).alloc (by simp) _).grown hg (by simp; omega) (fun k h => by cases h; omega)

/-- The cells of all the numbers, for an append. -/
theorem SInts.src_all {w : World} {b off n : Nat} {zs : List Int} (hs : SInts w (some ⟨b, off, none⟩) n zs) :
    ∀ j u, (zs.map (Value.int .i64))[j]? = some u → w.cell? ((⟨b, off, none⟩ : Addr).add j) = some u := by
  intro j u hj
  obtain ⟨hz, h0 | ⟨b', off', e, hc⟩⟩ := hs
  · rw [List.eq_nil_of_length_eq_zero (l := zs) (by omega)] at hj
    simp at hj
  · cases e
    have hjn : j < n := by
      have := (List.getElem?_eq_some_iff.1 hj).1
      simp at this
      omega
    rw [Addr.add_lit, hc j hjn]
    simpa [List.getD, show j < zs.length by omega] using hj

theorem putL_len (zs : List Int) (i : Nat) (x : Int) : (putL zs i x).length ≤ zs.length + 1 := by
  unfold putL
  split
  · split
    · omega
    · simp only [List.length_append, List.length_take, List.length_drop, List.length_cons, List.length_nil]; omega
  · simp

theorem okL_len {zs : List Int} (h : okL zs = true) : zs.length ≤ 8 := by simp [okL] at h; exact h.1

end Go.Proofs.Ytklpdpdjblakgaa

/- SpecQue -/
namespace Go.Proofs.Ytklpdpdjblakgaa
open Go.RowKit
set_option linter.unusedVariables false

end Go.Proofs.Ytklpdpdjblakgaa

/- Take -/
namespace Go.Proofs.Ytklpdpdjblakgaa
open Go.RowKit
set_option linter.unusedVariables false

theorem behind_none {w w1 : World} {c0 c1 : Value} {o : Obj} {row : Option Nat} (hg : ((w.alloc (.cells #[c0, c1] 54)).alloc o).drew.grownBy w1 row) (hr : ∀ k, row = some k → w.heap.size + 1 ≤ k) :
    w1.cell? ⟨w.heap.size, 0, none⟩ = some c0 ∧ w1.cell? ⟨w.heap.size, 1, none⟩ = some c1 ∧ w1.frozen? ⟨w.heap.size, 0, none⟩ = false ∧ w1.frozen? ⟨w.heap.size, 1, none⟩ = false ∧ Below w.heap.size w w1 := by
  have hblk := hg.block w.heap.size (by simp; omega) (fun e => by have := hr _ e.symm; omega)
  refine ⟨?_, ?_, ?_, ?_, ?_⟩
  · rw [World.cell?_of_block (a := ⟨w.heap.size, 0, none⟩) hblk]; simp
  · rw [World.cell?_of_block (a := ⟨w.heap.size, 1, none⟩) hblk]; simp
  · rw [World.frozen?_of_block (a := ⟨w.heap.size, 0, none⟩) hblk]; simp
  · rw [World.frozen?_of_block (a := ⟨w.heap.size, 1, none⟩) hblk]; simp
  · exact ((((Below.refl _ _).alloc (Nat.le_refl _) _).alloc (by simp) _).drew).grown hg (by simp; omega) (fun k h => by have := hr _ h; omega)

/-- What is left, the code and the value of ListTake. -/
def takeL (zs : List Int) : List Int := if okL zs then zs.drop 1 else []
def takeC (zs : List Int) : Int := if okL zs then (if zs.length = 0 then 1 else 2) else 0
def takeV (zs : List Int) : Int := if okL zs then zs.headD 0 else 0

theorem takeL_len (zs : List Int) : (takeL zs).length ≤ zs.length := by
  unfold takeL
  split
  · simp
  · simp

end Go.Proofs.Ytklpdpdjblakgaa

/- Frame -/
namespace Go.Proofs.Ytklpdpdjblakgaa
open Go.ChangeShapes Go.WideShapes Go.ChangeAt Go.RowKit
set_option linter.unusedVariables false

theorem own : ownKnob Try.prog.godebug = none := by kernel_rfl
theorem laidOut : laidOutB Try.prog = true := by kernel_rfl

/-- What the reading of an argument tells of a slice of integers. -/
theorem sints_of_open {H : Type} {enc : TypeId × Value → H} {W : World} {a0 : Option Addr} {len0 cap0 : Nat} {d0 : DataW H} {p0 : List MemPlace}
    (h0 : DataW.Trod enc Try.prog W 0 (fun _ => true) true 37 (.slice a0 len0 cap0) d0 p0) : ∃ zs, SInts W a0 len0 zs ∧ len0 ≤ 9223372036854775807 := by
  obtain ⟨fuel, hf⟩ := h0
  rcases open_ints Try.underlying37 Try.underlying3 (by kernel_rfl) hf with ⟨hcs, _⟩ | ⟨x, l, c, zs, hcs, _, hl, hm, hz, _, hcell, hwz⟩
  · simp [Value.cells] at hcs
    obtain ⟨rfl, rfl, rfl⟩ := hcs
    exact ⟨[], ⟨rfl, .inl rfl⟩, by omega⟩
  · simp [Value.cells] at hcs
    obtain ⟨rfl, rfl, rfl⟩ := hcs
    unfold maxLen at hm
    refine ⟨zs.take len0, ⟨by simp at hz ⊢; omega, ?_⟩, by omega⟩
    by_cases h0 : len0 = 0
    · exact .inl h0
    · obtain ⟨b, off, spot⟩ := x
      have hc := hcell 0 (by simp at hz; omega)
      have hspot : spot = none := by simpa [Addr.add] using World.cell?_spot hc
      subst hspot
      refine .inr ⟨b, off, rfl, fun i hi => ?_⟩
      have := hcell i (by simp at hz; omega)
      rw [Addr.add_lit] at this
      rw [this]
      simp [List.getD, hi]

end Go.Proofs.Ytklpdpdjblakgaa

/- OpS -/
namespace Go.Proofs.Ytklpdpdjblakgaa
open Go.RowKit
set_option linter.unusedVariables false

/-- The greatest key that a kind has. -/
def kMost (k : Int) : Int := if k = 1 ∨ k = 2 ∨ k = 3 ∨ k = 9 ∨ k = 10 then 99 else 0
/-- The greatest value that a kind has. -/
def vMost (k : Int) : Int := if k = 2 ∨ k = 5 ∨ k = 7 then 999 else 0
/-- What may be asked. -/
def opB (k key val : Int) : Bool := decide (1 ≤ k) && decide (k ≤ 12) && inB key (kMost k) && inB val (vMost k)
/-- The program's table lies in its variable. -/
def Tab (w : World) : Prop := ∀ k : Nat, k ≤ 12 → w.cell? ⟨0, 3 * k, none⟩ = some (.int .i64 0) ∧ w.cell? ⟨0, 3 * k + 1, none⟩ = some (.int .i64 (kMost k)) ∧ w.cell? ⟨0, 3 * k + 2, none⟩ = some (.int .i64 (vMost k))

theorem kept_cell {W W' : World} {b o : Nat} {v : Value} (hb : Below W.heap.size W W') (h : W.cell? ⟨b, o, none⟩ = some v) : W'.cell? ⟨b, o, none⟩ = some v :=
  (hb.cell (World.block_lt_of_cell? W ⟨b, o, none⟩ h)).trans h
theorem Tab.below {W W' : World} (h : Tab W) (hb : Below W.heap.size W W') : Tab W' := fun k hk =>
  let ⟨h0, h1, h2⟩ := h k hk
  ⟨kept_cell hb h0, kept_cell hb h1, kept_cell hb h2⟩
theorem inB_zero {x : Int} : inB x 0 = decide (x = 0) := by
  unfold inB
  rw [← Bool.decide_and]
  exact decide_eq_decide.2 (by omega)
theorem opB_low {k key val : Int} (h : k < 1) : opB k key val = false := by
  have : ¬ 1 ≤ k := by omega
  simp [opB, this]
theorem opB_high {k key val : Int} (h : 12 < k) : opB k key val = false := by
  have : ¬ k ≤ 12 := by omega
  simp [opB, this]

theorem opB_1 (key val : Int) : opB 1 key val = (inB key 99 && inB val 0) := by simp [opB, kMost, vMost]
theorem opB_2 (key val : Int) : opB 2 key val = (inB key 99 && inB val 999) := by simp [opB, kMost, vMost]
theorem opB_3 (key val : Int) : opB 3 key val = (inB key 99 && inB val 0) := by simp [opB, kMost, vMost]
theorem opB_4 (key val : Int) : opB 4 key val = (inB key 0 && inB val 0) := by simp [opB, kMost, vMost]
theorem opB_5 (key val : Int) : opB 5 key val = (inB key 0 && inB val 999) := by simp [opB, kMost, vMost]
theorem opB_6 (key val : Int) : opB 6 key val = (inB key 0 && inB val 0) := by simp [opB, kMost, vMost]
theorem opB_7 (key val : Int) : opB 7 key val = (inB key 0 && inB val 999) := by simp [opB, kMost, vMost]
theorem opB_8 (key val : Int) : opB 8 key val = (inB key 0 && inB val 0) := by simp [opB, kMost, vMost]
theorem opB_9 (key val : Int) : opB 9 key val = (inB key 99 && inB val 0) := by simp [opB, kMost, vMost]
theorem opB_10 (key val : Int) : opB 10 key val = (inB key 99 && inB val 0) := by simp [opB, kMost, vMost]
theorem opB_11 (key val : Int) : opB 11 key val = (inB key 0 && inB val 0) := by simp [opB, kMost, vMost]
theorem opB_12 (key val : Int) : opB 12 key val = (inB key 0 && inB val 0) := by simp [opB, kMost, vMost]

set_option maxHeartbeats 400000 in
theorem toOpOp_any (k key val : Int) (w : World) :
    Calls Try.prog 44 #[.agg #[.int .i64 k, .int .i64 key, .int .i64 val]] w fun e w' => e = .returned (.agg #[.int .i64 k, .int .i64 key, .int .i64 val]) ∧ Below w.heap.size w w' := by
  go_enter Try.func44, Try.ntmps44
  go_wp2
  exact bodyPost_ret (v := .agg #[.int .i64 k, .int .i64 key, .int .i64 val]) (by simp [results, Try.results44, go_sem]) rfl ⟨rfl, (((Below.refl _ _).alloc (Nat.le_refl _) _).alloc (by simp) _).alloc (by simp; omega) _⟩

end Go.Proofs.Ytklpdpdjblakgaa
