/- ArnMap of the program, at all places. -/
import Derived.Test.YtbefjhcokmmeoaaValsS
import Derived.Test.YtbefjhcokmmeoaaOkE
namespace Go.Proofs.Ytbefjhcokmmeoaa
open Go.RowKit
set_option linter.unusedVariables false

/-- The places that are not marked. -/
def unm (ns : List Nd) (zs : List Int) : List Int := zs.filter (fun z => !(wMark (ndAt ns z).word))
/-- The map's places that are not marked, of places that are ok. -/
def mapP (ns : List Nd) (t f l : Int) : List Int := if okA ns t f l then unm ns (pathOf begC ns t f l) else []

theorem unm_next (ns : List Nd) {zs : List Int} {k : Nat} {y : Int} {x : Nd} (hk : k < zs.length) (hy : zs.getD k 0 = y) (hx : ndAt ns y = x) : unm ns (zs.take (k + 1)) = unm ns (zs.take k) ++ (if wMark x.word then [] else [y]) := by
  rw [take_next hk hy]
  unfold unm
  rw [List.filter_append]
  cases h : wMark x.word <;> simp [hx, h]
theorem unm_places {ns : List Nd} {zs : List Int} (h : placesB zs) : placesB (unm ns zs) := by
  intro i hi
  have hm : (unm ns zs)[i] ∈ zs := (List.mem_filter.1 (List.getElem_mem hi)).1
  obtain ⟨j, hj, e⟩ := List.mem_iff_getElem.1 hm
  have := h j hj
  simpa [List.getD, hi, hj, ← e] using this
theorem unm_len (ns : List Nd) (zs : List Int) : (unm ns zs).length ≤ zs.length := List.length_filter_le _ _
theorem entsOf_len (ns : List Nd) (zs : List Int) : (entsOf ns zs).length = zs.length * 2 := by
  induction zs with
  | nil => rfl
  | cons z zs ih =>
    have e : entsOf ns (z :: zs) = [(ndAt ns z).key, (ndAt ns z).val] ++ entsOf ns zs := rfl
    rw [e, List.length_append, ih]
    simp
    omega

/-- The answer is entries, in memory of their own. -/
def MapR (n : Nat) (L : List Int) (e : Ending) (w w' : World) : Prop :=
  ∃ a c, e = .returned (.agg #[.slice a n c]) ∧ w'.ownsRow w.heap.size 51 2 (.slice a n c) n (L.map (Value.int .i64)) ∧ Below w.heap.size w w'

/-- What stands in the loop. -/
structure ThAt (w2 : World) (a' : Option Addr) (m c' : Nat) (L : List Int) (W : World) : Prop where
  base : Below w2.heap.size w2 W
  own : W.ownsRow w2.heap.size 3 1 (.slice a' m c') m (L.map (Value.int .i64))
theorem ThAt.below {w2 : World} {a' : Option Addr} {m c' : Nat} {L : List Int} {W W' : World} (h : ThAt w2 a' m c' L W) (hb : Below W.heap.size W W') : ThAt w2 a' m c' L W' :=
  ⟨below_trans' h.base hb, ownsRow_below h.own hb⟩
theorem ThAt.grown {w2 : World} {a' : Option Addr} {m c' : Nat} {L : List Int} {W W' : World} (h : ThAt w2 a' m c' L W) (hg : W.grownBy W' (Value.slice a' m c').ownBlock) {a2 : Option Addr} {m2 c2 : Nat} {L2 : List Int} (ho : W'.ownsRow w2.heap.size 3 1 (.slice a2 m2 c2) m2 (L2.map (Value.int .i64))) : ThAt w2 a2 m2 c2 L2 W' :=
  ⟨h.base.grown hg h.base.size (fun k e => (h.own.lt k e).1), ho⟩

theorem own3_shape {W : World} {b n : Nat} {v : Value} {xs : List Value} (h : W.ownsRow b 3 1 v n xs) : ∃ a c, v = .slice a n c := by
  rcases h.2 with ⟨rfl, h0⟩ | ⟨g, cap, cur, rfl, _⟩
  · subst h0; exact ⟨none, 0, rfl⟩
  · exact ⟨_, _, rfl⟩

set_option maxHeartbeats 1000000 in
theorem implArnMap_bad (a : Option Addr) (n cap : Nat) (ns : List Nd) (t f l : Int) (w : World) (hs : SNodes w a n ns) (hn : n ≤ 1048576) (hok : okA ns t f l = false) :
    Calls Try.prog 9 #[.agg #[.slice a n cap, .int .i64 t, .int .i64 f, .int .i64 l]] w fun e w' => MapR 0 [] e w w' := by
  have A := below_trans' (al1 w (.cells #[.slice a n cap, .int .i64 t, .int .i64 f, .int .i64 l] 32)) (al1 _ (.cells #[.slice none 0 0] 28))
  have r0 := cell_at (w.alloc (.cells #[.slice a n cap, .int .i64 t, .int .i64 f, .int .i64 l] 32)) #[.slice none 0 0] 28 0 (b := w.heap.size + 1) (by simp) (v := .slice none 0 0) rfl
  have rf := frozen_at (w.alloc (.cells #[.slice a n cap, .int .i64 t, .int .i64 f, .int .i64 l] 32)) #[.slice none 0 0] 28 0 (b := w.heap.size + 1) (by simp)
  go_enter Try.func9, Try.ntmps9
  go_wp2_with fail
  refine (implArnOk_any _ _ _ ns t f l _ (hs.below A) hn).mono ?_
  rintro e w1 ⟨rfl, hb1⟩
  have hbel := below_trans' A hb1
  have r1 := cell_kept hb1 r0
  have f1 := (hb1.frozen (p := ⟨w.heap.size + 1, 0, none⟩) (by simp)).trans rf
  rw [hok]
  clear hs hb1 r0 rf A
  go_wp2
  exact bodyPost_ret (v := .agg #[.slice none 0 0]) (by simp [results, Try.results9, go_sem, r1]) rfl ⟨none, 0, rfl, ⟨rfl, .inl ⟨rfl, rfl⟩⟩, hbel.setCell (p := ⟨w.heap.size + 1, 0, none⟩) (by show w.heap.size ≤ w.heap.size + 1; omega) _⟩

set_option maxRecDepth 20000 in
set_option maxHeartbeats 2000000 in
theorem implArnMap_ok (b off cap : Nat) (ns : List Nd) (t f l : Int) (w : World) (hs : SNodes w (some ⟨b, off, none⟩) 10 ns) (hok : okA ns t f l = true) :
    Calls Try.prog 9 #[.agg #[.slice (some ⟨b, off, none⟩) 10 cap, .int .i64 t, .int .i64 f, .int .i64 l]] w fun e w' => MapR (unm ns (pathOf begC ns t f l)).length (entsOf ns (unm ns (pathOf begC ns t f l))) e w w' := by
  obtain ⟨i0, hi, hz0, hz1, hz2⟩ := info_parts Try.info3
  have A := below_trans' (al1 w (.cells #[.slice (some ⟨b, off, none⟩) 10 cap, .int .i64 t, .int .i64 f, .int .i64 l] 32)) (al1 _ (.cells #[.slice none 0 0] 28))
  have bx := (boxA_new w (some ⟨b, off, none⟩) 10 cap t f l 32 rfl).below (al1 _ (.cells #[.slice none 0 0] 28))
  have r0 := cell_at (w.alloc (.cells #[.slice (some ⟨b, off, none⟩) 10 cap, .int .i64 t, .int .i64 f, .int .i64 l] 32)) #[.slice none 0 0] 28 0 (b := w.heap.size + 1) (by simp) (v := .slice none 0 0) rfl
  have rf := frozen_at (w.alloc (.cells #[.slice (some ⟨b, off, none⟩) 10 cap, .int .i64 t, .int .i64 f, .int .i64 l] 32)) #[.slice none 0 0] 28 0 (b := w.heap.size + 1) (by simp)
  obtain ⟨zs, ez⟩ : ∃ zs, pathOf begC ns t f l = zs := ⟨_, rfl⟩
  have HP : Hid (placesB zs ∧ zs.length ≤ 9) := ez ▸ path_places (begC_in ns t f l)
  have hc0 := implArnChain_any (some ⟨b, off, none⟩) 10 cap ns t f l
  rw [ez] at hc0 ⊢
  obtain ⟨n, ln⟩ : ∃ n, zs.length = n := ⟨_, rfl⟩
  have HN : Hid (zs.length = n ∧ n ≤ 9) := ⟨ln, by have := HP.out.2; omega⟩
  have hn9 : n ≤ 9 := HN.out.2
  clear ez ln
  go_enter Try.func9, Try.ntmps9
  go_wp2_with fail
  refine (implArnOk_any _ _ _ ns t f l _ (hs.below A) (by omega)).mono ?_
  rintro e w1 ⟨rfl, hb1⟩
  rw [hok]
  have bx1 := bx.below hb1
  obtain ⟨p0, p1, p2, p3⟩ := bx1.cells
  go_wp2_with fail
  refine (hc0 _ (hs.below (below_trans' A hb1)) (by omega)).mono ?_
  rintro e w2 ⟨aC, cC, rfl, ho2, hb2⟩
  rw [HN.out.1] at ho2 ⊢
  have hb := below_trans' hb1 hb2
  have H2 : Hid (BoxA w2 w.heap.size (some ⟨b, off, none⟩) 10 cap t f l ∧ w2.cell? ⟨w.heap.size + 1, 0, none⟩ = some (.slice none 0 0) ∧ w2.frozen? ⟨w.heap.size + 1, 0, none⟩ = false ∧ SNodes w2 (some ⟨b, off, none⟩) 10 ns ∧ SInts w2 aC n zs ∧ Below w.heap.size w w2 ∧ w.heap.size + 1 < w2.heap.size) :=
    ⟨bx1.below hb2, cell_kept hb r0, (hb.frozen (p := ⟨w.heap.size + 1, 0, none⟩) (by simp)).trans rf, hs.below (below_trans' A hb), own_sints ho2, below_trans' A hb, World.block_lt_of_cell? w2 ⟨w.heap.size + 1, 0, none⟩ (cell_kept hb r0)⟩
  have T0 : Hid (ThAt w2 none 0 0 [] w2) := ⟨Below.refl _ _, ⟨rfl, .inl ⟨rfl, rfl⟩⟩⟩
  clear hb hb1 hb2 ho2 bx bx1 r0 rf A hs hok hc0 p0 p1 p2 p3
  go_wp2
  go_loopw [3, 5, 13] (fun s _ i wr => ∃ (k m : Nat) (a' : Option Addr) (c' : Nat), k ≤ n ∧ i = .int .i64 k ∧ s = .slice a' m c' ∧ m = (unm ns (zs.take k)).length ∧ ThAt w2 a' m c' (unm ns (zs.take k)) wr) (fun _ _ i _ => n - (intOf i).toNat)
  case atStart => exact ⟨0, 0, none, 0, Nat.zero_le _, rfl, rfl, rfl, T0.out⟩
  case round =>
    obtain ⟨k, m, a', c', hk, rfl, rfl, hm, I⟩ := hrel
    clear T0
    have HM : Hid (m = (unm ns (zs.take k)).length) := hm
    have hm9 : m ≤ 9 := by
      have := unm_len ns (zs.take k)
      have h2 := List.length_take_le k zs
      have := HN.out.2
      omega
    clear hm
    by_cases hlt : k < n
    · obtain ⟨_, h0 | ⟨b', off', rfl, hc⟩⟩ := H2.out.2.2.2.2.1.below I.base
      · omega
      · obtain ⟨y, hy⟩ : ∃ y, zs.getD k 0 = y := ⟨_, rfl⟩
        have h1 : wr.cell? ⟨b', off' + k, none⟩ = some (.int .i64 y) := by rw [← hy]; exact hc k hlt
        have hyb := HP.out.1 k (by rw [HN.out.1]; exact hlt)
        rw [hy] at hyb
        obtain ⟨j, rfl⟩ : ∃ j : Nat, y = j := ⟨y.toNat, by omega⟩
        have hj : j < 10 := by omega
        have hji : (j : Int) < 10 := by omega
        obtain ⟨b2, off2, ⟨x0, x1, x2, x3, x4, x5⟩, eab, hx, hN⟩ := (H2.out.2.2.2.1.below I.base).at hj
        cases eab
        have n0 := hN.c0
        have n1 := hN.c1
        have n2 := hN.c2
        have n3 := hN.c3
        have n4 := hN.c4
        have n5 := hN.c5
        dsimp only at n0 n1 n2 n3 n4 n5
        have c0 := (H2.out.1.below I.base).c0
        obtain ⟨ys, hys⟩ : ∃ ys, unm ns (zs.take k) = ys := ⟨_, rfl⟩
        rw [hys] at I HM
        have HE : Hid (unm ns (zs.take (k + 1)) = ys ++ (if wMark x2 then [] else [(j : Int)])) := by
          show _ = _
          rw [unm_next ns (x := ⟨x0, x1, x2, x3, x4, x5⟩) (by rw [HN.out.1]; exact hlt) hy (by simp [ndAt, List.getD, hx]), hys]
        have HI : Hid (ThAt w2 a' m c' ys wr) := I
        clear hc hy hN hx hyb I
        go_wp2_with fail
        refine (nodeMarked_any _ _ _ _ _ _ _).mono ?_
        rintro e w3 ⟨rfl, hb3⟩
        have HI3 : Hid (ThAt w2 a' m c' ys w3) := HI.out.below hb3
        have HI4 : Hid (ThAt w2 a' m c' ys (w3.alloc (.cells #[.int .i64 (j : Int)] 3))) := HI3.out.below (al1 _ _)
        have HSZ : Hid (w2.heap.size ≤ w3.heap.size) := HI3.out.base.size
        clear HI hb3 n0 n1 n2 n3 n4 n5 c0 h1
        cases hmk : wMark x2
        · rw [hmk] at HE
          have HE2 : Hid (unm ns (zs.take (k + 1)) = ys ++ [(j : Int)]) := by show _ = _; simpa using HE.out
          clear HE
          go_wp2_with (at_builtin; go_must (refine wpList_append_own _ rfl (.tmp 24) (.tmp 26) 39 rfl w2.heap.size 3 i0 (.int .i64 0) 1 8 Try.underlying39 hi hz0 hz1 hz2 rfl (by decide) (.slice a' m c') m _ rfl HI4.out.own ⟨w3.heap.size, 0, none⟩ 1 1 [.int .i64 (j : Int)] rfl rfl (by intro jj u hjj; match jj, hjj with | 0, hjj => simp at hjj; subst hjj; exact cell_at _ _ _ 0 rfl rfl) (by intro u hu; simp at hu; subst hu; rfl) (by unfold maxLen; omega) (by omega) (by have := HSZ.out; simp; omega) ?_))
          intro v' w5 hown hgrow _
          obtain ⟨a2, c2, rfl⟩ := own3_shape hown
          have HI5 : Hid (ThAt w2 a2 (m + 1) c2 (ys ++ [(j : Int)]) w5) := HI4.out.grown hgrow (by simpa using hown)
          clear hown hgrow HI3 HI4
          go_wp2
          go_roundw
          case rel => exact ⟨k + 1, m + 1, a2, c2, by omega, by go_num, rfl, by rw [HE2.out, HM.out]; simp, by rw [HE2.out]; exact HI5.out⟩
          case measure => simp [intOf]; omega
        · rw [hmk] at HE
          have HE2 : Hid (unm ns (zs.take (k + 1)) = ys) := by show _ = _; simpa using HE.out
          clear HE HI4
          go_wp2
          go_roundw
          case rel => exact ⟨k + 1, m, a', c', by omega, by go_num, rfl, by rw [HE2.out]; exact HM.out, by rw [HE2.out]; exact HI3.out⟩
          case measure => simp [intOf]; omega
    · obtain rfl : k = n := by omega
      have et : zs.take k = zs := List.take_of_length_le (by rw [HN.out.1]; exact Nat.le_refl _)
      rw [et] at I HM
      have HMI : Hid (m = (unm ns zs).length) := HM
      obtain ⟨p0, p1, p2, p3⟩ := (H2.out.1.below I.base).cells
      have HI : Hid (ThAt w2 a' m c' (unm ns zs) wr) := I
      clear I et HM
      go_wp2_with fail
      refine (entries_any b off cap ns t f l _ _ _ (unm ns zs) _ (H2.out.2.2.2.1.below HI.out.base) (own_sints HI.out.own) (by omega) (unm_places HP.out.1)).mono ?_
      rintro e w3 ⟨aE, cE, rfl, oE, hb3⟩
      have hb := below_trans' HI.out.base hb3
      have r1 := cell_kept hb H2.out.2.1
      have f1 := (hb.frozen (p := ⟨w.heap.size + 1, 0, none⟩) H2.out.2.2.2.2.2.2).trans H2.out.2.2.1
      have R : Hid (w3.ownsRow w2.heap.size 51 2 (.slice aE m cE) m ((entsOf ns (unm ns zs)).map (Value.int .i64)) ∧ Below w.heap.size w w3) := ⟨own_mono oE HI.out.base.size, below_trans' H2.out.2.2.2.2.2.1 hb⟩
      clear oE hb3 hb HI p0 p1 p2 p3
      go_wp2
      refine bodyPost_ret (v := .agg #[.slice aE m cE]) (by simp [results, Try.results9, go_sem, r1]) rfl ⟨aE, cE, by rw [← HMI.out], ?_, R.out.2.setCell (p := ⟨w.heap.size + 1, 0, none⟩) (by show w.heap.size ≤ w.heap.size + 1; omega) _⟩
      rw [← HMI.out]
      have hw := H2.out.2.2.2.2.2.2
      exact own_mono (ownsRow_setCell_other R.out.1 (fun e => by have := (R.out.1.lt (w.heap.size + 1) e).1; omega) _) (by omega)

theorem implArnMap_any (a : Option Addr) (n cap : Nat) (ns : List Nd) (t f l : Int) (w : World) (hs : SNodes w a n ns) (hn : n ≤ 1048576) :
    Calls Try.prog 9 #[.agg #[.slice a n cap, .int .i64 t, .int .i64 f, .int .i64 l]] w fun e w' => MapR (mapP ns t f l).length (entsOf ns (mapP ns t f l)) e w w' := by
  cases hok : okA ns t f l
  · have e : mapP ns t f l = [] := by simp [mapP, hok]
    rw [e]
    exact implArnMap_bad a n cap ns t f l w hs hn hok
  · have hsh : shapeB ns t f l = true := by
      unfold okA at hok
      exact (Bool.and_eq_true _ _ ▸ hok).1
    obtain ⟨hl, _⟩ := shapeB_parts hsh
    obtain ⟨rfl, b, off, rfl⟩ := snodes_some hs hl
    have e : mapP ns t f l = unm ns (pathOf begC ns t f l) := by simp [mapP, hok]
    rw [e]
    exact implArnMap_ok b off cap ns t f l w hs hok

end Go.Proofs.Ytbefjhcokmmeoaa
