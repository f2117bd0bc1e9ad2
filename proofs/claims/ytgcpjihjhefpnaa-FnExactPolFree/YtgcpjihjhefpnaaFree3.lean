/- PolFree, of the specification and of the program. -/
import Derived.Test.YtgcpjihjhefpnaaPokI2
namespace Go.Proofs.Ytgcpjihjhefpnaa
open Go.RowKit
set_option linter.unusedVariables false

/-- It was taken out two epochs ahead at least. -/
def oldB (ep : Int) (o : Od) : Bool := decide (o.2 + 2 ≤ ep)
/-- Where the first of what was taken out stands that was so long ago; -1, if none was. -/
def firstOld (ep : Int) (os : List Od) : Int := if os.findIdx (oldB ep) < os.length then (os.findIdx (oldB ep) : Nat) else -1
/-- What PolFree answers. -/
def freeP (E : Int) (ps : List Int) (oss : List (List Od)) (hand ep : Int) : Int :=
  if okP E ps oss && (inR hand 0 2 && inR ep 0 100000) then firstOld ep (oss.getD hand.toNat []) else -1

theorem firstOld_at {ep : Int} {os : List Od} {k : Nat} {o : Od} (hk : os[k]? = some o) (h : oldB ep o = true) (hb : ∀ j o', j < k → os[j]? = some o' → oldB ep o' = false) : firstOld ep os = k := by
  obtain ⟨hl, e⟩ := List.getElem?_eq_some_iff.1 hk
  have h1 : os.findIdx (oldB ep) = k := by
    rw [List.findIdx_eq hl]
    exact ⟨by rw [e]; exact h, fun j hj => hb j _ hj (List.getElem?_eq_getElem (by omega))⟩
  unfold firstOld
  rw [h1, if_pos hl]
theorem firstOld_none {ep : Int} {os : List Od} (hb : ∀ (j : Nat) o', os[j]? = some o' → oldB ep o' = false) : firstOld ep os = -1 := by
  have h1 : os.findIdx (oldB ep) = os.length := by
    rw [List.findIdx_eq_length]
    intro x hx
    obtain ⟨i, hi, rfl⟩ := List.mem_iff_getElem.1 hx
    exact hb i _ (List.getElem?_eq_getElem hi)
  unfold firstOld
  rw [h1, if_neg (by omega)]

theorem ret_i64 {a b : Int} (h : a = b) : Ending.returned (.int .i64 a) = .returned (.int .i64 b) := by rw [h]

/-- What is ok is in bounds. -/
theorem okP_epochs {E : Int} {ps : List Int} {oss : List (List Od)} (h : okP E ps oss = true) : 0 ≤ E ∧ E ≤ 100000 ∧ oss.length = 3 ∧ ∀ (k j : Nat) (os : List Od) (x y : Int), oss[k]? = some os → os[j]? = some (x, y) → 0 ≤ y ∧ y ≤ 100000 := by
  simp only [okP, okP1, okP2, Bool.and_eq_true, decide_eq_true_eq] at h
  obtain ⟨⟨hE, _, hl⟩, _, ho, _⟩ := h
  have hE' : 0 ≤ E ∧ E ≤ 100000 := by simpa [inR] using hE
  refine ⟨hE'.1, hE'.2, hl, fun k j os x y hk hj => ?_⟩
  have h5 := List.all_eq_true.1 (List.all_eq_true.1 ho os (List.mem_of_getElem? hk)) (x, y) (List.mem_of_getElem? hj)
  simp [okOld, inR] at h5
  omega

set_option maxHeartbeats 1000000 in
theorem l3Free_any (E : Int) (pa : Option Addr) (np pc : Nat) (la : Option Addr) (lc : Nat) (oss : List (List Od)) (h : Nat) (ep : Int) (os : List Od) (w : World) (hs : SLimbo w la 3 oss) (hh : h < 3) (ho : oss[h]? = some os) (hy : ∀ (j : Nat) (x y : Int), os[j]? = some (x, y) → 0 ≤ y ∧ y ≤ 100000) (h3 : sumL oss ≤ 1048576) :
    Calls Try.prog 38 #[.agg #[.int .i64 E, .slice pa np pc, .slice la 3 lc], .int .i64 h, .int .i64 ep] w fun e w' => e = .returned (.int .i64 (firstOld ep os)) ∧ Below w.heap.size w w' := by
  have A := al1 w (.cells #[.int .i64 E, .slice pa np pc, .slice la 3 lc] 25)
  have bx := boxP_new w E pa np pc la 3 lc 25 rfl
  obtain ⟨b, off, os', ai, ci, rfl, ho', hc, hO⟩ := (hs.below A).at hh
  obtain rfl : os' = os := by rw [ho] at ho'; cases ho'; rfl
  obtain ⟨n, e⟩ : ∃ n, os'.length = n := ⟨_, rfl⟩
  have hn1 : n ≤ 1048576 := by have := sumL_mem ho; omega
  rw [e] at hc hO
  have c2 := bx.c2
  have HO : Hid (SOlds (w.alloc (.cells #[.int .i64 E, .slice pa np pc, .slice (some ⟨b, off, none⟩) 3 lc] 25)) ai n os' ∧ os'.length = n ∧ (∀ (j : Nat) (x y : Int), os'[j]? = some (x, y) → 0 ≤ y ∧ y ≤ 100000)) := ⟨hO, e, hy⟩
  have hh' : (h : Int) < 3 := by omega
  clear hs ho ho' e hO hy h3 bx
  go_enter Try.func38, Try.ntmps38
  go_wp2
  go_loop [7] (fun i => ∃ k : Nat, k ≤ n ∧ i = .int .i64 k ∧ ∀ j o', j < k → os'[j]? = some o' → oldB ep o' = false) (fun i => n - (intOf i).toNat)
  case atStart => exact ⟨0, Nat.zero_le _, rfl, fun j o' hj => by omega⟩
  case round =>
    obtain ⟨k, hk, rfl, G⟩ := hrel
    have HG : Hid (∀ j o', j < k → os'[j]? = some o' → oldB ep o' = false) := G
    clear G
    by_cases hlt : k < n
    · obtain ⟨b2, off2, x, y, rfl, hx, x0, x1⟩ := HO.out.1.at hlt
      have hyb := HO.out.2.2 k x y hx
      have HX : Hid (os'[k]? = some (x, y)) := hx
      clear hx x0
      by_cases hold : y + 2 ≤ ep
      · go_wp2
        go_ret
        exact ⟨ret_i64 (firstOld_at HX.out (by simp [oldB, hold]) HG.out).symm, A⟩
      · go_wp2
        go_round
        case rel => exact ⟨k + 1, by omega, by go_num, fun j o' hj ho' => by
          by_cases e : j = k
          · subst e
            rw [HX.out] at ho'
            cases ho'
            simpa [oldB] using hold
          · exact HG.out j o' (by omega) ho'⟩
        case measure => simp [intOf]; omega
    · obtain rfl : k = n := by omega
      go_wp2
      go_ret
      exact ⟨ret_i64 (firstOld_none (fun j o' ho' => HG.out j o' (by have := (List.getElem?_eq_some_iff.1 ho').1; rw [HO.out.2.1] at this; exact this) ho')).symm, A⟩

theorem freeP_no {E : Int} {ps : List Int} {oss : List (List Od)} {hand ep : Int} (h : okP E ps oss = false ∨ inR hand 0 2 = false ∨ inR ep 0 100000 = false) : freeP E ps oss hand ep = -1 := by
  unfold freeP
  rw [if_neg]
  intro h1
  simp only [Bool.and_eq_true] at h1
  rcases h with h | h | h <;> simp [h] at h1
theorem freeP_yes {E : Int} {ps : List Int} {oss : List (List Od)} {h : Nat} {ep : Int} {os : List Od} (h1 : okP E ps oss = true) (h2 : inR (h : Int) 0 2 = true) (h3 : inR ep 0 100000 = true) (ho : oss[h]? = some os) : freeP E ps oss h ep = firstOld ep os := by
  unfold freeP
  rw [if_pos (by simp [h1, h2, h3])]
  simp [List.getD, ho]

set_option maxHeartbeats 2000000 in
theorem specPolFree_any (E : Int) (pa : Option Addr) (np pc : Nat) (la : Option Addr) (nl lc : Nat) (ps : List Int) (oss : List (List Od)) (hand ep : Int) (w : World) (hp : SInts w pa np ps) (hs : SLimbo w la nl oss) (h1 : np ≤ 1048576) (h2 : nl ≤ 1048576) (h3 : sumL oss ≤ 1048576) :
    Calls Try.prog 21 #[.agg #[.int .i64 E, .slice pa np pc, .slice la nl lc], .int .i64 hand, .int .i64 ep] w fun e w' => e = .returned (.int .i64 (freeP E ps oss hand ep)) ∧ Below w.heap.size w w' := by
  have A := al1 w (.cells #[.int .i64 E, .slice pa np pc, .slice la nl lc] 25)
  have bx := boxP_new w E pa np pc la nl lc 25 rfl
  have HS : Hid (SLimbo w la nl oss ∧ SInts w pa np ps) := ⟨hs, hp⟩
  clear hs hp
  cases hok : okP E ps oss
  · rw [freeP_no (.inl hok)]
    go_enter Try.func21, Try.ntmps21
    go_wp2_with fail
    refine (specPolOk_any _ _ _ _ _ _ _ ps oss _ (HS.out.2.below A) (HS.out.1.below A) h1 h2 h3).mono ?_
    rintro e w1 ⟨rfl, hb1⟩
    rw [hok]
    have hB := below_trans' A hb1
    clear A hb1 bx
    go_wp2
    go_ret
    exact ⟨rfl, hB⟩
  cases hH : inR hand 0 2
  · rw [freeP_no (.inr (.inl hH))]
    go_enter Try.func21, Try.ntmps21
    go_wp2_with fail
    refine (specPolOk_any _ _ _ _ _ _ _ ps oss _ (HS.out.2.below A) (HS.out.1.below A) h1 h2 h3).mono ?_
    rintro e w1 ⟨rfl, hb1⟩
    rw [hok]
    have hB := below_trans' A hb1
    clear A hb1 bx
    go_wp2_with (go_at_call 28; refine (l1InR_any _ _ _ _).mono ?_; rintro e w' ⟨rfl, rfl⟩; rw [hH])
    go_ret
    exact ⟨rfl, hB⟩
  cases hP : inR ep 0 100000
  · rw [freeP_no (.inr (.inr hP))]
    go_enter Try.func21, Try.ntmps21
    go_wp2_with fail
    refine (specPolOk_any _ _ _ _ _ _ _ ps oss _ (HS.out.2.below A) (HS.out.1.below A) h1 h2 h3).mono ?_
    rintro e w1 ⟨rfl, hb1⟩
    rw [hok]
    have hB := below_trans' A hb1
    clear A hb1 bx
    go_wp2_with (go_at_call 28; refine (l1InR_any _ _ _ _).mono ?_; rintro e w' ⟨rfl, rfl⟩; first | rw [hH] | rw [hP])
    go_ret
    exact ⟨rfl, hB⟩
  · obtain ⟨_, _, hl, hy⟩ := okP_epochs hok
    obtain rfl : nl = 3 := by rw [← HS.out.1.1]; exact hl
    have hhb : 0 ≤ hand ∧ hand ≤ 2 := by simpa [inR] using hH
    obtain ⟨h, rfl⟩ : ∃ h : Nat, hand = h := ⟨hand.toNat, by omega⟩
    have hh : h < 3 := by omega
    obtain ⟨os, ho⟩ : ∃ os, oss[h]? = some os := ⟨_, List.getElem?_eq_getElem (by omega)⟩
    rw [freeP_yes hok hH hP ho]
    have HO : Hid (oss[h]? = some os ∧ (∀ (j : Nat) (x y : Int), os[j]? = some (x, y) → 0 ≤ y ∧ y ≤ 100000)) := ⟨ho, fun j x y hj => hy h j os x y ho hj⟩
    clear ho hy hl
    go_enter Try.func21, Try.ntmps21
    go_wp2_with fail
    refine (specPolOk_any _ _ _ _ _ _ _ ps oss _ (HS.out.2.below A) (HS.out.1.below A) h1 h2 h3).mono ?_
    rintro e w1 ⟨rfl, hb1⟩
    rw [hok]
    have hB := below_trans' A hb1
    have bx1 := bx.below hb1
    have p0 := bx1.c0
    have p1 := bx1.c1
    have p2 := bx1.c2
    clear A hb1 bx bx1
    go_wp2_with (go_at_call 28; refine (l1InR_any _ _ _ _).mono ?_; rintro e w' ⟨rfl, rfl⟩; first | rw [hH] | rw [hP])
    refine (l3Free_any _ _ _ _ _ _ oss h _ os _ (HS.out.1.below hB) hh HO.out.1 HO.out.2 h3).mono ?_
    rintro e w2 ⟨rfl, hb2⟩
    have hB2 := below_trans' hB hb2
    clear hB hb2 p0 p1 p2
    go_wp2
    go_ret
    exact ⟨rfl, hB2⟩

theorem isHand_any (x : Int) (w : World) : Calls Try.prog 39 #[.int .i64 x] w fun e w' => e = .returned (.bool (inR x 0 2)) ∧ w' = w := by
  go_enter Try.func39, Try.ntmps39
  go_wp2_with (go_at_call 32; refine (withinR_any _ _ _).mono ?_; rintro e w' ⟨rfl, rfl⟩)
  go_ret
  exact ⟨rfl, rfl⟩

theorem freeO_any (x y ep : Int) (w : World) (hy : 0 ≤ y ∧ y ≤ 100000) :
    Calls Try.prog 41 #[.agg #[.int .i64 x, .int .i64 y], .int .i64 ep] w fun e w' => e = .returned (.bool (oldB ep (x, y))) ∧ Below w.heap.size w w' := by
  have A := al1 w (.cells #[.int .i64 x, .int .i64 y] 48)
  go_enter Try.func41, Try.ntmps41
  go_wp2
  go_ret
  exact ⟨ret_bool (by simp [oldB]), A⟩

set_option maxRecDepth 20000 in
set_option maxHeartbeats 4000000 in
theorem implPolFree_ok (E : Int) (pa : Option Addr) (np pc : Nat) (la : Option Addr) (lc : Nat) (ps : List Int) (oss : List (List Od)) (h : Nat) (ep : Int) (os : List Od) (w : World) (hp : SInts w pa np ps) (hs : SLimbo w la 3 oss) (h1 : np ≤ 1048576) (h3 : sumL oss ≤ 1048576)
    (hok : okP E ps oss = true) (hH : inR (h : Int) 0 2 = true) (hP : inR ep 0 100000 = true) (hh : h < 3) (ho : oss[h]? = some os) (hy : ∀ (j : Nat) (x y : Int), os[j]? = some (x, y) → 0 ≤ y ∧ y ≤ 100000) :
    Calls Try.prog 22 #[.agg #[.int .i64 E, .slice pa np pc, .slice la 3 lc], .int .i64 h, .int .i64 ep] w fun e w' => e = .returned (.int .i64 (firstOld ep os)) ∧ Below w.heap.size w w' := by
  have A := al1 w (.cells #[.int .i64 E, .slice pa np pc, .slice la 3 lc] 25)
  have bx := boxP_new w E pa np pc la 3 lc 25 rfl
  have HS : Hid (SLimbo w la 3 oss ∧ SInts w pa np ps) := ⟨hs, hp⟩
  have HO : Hid (oss[h]? = some os ∧ (∀ (j : Nat) (x y : Int), os[j]? = some (x, y) → 0 ≤ y ∧ y ≤ 100000)) := ⟨ho, hy⟩
  have hml0 := sumL_mem ho
  clear hs hp ho hy
  go_enter Try.func22, Try.ntmps22
  go_wp2_with fail
  refine (implPolOk_any _ _ _ _ _ _ _ ps oss _ (HS.out.2.below A) (HS.out.1.below A) h1 (by omega) h3).mono ?_
  rintro e w1 ⟨rfl, hb1⟩
  rw [hok]
  have hB := below_trans' A hb1
  have bx1 := bx.below hb1
  obtain ⟨b, off, os', ai, ci, eb, ho', hc, hO⟩ := (HS.out.1.below hB).at hh
  obtain rfl : os' = os := by rw [HO.out.1] at ho'; cases ho'; rfl
  subst eb
  have p2 := bx1.c2
  obtain ⟨n, e⟩ : ∃ n, os'.length = n := ⟨_, rfl⟩
  rw [e] at hc hO hml0
  have hn1 : n ≤ 1048576 := by omega
  have hh' : (h : Int) < 3 := by omega
  have HN : Hid (os'.length = n ∧ SOlds w1 ai n os') := ⟨e, hO⟩
  clear A hb1 bx bx1 ho' hO e hml0
  go_wp2_with (first | (go_at_call 39; refine (isHand_any _ _).mono ?_; rintro e w' ⟨rfl, rfl⟩; rw [hH]) | (go_at_call 32; refine (withinR_any _ _ _).mono ?_; rintro e w' ⟨rfl, rfl⟩; rw [hP]))
  refine (ringOf_any _ n _ os' _ HN.out.2 hn1).mono ?_
  rintro e w2 ⟨gi, hgi, rfl, ho2, hb2⟩
  have HR : Hid (SOlds w2 (some ⟨gi, 0, none⟩) n os' ∧ gi < w2.heap.size ∧ Below w.heap.size w w2) := ⟨own_solds ho2, (ho2.lt _ rfl).2, below_trans' hB hb2⟩
  have J0 : Hid (TakeAt w2 w2.heap.size gi n 0 (w2.alloc (.cells #[.slice (some ⟨gi, 0, none⟩) n n, .int .i64 0, .int .i64 n] 57))) := by
    refine ⟨al1 _ _, ?_, Nat.le_refl _⟩
    have := ringAt_new w2 gi n 0 n rfl
    simpa using this
  clear hB hb2 ho2 hgi p2 hc hH hP hok
  go_wp2
  obtain ⟨r, hr⟩ : ∃ r, w2.heap.size = r := ⟨_, rfl⟩
  have J1 : Hid (TakeAt w2 r gi n 0 (w2.alloc (.cells #[.slice (some ⟨gi, 0, none⟩) n n, .int .i64 0, .int .i64 n] 57))) := hr ▸ J0.out
  rw [hr]
  clear J0 hr
  go_loopw [8, 30] (fun _ i wr => ∃ j : Nat, j ≤ n ∧ i = .int .i64 j ∧ TakeAt w2 r gi n j wr ∧ ∀ j' o', j' < j → os'[j']? = some o' → oldB ep o' = false) (fun _ i _ => n - (intOf i).toNat)
  case atStart => exact ⟨0, Nat.zero_le _, rfl, J1.out, fun j o' hj => by omega⟩
  case round =>
    obtain ⟨j, hj, rfl, T, G⟩ := hrel
    clear J1
    have HT : Hid (TakeAt w2 r gi n j wr ∧ ∀ j' o', j' < j → os'[j']? = some o' → oldB ep o' = false) := ⟨T, G⟩
    by_cases hlt2 : j < n
    · obtain ⟨hO, hgi, _⟩ := HR.out
      obtain ⟨b2, off2, x, y, eb, hx, x0, x1⟩ := (hO.below T.bel).at hlt2
      cases eb
      rw [Nat.zero_add] at x0 x1
      have emod : j % n = j := Nat.mod_eq_of_lt hlt2
      have HTK : Hid (RingAt wr r gi n ((j % n : Nat) : Int) ((n : Int) - (j : Int)) ∧ wr.cell? ⟨gi, (j % n) * 2, none⟩ = some (.int .i64 x) ∧ wr.cell? ⟨gi, (j % n) * 2 + 1, none⟩ = some (.int .i64 y) ∧ r ≠ gi) := ⟨T.ring, by rw [emod]; exact x0, by rw [emod]; exact x1, by have := T.up; omega⟩
      have hml : j % n < n := by omega
      have HX : Hid (os'[j]? = some (x, y) ∧ (0 ≤ y ∧ y ≤ 100000)) := ⟨hx, HO.out.2 j x y hx⟩
      clear T G hO hx x0 x1 emod hgi
      go_wp2_with fail
      refine (take_any r gi n (j % n) ((n : Int) - (j : Int)) x y _ HTK.out.1 hml hn1 (by omega) (by omega) HTK.out.2.1 HTK.out.2.2.1 HTK.out.2.2.2).mono ?_
      rintro e w3 ⟨rfl, hr2, hg2⟩
      have HT2 : Hid (TakeAt w2 r gi n (j + 1) w3) := ⟨HT.out.1.bel.grown hg2 HT.out.1.bel.size (fun k e => by cases e; exact HT.out.1.up), by
        rw [mod_next hlt2] at hr2
        have e : (n : Int) - (j : Int) - 1 = (n : Int) - ((j + 1 : Nat) : Int) := by omega
        rw [e] at hr2
        exact hr2, HT.out.1.up⟩
      clear hr2 hg2 HTK
      go_wp2_with fail
      refine (freeO_any _ _ _ _ HX.out.2).mono ?_
      rintro e w4 ⟨rfl, hb4⟩
      have HT3 : Hid (TakeAt w2 r gi n (j + 1) w4) := ⟨below_trans' HT2.out.bel hb4, HT2.out.ring.below hb4, HT2.out.up⟩
      clear hb4
      cases hold : oldB ep (x, y)
      · go_wp2
        go_roundw
        case rel => exact ⟨j + 1, by omega, by go_num, HT3.out, fun j' o' hj' ho' => by
          by_cases e : j' = j
          · subst e
            rw [HX.out.1] at ho'
            cases ho'
            exact hold
          · exact HT.out.2 j' o' (by omega) ho'⟩
        case measure => simp [intOf]; omega
      · go_wp2
        go_ret
        exact ⟨ret_i64 (firstOld_at HX.out.1 hold HT.out.2).symm, below_trans' HR.out.2.2 HT3.out.bel⟩
    · obtain rfl : j = n := by omega
      clear T G
      go_wp2
      go_ret
      exact ⟨ret_i64 (firstOld_none (fun j' o' ho' => HT.out.2 j' o' (by have := (List.getElem?_eq_some_iff.1 ho').1; rw [HN.out.1] at this; exact this) ho')).symm, below_trans' HR.out.2.2 HT.out.1.bel⟩

set_option maxHeartbeats 2000000 in
theorem implPolFree_any (E : Int) (pa : Option Addr) (np pc : Nat) (la : Option Addr) (nl lc : Nat) (ps : List Int) (oss : List (List Od)) (hand ep : Int) (w : World) (hp : SInts w pa np ps) (hs : SLimbo w la nl oss) (h1 : np ≤ 1048576) (h2 : nl ≤ 1048576) (h3 : sumL oss ≤ 1048576) :
    Calls Try.prog 22 #[.agg #[.int .i64 E, .slice pa np pc, .slice la nl lc], .int .i64 hand, .int .i64 ep] w fun e w' => e = .returned (.int .i64 (freeP E ps oss hand ep)) ∧ Below w.heap.size w w' := by
  have A := al1 w (.cells #[.int .i64 E, .slice pa np pc, .slice la nl lc] 25)
  cases hok : okP E ps oss
  · rw [freeP_no (.inl hok)]
    have HS : Hid (SLimbo w la nl oss ∧ SInts w pa np ps) := ⟨hs, hp⟩
    clear hs hp
    go_enter Try.func22, Try.ntmps22
    go_wp2_with fail
    refine (implPolOk_any _ _ _ _ _ _ _ ps oss _ (HS.out.2.below A) (HS.out.1.below A) h1 h2 h3).mono ?_
    rintro e w1 ⟨rfl, hb1⟩
    rw [hok]
    have hB := below_trans' A hb1
    clear A hb1
    go_wp2
    go_ret
    exact ⟨rfl, hB⟩
  cases hH : inR hand 0 2
  · rw [freeP_no (.inr (.inl hH))]
    have HS : Hid (SLimbo w la nl oss ∧ SInts w pa np ps) := ⟨hs, hp⟩
    clear hs hp
    go_enter Try.func22, Try.ntmps22
    go_wp2_with fail
    refine (implPolOk_any _ _ _ _ _ _ _ ps oss _ (HS.out.2.below A) (HS.out.1.below A) h1 h2 h3).mono ?_
    rintro e w1 ⟨rfl, hb1⟩
    rw [hok]
    have hB := below_trans' A hb1
    clear A hb1
    go_wp2_with (go_at_call 39; refine (isHand_any _ _).mono ?_; rintro e w' ⟨rfl, rfl⟩; rw [hH])
    go_ret
    exact ⟨rfl, hB⟩
  cases hP : inR ep 0 100000
  · rw [freeP_no (.inr (.inr hP))]
    have HS : Hid (SLimbo w la nl oss ∧ SInts w pa np ps) := ⟨hs, hp⟩
    clear hs hp
    go_enter Try.func22, Try.ntmps22
    go_wp2_with fail
    refine (implPolOk_any _ _ _ _ _ _ _ ps oss _ (HS.out.2.below A) (HS.out.1.below A) h1 h2 h3).mono ?_
    rintro e w1 ⟨rfl, hb1⟩
    rw [hok]
    have hB := below_trans' A hb1
    clear A hb1
    go_wp2_with (first | (go_at_call 39; refine (isHand_any _ _).mono ?_; rintro e w' ⟨rfl, rfl⟩; rw [hH]) | (go_at_call 32; refine (withinR_any _ _ _).mono ?_; rintro e w' ⟨rfl, rfl⟩; rw [hP]))
    go_ret
    exact ⟨rfl, hB⟩
  · obtain ⟨_, _, hl, hy⟩ := okP_epochs hok
    obtain rfl : nl = 3 := by rw [← hs.1]; exact hl
    have hhb : 0 ≤ hand ∧ hand ≤ 2 := by simpa [inR] using hH
    obtain ⟨h, rfl⟩ : ∃ h : Nat, hand = h := ⟨hand.toNat, by omega⟩
    obtain ⟨os, ho⟩ : ∃ os, oss[h]? = some os := ⟨_, List.getElem?_eq_getElem (by omega)⟩
    rw [freeP_yes hok hH hP ho]
    exact implPolFree_ok E pa np pc la lc ps oss h ep os w hp hs h1 h3 hok hH hP (by omega) ho (fun j x y hj => hy h j os x y ho hj)

end Go.Proofs.Ytgcpjihjhefpnaa
