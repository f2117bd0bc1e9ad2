/- Contracts of the specification's MapPut. -/
import Derived.Test.YtkfamlbalgolmaaPut
import Derived.Test.YtkfamlbalgolmaaInvM
import Derived.Test.YtkfamlbalgolmaaSpecDel
namespace Go.Proofs.Ytkfamlbalgolmaa
open Go.RowKit
set_option linter.unusedVariables false

set_option maxHeartbeats 1000000 in
theorem specMapPut_bad (a : Option Addr) (n cap : Nat) (zs : List Int) (key val : Int) (w : World) (hs : SInts w a (n * 2) zs) (hn : n ≤ 9223372036854775807) (hok : ptOk zs n key val = false) :
    Calls Try.prog 11 #[.agg #[.slice a n cap], .int .i64 key, .int .i64 val] w fun e w' => MapRes [] 0 0 0 e w w' := by
  have I0 := loc_start w a n cap
  cases h1 : okM zs n
  · go_enter Try.func11, Try.ntmps11
    go_wp2_with fail
    refine (specMapOk_any _ _ _ zs _ (hs.below I0.bel) hn).mono ?_
    rintro e w1 ⟨rfl, hb1⟩
    have I1 := I0.below hb1
    have m0 := I1.m0
    have r0 := I1.r0
    have r1 := I1.r1
    have fm := I1.fm
    have f0 := I1.f0
    have f1 := I1.f1
    clear hb1 I0 hs hok
    rw [h1]
    go_wp2
    exact bodyPost_ret (v := .tuple #[.agg #[.slice none 0 0], .agg #[.int .i64 0, .int .i64 0]]) (by simp [results, Try.results11, go_sem, m0, r0, r1]) rfl ⟨none, 0, rfl, World.ownsRow_nil _ _ _ _, ((I1.bel.setCell (by show w.heap.size ≤ w.heap.size + 1; omega) _).setCell (by show w.heap.size ≤ w.heap.size + 1 + 1; omega) _).setCell (by show w.heap.size ≤ w.heap.size + 1 + 1; omega) _⟩
  · cases h2 : inB key 99
    · go_enter Try.func11, Try.ntmps11
      go_wp2_with fail
      refine (specMapOk_any _ _ _ zs _ (hs.below I0.bel) hn).mono ?_
      rintro e w1 ⟨rfl, hb1⟩
      have I1 := I0.below hb1
      have m0 := I1.m0
      have r0 := I1.r0
      have r1 := I1.r1
      have fm := I1.fm
      have f0 := I1.f0
      have f1 := I1.f1
      clear hb1 I0 hs hok
      rw [h1]
      go_wp2_with fail
      refine (l1In_as h2 _).mono ?_
      rintro e w1' ⟨rfl, rfl⟩
      go_wp2
      exact bodyPost_ret (v := .tuple #[.agg #[.slice none 0 0], .agg #[.int .i64 0, .int .i64 0]]) (by simp [results, Try.results11, go_sem, m0, r0, r1]) rfl ⟨none, 0, rfl, World.ownsRow_nil _ _ _ _, ((I1.bel.setCell (by show w.heap.size ≤ w.heap.size + 1; omega) _).setCell (by show w.heap.size ≤ w.heap.size + 1 + 1; omega) _).setCell (by show w.heap.size ≤ w.heap.size + 1 + 1; omega) _⟩
    · have h3 : inB val 999 = false := by simpa [ptOk, h1, h2] using hok
      go_enter Try.func11, Try.ntmps11
      go_wp2_with fail
      refine (specMapOk_any _ _ _ zs _ (hs.below I0.bel) hn).mono ?_
      rintro e w1 ⟨rfl, hb1⟩
      have I1 := I0.below hb1
      have m0 := I1.m0
      have r0 := I1.r0
      have r1 := I1.r1
      have fm := I1.fm
      have f0 := I1.f0
      have f1 := I1.f1
      clear hb1 I0 hs hok
      rw [h1]
      go_wp2_with fail
      refine (l1In_as h2 _).mono ?_
      rintro e w1' ⟨rfl, rfl⟩
      go_wp2_with fail
      refine (l1In_as h3 _).mono ?_
      rintro e w1' ⟨rfl, rfl⟩
      go_wp2
      exact bodyPost_ret (v := .tuple #[.agg #[.slice none 0 0], .agg #[.int .i64 0, .int .i64 0]]) (by simp [results, Try.results11, go_sem, m0, r0, r1]) rfl ⟨none, 0, rfl, World.ownsRow_nil _ _ _ _, ((I1.bel.setCell (by show w.heap.size ≤ w.heap.size + 1; omega) _).setCell (by show w.heap.size ≤ w.heap.size + 1 + 1; omega) _).setCell (by show w.heap.size ≤ w.heap.size + 1 + 1; omega) _⟩

/-- The block of MapPut's loop: the map that grows. -/
structure LoopP (w : World) (a : Option Addr) (n cap X : Nat) (ys : List Int) (m : Nat) (a' : Option Addr) (c' : Nat) (W : World) : Prop where
  loc : Loc w a n cap W
  lt : w.heap.size + 1 + 1 < X
  sz : X < W.heap.size
  x0 : W.cell? ⟨X, 0, none⟩ = some (.slice a' m c')
  fx : W.frozen? ⟨X, 0, none⟩ = false
  own : W.ownsRow (X + 1) 41 2 (.slice a' m c') m (ys.map (Value.int .i64))

theorem loopP_start {w W : World} {a : Option Addr} {n cap : Nat} (h : Loc w a n cap W) : LoopP w a n cap W.heap.size [] 0 none 0 (W.alloc (.cells #[.slice none 0 0] 25)) := by
  have al : ∀ (W : World) (o : Obj), Below W.heap.size W (W.alloc o) := fun W o => (Below.refl _ _).alloc (Nat.le_refl _) o
  exact { loc := h.below (al _ _), lt := h.sz, sz := by simp, x0 := cell_at W _ _ 0 rfl rfl, fx := frozen_at W _ _ 0 rfl, own := World.ownsRow_nil _ _ _ _ }


theorem Loc.grown {w : World} {a : Option Addr} {n cap : Nat} {W w1 : World} {row : Option Nat} (h : Loc w a n cap W) (hg : W.grownBy w1 row) (hr : ∀ k, row = some k → w.heap.size + 1 + 1 < k) : Loc w a n cap w1 := by
  have hs := h.sz
  have hlow : ∀ b, b ≤ w.heap.size + 1 + 1 → w1.heap[b]? = W.heap[b]? := fun b hb => hg.block b (by omega) (fun e => by have := hr _ e.symm; omega)
  have hc : ∀ b o, b ≤ w.heap.size + 1 + 1 → w1.cell? ⟨b, o, none⟩ = W.cell? ⟨b, o, none⟩ := fun b o hb => World.cell?_of_block (w := W) (a := ⟨b, o, none⟩) (hlow b hb)
  have hf : ∀ b o, b ≤ w.heap.size + 1 + 1 → w1.frozen? ⟨b, o, none⟩ = W.frozen? ⟨b, o, none⟩ := fun b o hb => World.frozen?_of_block (w := W) (a := ⟨b, o, none⟩) (hlow b hb)
  have hsz := hg.size
  exact { bel := h.bel.grown hg h.bel.size (fun k e => by have := hr k e; omega), sz := by omega, box := (hc _ _ (by omega)).trans h.box, m0 := (hc _ _ (by omega)).trans h.m0, r0 := (hc _ _ (by omega)).trans h.r0, r1 := (hc _ _ (by omega)).trans h.r1, fm := (hf _ _ (by omega)).trans h.fm, f0 := (hf _ _ (by omega)).trans h.f0, f1 := (hf _ _ (by omega)).trans h.f1 }

/-- The cells of all the numbers, for an append. -/
theorem SInts.src_whole {w : World} {b off n : Nat} {zs : List Int} (hs : SInts w (some ⟨b, off, none⟩) n zs) :
    ∀ j u, (zs.map (Value.int .i64))[j]? = some u → w.cell? ((⟨b, off, none⟩ : Addr).add j) = some u := by
  intro j u hj
  obtain ⟨hz, h0 | ⟨b', off', e, hc⟩⟩ := hs
  · rw [List.eq_nil_of_length_eq_zero (l := zs) (by omega)] at hj
    simp at hj
  · cases e
    have hjn : j < n := by
      have := (List.getElem?_eq_some_iff.1 hj).1
      simp at this
      omega
    rw [Addr.add_lit, hc j hjn]
    simpa [List.getD, show j < zs.length by omega] using hj

section
variable {w : World} {a : Option Addr} {n cap X : Nat} {ys : List Int} {m : Nat} {a' : Option Addr} {c' : Nat} {W W' : World}

theorem LoopP.below (h : LoopP w a n cap X ys m a' c' W) (hb : Below W.heap.size W W') : LoopP w a n cap X ys m a' c' W' :=
  { loc := h.loc.below hb, lt := h.lt, sz := Nat.lt_of_lt_of_le h.sz hb.size, x0 := cell_kept hb h.x0, fx := frozen_kept hb h.sz h.fx, own := ownsRow_below h.own hb }

/-- What stands behind an append onto the map that grows: all other blocks are as they were. -/
structure MidP (w : World) (a : Option Addr) (n cap X : Nat) (v : Value) (w1 : World) : Prop where
  loc : Loc w a n cap w1
  lt : w.heap.size + 1 + 1 < X
  sz : X < w1.heap.size
  x0 : w1.cell? ⟨X, 0, none⟩ = some v
  fx : w1.frozen? ⟨X, 0, none⟩ = false

theorem LoopP.mid (h : LoopP w a n cap X ys m a' c' W) {w1 : World} (hg : W.grownBy w1 (Value.ownBlock (.slice a' m c'))) : MidP w a n cap X (.slice a' m c') w1 := by
  have hlow : ∀ b, b ≤ X → w1.heap[b]? = W.heap[b]? := by
    intro b hb
    have hs := h.sz
    exact hg.block b (by omega) (fun e => by have := (h.own.lt _ e.symm).1; omega)
  have hc : ∀ b o, b ≤ X → w1.cell? ⟨b, o, none⟩ = W.cell? ⟨b, o, none⟩ := fun b o hb => World.cell?_of_block (w := W) (a := ⟨b, o, none⟩) (hlow b hb)
  have hf : ∀ b o, b ≤ X → w1.frozen? ⟨b, o, none⟩ = W.frozen? ⟨b, o, none⟩ := fun b o hb => World.frozen?_of_block (w := W) (a := ⟨b, o, none⟩) (hlow b hb)
  have hl := h.lt
  have hsz1 := hg.size
  have hL := h.loc
  have hbel : Below w.heap.size w w1 := hL.bel.grown hg hL.bel.size (fun k e => by have := (h.own.lt _ e).1; omega)
  exact
    { loc := { bel := hbel, sz := by have := hL.sz; omega, box := (hc _ _ (by omega)).trans hL.box, m0 := (hc _ _ (by omega)).trans hL.m0, r0 := (hc _ _ (by omega)).trans hL.r0, r1 := (hc _ _ (by omega)).trans hL.r1, fm := (hf _ _ (by omega)).trans hL.fm, f0 := (hf _ _ (by omega)).trans hL.f0, f1 := (hf _ _ (by omega)).trans hL.f1 },
      lt := hl, sz := by have := h.sz; omega, x0 := (hc _ _ (by omega)).trans h.x0, fx := (hf _ _ (by omega)).trans h.fx }

theorem MidP.push {v : Value} {w1 : World} (h : MidP w a n cap X v w1) {a2 : Option Addr} {m2 c2 : Nat} {ys2 : List Int} (ho : w1.ownsRow (X + 1) 41 2 (.slice a2 m2 c2) m2 (ys2.map (Value.int .i64))) :
    LoopP w a n cap X ys2 m2 a2 c2 (w1.setCell ⟨X, 0, none⟩ (.slice a2 m2 c2)) := by
  have hl := h.lt
  exact { loc := h.loc.set (by show _ < X; omega) _, lt := h.lt, sz := by simpa using h.sz, x0 := World.cell?_setCell_same _ _ _ h.x0, fx := by rw [World.frozen?_setCell]; exact h.fx, own := own_setCell ho (by omega) _ }

end

/-- The two cells of a new block, for an append. -/
theorem two_new (W : World) (x y : Int) : ∀ j u, ([Value.int .i64 x, Value.int .i64 y] : List Value)[j]? = some u → (W.alloc (.cells #[.int .i64 x, .int .i64 y] 41)).cell? ((⟨W.heap.size, 0, none⟩ : Addr).add j) = some u := by
  intro j u hj
  match j, hj with
  | 0, hj => simp at hj; subst hj; simp [Addr.add]
  | 1, hj => simp at hj; subst hj; simp [Addr.add]
theorem two_one (x y : Int) : ∀ u ∈ ([Value.int .i64 x, Value.int .i64 y] : List Value), u.oneCell' = true := by
  intro u hu
  simp at hu
  rcases hu with rfl | rfl <;> rfl


/-- What the loop has gathered of the first k entries, where the key's place is i. -/
def putF (zs : List Int) (key val : Int) (i k : Nat) : List Int := if k ≤ i then zs.take (k * 2) else zs.take (i * 2) ++ [key, val] ++ (zs.take (k * 2)).drop (i * 2)
def putM (i k : Nat) : Nat := if k ≤ i then k else k + 1
theorem putF_low {zs : List Int} {key val : Int} {i k : Nat} (hk : k * 2 + 1 < zs.length) (h : k < i) : putF zs key val i k ++ [keyAt zs k, valAt zs k] = putF zs key val i (k + 1) ∧ putM i k + 1 = putM i (k + 1) := by
  unfold putF putM
  rw [if_pos (by omega), if_pos (by omega), if_pos (by omega), if_pos (by omega), take_two zs k hk]
  exact ⟨rfl, rfl⟩
theorem putF_at {zs : List Int} {key val : Int} {i : Nat} (hk : i * 2 + 1 < zs.length) : (putF zs key val i i ++ [key, val]) ++ [keyAt zs i, valAt zs i] = putF zs key val i (i + 1) ∧ putM i i + 1 + 1 = putM i (i + 1) := by
  unfold putF putM
  rw [if_pos (Nat.le_refl _), if_neg (by omega), if_pos (Nat.le_refl _), if_neg (by omega), ← take_two zs i hk, List.drop_left' (by simp; omega)]
  exact ⟨rfl, rfl⟩
theorem putF_high {zs : List Int} {key val : Int} {i k : Nat} (hk : k * 2 + 1 < zs.length) (h : i < k) : putF zs key val i k ++ [keyAt zs k, valAt zs k] = putF zs key val i (k + 1) ∧ putM i k + 1 = putM i (k + 1) := by
  unfold putF putM
  rw [if_neg (by omega), if_neg (by omega), if_neg (by omega), if_neg (by omega), ← take_two zs k hk, List.drop_append_of_le_length (by simp; omega), List.append_assoc]
  exact ⟨rfl, rfl⟩
theorem putM_le (i k : Nat) : putM i k ≤ k + 1 := by unfold putM; split <;> omega

set_option maxHeartbeats 4000000 in
/-- The key is there: at its place the loop hands the map back. -/
theorem specMapPut_there (a : Option Addr) (n cap : Nat) (zs : List Int) (key val : Int) (i : Nat) (w : World) (hs : SInts w a (n * 2) zs) (hn : n ≤ 8) (h1 : okM zs n = true) (h2 : inB key 99 = true) (h3 : inB val 999 = true)
    (hi : i < n) (hlow : ∀ j, j < i → keyAt zs j < key) (hat : keyAt zs i = key) :
    Calls Try.prog 11 #[.agg #[.slice a n cap], .int .i64 key, .int .i64 val] w fun e w' => MapRes zs n 1 0 e w w' := by
  have HLOW : Hid (∀ j, j < i → keyAt zs j < key) := hlow
  have HAT : Hid (keyAt zs i = key) := hat
  clear hlow hat
  have I0 := loc_start w a n cap
  obtain ⟨i0, hi0, hz0, hz1, hz2⟩ := info_parts Try.info41
  have hzl : Hid (zs.length = n * 2) := hs.1
  go_enter Try.func11, Try.ntmps11
  go_wp2_with fail
  refine (specMapOk_any _ _ _ zs _ (hs.below I0.bel) (by omega)).mono ?_
  rintro e w1 ⟨rfl, hb1⟩
  have I1 := loopP_start (I0.below hb1)
  clear hb1 I0
  rw [h1]
  go_wp2_with fail
  refine (l1In_as h2 _).mono ?_
  rintro e w1' ⟨rfl, rfl⟩
  go_wp2_with fail
  refine (l1In_as h3 _).mono ?_
  rintro e w1' ⟨rfl, rfl⟩
  go_wp2
  generalize hX : w1'.heap.size = X at I1 ⊢
  generalize hW : (w1'.alloc (.cells #[.slice none 0 0] 25)) = W1 at I1 ⊢
  clear hX hW
  go_loopw [9, 10] (fun d s wr => ∃ (k : Nat) (a' : Option Addr) (c' : Nat), k ≤ i ∧ s = .int .i64 k ∧ d = .bool false ∧ LoopP w a n cap X (zs.take (k * 2)) k a' c' wr) (fun _ s _ => n - (intOf s).toNat)
  case atStart => exact ⟨0, none, 0, Nat.zero_le _, rfl, rfl, by simpa using I1⟩
  case round =>
    obtain ⟨k, a', c', hk, rfl, rfl, I⟩ := hrel
    obtain ⟨b, off, rfl⟩ := hs.addr (by omega)
    obtain ⟨x, hx⟩ : ∃ x, keyAt zs k = x := ⟨_, rfl⟩
    obtain ⟨y, hy⟩ : ∃ y, valAt zs k = y := ⟨_, rfl⟩
    have hkn : k < n := by omega
    have q1 := (hs.below I.loc.bel).keyCell hkn
    have q2 := (hs.below I.loc.bel).valCell hkn
    rw [hx] at q1
    rw [hy] at q2
    have box := I.loc.box
    have al : Hid (∀ (W : World) (o : Obj), Below W.heap.size W (W.alloc o)) := fun W o => (Below.refl _ _).alloc (Nat.le_refl _) o
    have IE := I.below (al.out wr (.cells #[.int .i64 x, .int .i64 y] 41))
    have HX : Hid (keyAt zs k = x ∧ valAt zs k = y) := ⟨hx, hy⟩
    have hlw := I.loc.sz
    clear hx hy I1 I
    by_cases hki : k < i
    · have hlt : x < key := by have := HLOW.out k hki; rw [HX.out.1] at this; exact this
      have hne : (x == key) = false := by simp; omega
      have HT : Hid (zs.take (k * 2) ++ [x, y] = zs.take ((k + 1) * 2)) := by show _ = _; rw [← HX.out.1, ← HX.out.2]; exact take_two zs k (by have := hzl.out; omega)
      have boxE := IE.loc.box
      have xE := IE.x0
      have HI : Hid (LoopP w (some ⟨b, off, none⟩) n cap X (zs.take (k * 2)) k a' c' (wr.alloc (.cells #[.int .i64 x, .int .i64 y] 41))) := IE
      have ownA := (IE.below (al.out _ (.cells #[.int .i64 x, .int .i64 y] 41))).own
      have news := two_new (wr.alloc (.cells #[.int .i64 x, .int .i64 y] 41)) x y
      have hbase := IE.sz
      have NEWS : Hid (∀ j u, ([Value.int .i64 x, Value.int .i64 y] : List Value)[j]? = some u → ((wr.alloc (.cells #[.int .i64 x, .int .i64 y] 41)).alloc (.cells #[.int .i64 x, .int .i64 y] 41)).cell? ((⟨wr.heap.size + 1, 0, none⟩ : Addr).add j) = some u) := by
        show ∀ j u, ([Value.int .i64 x, Value.int .i64 y] : List Value)[j]? = some u → ((wr.alloc (.cells #[.int .i64 x, .int .i64 y] 41)).alloc (.cells #[.int .i64 x, .int .i64 y] 41)).cell? ((⟨wr.heap.size + 1, 0, none⟩ : Addr).add j) = some u
        simpa using news
      clear IE news hs
      simp at hbase
      go_wp2_with (at_builtin; go_must (refine wpList_append_own _ rfl (.tmp 67) (.tmp 69) 23 rfl (X + 1) 41 i0 (.agg #[.int .i64 0, .int .i64 0]) 2 16 Try.underlying23 hi0 hz0 hz1 hz2 rfl (by decide) _ _ _ rfl ownA ⟨wr.heap.size + 1, 0, none⟩ 1 1 [.int .i64 x, .int .i64 y] rfl rfl NEWS.out (two_one x y) (by unfold maxLen; omega) (by omega) (by simp; omega) ?_))
      intro v' w2 hown hgrow _
      have M2 := (HI.out.below (al.out _ (.cells #[.int .i64 x, .int .i64 y] 41))).mid hgrow
      have hown' : w2.ownsRow (X + 1) 41 2 v' (k + 1) ((zs.take ((k + 1) * 2)).map (Value.int .i64)) := by rw [← HT.out]; simpa using hown
      obtain ⟨a2, c2, hv, _⟩ := own2_shape hown'
      rw [hv] at hown' ⊢
      have HP : Hid (LoopP w (some ⟨b, off, none⟩) n cap X (zs.take ((k + 1) * 2)) (k + 1) a2 c2 (w2.setCell ⟨X, 0, none⟩ (.slice a2 (k + 1) c2))) := M2.push hown'
      have mx := M2.x0
      have mf := M2.fx
      clear hown hown' hgrow hv M2 HI ownA NEWS
      go_wp2
      go_roundw
      case rel => exact ⟨k + 1, a2, c2, by omega, by go_num, rfl, HP.out⟩
      case measure => simp [intOf]; omega
    · obtain rfl : k = i := by omega
      have hxe : x = key := by rw [← HX.out.1]; exact HAT.out
      subst hxe
      have boxE := IE.loc.box
      have IL := IE.loc.below (al.out _ (.cells #[] 41))
      have boxL := IL.box
      have sAll := (hs.below IL.bel).src_whole
      have own0 : ((wr.alloc (.cells #[.int .i64 x, .int .i64 y] 41)).alloc (.cells #[] 41)).ownsRow (wr.heap.size + 1) 41 2 (.slice (some ⟨wr.heap.size + 1, 0, none⟩) 0 0) 0 [] := by
        have := World.ownsRow_lit (base := wr.heap.size + 1) (e := 41) (size := 2) (wr.alloc (.cells #[.int .i64 x, .int .i64 y] 41)) #[] 0 (by simp) (by decide) rfl
        simpa using this
      have HIL : Hid (Loc w (some ⟨b, off, none⟩) n cap ((wr.alloc (.cells #[.int .i64 x, .int .i64 y] 41)).alloc (.cells #[] 41))) := IL
      have hL : Hid ((zs.map (Value.int .i64)).length = n * 2) := by show _ = _; simp; exact hzl.out
      clear IE IL hs
      go_wp2_with (at_builtin; go_must (refine wpList_append_own _ rfl (.tmp 44) (.tmp 46) 23 rfl (wr.heap.size + 1) 41 i0 (.agg #[.int .i64 0, .int .i64 0]) 2 16 Try.underlying23 hi0 hz0 hz1 hz2 rfl (by decide) _ _ _ rfl own0 ⟨b, off, none⟩ n cap (zs.map (Value.int .i64)) rfl hL.out sAll (ints_oneCell _ _) (by unfold maxLen; omega) (by omega) (by simp) ?_))
      intro v' w2 hown hgrow _
      have IG := HIL.out.grown hgrow (fun kk e => by have e2 : wr.heap.size + 1 = kk := (by cases e; rfl); omega)
      have hown' : w2.ownsRow (wr.heap.size + 1) 41 2 v' n (zs.map (Value.int .i64)) := by simpa using hown
      obtain ⟨a2, c2, hv, _⟩ := own2_shape hown'
      rw [hv] at hown' ⊢
      have HO : Hid (w2.ownsRow (w.heap.size + 1 + 1 + 1) 41 2 (.slice a2 n c2) n (zs.map (Value.int .i64))) := own_mono hown' (by omega)
      have m0 := IG.m0
      have r0 := IG.r0
      have r1 := IG.r1
      have fm := IG.fm
      have f0 := IG.f0
      have f1 := IG.f1
      clear hown hown' hgrow hv HIL own0 sAll boxL boxE
      go_wp2
      exact bodyPost_ret (v := .tuple #[.agg #[.slice a2 n c2], .agg #[.int .i64 1, .int .i64 0]]) (by simp [results, Try.results11, go_sem, m0, r0, r1]) rfl ⟨a2, c2, rfl, own_mono (own_setCell (own_setCell (own_setCell HO.out (by omega) _) (by omega) _) (by omega) _) (by omega), ((IG.bel.setCell (by show w.heap.size ≤ w.heap.size + 1; omega) _).setCell (by show w.heap.size ≤ w.heap.size + 1 + 1; omega) _).setCell (by show w.heap.size ≤ w.heap.size + 1 + 1; omega) _⟩

set_option maxHeartbeats 8000000 in
/-- One round of the loop: the entry's key is below the key, or the new entry is in already. -/
theorem specMapPut_loop (a : Option Addr) (n cap : Nat) (zs : List Int) (key val : Int) (i : Nat) (w : World) (hs : SInts w a (n * 2) zs) (hn : n ≤ 8) (h1 : okM zs n = true) (h2 : inB key 99 = true) (h3 : inB val 999 = true)
    (hi : i ≤ n) (hlow : ∀ j, j < i → keyAt zs j < key) (hhigh : ∀ j, i ≤ j → j < n → key < keyAt zs j) :
    Calls Try.prog 11 #[.agg #[.slice a n cap], .int .i64 key, .int .i64 val] w fun e w' => MapRes (if n = 8 then zs else zs.take (i * 2) ++ [key, val] ++ zs.drop (i * 2)) (if n = 8 then n else n + 1) (if n = 8 then 3 else 2) 0 e w w' := by
  have HLOW : Hid (∀ j, j < i → keyAt zs j < key) := hlow
  have HHIGH : Hid (∀ j, i ≤ j → j < n → key < keyAt zs j) := hhigh
  clear hlow hhigh
  obtain ⟨RL, hRL⟩ : ∃ RL, (if n = 8 then zs else zs.take (i * 2) ++ [key, val] ++ zs.drop (i * 2)) = RL := ⟨_, rfl⟩
  obtain ⟨RN, hRN⟩ : ∃ RN, (if n = 8 then n else n + 1) = RN := ⟨_, rfl⟩
  obtain ⟨RC, hRC⟩ : ∃ RC : Int, (if n = 8 then 3 else 2) = RC := ⟨_, rfl⟩
  rw [hRL, hRN, hRC]
  have HR : Hid ((if n = 8 then zs else zs.take (i * 2) ++ [key, val] ++ zs.drop (i * 2)) = RL ∧ (if n = 8 then n else n + 1) = RN ∧ (if n = 8 then (3 : Int) else 2) = RC) := ⟨hRL, hRN, hRC⟩
  clear hRL hRN hRC
  have al : Hid (∀ (W : World) (o : Obj), Below W.heap.size W (W.alloc o)) := fun W o => (Below.refl _ _).alloc (Nat.le_refl _) o
  have I0 := loc_start w a n cap
  obtain ⟨i0, hi0, hz0, hz1, hz2⟩ := info_parts Try.info41
  have hzl : Hid (zs.length = n * 2) := hs.1
  go_enter Try.func11, Try.ntmps11
  go_wp2_with fail
  refine (specMapOk_any _ _ _ zs _ (hs.below I0.bel) (by omega)).mono ?_
  rintro e w1 ⟨rfl, hb1⟩
  have I1 := loopP_start (I0.below hb1)
  clear hb1 I0
  rw [h1]
  go_wp2_with fail
  refine (l1In_as h2 _).mono ?_
  rintro e w1' ⟨rfl, rfl⟩
  go_wp2_with fail
  refine (l1In_as h3 _).mono ?_
  rintro e w1' ⟨rfl, rfl⟩
  go_wp2
  generalize hX : w1'.heap.size = X at I1 ⊢
  generalize hW : (w1'.alloc (.cells #[.slice none 0 0] 25)) = W1 at I1 ⊢
  clear hX hW
  go_loopw [9, 10] (fun d s wr => ∃ (k : Nat) (B : Bool) (a' : Option Addr) (c' m : Nat) (ys : List Int), k ≤ n ∧ s = .int .i64 k ∧ d = .bool B ∧ m ≤ k + 1 ∧ LoopP w a n cap X ys m a' c' wr ∧ (B = decide (i < k) ∧ ys = putF zs key val i k ∧ m = putM i k)) (fun _ s _ => n - (intOf s).toNat)
  case atStart => exact ⟨0, false, none, 0, 0, [], Nat.zero_le _, rfl, rfl, by omega, I1, by simp, by simp [putF], by simp [putM]⟩
  case round =>
    obtain ⟨k, B, a', c', m, ys, hk, rfl, rfl, hmk, I, hB0, hys0, hm0⟩ := hrel
    have HY : Hid (B = decide (i < k) ∧ ys = putF zs key val i k ∧ m = putM i k) := ⟨hB0, hys0, hm0⟩
    clear hB0 hys0 hm0 I1
    have box := I.loc.box
    by_cases hlt : k < n
    · obtain ⟨x, hx⟩ : ∃ x, keyAt zs k = x := ⟨_, rfl⟩
      obtain ⟨y, hy⟩ : ∃ y, valAt zs k = y := ⟨_, rfl⟩
      have hkl : Hid (k * 2 + 1 < zs.length) := by have := hzl.out; show _ < _; omega
      have q : ∃ b off, a = some ⟨b, off, none⟩ ∧ wr.cell? ⟨b, off + k * 2, none⟩ = some (.int .i64 x) ∧ wr.cell? ⟨b, off + k * 2 + 1, none⟩ = some (.int .i64 y) := by
        obtain ⟨b, off, e⟩ := hs.addr (by omega)
        subst e
        have q1 := (hs.below I.loc.bel).keyCell hlt
        have q2 := (hs.below I.loc.bel).valCell hlt
        rw [hx] at q1
        rw [hy] at q2
        exact ⟨b, off, rfl, q1, q2⟩
      have IE := I.below (al.out wr (.cells #[.int .i64 x, .int .i64 y] 41))
      have HX : Hid (keyAt zs k = x ∧ valAt zs k = y) := ⟨hx, hy⟩
      have hrow : Hid (∀ kk, (Value.slice a' m c').ownBlock = some kk → kk < wr.heap.size) := fun kk e => (I.own.lt kk e).2
      have hXlt := I.sz
      clear hx hy I
      have HI : Hid (LoopP w a n cap X ys m a' c' (wr.alloc (.cells #[.int .i64 x, .int .i64 y] 41))) := IE
      have boxE := IE.loc.box
      have xE := IE.x0
      clear IE
      obtain ⟨b, off, ha, q1, q2⟩ := q
      subst ha
      clear hs
      by_cases hki : k = i
      · subst hki
        obtain rfl : B = false := by rw [HY.out.1]; simp
        have hgt : key < x := by have := HHIGH.out k (Nat.le_refl _) hlt; rw [HX.out.1] at this; exact this
        have hne : (x == key) = false := by simp; omega
        have HT2 : Hid ((ys ++ [key, val]) ++ [x, y] = putF zs key val k (k + 1) ∧ m + 1 + 1 = putM k (k + 1)) := by
          rw [← HX.out.1, ← HX.out.2, HY.out.2.1, HY.out.2.2]
          exact putF_at hkl.out
        have e0 : ((wr.alloc (.cells #[.int .i64 x, .int .i64 y] 41)).alloc (.cells #[.int .i64 key, .int .i64 val] 41)).cell? ⟨wr.heap.size, 0, none⟩ = some (.int .i64 x) := cell_kept (al.out _ _) (cell_at wr _ _ 0 rfl rfl)
        have e1 : ((wr.alloc (.cells #[.int .i64 x, .int .i64 y] 41)).alloc (.cells #[.int .i64 key, .int .i64 val] 41)).cell? ⟨wr.heap.size, 1, none⟩ = some (.int .i64 y) := cell_kept (al.out _ _) (cell_at wr _ _ 1 rfl rfl)
        have ownA := (HI.out.below (al.out _ (.cells #[.int .i64 key, .int .i64 val] 41))).own
        have hbase := HI.out.sz
        have hlt' := HI.out.lt
        have NEWS : Hid (∀ j u, ([Value.int .i64 key, Value.int .i64 val] : List Value)[j]? = some u → ((wr.alloc (.cells #[.int .i64 x, .int .i64 y] 41)).alloc (.cells #[.int .i64 key, .int .i64 val] 41)).cell? ((⟨wr.heap.size + 1, 0, none⟩ : Addr).add j) = some u) := by
          show ∀ j u, ([Value.int .i64 key, Value.int .i64 val] : List Value)[j]? = some u → ((wr.alloc (.cells #[.int .i64 x, .int .i64 y] 41)).alloc (.cells #[.int .i64 key, .int .i64 val] 41)).cell? ((⟨wr.heap.size + 1, 0, none⟩ : Addr).add j) = some u
          have news := two_new (wr.alloc (.cells #[.int .i64 x, .int .i64 y] 41)) key val
          simpa using news
        try simp at hbase
        go_wp2_with (at_builtin; go_must (refine wpList_append_own _ rfl (.tmp 59) (.tmp 63) 23 rfl (X + 1) 41 i0 (.agg #[.int .i64 0, .int .i64 0]) 2 16 Try.underlying23 hi0 hz0 hz1 hz2 rfl (by decide) _ _ _ rfl ownA ⟨wr.heap.size + 1, 0, none⟩ 1 1 [.int .i64 key, .int .i64 val] rfl rfl NEWS.out (two_one key val) (by unfold maxLen; omega) (by omega) (by simp; omega) ?_))
        intro v' w2 hown hgrow _
        have M2 := (HI.out.below (al.out _ (.cells #[.int .i64 key, .int .i64 val] 41))).mid hgrow
        have hown' : w2.ownsRow (X + 1) 41 2 v' (m + 1) ((ys ++ [key, val]).map (Value.int .i64)) := by simpa using hown
        obtain ⟨a2, c2, hv, _⟩ := own2_shape hown'
        rw [hv] at hown' ⊢
        have HP : Hid (LoopP w (some ⟨b, off, none⟩) n cap X (ys ++ [key, val]) (m + 1) a2 c2 (w2.setCell ⟨X, 0, none⟩ (.slice a2 (m + 1) c2))) := M2.push hown'
        have mx := M2.x0
        have mf := M2.fx
        have e2 := cell_other (p := ⟨X, 0, none⟩) (.slice a2 (m + 1) c2) (by show wr.heap.size ≠ X; omega) (cell_grown hgrow e0 (fun kk e => by have := hrow.out kk e; omega))
        have e3 := cell_other (p := ⟨X, 0, none⟩) (.slice a2 (m + 1) c2) (by show wr.heap.size ≠ X; omega) (cell_grown hgrow e1 (fun kk e => by have := hrow.out kk e; omega))
        clear e0 e1
        clear hown hown' hgrow hv M2 ownA NEWS hbase hlt' HI
        have x3 := HP.out.x0
        have HI : Hid (LoopP w (some ⟨b, off, none⟩) n cap X (ys ++ [key, val]) (m + 1) a2 c2 (w2.setCell ⟨X, 0, none⟩ (.slice a2 (m + 1) c2))) := HP
        have HT : Hid ((ys ++ [key, val]) ++ [x, y] = putF zs key val k (k + 1)) := HT2.out.1
        clear HP
        have ownA := (HI.out.below (al.out _ (.cells #[.int .i64 x, .int .i64 y] 41))).own
        have hbase := HI.out.sz
        have hlt' := HI.out.lt
        have NEWS : Hid (∀ j u, ([Value.int .i64 x, Value.int .i64 y] : List Value)[j]? = some u → ((w2.setCell ⟨X, 0, none⟩ (.slice a2 (m + 1) c2)).alloc (.cells #[.int .i64 x, .int .i64 y] 41)).cell? ((⟨w2.heap.size, 0, none⟩ : Addr).add j) = some u) := by
          show ∀ j u, ([Value.int .i64 x, Value.int .i64 y] : List Value)[j]? = some u → ((w2.setCell ⟨X, 0, none⟩ (.slice a2 (m + 1) c2)).alloc (.cells #[.int .i64 x, .int .i64 y] 41)).cell? ((⟨w2.heap.size, 0, none⟩ : Addr).add j) = some u
          have news := two_new (w2.setCell ⟨X, 0, none⟩ (.slice a2 (m + 1) c2)) x y
          simpa using news
        try simp at hbase
        go_wp2_with (at_builtin; go_must (refine wpList_append_own _ rfl (.tmp 67) (.tmp 69) 23 rfl (X + 1) 41 i0 (.agg #[.int .i64 0, .int .i64 0]) 2 16 Try.underlying23 hi0 hz0 hz1 hz2 rfl (by decide) _ _ _ rfl ownA ⟨w2.heap.size, 0, none⟩ 1 1 [.int .i64 x, .int .i64 y] rfl rfl NEWS.out (two_one x y) (by unfold maxLen; omega) (by omega) (by simp; omega) ?_))
        intro v' w4 hown hgrow _
        have M2 := (HI.out.below (al.out _ (.cells #[.int .i64 x, .int .i64 y] 41))).mid hgrow
        have hown' : w4.ownsRow (X + 1) 41 2 v' ((m + 1) + 1) ((putF zs key val k (k + 1)).map (Value.int .i64)) := by rw [← HT.out]; simpa using hown
        obtain ⟨a4, c4, hv, _⟩ := own2_shape hown'
        rw [hv] at hown' ⊢
        have HP : Hid (LoopP w (some ⟨b, off, none⟩) n cap X (putF zs key val k (k + 1)) ((m + 1) + 1) a4 c4 (w4.setCell ⟨X, 0, none⟩ (.slice a4 ((m + 1) + 1) c4))) := M2.push hown'
        have mx := M2.x0
        have mf := M2.fx
        clear hown hown' hgrow hv M2 ownA NEWS hbase hlt' HI
        clear x3 e2 e3 HT
        go_wp2
        go_roundw
        case rel => exact ⟨k + 1, true, a4, c4, m + 1 + 1, putF zs key val k (k + 1), by omega, by go_num, rfl, by rw [HT2.out.2]; exact putM_le _ _, HP.out, by simp, rfl, HT2.out.2⟩
        case measure => simp [intOf]; omega
      · by_cases hlo : k < i
        · obtain rfl : B = false := by rw [HY.out.1]; simp; omega
          have hgt : x < key := by have := HLOW.out k hlo; rw [HX.out.1] at this; exact this
          have hne : (x == key) = false := by simp; omega
          have HT2 : Hid (ys ++ [x, y] = putF zs key val i (k + 1) ∧ m + 1 = putM i (k + 1)) := by
            rw [← HX.out.1, ← HX.out.2, HY.out.2.1, HY.out.2.2]
            exact putF_low hkl.out hlo
          have HT : Hid (ys ++ [x, y] = putF zs key val i (k + 1)) := HT2.out.1
          have ownA := (HI.out.below (al.out _ (.cells #[.int .i64 x, .int .i64 y] 41))).own
          have hbase := HI.out.sz
          have hlt' := HI.out.lt
          have NEWS : Hid (∀ j u, ([Value.int .i64 x, Value.int .i64 y] : List Value)[j]? = some u → ((wr.alloc (.cells #[.int .i64 x, .int .i64 y] 41)).alloc (.cells #[.int .i64 x, .int .i64 y] 41)).cell? ((⟨wr.heap.size + 1, 0, none⟩ : Addr).add j) = some u) := by
            show ∀ j u, ([Value.int .i64 x, Value.int .i64 y] : List Value)[j]? = some u → ((wr.alloc (.cells #[.int .i64 x, .int .i64 y] 41)).alloc (.cells #[.int .i64 x, .int .i64 y] 41)).cell? ((⟨wr.heap.size + 1, 0, none⟩ : Addr).add j) = some u
            have news := two_new (wr.alloc (.cells #[.int .i64 x, .int .i64 y] 41)) x y
            simpa using news
          try simp at hbase
          go_wp2_with (at_builtin; go_must (refine wpList_append_own _ rfl (.tmp 67) (.tmp 69) 23 rfl (X + 1) 41 i0 (.agg #[.int .i64 0, .int .i64 0]) 2 16 Try.underlying23 hi0 hz0 hz1 hz2 rfl (by decide) _ _ _ rfl ownA ⟨wr.heap.size + 1, 0, none⟩ 1 1 [.int .i64 x, .int .i64 y] rfl rfl NEWS.out (two_one x y) (by unfold maxLen; omega) (by omega) (by simp; omega) ?_))
          intro v' w2 hown hgrow _
          have M2 := (HI.out.below (al.out _ (.cells #[.int .i64 x, .int .i64 y] 41))).mid hgrow
          have hown' : w2.ownsRow (X + 1) 41 2 v' (m + 1) ((putF zs key val i (k + 1)).map (Value.int .i64)) := by rw [← HT.out]; simpa using hown
          obtain ⟨a2, c2, hv, _⟩ := own2_shape hown'
          rw [hv] at hown' ⊢
          have HP : Hid (LoopP w (some ⟨b, off, none⟩) n cap X (putF zs key val i (k + 1)) (m + 1) a2 c2 (w2.setCell ⟨X, 0, none⟩ (.slice a2 (m + 1) c2))) := M2.push hown'
          have mx := M2.x0
          have mf := M2.fx
          clear hown hown' hgrow hv M2 ownA NEWS hbase hlt' HI
          go_wp2
          go_roundw
          case rel => exact ⟨k + 1, false, a2, c2, m + 1, putF zs key val i (k + 1), by omega, by go_num, rfl, by omega, HP.out, by simp; omega, rfl, HT2.out.2⟩
          case measure => simp [intOf]; omega
        · obtain rfl : B = true := by rw [HY.out.1]; simp; omega
          have hgt : key < x := by have := HHIGH.out k (by omega) hlt; rw [HX.out.1] at this; exact this
          have hne : (x == key) = false := by simp; omega
          have HT2 : Hid (ys ++ [x, y] = putF zs key val i (k + 1) ∧ m + 1 = putM i (k + 1)) := by
            rw [← HX.out.1, ← HX.out.2, HY.out.2.1, HY.out.2.2]
            exact putF_high hkl.out (by omega)
          have HT : Hid (ys ++ [x, y] = putF zs key val i (k + 1)) := HT2.out.1
          have ownA := (HI.out.below (al.out _ (.cells #[.int .i64 x, .int .i64 y] 41))).own
          have hbase := HI.out.sz
          have hlt' := HI.out.lt
          have NEWS : Hid (∀ j u, ([Value.int .i64 x, Value.int .i64 y] : List Value)[j]? = some u → ((wr.alloc (.cells #[.int .i64 x, .int .i64 y] 41)).alloc (.cells #[.int .i64 x, .int .i64 y] 41)).cell? ((⟨wr.heap.size + 1, 0, none⟩ : Addr).add j) = some u) := by
            show ∀ j u, ([Value.int .i64 x, Value.int .i64 y] : List Value)[j]? = some u → ((wr.alloc (.cells #[.int .i64 x, .int .i64 y] 41)).alloc (.cells #[.int .i64 x, .int .i64 y] 41)).cell? ((⟨wr.heap.size + 1, 0, none⟩ : Addr).add j) = some u
            have news := two_new (wr.alloc (.cells #[.int .i64 x, .int .i64 y] 41)) x y
            simpa using news
          try simp at hbase
          go_wp2_with (at_builtin; go_must (refine wpList_append_own _ rfl (.tmp 67) (.tmp 69) 23 rfl (X + 1) 41 i0 (.agg #[.int .i64 0, .int .i64 0]) 2 16 Try.underlying23 hi0 hz0 hz1 hz2 rfl (by decide) _ _ _ rfl ownA ⟨wr.heap.size + 1, 0, none⟩ 1 1 [.int .i64 x, .int .i64 y] rfl rfl NEWS.out (two_one x y) (by unfold maxLen; omega) (by omega) (by simp; omega) ?_))
          intro v' w2 hown hgrow _
          have M2 := (HI.out.below (al.out _ (.cells #[.int .i64 x, .int .i64 y] 41))).mid hgrow
          have hown' : w2.ownsRow (X + 1) 41 2 v' (m + 1) ((putF zs key val i (k + 1)).map (Value.int .i64)) := by rw [← HT.out]; simpa using hown
          obtain ⟨a2, c2, hv, _⟩ := own2_shape hown'
          rw [hv] at hown' ⊢
          have HP : Hid (LoopP w (some ⟨b, off, none⟩) n cap X (putF zs key val i (k + 1)) (m + 1) a2 c2 (w2.setCell ⟨X, 0, none⟩ (.slice a2 (m + 1) c2))) := M2.push hown'
          have mx := M2.x0
          have mf := M2.fx
          clear hown hown' hgrow hv M2 ownA NEWS hbase hlt' HI
          go_wp2
          go_roundw
          case rel => exact ⟨k + 1, true, a2, c2, m + 1, putF zs key val i (k + 1), by omega, by go_num, rfl, by omega, HP.out, by simp; omega, rfl, HT2.out.2⟩
          case measure => simp [intOf]; omega
    · obtain rfl : k = n := by omega
      have hz := hzl.out
      by_cases hin : i < k
      · obtain rfl : B = true := by rw [HY.out.1]; simp [hin]
        have hm9 : m = k + 1 := by rw [HY.out.2.2]; unfold putM; rw [if_neg (by omega)]
        have hy9 : ys = zs.take (i * 2) ++ [key, val] ++ zs.drop (i * 2) := by
          rw [HY.out.2.1]
          unfold putF
          rw [if_neg (by omega), List.take_of_length_le (l := zs) (i := k * 2) (by omega)]
        subst hm9
        subst hy9
        have HQ : Hid (LoopP w a k cap X (zs.take (i * 2) ++ [key, val] ++ zs.drop (i * 2)) (k + 1) a' c' wr) := I
        clear I HY hmk
        by_cases h8' : k = 8
        · have hgt8 : (8 : Int) < (k : Int) + 1 := by omega
          have h8 : Hid (k = 8) := h8'
          have hn8 : Hid (8 ≤ k) := by show _ ≤ _; omega
          clear h8'
          have IL := HQ.out.loc.below (al.out _ (.cells #[] 41))
          have x9 := HQ.out.x0
          have box9 := HQ.out.loc.box
          have boxL := IL.box
          have hlt9 := HQ.out.lt
          have hsz9 := HQ.out.sz
          obtain ⟨b, off, rfl⟩ := hs.addr (by omega)
          have sAll := (hs.below IL.bel).src_whole
          have hL : Hid ((zs.map (Value.int .i64)).length = k * 2) := by show _ = _; simp; exact hzl.out
          have own0 : (wr.alloc (.cells #[] 41)).ownsRow (wr.heap.size) 41 2 (.slice (some ⟨wr.heap.size, 0, none⟩) 0 0) 0 [] := by
            have h := World.ownsRow_lit (base := wr.heap.size) (e := 41) (size := 2) wr #[] 0 (by simp) (by decide) rfl
            simpa using h
          have HIL : Hid (Loc w (some ⟨b, off, none⟩) k cap (wr.alloc (.cells #[] 41))) := IL
          try simp at hsz9
          clear IL hs
          go_wp2_with (at_builtin; go_must (refine wpList_append_own _ rfl (.tmp 86) (.tmp 88) 23 rfl (wr.heap.size) 41 i0 (.agg #[.int .i64 0, .int .i64 0]) 2 16 Try.underlying23 hi0 hz0 hz1 hz2 rfl (by decide) _ _ _ rfl own0 ⟨b, off, none⟩ k cap (zs.map (Value.int .i64)) rfl hL.out sAll (ints_oneCell _ _) (by unfold maxLen; omega) (by omega) (by simp) ?_))
          intro v9 w9 hown9 hgrow9 _
          have IG := HIL.out.grown hgrow9 (fun kk e => by have e2 : wr.heap.size = kk := (by cases e; rfl); omega)
          have hown' : w9.ownsRow (wr.heap.size) 41 2 v9 k (zs.map (Value.int .i64)) := by simpa using hown9
          obtain ⟨a9, c9, hv9, _⟩ := own2_shape hown'
          rw [hv9] at hown' ⊢
          have HO : Hid (w9.ownsRow (w.heap.size + 1 + 1 + 1) 41 2 (.slice a9 k c9) k (zs.map (Value.int .i64))) := own_mono hown' (by omega)
          have m0 := IG.m0
          have r0 := IG.r0
          have r1 := IG.r1
          have fm := IG.fm
          have f0 := IG.f0
          have f1 := IG.f1
          clear hown9 hown' hgrow9 hv9 HIL own0 sAll boxL x9 box9
          go_wp2
          refine bodyPost_ret (v := .tuple #[.agg #[.slice a9 k c9], .agg #[.int .i64 3, .int .i64 0]]) (by simp [results, Try.results11, go_sem, m0, r0, r1]) rfl ?_
          rw [← HR.out.1, ← HR.out.2.1, ← HR.out.2.2, if_pos h8.out, if_pos h8.out, if_pos h8.out]
          exact ⟨a9, c9, rfl, own_mono (own_setCell (own_setCell (own_setCell HO.out (by omega) _) (by omega) _) (by omega) _) (by omega), ((IG.bel.setCell (by show w.heap.size ≤ w.heap.size + 1; omega) _).setCell (by show w.heap.size ≤ w.heap.size + 1 + 1; omega) _).setCell (by show w.heap.size ≤ w.heap.size + 1 + 1; omega) _⟩
        · have hgt8 : ¬ (8 : Int) < (k : Int) + 1 := by omega
          have h8 : ¬ k = 8 := h8'
          clear h8'
          have m0 := HQ.out.loc.m0
          have r0 := HQ.out.loc.r0
          have r1 := HQ.out.loc.r1
          have fm := HQ.out.loc.fm
          have f0 := HQ.out.loc.f0
          have f1 := HQ.out.loc.f1
          have x9 := HQ.out.x0
          have hlt9 := HQ.out.lt
          have hX1 : ¬ X = w.heap.size + 1 := by omega
          have hX2 : ¬ X = w.heap.size + 1 + 1 := by omega
          go_wp2
          refine bodyPost_ret (v := .tuple #[.agg #[.slice a' (k + 1) c'], .agg #[.int .i64 2, .int .i64 0]]) (by simp [results, Try.results11, go_sem, m0, r0, r1]) rfl ?_
          rw [← HR.out.1, ← HR.out.2.1, ← HR.out.2.2, if_neg h8, if_neg h8, if_neg h8]
          exact ⟨a', c', rfl, own_mono (own_setCell (own_setCell (own_setCell HQ.out.own (by omega) _) (by omega) _) (by omega) _) (by omega), ((HQ.out.loc.bel.setCell (by show w.heap.size ≤ w.heap.size + 1; omega) _).setCell (by show w.heap.size ≤ w.heap.size + 1 + 1; omega) _).setCell (by show w.heap.size ≤ w.heap.size + 1 + 1; omega) _⟩
      · obtain rfl : B = false := by rw [HY.out.1]; simp; omega
        obtain rfl : i = k := by omega
        have hm9 : m = i := by rw [HY.out.2.2]; unfold putM; rw [if_pos (Nat.le_refl _)]
        have hy9 : ys = zs := by
          rw [HY.out.2.1]
          unfold putF
          rw [if_pos (Nat.le_refl _), List.take_of_length_le (l := zs) (i := i * 2) (by omega)]
        subst hm9
        subst hy9
        have HI : Hid (LoopP w a m cap X ys m a' c' wr) := I
        have xE := I.x0
        have HT : Hid (ys ++ [key, val] = ys.take (m * 2) ++ [key, val] ++ ys.drop (m * 2)) := by
          show _ = _
          rw [List.take_of_length_le (by omega), List.drop_of_length_le (by omega), List.append_nil]
        clear I HY hmk
        have ownA := (HI.out.below (al.out _ (.cells #[.int .i64 key, .int .i64 val] 41))).own
        have hbase := HI.out.sz
        have hlt' := HI.out.lt
        have NEWS : Hid (∀ j u, ([Value.int .i64 key, Value.int .i64 val] : List Value)[j]? = some u → (wr.alloc (.cells #[.int .i64 key, .int .i64 val] 41)).cell? ((⟨wr.heap.size, 0, none⟩ : Addr).add j) = some u) := by
          show ∀ j u, ([Value.int .i64 key, Value.int .i64 val] : List Value)[j]? = some u → (wr.alloc (.cells #[.int .i64 key, .int .i64 val] 41)).cell? ((⟨wr.heap.size, 0, none⟩ : Addr).add j) = some u
          have news := two_new wr key val
          simpa using news
        try simp at hbase
        go_wp2_with (at_builtin; go_must (refine wpList_append_own _ rfl (.tmp 75) (.tmp 79) 23 rfl (X + 1) 41 i0 (.agg #[.int .i64 0, .int .i64 0]) 2 16 Try.underlying23 hi0 hz0 hz1 hz2 rfl (by decide) _ _ _ rfl ownA ⟨wr.heap.size, 0, none⟩ 1 1 [.int .i64 key, .int .i64 val] rfl rfl NEWS.out (two_one key val) (by unfold maxLen; omega) (by omega) (by simp; omega) ?_))
        intro v' w2 hown hgrow _
        have M2 := (HI.out.below (al.out _ (.cells #[.int .i64 key, .int .i64 val] 41))).mid hgrow
        have hown' : w2.ownsRow (X + 1) 41 2 v' (m + 1) ((ys.take (m * 2) ++ [key, val] ++ ys.drop (m * 2)).map (Value.int .i64)) := by rw [← HT.out]; simpa using hown
        obtain ⟨a2, c2, hv, _⟩ := own2_shape hown'
        rw [hv] at hown' ⊢
        have HP : Hid (LoopP w a m cap X (ys.take (m * 2) ++ [key, val] ++ ys.drop (m * 2)) (m + 1) a2 c2 (w2.setCell ⟨X, 0, none⟩ (.slice a2 (m + 1) c2))) := M2.push hown'
        have mx := M2.x0
        have mf := M2.fx
        clear hown hown' hgrow hv M2 ownA NEWS hbase hlt' HI
        have HQ : Hid (LoopP w a m cap X (ys.take (m * 2) ++ [key, val] ++ ys.drop (m * 2)) (m + 1) a2 c2 (w2.setCell ⟨X, 0, none⟩ (.slice a2 (m + 1) c2))) := HP
        clear HP HT xE
        by_cases h8' : m = 8
        · have hgt8 : (8 : Int) < (m : Int) + 1 := by omega
          have h8 : Hid (m = 8) := h8'
          have hn8 : Hid (8 ≤ m) := by show _ ≤ _; omega
          clear h8'
          have IL := HQ.out.loc.below (al.out _ (.cells #[] 41))
          have x9 := HQ.out.x0
          have box9 := HQ.out.loc.box
          have boxL := IL.box
          have hlt9 := HQ.out.lt
          have hsz9 := HQ.out.sz
          obtain ⟨b, off, rfl⟩ := hs.addr (by omega)
          have sAll := (hs.below IL.bel).src_whole
          have hL : Hid ((ys.map (Value.int .i64)).length = m * 2) := by show _ = _; simp; exact hzl.out
          have own0 : ((w2.setCell ⟨X, 0, none⟩ (.slice a2 (m + 1) c2)).alloc (.cells #[] 41)).ownsRow (w2.heap.size) 41 2 (.slice (some ⟨w2.heap.size, 0, none⟩) 0 0) 0 [] := by
            have h := World.ownsRow_lit (base := w2.heap.size) (e := 41) (size := 2) (w2.setCell ⟨X, 0, none⟩ (.slice a2 (m + 1) c2)) #[] 0 (by simp) (by decide) rfl
            simpa using h
          have HIL : Hid (Loc w (some ⟨b, off, none⟩) m cap ((w2.setCell ⟨X, 0, none⟩ (.slice a2 (m + 1) c2)).alloc (.cells #[] 41))) := IL
          try simp at hsz9
          clear IL hs
          go_wp2_with (at_builtin; go_must (refine wpList_append_own _ rfl (.tmp 86) (.tmp 88) 23 rfl (w2.heap.size) 41 i0 (.agg #[.int .i64 0, .int .i64 0]) 2 16 Try.underlying23 hi0 hz0 hz1 hz2 rfl (by decide) _ _ _ rfl own0 ⟨b, off, none⟩ m cap (ys.map (Value.int .i64)) rfl hL.out sAll (ints_oneCell _ _) (by unfold maxLen; omega) (by omega) (by simp) ?_))
          intro v9 w9 hown9 hgrow9 _
          have IG := HIL.out.grown hgrow9 (fun kk e => by have e2 : w2.heap.size = kk := (by cases e; rfl); omega)
          have hown' : w9.ownsRow (w2.heap.size) 41 2 v9 m (ys.map (Value.int .i64)) := by simpa using hown9
          obtain ⟨a9, c9, hv9, _⟩ := own2_shape hown'
          rw [hv9] at hown' ⊢
          have HO : Hid (w9.ownsRow (w.heap.size + 1 + 1 + 1) 41 2 (.slice a9 m c9) m (ys.map (Value.int .i64))) := own_mono hown' (by omega)
          have m0 := IG.m0
          have r0 := IG.r0
          have r1 := IG.r1
          have fm := IG.fm
          have f0 := IG.f0
          have f1 := IG.f1
          clear hown9 hown' hgrow9 hv9 HIL own0 sAll boxL x9 box9
          go_wp2
          refine bodyPost_ret (v := .tuple #[.agg #[.slice a9 m c9], .agg #[.int .i64 3, .int .i64 0]]) (by simp [results, Try.results11, go_sem, m0, r0, r1]) rfl ?_
          rw [← HR.out.1, ← HR.out.2.1, ← HR.out.2.2, if_pos h8.out, if_pos h8.out, if_pos h8.out]
          exact ⟨a9, c9, rfl, own_mono (own_setCell (own_setCell (own_setCell HO.out (by omega) _) (by omega) _) (by omega) _) (by omega), ((IG.bel.setCell (by show w.heap.size ≤ w.heap.size + 1; omega) _).setCell (by show w.heap.size ≤ w.heap.size + 1 + 1; omega) _).setCell (by show w.heap.size ≤ w.heap.size + 1 + 1; omega) _⟩
        · have hgt8 : ¬ (8 : Int) < (m : Int) + 1 := by omega
          have h8 : ¬ m = 8 := h8'
          clear h8'
          have m0 := HQ.out.loc.m0
          have r0 := HQ.out.loc.r0
          have r1 := HQ.out.loc.r1
          have fm := HQ.out.loc.fm
          have f0 := HQ.out.loc.f0
          have f1 := HQ.out.loc.f1
          have x9 := HQ.out.x0
          have hlt9 := HQ.out.lt
          have hX1 : ¬ X = w.heap.size + 1 := by omega
          have hX2 : ¬ X = w.heap.size + 1 + 1 := by omega
          go_wp2
          refine bodyPost_ret (v := .tuple #[.agg #[.slice a2 (m + 1) c2], .agg #[.int .i64 2, .int .i64 0]]) (by simp [results, Try.results11, go_sem, m0, r0, r1]) rfl ?_
          rw [← HR.out.1, ← HR.out.2.1, ← HR.out.2.2, if_neg h8, if_neg h8, if_neg h8]
          exact ⟨a2, c2, rfl, own_mono (own_setCell (own_setCell (own_setCell HQ.out.own (by omega) _) (by omega) _) (by omega) _) (by omega), ((HQ.out.loc.bel.setCell (by show w.heap.size ≤ w.heap.size + 1; omega) _).setCell (by show w.heap.size ≤ w.heap.size + 1 + 1; omega) _).setCell (by show w.heap.size ≤ w.heap.size + 1 + 1; omega) _⟩

theorem specMapPut_any (a : Option Addr) (n : Nat) (zs : List Int) (key val : Int) (w : World) (hs : SInts w a (n * 2) zs) (hn : n ≤ 1048576) :
    Calls Try.prog 11 #[.agg #[.slice a n n], .int .i64 key, .int .i64 val] w fun e w' => MapRes (ptL zs n key val) (ptN zs n key val) (ptC zs n key val) 0 e w w' := by
  cases hok : ptOk zs n key val
  · have e1 : ptL zs n key val = [] := by simp [ptL, hok]
    have e2 : ptN zs n key val = 0 := by simp [ptN, hok]
    have e3 : ptC zs n key val = 0 := by simp [ptC, hok]
    rw [e1, e2, e3]
    exact specMapPut_bad a n n zs key val w hs (by omega) hok
  · obtain ⟨h1, h2, h3⟩ := ptOk_parts hok
    obtain ⟨h8, _, hup⟩ := okM_parts h1
    have hupM : upM zs n = true := upM_yes hup
    have hrise := up_lt hup
    have hI : entI zs n key = fIdx (fun i => geK key (keyAt zs i)) n := by simp [entI, hupM]
    obtain ⟨hlow0, hat0⟩ := fIdx_spec (fun i => geK key (keyAt zs i)) n
    rw [← hI] at hlow0 hat0
    have hlow : ∀ j, j < entI zs n key → keyAt zs j < key := by
      intro j hj
      have := hlow0 j hj
      simp [geK] at this
      exact this
    cases hE : entB zs n key
    · have hhigh : ∀ j, entI zs n key ≤ j → j < n → key < keyAt zs j := by
        intro j hj hjn
        have hlt : entI zs n key < n := by omega
        have h4 := hat0 hlt
        simp [geK] at h4
        have h5 : ¬ keyAt zs (entI zs n key) = key := by
          simp only [entB, hlt, decide_true, Bool.true_and] at hE
          simpa using hE
        by_cases e : j = entI zs n key
        · subst e; omega
        · have := hrise j (entI zs n key) (by omega) hjn
          omega
      have h := specMapPut_loop a n n zs key val (entI zs n key) w hs h8 h1 h2 h3 (entI_le zs n key) hlow hhigh
      have e1 : ptL zs n key val = if n = 8 then zs else zs.take (entI zs n key * 2) ++ [key, val] ++ zs.drop (entI zs n key * 2) := by simp [ptL, hok, hE]
      have e2 : ptN zs n key val = if n = 8 then n else n + 1 := by simp [ptN, hok, hE]
      have e3 : ptC zs n key val = if n = 8 then 3 else 2 := by simp [ptC, hok, hE]
      rw [e1, e2, e3]
      exact h
    · have e1 : ptL zs n key val = zs := by simp [ptL, hok, hE]
      have e2 : ptN zs n key val = n := by simp [ptN, hok, hE]
      have e3 : ptC zs n key val = 1 := by simp [ptC, hok, hE]
      rw [e1, e2, e3]
      simp only [entB, Bool.and_eq_true, decide_eq_true_eq] at hE
      exact specMapPut_there a n n zs key val (entI zs n key) w hs h8 h1 h2 h3 hE.1 hlow (by simpa using hE.2)

end Go.Proofs.Ytkfamlbalgolmaa
