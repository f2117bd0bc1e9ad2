/- Where words lead, place by place; the specification's l2From. -/
import Derived.Test.YtbefjhcokmmeoaaShape2
import Derived.Test.YtbefjhcokmmeoaaGive2
namespace Go.Proofs.Ytbefjhcokmmeoaa
open Go.RowKit
set_option linter.unusedVariables false

theorem wTo_bounds (x : Int) : 0 ≤ wTo x ∧ wTo x ≤ 9 := by
  unfold wTo
  split
  · rename_i h
    obtain ⟨h0, h1⟩ := inB_parts h
    omega
  · omega

/-- To which place a place leads. -/
def nextN (ns : List Nd) (p : Int) : Int := wTo (ns.getD p.toNat Nd.zero).word
/-- Where one is behind k steps; 0 is the end. -/
def stepK (ns : List Nd) (p : Int) : Nat → Int
  | 0 => p
  | k + 1 => if stepK ns p k = 0 then 0 else nextN ns (stepK ns p k)
/-- The places of the first k steps. -/
def fromTo (ns : List Nd) (p : Int) : Nat → List Int
  | 0 => []
  | k + 1 => if stepK ns p k = 0 then fromTo ns p k else fromTo ns p k ++ [stepK ns p k]

theorem stepK_bounds (ns : List Nd) {p : Int} (h : inB p 9 = true) (k : Nat) : 0 ≤ stepK ns p k ∧ stepK ns p k ≤ 9 := by
  induction k with
  | zero => exact inB_parts h
  | succ k ih =>
    unfold stepK
    split
    · omega
    · exact wTo_bounds _
theorem fromTo_len (ns : List Nd) (p : Int) (k : Nat) : (fromTo ns p k).length ≤ k := by
  induction k with
  | zero => simp [fromTo]
  | succ k ih =>
    unfold fromTo
    split
    · omega
    · simp; omega
theorem fromTo_go {ns : List Nd} {p : Int} {k : Nat} {x : Int} (e : stepK ns p k = x) (h : ¬ x = 0) : fromTo ns p (k + 1) = fromTo ns p k ++ [x] ∧ stepK ns p (k + 1) = nextN ns x := by
  subst e
  simp [fromTo, stepK, h]
theorem fromTo_end {ns : List Nd} {p : Int} {k : Nat} (h : stepK ns p k = 0) : ∀ m, k ≤ m → fromTo ns p m = fromTo ns p k ∧ stepK ns p m = 0 := by
  intro m hm
  obtain ⟨d, rfl⟩ : ∃ d, m = k + d := ⟨m - k, by omega⟩
  induction d with
  | zero => exact ⟨rfl, h⟩
  | succ d ih =>
    obtain ⟨i1, i2⟩ := ih (by omega)
    have e : k + (d + 1) = (k + d) + 1 := by omega
    rw [e]
    simp [fromTo, stepK, i1, i2]

/-- The answer is a list of numbers in memory of its own. -/
def ListI (L : List Int) (e : Ending) (w w' : World) : Prop :=
  ∃ a c, e = .returned (.slice a L.length c) ∧ w'.ownsRow w.heap.size 3 1 (.slice a L.length c) L.length (L.map (Value.int .i64)) ∧ Below w.heap.size w w'

theorem own_int_lit (w : World) (o : Obj) : ((w.alloc o).alloc (.cells #[] 3)).ownsRow (w.heap.size + 1) 3 1 (.slice (some ⟨w.heap.size + 1, 0, none⟩) 0 0) 0 [] := by
  have := World.ownsRow_lit (base := w.heap.size + 1) (e := 3) (size := 1) (w.alloc o) #[] 0 (by simp) (by decide) rfl
  simp only [World.size_alloc] at this
  exact this

/-- What stands in the loop of l2From. -/
structure FromAt (w : World) (b off cap : Nat) (t f l : Int) (a' : Option Addr) (m c' : Nat) (L : List Int) (W : World) : Prop where
  bel : Below w.heap.size w W
  box : BoxA W w.heap.size (some ⟨b, off, none⟩) 10 cap t f l
  own : W.ownsRow (w.heap.size + 1) 3 1 (.slice a' m c') m (L.map (Value.int .i64))

theorem FromAt.below {w : World} {b off cap : Nat} {t f l : Int} {a' : Option Addr} {m c' : Nat} {L : List Int} {W W' : World} (h : FromAt w b off cap t f l a' m c' L W) (hb : Below W.heap.size W W') : FromAt w b off cap t f l a' m c' L W' :=
  { bel := below_trans' h.bel hb, box := h.box.below hb, own := ownsRow_below h.own hb }

/-- Behind an append. -/
theorem FromAt.grown {w : World} {b off cap : Nat} {t f l : Int} {a' : Option Addr} {m c' : Nat} {L : List Int} {W W' : World} (h : FromAt w b off cap t f l a' m c' L W) (hg : W.grownBy W' (Value.slice a' m c').ownBlock) {a2 : Option Addr} {m2 c2 : Nat} {L2 : List Int} (ho : W'.ownsRow (w.heap.size + 1) 3 1 (.slice a2 m2 c2) m2 (L2.map (Value.int .i64))) : FromAt w b off cap t f l a2 m2 c2 L2 W' :=
  { bel := h.bel.grown hg h.bel.size (fun k e => by have := (h.own.lt k e).1; omega), box := h.box.grown hg (fun e => by have := (h.own.lt _ e.symm).1; omega), own := ho }

set_option maxRecDepth 20000 in
set_option maxHeartbeats 1000000 in
theorem l2From_any (b off cap : Nat) (ns : List Nd) (t f l p : Int) (w : World) (hs : SNodes w (some ⟨b, off, none⟩) 10 ns) (hp : inB p 9 = true) :
    Calls Try.prog 52 #[.agg #[.slice (some ⟨b, off, none⟩) 10 cap, .int .i64 t, .int .i64 f, .int .i64 l], .int .i64 p] w fun e w' => ListI (fromTo ns p 9) e w w' := by
  obtain ⟨i0, hi, hz0, hz1, hz2⟩ := info_parts Try.info3
  have A1 := al1 w (.cells #[.slice (some ⟨b, off, none⟩) 10 cap, .int .i64 t, .int .i64 f, .int .i64 l] 32)
  have I0 : Hid (FromAt w b off cap t f l (some ⟨w.heap.size + 1, 0, none⟩) 0 0 [] ((w.alloc (.cells #[.slice (some ⟨b, off, none⟩) 10 cap, .int .i64 t, .int .i64 f, .int .i64 l] 32)).alloc (.cells #[] 3))) :=
    ⟨below_trans' A1 (al1 _ _), (boxA_new w _ _ _ _ _ _ 32 rfl).below (al1 _ _), own_int_lit w _⟩
  have HS : Hid (SNodes w (some ⟨b, off, none⟩) 10 ns) := hs
  have HP : Hid (inB p 9 = true) := hp
  clear A1 hs hp
  go_enter Try.func52, Try.ntmps52
  go_wp2
  go_loopw [5, 6, 7] (fun s at_ i wr => ∃ (k m : Nat) (a' : Option Addr) (c' : Nat), k ≤ 9 ∧ m ≤ k ∧ i = .int .i64 k ∧ at_ = .int .i64 (stepK ns p k) ∧ s = .slice a' m c' ∧ FromAt w b off cap t f l a' m c' (fromTo ns p k) wr) (fun _ _ i _ => 9 - (intOf i).toNat)
  case atStart => exact ⟨0, 0, _, 0, by omega, by omega, rfl, rfl, rfl, I0.out⟩
  case round =>
    obtain ⟨k, m, a', c', hk, hmk, rfl, rfl, rfl, I⟩ := hrel
    clear I0
    obtain ⟨x, hx⟩ : ∃ x, stepK ns p k = x := ⟨_, rfl⟩
    have hxb := stepK_bounds ns HP.out k
    rw [hx] at hxb ⊢
    have HX : Hid (stepK ns p k = x) := hx
    obtain ⟨L, hL⟩ : ∃ L, fromTo ns p k = L := ⟨_, rfl⟩
    have HL : Hid (fromTo ns p k = L) := hL
    rw [hL] at I
    have HI : Hid (FromAt w b off cap t f l a' m c' L wr) := I
    obtain ⟨hx0, hx9⟩ := hxb
    clear hx hL
    by_cases hlt : k < 9
    · by_cases hz : x = 0
      · have HE := (fromTo_end (k := k) (by rw [HX.out]; exact hz) 9 (by omega)).1
        have HR : Hid (fromTo ns p 9 = L) := HE.trans HL.out
        have hml : Hid (L.length = m) := by show _ = _; have := I.own.1; simpa using this
        have hb := I.bel
        subst hz
        clear I HE
        go_wp2
        go_ret
        refine ⟨a', c', ?_⟩
        rw [HR.out, hml.out]
        exact ⟨rfl, own_mono HI.out.own (by omega), hb⟩
      · have hpos : 0 < x := by omega
        obtain ⟨j, rfl⟩ : ∃ j : Nat, x = j := ⟨x.toNat, by omega⟩
        have hj : j < 10 := by omega
        have ownA := ownsRow_below I.own (al1 wr (.cells #[.int .i64 (j : Int)] 3))
        have src : Hid (∀ (jj : Nat) u, [Value.int .i64 (j : Int)][jj]? = some u → (wr.alloc (.cells #[.int .i64 (j : Int)] 3)).cell? ((⟨wr.heap.size, 0, none⟩ : Addr).add jj) = some u) := fun jj u h => by
          have h0 : jj = 0 := by have := (List.getElem?_eq_some_iff.1 h).1; simpa using this
          subst h0
          have hu : Value.int .i64 (j : Int) = u := by simpa using h
          subst hu
          rw [Addr.add_lit]
          simp
        have hsz := I.bel.size
        clear I
        go_wp2_with (at_builtin; go_must (refine wpList_append_own _ rfl (.tmp 18) (.tmp 20) 39 rfl (w.heap.size + 1) 3 i0 (.int .i64 0) 1 8 Try.underlying39 hi hz0 hz1 hz2 rfl (by decide) _ _ _ rfl ownA ⟨wr.heap.size, 0, none⟩ 1 1 [.int .i64 (j : Int)] rfl rfl src.out (by intro u hu; simp at hu; subst hu; rfl) (by unfold maxLen; omega) (by omega) (by simp; omega) ?_))
        intro v' w2 hown hgrow _
        have hown' : w2.ownsRow (w.heap.size + 1) 3 1 v' (m + 1) ((L ++ [(j : Int)]).map (Value.int .i64)) := by rw [List.map_append]; exact hown
        obtain ⟨a2, c2, hv, _⟩ := own_shape hown'
        rw [hv] at hown' ⊢
        have I2 := (HI.out.below (al1 wr (.cells #[.int .i64 (j : Int)] 3))).grown hgrow hown'
        have q0 := I2.box.c0
        obtain ⟨b', off', ⟨y0, y1, y2, y3, y4, y5⟩, eb, hy, hN⟩ := (HS.out.below I2.bel).at (k := j) hj
        cases eb
        have n2 := hN.c2
        dsimp only at n2
        have HN : Hid (fromTo ns p (k + 1) = L ++ [(j : Int)] ∧ stepK ns p (k + 1) = wTo y2) := by
          obtain ⟨h1, h2⟩ := fromTo_go HX.out hz
          rw [HL.out] at h1
          refine ⟨h1, h2.trans ?_⟩
          simp [nextN, List.getD, hy]
        have HI2 : Hid (FromAt w b off cap t f l a2 (m + 1) c2 (L ++ [(j : Int)]) w2) := I2
        clear hown hown' hgrow hv hN hy I2 ownA src HI
        go_wp2_with (go_at_call 53; refine (specWrdTo_any _ _).mono ?_; rintro e w' ⟨rfl, rfl⟩)
        go_roundw
        case rel => exact ⟨k + 1, m + 1, a2, c2, by omega, by omega, by go_num, by rw [HN.out.2], rfl, by rw [HN.out.1]; exact HI2.out⟩
        case measure => simp [intOf]; omega
    · obtain rfl : k = 9 := by omega
      have hml : Hid (L.length = m) := by show _ = _; have := I.own.1; simpa using this
      have hb := I.bel
      clear I
      go_wp2
      go_ret
      refine ⟨a', c', ?_⟩
      rw [HL.out, hml.out]
      exact ⟨rfl, own_mono HI.out.own (by omega), hb⟩

end Go.Proofs.Ytbefjhcokmmeoaa
