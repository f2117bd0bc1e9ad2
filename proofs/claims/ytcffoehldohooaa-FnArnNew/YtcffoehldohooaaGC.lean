/- Several texts in one: Path, PathS, OkS, OkS2, OkS3, OkS4, OkS5, OkS6. -/
import Derived.Test.YtcffoehldohooaaShape2
import Derived.Test.YtcffoehldohooaaGD
import Derived.Deep.RegionHeld
import Derived.Deep.QuietTactic
import Derived.BigQuiet
import Derived.Test.YtcffoehldohooaaGA
import Derived.Deep.RegionHeldLaw
/- Path -/
namespace Go.Proofs.Ytcffoehldohooaa
open Go.RowKit
set_option linter.unusedVariables false

theorem wTo_bounds (x : Int) : 0 ≤ wTo x ∧ wTo x ≤ 9 := by
  unfold wTo
  split
  · rename_i h
    obtain ⟨h0, h1⟩ := inB_parts h
    omega
  · omega

/-- To which place a place leads. -/
def nextN (ns : List Nd) (p : Int) : Int := wTo (ns.getD p.toNat Nd.zero).word
/-- Where one is behind k steps; 0 is the end. -/
def stepK (ns : List Nd) (p : Int) : Nat → Int
  | 0 => p
  | k + 1 => if stepK ns p k = 0 then 0 else nextN ns (stepK ns p k)
/-- The places of the first k steps. -/
def fromTo (ns : List Nd) (p : Int) : Nat → List Int
  | 0 => []
  | k + 1 => if stepK ns p k = 0 then fromTo ns p k else fromTo ns p k ++ [stepK ns p k]

theorem stepK_bounds (ns : List Nd) {p : Int} (h : inB p 9 = true) (k : Nat) : 0 ≤ stepK ns p k ∧ stepK ns p k ≤ 9 := by
  induction k with
  | zero => exact inB_parts h
  | succ k ih =>
    unfold stepK
    split
    · omega
    · exact wTo_bounds _
theorem fromTo_len (ns : List Nd) (p : Int) (k : Nat) : (fromTo ns p k).length ≤ k := by
  induction k with
  | zero => simp [fromTo]
  | succ k ih =>
    unfold fromTo
    split
    · omega
    · simp; omega
theorem fromTo_go {ns : List Nd} {p : Int} {k : Nat} {x : Int} (e : stepK ns p k = x) (h : ¬ x = 0) : fromTo ns p (k + 1) = fromTo ns p k ++ [x] ∧ stepK ns p (k + 1) = nextN ns x := by
  subst e
  simp [fromTo, stepK, h]
theorem fromTo_end {ns : List Nd} {p : Int} {k : Nat} (h : stepK ns p k = 0) : ∀ m, k ≤ m → fromTo ns p m = fromTo ns p k ∧ stepK ns p m = 0 := by
  intro m hm
  obtain ⟨d, rfl⟩ : ∃ d, m = k + d := ⟨m - k, by omega⟩
  induction d with
  | zero => exact ⟨rfl, h⟩
  | succ d ih =>
    obtain ⟨i1, i2⟩ := ih (by omega)
    have e : k + (d + 1) = (k + d) + 1 := by omega
    rw [e]
    simp [fromTo, stepK, i1, i2]

/-- The answer is a list of numbers in memory of its own. -/
def ListI (L : List Int) (e : Ending) (w w' : World) : Prop :=
  ∃ a c, e = .returned (.slice a L.length c) ∧ w'.ownsRow w.heap.size 3 1 (.slice a L.length c) L.length (L.map (Value.int .i64)) ∧ Below w.heap.size w w'

theorem own_int_lit (w : World) (o : Obj) : ((w.alloc o).alloc (.cells #[] 3)).ownsRow (w.heap.size + 1) 3 1 (.slice (some ⟨w.heap.size + 1, 0, none⟩) 0 0) 0 [] := by
  have := World.ownsRow_lit (base := w.heap.size + 1) (e := 3) (size := 1) (w.alloc o) #[] 0 (by simp) (by decide) rfl
  simp only [World.size_alloc] at this
  exact this

/-- What stands in the loop of l2From. -/
structure FromAt (w : World) (b off cap : Nat) (t f l : Int) (a' : Option Addr) (m c' : Nat) (L : List Int) (W : World) : Prop where
  bel : Below w.heap.size w W
  box : BoxA W w.heap.size (some ⟨b, off, none⟩) 10 cap t f l
  own : W.ownsRow (w.heap.size + 1) 3 1 (.slice a' m c') m (L.map (Value.int .i64))

theorem FromAt.below {w : World} {b off cap : Nat} {t f l : Int} {a' : Option Addr} {m c' : Nat} {L : List Int} {W W' : World} (h : FromAt w b off cap t f l a' m c' L W) (hb : Below W.heap.size W W') : FromAt w b off cap t f l a' m c' L W' :=
  { bel := below_trans' h.bel hb, box := h.box.below hb, own := ownsRow_below h.own hb }

/-- Behind an append. -/
theorem FromAt.grown {w : World} {b off cap : Nat} {t f l : Int} {a' : Option Addr} {m c' : Nat} {L : List Int} {W W' : World} (h : FromAt w b off cap t f l a' m c' L W) (hg : W.grownBy W' (Value.slice a' m c').ownBlock) {a2 : Option Addr} {m2 c2 : Nat} {L2 : List Int} (ho : W'.ownsRow (w.heap.size + 1) 3 1 (.slice a2 m2 c2) m2 (L2.map (Value.int .i64))) : FromAt w b off cap t f l a2 m2 c2 L2 W' :=
  { bel := h.bel.grown hg h.bel.size (fun k e => by have := (h.own.lt k e).1; omega), box := h.box.grown hg (fun e => by have := (h.own.lt _ e.symm).1; omega), own := ho }

end Go.Proofs.Ytcffoehldohooaa

/- PathS -/
namespace Go.Proofs.Ytcffoehldohooaa
open Go.RowKit
set_option linter.unusedVariables false

/-- Where the map, the stack and the queue begin. -/
def begC (ns : List Nd) (t f l : Int) : Int := wTo (ns.getD 0 Nd.zero).word
def begS (ns : List Nd) (t f l : Int) : Int := t
def begQ (ns : List Nd) (t f l : Int) : Int := f
/-- The places from a beginning on, of a right shape. -/
def pathOf (p : List Nd → Int → Int → Int → Int) (ns : List Nd) (t f l : Int) : List Int := if shapeB ns t f l then fromTo ns (p ns t f l) 9 else []

theorem inP_inB {x : Int} (h : inP x = true) : inB x 9 = true := by
  simp [inP] at h
  simp [inB]
  omega
theorem begC_in (ns : List Nd) (t f l : Int) : inB (begC ns t f l) 9 = true := by
  have := wTo_bounds (ns.getD 0 Nd.zero).word
  exact inB_yes this.1 this.2

theorem own_int_lit1 (w : World) : (w.alloc (.cells #[] 3)).ownsRow w.heap.size 3 1 (.slice (some ⟨w.heap.size, 0, none⟩) 0 0) 0 [] := by
  exact World.ownsRow_lit (base := w.heap.size) (e := 3) (size := 1) w #[] 0 (Nat.le_refl _) (by decide) rfl

end Go.Proofs.Ytcffoehldohooaa

/- OkS -/
namespace Go.Proofs.Ytcffoehldohooaa
open Go.RowKit
set_option linter.unusedVariables false

/-- The place of a number. -/
def ndAt (ns : List Nd) (z : Int) : Nd := ns.getD z.toNat Nd.zero
/-- The number is one of some. -/
def hasB (zs : List Int) (x : Int) : Bool := zs.any (fun z => z == x)
/-- None of some is marked. -/
def bareB (ns : List Nd) (zs : List Int) : Bool := zs.all (fun z => !wMark (ndAt ns z).word)
/-- All of some are in use, and none of them stands among others. -/
def usedB (ns : List Nd) (zs os : List Int) : Bool := zs.all (fun z => (ndAt ns z).used && !hasB os z)
/-- The last of some leads to none. -/
def endB (ns : List Nd) (zs : List Int) : Bool := decide (zs.length = 0) || (nextN ns (zs.getD (zs.length - 1) 0) == 0)
/-- The queue's last one is that, or the one ahead of it. -/
def lastB (zs : List Int) (l : Int) : Bool := decide (0 < zs.length) && ((l == zs.getD (zs.length - 1) 0) || (decide (1 < zs.length) && (l == zs.getD (zs.length - 2) 0)))

theorem any_no {zs : List Int} {p : Int → Bool} (h : ∀ i, i < zs.length → p (zs.getD i 0) = false) : zs.any p = false := by
  rw [List.any_eq_false]
  intro x hx
  obtain ⟨i, hi, rfl⟩ := List.mem_iff_getElem.1 hx
  have := h i hi
  simpa [List.getD, hi] using this
theorem any_yes {zs : List Int} {p : Int → Bool} {i : Nat} (hi : i < zs.length) (h : p (zs.getD i 0) = true) : zs.any p = true := by
  rw [List.any_eq_true]
  exact ⟨zs[i], List.getElem_mem hi, by simpa [List.getD, hi] using h⟩
theorem all_yes {zs : List Int} {p : Int → Bool} (h : ∀ i, i < zs.length → p (zs.getD i 0) = true) : zs.all p = true := by
  rw [List.all_eq_true]
  intro x hx
  obtain ⟨i, hi, rfl⟩ := List.mem_iff_getElem.1 hx
  have := h i hi
  simpa [List.getD, hi] using this
theorem all_no {zs : List Int} {p : Int → Bool} {i : Nat} (hi : i < zs.length) (h : p (zs.getD i 0) = false) : zs.all p = false := by
  rw [List.all_eq_false]
  exact ⟨zs[i], List.getElem_mem hi, by simpa [List.getD, hi] using h⟩

theorem BoxA.drew' {W : World} {b : Nat} {a : Option Addr} {n cap : Nat} {t f l : Int} (h : BoxA W b a n cap t f l) : BoxA W.drew b a n cap t f l := ⟨h.c0, h.c1, h.c2, h.c3⟩

/-- Some places. -/
def placesB (zs : List Int) : Prop := ∀ i, i < zs.length → 1 ≤ zs.getD i 0 ∧ zs.getD i 0 ≤ 9

end Go.Proofs.Ytcffoehldohooaa

/- OkS2 -/
namespace Go.Proofs.Ytcffoehldohooaa
open Go.RowKit
set_option linter.unusedVariables false

theorem below_drewN (B : Nat) (w : World) (n : Nat) : Below B w (w.drewN n) := ⟨rfl, rfl, rfl, Nat.le_refl _, fun _ _ => rfl⟩

theorem wrap_in64 {x : Int} (h0 : -9223372036854775808 ≤ x) (h1 : x ≤ 9223372036854775807) : IntKind.i64.wrap x = x := Go.IntWalk.i64_in x ⟨h0, h1⟩

end Go.Proofs.Ytcffoehldohooaa

/- OkS3 -/
namespace Go.Proofs.Ytcffoehldohooaa
open Go.RowKit
set_option linter.unusedVariables false

theorem usedB_yes {ns : List Nd} {zs os : List Int} (h : ∀ i, i < zs.length → ((ndAt ns (zs.getD i 0)).used && !hasB os (zs.getD i 0)) = true) : usedB ns zs os = true := all_yes h
theorem usedB_no {ns : List Nd} {zs os : List Int} {i : Nat} (hi : i < zs.length) (h : ((ndAt ns (zs.getD i 0)).used && !hasB os (zs.getD i 0)) = false) : usedB ns zs os = false := all_no hi h

end Go.Proofs.Ytcffoehldohooaa

/- OkS4 -/
namespace Go.Proofs.Ytcffoehldohooaa
open Go.RowKit
set_option linter.unusedVariables false

theorem fromTo_places (ns : List Nd) {p : Int} (h : inB p 9 = true) (k : Nat) : ∀ z ∈ fromTo ns p k, 1 ≤ z ∧ z ≤ 9 := by
  induction k with
  | zero => intro z hz; simp [fromTo] at hz
  | succ k ih =>
    intro z hz
    unfold fromTo at hz
    split at hz
    · exact ih z hz
    · rename_i h0
      rcases List.mem_append.1 hz with hz | hz
      · exact ih z hz
      · simp at hz
        have := stepK_bounds ns h k
        subst hz
        omega
theorem placesB_of {zs : List Int} (h : ∀ z ∈ zs, 1 ≤ z ∧ z ≤ 9) : placesB zs := by
  intro i hi
  have := h _ (List.getElem_mem hi)
  simpa [List.getD, hi] using this
theorem path_places {p : List Nd → Int → Int → Int → Int} {ns : List Nd} {t f l : Int} (hp : inB (p ns t f l) 9 = true) : placesB (pathOf p ns t f l) ∧ (pathOf p ns t f l).length ≤ 9 := by
  unfold pathOf
  split
  · exact ⟨placesB_of (fromTo_places ns hp 9), fromTo_len _ _ _⟩
  · exact ⟨fun i hi => by simp at hi, by simp⟩

/-- Keys rise along places. -/
def riseB (ns : List Nd) (zs : List Int) : Bool := (List.range (zs.length - 1)).all fun k => decide ((ndAt ns (zs.getD k 0)).key < (ndAt ns (zs.getD (k + 1) 0)).key)
theorem riseB_yes {ns : List Nd} {zs : List Int} (h : ∀ k, k < zs.length - 1 → (ndAt ns (zs.getD k 0)).key < (ndAt ns (zs.getD (k + 1) 0)).key) : riseB ns zs = true := by
  unfold riseB
  rw [List.all_eq_true]
  intro k hk
  exact decide_eq_true (h k (List.mem_range.1 hk))
theorem riseB_no {ns : List Nd} {zs : List Int} {k : Nat} (hk : k < zs.length - 1) (h : ¬ (ndAt ns (zs.getD k 0)).key < (ndAt ns (zs.getD (k + 1) 0)).key) : riseB ns zs = false := by
  unfold riseB
  rw [List.all_eq_false]
  exact ⟨k, List.mem_range.2 hk, by simpa using h⟩

/-- All are in use, none among others, and the last leads to none. -/
def endsB (ns : List Nd) (zs os : List Int) : Bool := usedB ns zs os && endB ns zs
/-- What ArnOk asks of three lists. -/
def okL3 (ns : List Nd) (l : Int) (C S Q : List Int) : Bool := endsB ns C [] && (endsB ns S C && (endsB ns Q (C ++ S) && (bareB ns S && (bareB ns Q && (lastB Q l && riseB ns C)))))
/-- Places are ok. -/
def okA (ns : List Nd) (t f l : Int) : Bool := shapeB ns t f l && okL3 ns l (pathOf begC ns t f l) (pathOf begS ns t f l) (pathOf begQ ns t f l)

/-- An append of numbers onto numbers of one's own, as one step of a region that draws. -/
theorem step_append_ints {ops : Array Oper} {o : Oper} {a : Act} {w : World} {K : Act → World → Prop} {Q : Exit → Act → World → Prop} {E : Prop}
    (hw : Region.wanted o (yielded ops a.tmps) = true) (s x : Operand) (hop : o.op = Op.call { callee := Callee.builtin Builtin.append, args := #[s, x], argTypes := #[35, 35] })
    (base : Nat) (aa : Option Addr) (n c : Nat) (ys : List Int) (hs : a.eval s = .slice aa n c) (hown : w.ownsRow base 3 1 (.slice aa n c) n (ys.map (Value.int .i64)))
    (ad : Option Addr) (m c2 : Nat) (zs : List Int) (hx : a.eval x = .slice ad m c2) (hz : SInts w ad m zs) (hn : n ≤ 1048576) (hm : m ≤ 1048576) (hbase : base ≤ w.heap.size)
    (hK : ∀ a' c' w', w'.ownsRow base 3 1 (.slice a' (n + m) c') (n + m) ((ys ++ zs).map (Value.int .i64)) → Below base w w' → K (a.put o.dst (.slice a' (n + m) c')) w') :
    if Region.wanted o (yielded ops a.tmps) = true then Oper.wp Try.prog o a w K Q else E := by
  obtain ⟨i0, hi, hz0, hz1, hz2⟩ := info_parts Try.info3
  rw [if_pos hw]
  unfold Oper.wp
  have hr : ∀ k, (Value.slice aa n c).ownBlock = some k → base ≤ k := by
    intro k hk
    exact (hown.lt k hk).1
  cases ad with
  | none =>
    obtain ⟨hl, h0 | ⟨b, off, e, _⟩⟩ := hz
    · subst h0
      have e : zs = [] := List.eq_nil_of_length_eq_zero hl
      subst e
      have hrun := run_append_none (P := Try.prog) w base 35 o.type 3 i0 1 Try.underlying35 hi (.slice aa n c) n c2 _ hown
      simp [execOp, hop, resolve, invoke, builtin, hs, hx, hrun, Result.andThen]
      have := hK aa c w (by simpa using hown) (Below.refl _ _)
      simp only [Nat.add_zero] at this
      exact this
    · cases e
  | some ad =>
    have hsrc := hz.src_take (f := m) (Nat.le_refl _)
    have hlen : zs.length = m := hz.1
    have hc : ∀ j u, (zs.map (Value.int .i64))[j]? = some u → w.cell? (ad.add j) = some u := by
      rcases hsrc with rfl | ⟨ad', e1, h⟩
      · intro j u hj
        rw [List.eq_nil_of_length_eq_zero hlen] at hj
        simp at hj
      · cases e1
        rw [List.take_of_length_le (by omega)] at h
        exact h
    obtain ⟨v', w', hrun, r1, r2, _⟩ := run_append_own (P := Try.prog) w base 35 o.type 3 i0 (.int .i64 0) 1 8 Try.underlying35 hi hz0 hz1 hz2 rfl (by decide) _ n _ hown ad m c2 (zs.map (Value.int .i64)) (by simp [hlen]) hc (ints_oneCell _ _) (by unfold maxLen; omega) (by omega) hbase
    simp [execOp, hop, resolve, invoke, builtin, hs, hx, hrun, Result.andThen]
    have r1' := r1
    rcases r1.2 with ⟨rfl, e⟩ | ⟨g, cap, cur, rfl, _⟩
    · rw [e] at r1' 
      have := hK none 0 w' (by rw [e]; simpa using r1') ((Below.refl _ _).grown r2 hbase hr)
      rw [e] at this
      exact this
    · exact hK (some ⟨g, 0, none⟩) cap w' (by simpa using r1) ((Below.refl _ _).grown r2 hbase hr)

end Go.Proofs.Ytcffoehldohooaa

/- OkS5 -/
namespace Go.Proofs.Ytcffoehldohooaa
open Go.RowKit
set_option linter.unusedVariables false
set_option linter.unusedSimpArgs false

theorem BoxA.cells {W : World} {g : Nat} {a : Option Addr} {n cap : Nat} {t f l : Int} (h : BoxA W g a n cap t f l) : W.cell? ⟨g, 0, none⟩ = some (.slice a n cap) ∧ W.cell? ⟨g, 1, none⟩ = some (.int .i64 t) ∧ W.cell? ⟨g, 2, none⟩ = some (.int .i64 f) ∧ W.cell? ⟨g, 3, none⟩ = some (.int .i64 l) := ⟨h.c0, h.c1, h.c2, h.c3⟩
theorem below_from {B g : Nat} {w w1 w2 : World} (h : Below B w w1) (k : Below g w1 w2) (hg : B ≤ g) : Below B w w2 :=
  h.trans (k.mono hg)

end Go.Proofs.Ytcffoehldohooaa

/- OkS6 -/
namespace Go.Proofs.Ytcffoehldohooaa
open Go.RowKit
set_option linter.unusedVariables false

end Go.Proofs.Ytcffoehldohooaa
