/- The specification's ArnOk: its model, and the appends of its test. -/
import Derived.Test.YtbefjhcokmmeoaaOkS3
import Derived.Test.YtbefjhcokmmeoaaAppend
import Derived.Test.YtbefjhcokmmeoaaMarks
namespace Go.Proofs.Ytbefjhcokmmeoaa
open Go.RowKit
set_option linter.unusedVariables false

theorem fromTo_places (ns : List Nd) {p : Int} (h : inB p 9 = true) (k : Nat) : ∀ z ∈ fromTo ns p k, 1 ≤ z ∧ z ≤ 9 := by
  induction k with
  | zero => intro z hz; simp [fromTo] at hz
  | succ k ih =>
    intro z hz
    unfold fromTo at hz
    split at hz
    · exact ih z hz
    · rename_i h0
      rcases List.mem_append.1 hz with hz | hz
      · exact ih z hz
      · simp at hz
        have := stepK_bounds ns h k
        subst hz
        omega
theorem placesB_of {zs : List Int} (h : ∀ z ∈ zs, 1 ≤ z ∧ z ≤ 9) : placesB zs := by
  intro i hi
  have := h _ (List.getElem_mem hi)
  simpa [List.getD, hi] using this
theorem path_places {p : List Nd → Int → Int → Int → Int} {ns : List Nd} {t f l : Int} (hp : inB (p ns t f l) 9 = true) : placesB (pathOf p ns t f l) ∧ (pathOf p ns t f l).length ≤ 9 := by
  unfold pathOf
  split
  · exact ⟨placesB_of (fromTo_places ns hp 9), fromTo_len _ _ _⟩
  · exact ⟨fun i hi => by simp at hi, by simp⟩

/-- Keys rise along places. -/
def riseB (ns : List Nd) (zs : List Int) : Bool := (List.range (zs.length - 1)).all fun k => decide ((ndAt ns (zs.getD k 0)).key < (ndAt ns (zs.getD (k + 1) 0)).key)
theorem riseB_yes {ns : List Nd} {zs : List Int} (h : ∀ k, k < zs.length - 1 → (ndAt ns (zs.getD k 0)).key < (ndAt ns (zs.getD (k + 1) 0)).key) : riseB ns zs = true := by
  unfold riseB
  rw [List.all_eq_true]
  intro k hk
  exact decide_eq_true (h k (List.mem_range.1 hk))
theorem riseB_no {ns : List Nd} {zs : List Int} {k : Nat} (hk : k < zs.length - 1) (h : ¬ (ndAt ns (zs.getD k 0)).key < (ndAt ns (zs.getD (k + 1) 0)).key) : riseB ns zs = false := by
  unfold riseB
  rw [List.all_eq_false]
  exact ⟨k, List.mem_range.2 hk, by simpa using h⟩

/-- All are in use, none among others, and the last leads to none. -/
def endsB (ns : List Nd) (zs os : List Int) : Bool := usedB ns zs os && endB ns zs
/-- What ArnOk asks of three lists. -/
def okL3 (ns : List Nd) (l : Int) (C S Q : List Int) : Bool := endsB ns C [] && (endsB ns S C && (endsB ns Q (C ++ S) && (bareB ns S && (bareB ns Q && (lastB Q l && riseB ns C)))))
/-- Places are ok. -/
def okA (ns : List Nd) (t f l : Int) : Bool := shapeB ns t f l && okL3 ns l (pathOf begC ns t f l) (pathOf begS ns t f l) (pathOf begQ ns t f l)

/-- An append of numbers onto numbers of one's own, as one step of a region that draws. -/
theorem step_append_ints {ops : Array Oper} {o : Oper} {a : Act} {w : World} {K : Act → World → Prop} {Q : Exit → Act → World → Prop} {E : Prop}
    (hw : Region.wanted o (yielded ops a.tmps) = true) (s x : Operand) (hop : o.op = Op.call { callee := Callee.builtin Builtin.append, args := #[s, x], argTypes := #[39, 39] })
    (base : Nat) (aa : Option Addr) (n c : Nat) (ys : List Int) (hs : a.eval s = .slice aa n c) (hown : w.ownsRow base 3 1 (.slice aa n c) n (ys.map (Value.int .i64)))
    (ad : Option Addr) (m c2 : Nat) (zs : List Int) (hx : a.eval x = .slice ad m c2) (hz : SInts w ad m zs) (hn : n ≤ 1048576) (hm : m ≤ 1048576) (hbase : base ≤ w.heap.size)
    (hK : ∀ a' c' w', w'.ownsRow base 3 1 (.slice a' (n + m) c') (n + m) ((ys ++ zs).map (Value.int .i64)) → Below base w w' → K (a.put o.dst (.slice a' (n + m) c')) w') :
    if Region.wanted o (yielded ops a.tmps) = true then Oper.wp Try.prog o a w K Q else E := by
  obtain ⟨i0, hi, hz0, hz1, hz2⟩ := info_parts Try.info3
  rw [if_pos hw]
  unfold Oper.wp
  have hr : ∀ k, (Value.slice aa n c).ownBlock = some k → base ≤ k := by
    intro k hk
    exact (hown.lt k hk).1
  cases ad with
  | none =>
    obtain ⟨hl, h0 | ⟨b, off, e, _⟩⟩ := hz
    · subst h0
      have e : zs = [] := List.eq_nil_of_length_eq_zero hl
      subst e
      have hrun := run_append_none (P := Try.prog) w base 39 o.type 3 i0 1 Try.underlying39 hi (.slice aa n c) n c2 _ hown
      simp [execOp, hop, resolve, invoke, builtin, hs, hx, hrun, Result.andThen]
      have := hK aa c w (by simpa using hown) (Below.refl _ _)
      simp only [Nat.add_zero] at this
      exact this
    · cases e
  | some ad =>
    have hsrc := hz.src_take (f := m) (Nat.le_refl _)
    have hlen : zs.length = m := hz.1
    have hc : ∀ j u, (zs.map (Value.int .i64))[j]? = some u → w.cell? (ad.add j) = some u := by
      rcases hsrc with rfl | ⟨ad', e1, h⟩
      · intro j u hj
        rw [List.eq_nil_of_length_eq_zero hlen] at hj
        simp at hj
      · cases e1
        rw [List.take_of_length_le (by omega)] at h
        exact h
    obtain ⟨v', w', hrun, r1, r2, _⟩ := run_append_own (P := Try.prog) w base 39 o.type 3 i0 (.int .i64 0) 1 8 Try.underlying39 hi hz0 hz1 hz2 rfl (by decide) _ n _ hown ad m c2 (zs.map (Value.int .i64)) (by simp [hlen]) hc (ints_oneCell _ _) (by unfold maxLen; omega) (by omega) hbase
    simp [execOp, hop, resolve, invoke, builtin, hs, hx, hrun, Result.andThen]
    have r1' := r1
    rcases r1.2 with ⟨rfl, e⟩ | ⟨g, cap, cur, rfl, _⟩
    · rw [e] at r1' 
      have := hK none 0 w' (by rw [e]; simpa using r1') ((Below.refl _ _).grown r2 hbase hr)
      rw [e] at this
      exact this
    · exact hK (some ⟨g, 0, none⟩) cap w' (by simpa using r1) ((Below.refl _ _).grown r2 hbase hr)

end Go.Proofs.Ytbefjhcokmmeoaa
