/- Several texts in one: RegLate, LinZ, LinW, LMap, LMap2, LMap3. -/
import Derived.Test.YtklpdpdjblakgaaDoorGr3
import Derived.Test.YtklpdpdjblakgaaDoorGr7
import Derived.Deep.RegionHeld
import Derived.Test.YtklpdpdjblakgaaDoorGr1
import Derived.Test.YtklpdpdjblakgaaDoorGr5
/- RegLate -/
namespace Go.Proofs.YtklpdpdjblakgaaDoor
set_option linter.unusedVariables false

section
variable {P : Program} {ops : Array Oper} {Q : Exit → Act → World → Prop} {md : Region.Mode}

/-- The first m: no guard, each waits for earlier ones alone; all others wait for all of these but x. -/
def frontOkX (md : Region.Mode) (m x : Nat) (ops : Array Oper) : Bool :=
  (List.range ops.size).all fun i => match ops[i]? with
    | none => true
    | some o => if i < m then o.guard.isNone && o.after.toList.all (fun e => !(Region.binds md e) || decide (e.on < i)) else (List.range m).all (fun j => j == x || o.after.toList.any (fun e => e.on == j && Region.binds md e))
theorem frontOkX_near {m x : Nat} (h : frontOkX md m x ops = true) {i : Nat} {o : Oper} (ho : ops[i]? = some o) (hi : i < m) : o.guard = none ∧ ∀ e ∈ o.after, Region.binds md e = true → e.on < i := by
  have := List.all_eq_true.1 h i (List.mem_range.2 (Array.getElem?_eq_some_iff.1 ho).1)
  rw [ho] at this
  simp only [hi, if_true, Bool.and_eq_true, Option.isNone_iff_eq_none, List.all_eq_true, Bool.or_eq_true, Bool.not_eq_true', decide_eq_true_eq] at this
  exact ⟨this.1, fun e he hb => (this.2 e (by simpa using he)).resolve_left (by simp [hb])⟩
theorem frontOkX_far {m x : Nat} (h : frontOkX md m x ops = true) {i : Nat} {o : Oper} (ho : ops[i]? = some o) (hi : ¬ i < m) {j : Nat} (hj : j < m) (hx : j ≠ x) : ∃ e ∈ o.after, e.on = j ∧ Region.binds md e = true := by
  have := List.all_eq_true.1 h i (List.mem_range.2 (Array.getElem?_eq_some_iff.1 ho).1)
  rw [ho] at this
  simp only [hi, if_false, List.all_eq_true, List.any_eq_true, Bool.or_eq_true, Bool.and_eq_true, beq_iff_eq] at this
  rcases this j (List.mem_range.2 hj) with h0 | ⟨e, he, h1, h2⟩
  · exact absurd h0 hx
  · exact ⟨e, by simpa using he, h1, h2⟩

theorem wpAny_frontX {x : Nat} {a0 : Act} {m : Nat} {I : Nat → World → Prop} {V : Nat → Value → World → Prop} {T : World → World → Prop}
    (hxm : x < m) (hm : m ≤ ops.size) (hf : frontOkX md m x ops = true) (hd : dstsOk a0.tmps.size ops.toList = true) (hT : ∀ i v w w', V i v w → T w w' → V i v w')
    (hop : ∀ (i : Nat) (o : Oper) (f : Nat) (a : Act) (w : World), i < m → ops[i]? = some o → I (f + 1) w →
      (∀ e ∈ o.after, Region.binds md e = true → ∀ oj, ops[e.on]? = some oj → ∃ v, V e.on v w ∧ ∀ d, oj.dst = some d → a.eval (.tmp d) = v) →
      (∀ d, (∀ oj ∈ ops.toList, oj.dst ≠ some d) → a.eval (.tmp d) = a0.eval (.tmp d)) → Oper.wp P o a w (fun a' w' => ∃ v, a' = a.put o.dst v ∧ V i v w' ∧ I f w' ∧ T w w') Q)
    (hend : ∀ (vs : Nat → Option Value) (w : World), (∀ i, i < m → ∃ v, vs i = some v ∧ V i v w) → (∀ i, m ≤ i → vs i = none) → I 0 w →
      wpAny P md ops Q (ops.size - m) ((List.replicate m true ++ List.replicate (ops.size - m) false).toArray) (putsF vs 0 ops.toList a0) w)
    (hend2 : ∀ (vs : Nat → Option Value) (w : World), (∀ i, i < m → i ≠ x → ∃ v, vs i = some v ∧ V i v w) → vs x = none → (∀ i, m ≤ i → vs i = none) → I 1 w →
      wpAny P md ops Q (1 + (ops.size - m)) (((List.range ops.size).map (fun i => decide (i < m) && !(i == x))).toArray) (putsF vs 0 ops.toList a0) w) :
    ∀ (r : Nat) (vs : Nat → Option Value) (listed : Array Bool) (w : World), leftF vs m = r → listed.size = ops.size → (∀ i, i < ops.size → listed[i]? = some (vs i).isSome) → (∀ i v, vs i = some v → V i v w) → (∀ i, m ≤ i → vs i = none) → I r w →
      wpAny P md ops Q (r + (ops.size - m)) listed (putsF vs 0 ops.toList a0) w := by
  intro r
  induction r with
  | zero =>
    intro vs listed w hr hsz hl hV hlate hI
    have hall := leftF_zero m hr
    have el : listed = (List.replicate m true ++ List.replicate (ops.size - m) false).toArray := by
      refine Array.ext_getElem? (fun i => ?_)
      by_cases hi : i < ops.size
      · rw [hl i hi]
        rw [List.getElem?_toArray]
        by_cases him : i < m
        · rw [hall i him, List.getElem?_append_left (by simp; exact him), List.getElem?_replicate, if_pos him]
        · rw [hlate i (by omega), List.getElem?_append_right (by simp; omega), List.getElem?_replicate, if_pos (by simp; omega)]
          rfl
      · rw [Array.getElem?_eq_none (by omega), Array.getElem?_eq_none (by simp; omega)]
    rw [el, Nat.zero_add]
    refine hend vs w (fun i hi => ?_) hlate hI
    cases hv : vs i with
    | none => have := hall i hi; rw [hv] at this; simp at this
    | some v => exact ⟨v, rfl, hV i v hv⟩
  | succ r ih =>
    intro vs listed w hr hsz hl hV hlate hI
    have hg : ∀ i, i < ops.size → ∀ b, listed.getD i b = (vs i).isSome := fun i hi b => by simp [Array.getD_eq_getD_getElem?, hl i hi]
    have hup : ∀ i b, ¬ i < ops.size → listed.getD i b = b := fun i b hi => by simp [Array.getD_eq_getD_getElem?, Array.getElem?_eq_none (show listed.size ≤ i by omega)]
    by_cases hx : ∀ j, j < m → j ≠ x → (vs j).isSome = true
    · have hn : vs x = none := by
        cases hv : vs x with
        | none => rfl
        | some v =>
          exfalso
          have := leftF_some (vs := vs) m (fun j hj => by
            by_cases e : j = x
            · subst e; rw [hv]; rfl
            · exact hx j hj e)
          omega
      have hr0 : r = 0 := by
        have h1 := leftF_upd (v := undef) hn m
        rw [if_pos hxm] at h1
        have h2 : leftF (updF vs x undef) m = 0 := leftF_some m (fun j hj => by
          by_cases e : j = x
          · subst e; rw [updF_same]; rfl
          · rw [updF_other vs undef e]; exact hx j hj e)
        omega
      subst hr0
      have el : listed = ((List.range ops.size).map (fun i => decide (i < m) && !(i == x))).toArray := by
        refine Array.ext_getElem? (fun i => ?_)
        by_cases hi : i < ops.size
        · rw [hl i hi, List.getElem?_toArray, List.getElem?_map, List.getElem?_range hi]
          simp only [Option.map_some]
          by_cases him : i < m
          · by_cases e : i = x
            · subst e; rw [hn]; simp
            · rw [hx i him e]; simp [him, e]
          · rw [hlate i (by omega)]; simp [him]
        · rw [Array.getElem?_eq_none (by omega), Array.getElem?_eq_none (by simp; omega)]
      rw [el, show 0 + 1 + (ops.size - m) = 1 + (ops.size - m) by omega]
      refine hend2 vs w (fun i hi hix => ?_) hn hlate hI
      cases hv : vs i with
      | none => have := hx i hi hix; rw [hv] at this; simp at this
      | some v => exact ⟨v, rfl, hV i v hv⟩
    rw [show r + 1 + (ops.size - m) = (r + (ops.size - m)) + 1 by omega]
    refine ⟨fun h0 => ?_, fun i hi => ?_⟩
    · exfalso
      obtain ⟨i, him, hn, hj⟩ := leftF_first (vs := vs) m (by omega)
      have hlt : i < ops.size := by omega
      have hmem : i ∈ Region.ready md ops listed := by
        refine mem_ready.2 ⟨by rw [hg i hlt, hn]; rfl, ops[i], Array.getElem?_eq_getElem hlt, fun e he hb => ?_⟩
        have hlt2 := (frontOkX_near hf (Array.getElem?_eq_getElem hlt) him).2 e he hb
        rw [hg e.on (by omega)]
        exact hj e.on hlt2
      rw [h0] at hmem
      cases hmem
    · obtain ⟨hun, o, ho, hall⟩ := mem_ready.1 hi
      have hlt : i < ops.size := (Array.getElem?_eq_some_iff.1 ho).1
      have hn : vs i = none := by
        rw [hg i hlt] at hun
        cases hv : vs i with
        | none => rfl
        | some v => rw [hv] at hun; simp at hun
      have him : i < m := by
        refine Decidable.byContradiction fun hnm => ?_
        exact hx (fun j hj hjx => by
          obtain ⟨e, he, rfl, hb⟩ := frontOkX_far hf ho hnm hj hjx
          have := hall e he hb
          rwa [hg e.on (by omega)] at this)
      have hne : ∀ (k : Nat) (o' : Oper), ops.toList[k]? = some o' → k ≠ i → ∀ d, o.dst = some d → o'.dst ≠ some d := fun k o' hk hki d hdd hdk => by
        have ho' : ops.toList[i]? = some o := by rw [Array.getElem?_toList]; exact ho
        rcases Nat.lt_or_gt_of_ne hki with h | h
        · exact dstsOk_ne hd k i o' o d hk ho' h hdk hdd
        · exact dstsOk_ne hd i k o o' d ho' hk h hdd hdk
      have hstep := hop i o r (putsF vs 0 ops.toList a0) w him ho hI (fun e he hb oj hoj => ?_) (fun d hdd => putsF_other _ 0 a0 hdd)
      · have hlu := leftF_upd (v := undef) hn m
        rw [if_pos him] at hlu
        have go : ∀ a' w', (∃ v, a' = (putsF vs 0 ops.toList a0).put o.dst v ∧ V i v w' ∧ I r w' ∧ T w w') → wpAny P md ops Q (r + (ops.size - m)) (listed.setIfInBounds i true) a' w' := by
          rintro a' w' ⟨v, rfl, hv, hI', hTw⟩
          have e := putsF_upd (vs := vs) (v := v) ops.toList 0 i o a0 (by rw [Array.getElem?_toList]; exact ho) (by rw [Nat.zero_add]; exact hn) hne
          rw [Nat.zero_add] at e
          rw [← e]
          refine ih (updF vs i v) _ w' ?_ (by simp [hsz]) (fun j hj => ?_) (fun j u hu => ?_) (fun j hj => ?_) hI'
          · have := leftF_upd (v := v) hn m
            rw [if_pos him] at this
            omega
          · by_cases hji : j = i
            · subst hji
              rw [updF_same, Array.getElem?_setIfInBounds_self_of_lt (by omega)]
              rfl
            · rw [updF_other vs v hji, Array.getElem?_setIfInBounds_ne (by omega)]
              exact hl j hj
          · by_cases hji : j = i
            · subst hji
              rw [updF_same] at hu
              cases hu
              exact hv
            · rw [updF_other vs v hji] at hu
              exact hT j u w w' (hV j u hu) hTw
          · rw [updF_other vs v (by omega)]
            exact hlate j hj
        have hw : wpOp P ops Q i (fun a' w' => ∃ v, a' = (putsF vs 0 ops.toList a0).put o.dst v ∧ V i v w' ∧ I r w' ∧ T w w') (putsF vs 0 ops.toList a0) w := by
          unfold wpOp
          rw [ho]
          simp only [wanted_plain (frontOkX_near hf ho him).1, if_true]
          exact .inl hstep
        exact wpOp_mono go hw
      · have hlt2 : e.on < ops.size := (Array.getElem?_eq_some_iff.1 hoj).1
        have hs := hall e he hb
        rw [hg e.on hlt2] at hs
        cases hv : vs e.on with
        | none => rw [hv] at hs; simp at hs
        | some v =>
          refine ⟨v, hV e.on v hv, fun d hdd => ?_⟩
          have hoj' : ops.toList[e.on]? = some oj := by rw [Array.getElem?_toList]; exact hoj
          exact putsF_at ops.toList 0 e.on oj a0 hoj' hdd (by rw [Nat.zero_add]; exact hv) (dstsOk_lt hd e.on oj d hoj' hdd) (fun k o' hk hkj hdk => by
            rcases Nat.lt_or_gt_of_ne hkj with h | h
            · exact dstsOk_ne hd k e.on o' oj d hk hoj' h hdk hdd
            · exact dstsOk_ne hd e.on k oj o' d hoj' hk h hdd hdk)

theorem region_invX {x : Nat} {a0 : Act} {m id : Nat} {I : Nat → World → Prop} {V : Nat → Value → World → Prop} {T : World → World → Prop} {w : World} (hmo : P.follows .mixedOrders = true)
    (hxm : x < m) (hm : m ≤ ops.size) (hf : frontOkX .any m x ops = true) (hd : dstsOk a0.tmps.size ops.toList = true) (hT : ∀ i v w w', V i v w → T w w' → V i v w') (hI : I m w.drew)
    (hop : ∀ (i : Nat) (o : Oper) (f : Nat) (a : Act) (w : World), i < m → ops[i]? = some o → I (f + 1) w →
      (∀ e ∈ o.after, Region.binds .any e = true → ∀ oj, ops[e.on]? = some oj → ∃ v, V e.on v w ∧ ∀ d, oj.dst = some d → a.eval (.tmp d) = v) →
      (∀ d, (∀ oj ∈ ops.toList, oj.dst ≠ some d) → a.eval (.tmp d) = a0.eval (.tmp d)) → Oper.wp P o a w (fun a' w' => ∃ v, a' = a.put o.dst v ∧ V i v w' ∧ I f w' ∧ T w w') Q)
    (hend : ∀ (vs : Nat → Option Value) (w : World), (∀ i, i < m → ∃ v, vs i = some v ∧ V i v w) → (∀ i, m ≤ i → vs i = none) → I 0 w →
      wpAny P .any ops Q (ops.size - m) ((List.replicate m true ++ List.replicate (ops.size - m) false).toArray) (putsF vs 0 ops.toList a0) w)
    (hend2 : ∀ (vs : Nat → Option Value) (w : World), (∀ i, i < m → i ≠ x → ∃ v, vs i = some v ∧ V i v w) → vs x = none → (∀ i, m ≤ i → vs i = none) → I 1 w →
      wpAny P .any ops Q (1 + (ops.size - m)) (((List.range ops.size).map (fun i => decide (i < m) && !(i == x))).toArray) (putsF vs 0 ops.toList a0) w) :
    (Code.region id ops true).wp P Q a0 w := by
  have none_left : ∀ k, leftF (fun _ => none) k = k := fun k => by
    induction k with
    | zero => rfl
    | succ k ih => unfold leftF; rw [ih]; rfl
  have none_put : ∀ (os : List Oper) (n : Nat), putsF (fun _ => none) n os a0 = a0 := fun os => by
    induction os with
    | nil => intro n; rfl
    | cons o os ih => intro n; exact ih (n + 1)
  have := wpAny_frontX (P := P) (Q := Q) hxm hm hf hd hT hop hend hend2 m (fun _ => none) (Array.replicate ops.size false) w.drew (none_left m) (by simp) (fun i hi => by simp [hi]) (fun i v h => by cases h) (fun _ _ => rfl) hI
  rw [none_put, show m + (ops.size - m) = ops.size by omega] at this
  exact wp_region_any hmo this


/-- What an operation has left is what its place holds. -/
theorem putsF_eval {a0 : Act} {vs : Nat → Option Value} (hd : dstsOk a0.tmps.size ops.toList = true) {i : Nat} {o : Oper} {t : Tmp} {v : Value} (ho : ops[i]? = some o) (ht : o.dst = some t) (hv : vs i = some v) : (putsF vs 0 ops.toList a0).eval (.tmp t) = v := by
  have ho' : ops.toList[i]? = some o := by rw [Array.getElem?_toList]; exact ho
  exact putsF_at ops.toList 0 i o a0 ho' ht (by rw [Nat.zero_add]; exact hv) (dstsOk_lt hd i o t ho' ht) (fun k o' hk hkj hdk => by
    rcases Nat.lt_or_gt_of_ne hkj with h | h
    · exact dstsOk_ne hd k i o' o t hk ho' h hdk ht
    · exact dstsOk_ne hd i k o o' t ho' hk h ht hdk)
/-- One more, behind the others. -/
theorem putsF_one {a0 : Act} {vs : Nat → Option Value} (hd : dstsOk a0.tmps.size ops.toList = true) {i : Nat} {o : Oper} {v : Value} (ho : ops[i]? = some o) (hv : vs i = none) : putsF (updF vs i v) 0 ops.toList a0 = (putsF vs 0 ops.toList a0).put o.dst v := by
  have ho' : ops.toList[i]? = some o := by rw [Array.getElem?_toList]; exact ho
  have e := putsF_upd (vs := vs) (v := v) ops.toList 0 i o a0 ho' (by rw [Nat.zero_add]; exact hv) (fun k o' hk hki d hdd hdk => by
    rcases Nat.lt_or_gt_of_ne hki with h | h
    · exact dstsOk_ne hd k i o' o d hk ho' h hdk hdd
    · exact dstsOk_ne hd i k o o' d ho' hk h hdd hdk)
  rwa [Nat.zero_add] at e

end

end Go.Proofs.YtklpdpdjblakgaaDoor

/- LinZ -/
namespace Go.Proofs.YtklpdpdjblakgaaDoor
open Go.RowKit
set_option linter.unusedVariables false

section
variable {W W' : World} {B g g' lo hi : Nat} {u : SV} {D : LD} {C V : Int}
theorem ResAt.below (h : ResAt B g g' lo hi u D C V W) (hb : Below W.heap.size W W') : ResAt B g g' lo hi u D C V W' :=
  ⟨h.st.below h.ih hb, h.il, Nat.le_trans h.ih hb.size, h.ll, (hb.block g (lt_of_some h.ig)).trans h.ig, (hb.block g' (lt_of_some h.ir)).trans h.ir, h.bg, h.br⟩
theorem ResAt.turn (h : ResAt B g g' lo hi u D C V W) {P : Nat → Prop} (ht : TurnP P W W') (hP : ∀ k, P k → (k < lo ∨ hi ≤ k) ∧ k ≠ g ∧ k ≠ g') : ResAt B g g' lo hi u D C V W' :=
  ⟨h.st.turn h.ih ht (fun k hk => (hP k hk).1), h.il, Nat.le_trans h.ih ht.size, h.ll, (ht.block g (lt_of_some h.ig) (fun hk => (hP g hk).2.1 rfl)).trans h.ig, (ht.block g' (lt_of_some h.ir) (fun hk => (hP g' hk).2.2 rfl)).trans h.ir, h.bg, h.br⟩
/-- Its own lists have been written. -/
structure MarkAt (g g' lo hi : Nat) (u : SV) (D : LD) (C V : Int) (W : World) : Prop where
  st : St lo hi u (markD D) W
  ih : hi ≤ W.heap.size
  ig : W.heap[g]? = some (.cells #[u.m D, u.s D, u.q D] 35)
  ir : W.heap[g']? = some (.cells #[.int .i64 C, .int .i64 V] 37)
theorem ResAt.mark (h : ResAt B g g' lo hi u D C V W) (hs : St lo hi u (markD D) W') (ht : TurnP (Own u D) W W') : MarkAt g g' lo hi u D C V W' :=
  ⟨hs, Nat.le_trans h.ih ht.size, (ht.block g (lt_of_some h.ig) (fun hk => by have := h.st.typed hk h.ig; revert this; decide)).trans h.ig, (ht.block g' (lt_of_some h.ir) (fun hk => by have := h.st.typed hk h.ir; revert this; decide)).trans h.ir⟩
theorem MarkAt.below (h : MarkAt g g' lo hi u D C V W) (hb : Below W.heap.size W W') : MarkAt g g' lo hi u D C V W' :=
  ⟨h.st.below h.ih hb, Nat.le_trans h.ih hb.size, (hb.block g (lt_of_some h.ig)).trans h.ig, (hb.block g' (lt_of_some h.ir)).trans h.ir⟩
end
/-- Boxes below a world's end, and what was there. -/
structure GX (w W : World) (l : List (Nat × Array Value × TypeId)) : Prop where
  bel : Below w.heap.size w W
  bx : ∀ p ∈ l, W.heap[p.1]? = some (.cells p.2.1 p.2.2)
theorem GX.below {w W W' : World} {l : List (Nat × Array Value × TypeId)} (h : GX w W l) (hb : Below W.heap.size W W') : GX w W' l :=
  ⟨below_trans' h.bel hb, fun p hp => (hb.block p.1 (lt_of_some (h.bx p hp))).trans (h.bx p hp)⟩
theorem GX.turn {w W W' : World} {l : List (Nat × Array Value × TypeId)} (h : GX w W l) {P : Nat → Prop} (ht : TurnP P W W') (hw : ∀ k, P k → w.heap.size ≤ k) (hl : ∀ p ∈ l, ¬ P p.1) : GX w W' l :=
  ⟨h.bel.trans (ht.below hw h.bel.size), fun p hp => (ht.block p.1 (lt_of_some (h.bx p hp)) (hl p hp)).trans (h.bx p hp)⟩
theorem GX.add {w W : World} {l : List (Nat × Array Value × TypeId)} (h : GX w W l) (cs : Array Value) (t : TypeId) {b : Nat} (hb : b = W.heap.size) : GX w (W.alloc (.cells cs t)) ((b, cs, t) :: l) := by
  have A := al1 W (.cells cs t)
  refine ⟨below_trans' h.bel A, fun p hp => ?_⟩
  rcases List.mem_cons.1 hp with rfl | hp
  · subst hb
    exact heap_alloc_new W (.cells cs t)
  · exact (h.below A).bx p hp
theorem GX.start (w : World) : GX w w [] := ⟨Below.refl _ _, fun p hp => (by cases hp)⟩
/-- Where the marks of a state's own lists fall. -/
theorem GX.markX {w W W' : World} {ux : SV} {d D : LD} {lo hi b2 : Nat} {c1 c2 c3 : Array Value} {t1 t2 t3 : TypeId} (h : GX w W [(b2, c1, t1), (w.heap.size + 1, c2, t2), (w.heap.size, c3, t3)]) (hx : St lo hi ux D W) (ht : TurnP (Own ux d) W W') (ho : ∀ k, Own ux d k → lo ≤ k ∧ k < hi) (h1 : w.heap.size + 1 < lo) (h2 : hi ≤ b2 ∨ b2 < lo) : GX w W' [(b2, c1, t1), (w.heap.size + 1, c2, t2), (w.heap.size, c3, t3)] := by
  refine h.turn ht (fun k hk => by have := ho k hk; omega) (fun p hp hk => ?_)
  have := ho p.1 hk
  simp only [List.mem_cons, List.not_mem_nil, or_false] at hp
  rcases hp with rfl | rfl | rfl
  · exact absurd this (by simp only; omega)
  · exact absurd this (by simp only; omega)
  · exact absurd this (by simp only; omega)

end Go.Proofs.YtklpdpdjblakgaaDoor

/- LinW -/
namespace Go.Proofs.YtklpdpdjblakgaaDoor
open Go.RowKit
set_option linter.unusedVariables false

section
variable {A : Act} {W : World} {K : Act → World → Prop} {Q : Exit → Act → World → Prop} {a b g : Nat} {p : String} {af : Array Edge} {u : SV} {D : LD} {C V : Int} {x y z : Value}
theorem store_ls (h1 : A.eval (.tmp a) = .pointer (some ⟨g, 0, none⟩)) (h2 : A.eval (.tmp b) = stV u D) (hb : B3 W g x y z) (hK : K A (((W.setCell ⟨g, 0, none⟩ (u.m D)).setCell ⟨g, 1, none⟩ (u.s D)).setCell ⟨g, 2, none⟩ (u.q D))) :
    Oper.wp Tryd.prog { dst := none, op := Op.store 35 (Operand.tmp a) (Operand.tmp b), type := 0, pos := p, after := af, guard := none } A W K Q := by
  have e1 := eval_tmp h1
  have e2 := eval_tmp h2
  obtain ⟨c0, c1, c2⟩ := hb.cells
  obtain ⟨f0, f1, f2⟩ := hb.frees
  go_simp
  exact hK
theorem store_rr (h1 : A.eval (.tmp a) = .pointer (some ⟨g, 0, none⟩)) (h2 : A.eval (.tmp b) = .agg #[.int .i64 C, .int .i64 V]) (hb : B2 W g x y) (hK : K A ((W.setCell ⟨g, 0, none⟩ (.int .i64 C)).setCell ⟨g, 1, none⟩ (.int .i64 V))) :
    Oper.wp Tryd.prog { dst := none, op := Op.store 37 (Operand.tmp a) (Operand.tmp b), type := 0, pos := p, after := af, guard := none } A W K Q := by
  have e1 := eval_tmp h1
  have e2 := eval_tmp h2
  have c0 := hb.c0
  have c1 := hb.c1
  have f0 := hb.f 0
  have f1 := hb.f 1
  go_simp
  exact hK
theorem extract_1 {t : Nat} (h1 : A.eval (.tmp a) = .tuple #[stV u D, .agg #[.int .i64 C, .int .i64 V]]) (hK : K (A.put (some t) (.agg #[.int .i64 C, .int .i64 V])) W) :
    Oper.wp Tryd.prog { dst := some t, op := Op.extract (Operand.tmp a) 1, type := 37, pos := p, after := af, guard := none } A W K Q := by
  have e1 := eval_tmp h1
  go_simp
  exact hK
theorem box_far {g' : Nat} {o : Obj} (h : W.heap[g']? = some o) (n : g' ≠ g) : (((W.setCell ⟨g, 0, none⟩ x).setCell ⟨g, 1, none⟩ y).setCell ⟨g, 2, none⟩ z).heap[g']? = some o :=
  (Below.heap_setCell _ ⟨g, 2, none⟩ z g' n).trans ((Below.heap_setCell _ ⟨g, 1, none⟩ y g' n).trans ((Below.heap_setCell _ ⟨g, 0, none⟩ x g' n).trans h))
end
/-- What a region leaves: the answers in their boxes. -/
def LateEnd (m i8 i9 : Nat) (D : LD) (C V : Int) (AP : SV → Prop) (wb : World) (vs : Nat → Option Value) (W' : World) : Prop :=
  (∀ i, i < m → ∃ z, vs i = some z) ∧ (∀ i, m ≤ i → vs i = none) ∧ ∃ u lo hi g g', vs i8 = some (.pointer (some ⟨g, 0, none⟩)) ∧ vs i9 = some (.pointer (some ⟨g', 0, none⟩)) ∧ ResAt wb.heap.size g g' lo hi u D C V W' ∧ Below wb.heap.size wb W' ∧ AP u

set_option maxRecDepth 20000 in
set_option maxHeartbeats 1000000 in
theorem tailL5 {a0 : Act} {Q : Exit → Act → World → Prop} {vs : Nat → Option Value} {W : World} {listed : Array Bool} {u : SV} {D : LD} {C V : Int} {g g' : Nat} {x y z p q : Value} (hd : dstsOk a0.tmps.size opsL5.toList = true)
    (e6 : vs 6 = some (stV u D)) (e7 : vs 7 = some (.agg #[.int .i64 C, .int .i64 V])) (e8 : vs 8 = some (.pointer (some ⟨g, 0, none⟩))) (e9 : vs 9 = some (.pointer (some ⟨g', 0, none⟩)))
    (hg : B3 W g x y z) (hg' : W.heap[g']? = some (.cells #[p, q] 37)) (n : g' ≠ g) (h1 : Region.ready .any opsL5 listed = [10]) (h2 : Region.ready .any opsL5 (listed.setIfInBounds 10 true) = [11]) (h3 : Region.ready .any opsL5 ((listed.setIfInBounds 10 true).setIfInBounds 11 true) = [])
    (hQ : Q .normal (putsF vs 0 opsL5.toList a0) (((((W.setCell ⟨g, 0, none⟩ (u.m D)).setCell ⟨g, 1, none⟩ (u.s D)).setCell ⟨g, 2, none⟩ (u.q D)).setCell ⟨g', 0, none⟩ (.int .i64 C)).setCell ⟨g', 1, none⟩ (.int .i64 V))) :
    wpAny Tryd.prog .any opsL5 Q 2 listed (putsF vs 0 opsL5.toList a0) W := by
  have E6 := putsF_eval (t := 6) hd (i := 8) (o := ({ dst := some 6, op := Op.alloc 35, type := 0, pos := "exact.go:3047", after := #[], guard := none } : Oper)) rfl rfl e8
  have E27 := putsF_eval (t := 27) hd (i := 6) (o := ({ dst := some 27, op := Op.extract (Operand.tmp 21) 0, type := 35, pos := "exact.go:3047", after := #[{ on := 5, ground := Ground.data }], guard := none } : Oper)) rfl rfl e6
  have E7 := putsF_eval (t := 7) hd (i := 9) (o := ({ dst := some 7, op := Op.alloc 37, type := 0, pos := "exact.go:3047", after := #[], guard := none } : Oper)) rfl rfl e9
  have E28 := putsF_eval (t := 28) hd (i := 7) (o := ({ dst := some 28, op := Op.extract (Operand.tmp 21) 1, type := 37, pos := "exact.go:3047", after := #[{ on := 5, ground := Ground.data }, { on := 10, ground := Ground.gcOnly Departure.lateStores }], guard := none } : Oper)) rfl rfl e7
  refine wpAny_ready (rs := [10]) h1 (by simp) ?_
  refine AllReady.cons (o := ({ dst := none, op := Op.store 35 (Operand.tmp 6) (Operand.tmp 27), type := 0, pos := "exact.go:3047", after := #[{ on := 8, ground := Ground.data }, { on := 6, ground := Ground.data }, { on := 4, ground := Ground.chain }, { on := 0, ground := Ground.phase }, { on := 1, ground := Ground.phase }, { on := 2, ground := Ground.phase }, { on := 3, ground := Ground.phase }, { on := 4, ground := Ground.phase }, { on := 5, ground := Ground.phase }, { on := 6, ground := Ground.phase }, { on := 7, ground := Ground.textOnly Departure.lateStores }, { on := 8, ground := Ground.phase }, { on := 9, ground := Ground.phase }], guard := none } : Oper)) rfl ?_ AllReady.nil
  intro K' hK'
  rw [if_pos (by simp [Region.wanted])]
  refine store_ls E6 E27 hg (hK' _ _ ?_)
  clear hK' K'
  refine wpAny_ready (rs := [11]) h2 (by simp) ?_
  refine AllReady.cons (o := ({ dst := none, op := Op.store 37 (Operand.tmp 7) (Operand.tmp 28), type := 0, pos := "exact.go:3047", after := #[{ on := 9, ground := Ground.data }, { on := 7, ground := Ground.data }, { on := 10, ground := Ground.chain }, { on := 0, ground := Ground.phase }, { on := 1, ground := Ground.phase }, { on := 2, ground := Ground.phase }, { on := 3, ground := Ground.phase }, { on := 4, ground := Ground.phase }, { on := 5, ground := Ground.phase }, { on := 6, ground := Ground.phase }, { on := 7, ground := Ground.phase }, { on := 8, ground := Ground.phase }, { on := 9, ground := Ground.phase }, { on := 10, ground := Ground.phase }], guard := none } : Oper)) rfl ?_ AllReady.nil
  intro K' hK'
  rw [if_pos (by simp [Region.wanted])]
  refine store_rr E7 E28 (cell_of2 (box_far hg' n)) (hK' _ _ ?_)
  exact ⟨h3, hQ⟩

set_option maxRecDepth 20000 in
set_option maxHeartbeats 2000000 in
theorem regL5 {A G0 : Nat} {v : SV} {d D : LD} {k x y C V : Int} {AP : SV → Prop} {wb : World} {a0 : Act} {Q : Exit → Act → World → Prop} {id : Nat} (hbx : B3 wb G0 (v.m d) (v.s d) (v.q d)) (hbo : B3 wb A (.int .i64 k) (.int .i64 x) (.int .i64 y)) (hss : SS wb v d) (HX : Hid True) (hfe : Few d)
    (HC : Hid (∀ W v', SS W v' d → Room v' d → Somes v' → Below wb.heap.size wb W → Calls Tryd.prog 9 #[stV v' d, .agg #[.int .i64 k, .int .i64 x, .int .i64 y]] W fun e w' => ∃ u, e = .returned (.tuple #[stV u D, .agg #[.int .i64 C, .int .i64 V]]) ∧ St W.heap.size w'.heap.size u D w' ∧ AP u ∧ Below W.heap.size W w'))
    (e1 : a0.eval (.tmp 2) = .pointer (some ⟨G0, 0, none⟩)) (e2 : a0.eval (.tmp 3) = .pointer (some ⟨A, 0, none⟩)) (hd : dstsOk a0.tmps.size opsL5.toList = true)
    (hfin : ∀ vs W', LateEnd 10 8 9 D C V AP wb vs W' → Q .normal (putsF vs 0 opsL5.toList a0) W') : (Code.region id opsL5 true).wp Tryd.prog Q a0 wb := by
  refine region_invX (x := 7) (ops := opsL5) (m := 10) (I := fun f W => Below wb.heap.size wb W) (V := VA wb.heap.size v d k x y D C V AP) (T := fun W W' => Below W.heap.size W W') (by kernel_rfl) (by decide) (by decide) (by kernel_rfl) hd VA_keep (Below.refl _ _).drew (hopL5 hbx hbo hss HX hfe (Nat.le_refl _) HC e1 e2) ?_ ?_
  · intro vs W hv hn hI'
    have hI : Below wb.heap.size wb W := hI'
    obtain ⟨z6, e6, h6⟩ := hv 6 (by omega)
    obtain ⟨z7, e7, h7⟩ := hv 7 (by omega)
    obtain ⟨z8, e8, h8⟩ := hv 8 (by omega)
    obtain ⟨z9, e9, h9⟩ := hv 9 (by omega)
    obtain ⟨u, lo, hi, rfl, hst, hlo, hle, hhi, hap⟩ := (show ∃ u lo hi, z6 = stV u D ∧ St lo hi u D W ∧ wb.heap.size ≤ lo ∧ lo ≤ hi ∧ hi ≤ W.heap.size ∧ AP u from h6)
    obtain rfl : z7 = .agg #[.int .i64 C, .int .i64 V] := h7
    obtain ⟨g, rfl, hbg, hg⟩ := (show ∃ g, z8 = .pointer (some ⟨g, 0, none⟩) ∧ wb.heap.size ≤ g ∧ W.heap[g]? = some (.cells #[.slice none 0 0, .slice none 0 0, .slice none 0 0] 35) from h8)
    obtain ⟨g', rfl, hbg', hg'⟩ := (show ∃ g, z9 = .pointer (some ⟨g, 0, none⟩) ∧ wb.heap.size ≤ g ∧ W.heap[g]? = some (.cells #[.int .i64 0, .int .i64 0] 37) from h9)
    have ne : g' ≠ g := fun e => by
      subst e
      have := cells_type hg hg'
      revert this
      decide
    have hRS := res_store (C := C) (V := V) hst hlo hhi hle hg hg' hbg hbg'
    exact tailL5 hd e6 e7 e8 e9 (cell_of3 hg) hg' ne (by kernel_rfl) (by kernel_rfl) (by kernel_rfl) (hfin vs _ ⟨fun i hi => (hv i hi).imp (fun _ h => h.1), hn, u, lo, hi, g, g', e8, e9, hRS.1, hI.trans hRS.2, hap⟩)
  · intro vs W hv hx hn hI'
    have hI : Below wb.heap.size wb W := hI'
    obtain ⟨z5, e5, h5⟩ := hv 5 (by omega) (by omega)
    obtain ⟨z6, e6, h6⟩ := hv 6 (by omega) (by omega)
    obtain ⟨z8, e8, h8⟩ := hv 8 (by omega) (by omega)
    obtain ⟨z9, e9, h9⟩ := hv 9 (by omega) (by omega)
    obtain ⟨u, lo, hi, rfl, hst, hlo, hle, hhi, hap⟩ := (show ∃ u lo hi, z6 = stV u D ∧ St lo hi u D W ∧ wb.heap.size ≤ lo ∧ lo ≤ hi ∧ hi ≤ W.heap.size ∧ AP u from h6)
    obtain ⟨u5, lo5, hi5, rfl, _⟩ := (show ∃ u lo hi, z5 = .tuple #[stV u D, .agg #[.int .i64 C, .int .i64 V]] ∧ St lo hi u D W ∧ wb.heap.size ≤ lo ∧ lo ≤ hi ∧ hi ≤ W.heap.size ∧ AP u from h5)
    obtain ⟨g, rfl, hbg, hg⟩ := (show ∃ g, z8 = .pointer (some ⟨g, 0, none⟩) ∧ wb.heap.size ≤ g ∧ W.heap[g]? = some (.cells #[.slice none 0 0, .slice none 0 0, .slice none 0 0] 35) from h8)
    obtain ⟨g', rfl, hbg', hg'⟩ := (show ∃ g, z9 = .pointer (some ⟨g, 0, none⟩) ∧ wb.heap.size ≤ g ∧ W.heap[g]? = some (.cells #[.int .i64 0, .int .i64 0] 37) from h9)
    have ne : g' ≠ g := fun e => by
      subst e
      have := cells_type hg hg'
      revert this
      decide
    have hRS := res_store (C := C) (V := V) hst hlo hhi hle hg hg' hbg hbg'
    have E1 := putsF_one (a0 := a0) (v := .agg #[.int .i64 C, .int .i64 V]) hd (i := 7) (o := ({ dst := some 28, op := Op.extract (Operand.tmp 21) 1, type := 37, pos := "exact.go:3047", after := #[{ on := 5, ground := Ground.data }, { on := 10, ground := Ground.gcOnly Departure.lateStores }], guard := none } : Oper)) rfl hx
    have hup : ∀ j, j ≠ 7 → updF vs 7 (.agg #[.int .i64 C, .int .i64 V]) j = vs j := fun j hj => updF_other vs _ hj
    have u6 := (hup 6 (by decide)).trans e6
    have u7 := updF_same vs 7 (.agg #[.int .i64 C, .int .i64 V])
    have u8 := (hup 8 (by decide)).trans e8
    have u9 := (hup 9 (by decide)).trans e9
    have hF := hfin (updF vs 7 (.agg #[.int .i64 C, .int .i64 V])) _ ⟨fun i hi => by
      by_cases hix : i = 7
      · subst hix
        exact ⟨_, u7⟩
      · obtain ⟨z, hz, _⟩ := hv i hi hix
        exact ⟨z, (hup i hix).trans hz⟩, fun i hi => (hup i (by omega)).trans (hn i hi), u, lo, hi, g, g', u8, u9, hRS.1, hI.trans hRS.2, hap⟩
    have E6 := putsF_eval (t := 6) hd (i := 8) (o := ({ dst := some 6, op := Op.alloc 35, type := 0, pos := "exact.go:3047", after := #[], guard := none } : Oper)) rfl rfl e8
    have E27 := putsF_eval (t := 27) hd (i := 6) (o := ({ dst := some 27, op := Op.extract (Operand.tmp 21) 0, type := 35, pos := "exact.go:3047", after := #[{ on := 5, ground := Ground.data }], guard := none } : Oper)) rfl rfl e6
    have E21 := putsF_eval (t := 21) hd (i := 5) (o := ({ dst := some 21, op := Op.move (Operand.tmp 26), type := 38, pos := "exact.go:3047", after := #[{ on := 4, ground := Ground.data }], guard := none } : Oper)) rfl rfl e5
    have e3 : 1 + (opsL5.size - 10) = 3 := by kernel_rfl
    rw [e3]
    refine wpAny_ready (rs := [7, 10]) (by kernel_rfl) (by simp) ?_
    refine AllReady.cons (o := ({ dst := some 28, op := Op.extract (Operand.tmp 21) 1, type := 37, pos := "exact.go:3047", after := #[{ on := 5, ground := Ground.data }, { on := 10, ground := Ground.gcOnly Departure.lateStores }], guard := none } : Oper)) rfl ?_ (AllReady.cons (o := ({ dst := none, op := Op.store 35 (Operand.tmp 6) (Operand.tmp 27), type := 0, pos := "exact.go:3047", after := #[{ on := 8, ground := Ground.data }, { on := 6, ground := Ground.data }, { on := 4, ground := Ground.chain }, { on := 0, ground := Ground.phase }, { on := 1, ground := Ground.phase }, { on := 2, ground := Ground.phase }, { on := 3, ground := Ground.phase }, { on := 4, ground := Ground.phase }, { on := 5, ground := Ground.phase }, { on := 6, ground := Ground.phase }, { on := 7, ground := Ground.textOnly Departure.lateStores }, { on := 8, ground := Ground.phase }, { on := 9, ground := Ground.phase }], guard := none } : Oper)) rfl ?_ AllReady.nil)
    · intro K' hK'
      rw [if_pos (by simp [Region.wanted])]
      refine extract_1 E21 (hK' _ _ ?_)
      clear hK' K'
      rw [show (putsF vs 0 opsL5.toList a0).put (some 28) (.agg #[.int .i64 C, .int .i64 V]) = putsF (updF vs 7 (.agg #[.int .i64 C, .int .i64 V])) 0 opsL5.toList a0 from E1.symm]
      exact tailL5 hd u6 u7 u8 u9 (cell_of3 hg) hg' ne (by kernel_rfl) (by kernel_rfl) (by kernel_rfl) hF
    · intro K' hK'
      rw [if_pos (by simp [Region.wanted])]
      refine store_ls E6 E27 (cell_of3 hg) (hK' _ _ ?_)
      clear hK' K'
      refine wpAny_ready (rs := [7]) (by kernel_rfl) (by simp) ?_
      refine AllReady.cons (o := ({ dst := some 28, op := Op.extract (Operand.tmp 21) 1, type := 37, pos := "exact.go:3047", after := #[{ on := 5, ground := Ground.data }, { on := 10, ground := Ground.gcOnly Departure.lateStores }], guard := none } : Oper)) rfl ?_ AllReady.nil
      intro K' hK'
      rw [if_pos (by simp [Region.wanted])]
      refine extract_1 E21 (hK' _ _ ?_)
      clear hK' K'
      rw [show (putsF vs 0 opsL5.toList a0).put (some 28) (.agg #[.int .i64 C, .int .i64 V]) = putsF (updF vs 7 (.agg #[.int .i64 C, .int .i64 V])) 0 opsL5.toList a0 from E1.symm]
      have F7 := putsF_eval (t := 7) hd (i := 9) (o := ({ dst := some 7, op := Op.alloc 37, type := 0, pos := "exact.go:3047", after := #[], guard := none } : Oper)) rfl rfl u9
      have F28 := putsF_eval (t := 28) hd (i := 7) (o := ({ dst := some 28, op := Op.extract (Operand.tmp 21) 1, type := 37, pos := "exact.go:3047", after := #[{ on := 5, ground := Ground.data }, { on := 10, ground := Ground.gcOnly Departure.lateStores }], guard := none } : Oper)) rfl rfl u7
      refine wpAny_ready (rs := [11]) (by kernel_rfl) (by simp) ?_
      refine AllReady.cons (o := ({ dst := none, op := Op.store 37 (Operand.tmp 7) (Operand.tmp 28), type := 0, pos := "exact.go:3047", after := #[{ on := 9, ground := Ground.data }, { on := 7, ground := Ground.data }, { on := 10, ground := Ground.chain }, { on := 0, ground := Ground.phase }, { on := 1, ground := Ground.phase }, { on := 2, ground := Ground.phase }, { on := 3, ground := Ground.phase }, { on := 4, ground := Ground.phase }, { on := 5, ground := Ground.phase }, { on := 6, ground := Ground.phase }, { on := 7, ground := Ground.phase }, { on := 8, ground := Ground.phase }, { on := 9, ground := Ground.phase }, { on := 10, ground := Ground.phase }], guard := none } : Oper)) rfl ?_ AllReady.nil
      intro K' hK'
      rw [if_pos (by simp [Region.wanted])]
      refine store_rr F7 F28 (cell_of2 (box_far hg' ne)) (hK' _ _ ?_)
      exact ⟨by kernel_rfl, hF⟩


set_option maxRecDepth 20000 in
set_option maxHeartbeats 1000000 in
theorem tailL7 {a0 : Act} {Q : Exit → Act → World → Prop} {vs : Nat → Option Value} {W : World} {listed : Array Bool} {u : SV} {D : LD} {C V : Int} {g g' : Nat} {x y z p q : Value} (hd : dstsOk a0.tmps.size opsL7.toList = true)
    (e6 : vs 5 = some (stV u D)) (e7 : vs 6 = some (.agg #[.int .i64 C, .int .i64 V])) (e8 : vs 7 = some (.pointer (some ⟨g, 0, none⟩))) (e9 : vs 8 = some (.pointer (some ⟨g', 0, none⟩)))
    (hg : B3 W g x y z) (hg' : W.heap[g']? = some (.cells #[p, q] 37)) (n : g' ≠ g) (h1 : Region.ready .any opsL7 listed = [9]) (h2 : Region.ready .any opsL7 (listed.setIfInBounds 9 true) = [10]) (h3 : Region.ready .any opsL7 ((listed.setIfInBounds 9 true).setIfInBounds 10 true) = [])
    (hQ : Q .normal (putsF vs 0 opsL7.toList a0) (((((W.setCell ⟨g, 0, none⟩ (u.m D)).setCell ⟨g, 1, none⟩ (u.s D)).setCell ⟨g, 2, none⟩ (u.q D)).setCell ⟨g', 0, none⟩ (.int .i64 C)).setCell ⟨g', 1, none⟩ (.int .i64 V))) :
    wpAny Tryd.prog .any opsL7 Q 2 listed (putsF vs 0 opsL7.toList a0) W := by
  have E6 := putsF_eval (t := 9) hd (i := 7) (o := ({ dst := some 9, op := Op.alloc 35, type := 0, pos := "exact.go:3049", after := #[], guard := none } : Oper)) rfl rfl e8
  have E27 := putsF_eval (t := 36) hd (i := 5) (o := ({ dst := some 36, op := Op.extract (Operand.tmp 31) 0, type := 35, pos := "exact.go:3049", after := #[{ on := 4, ground := Ground.data }], guard := none } : Oper)) rfl rfl e6
  have E7 := putsF_eval (t := 10) hd (i := 8) (o := ({ dst := some 10, op := Op.alloc 37, type := 0, pos := "exact.go:3049", after := #[], guard := none } : Oper)) rfl rfl e9
  have E28 := putsF_eval (t := 37) hd (i := 6) (o := ({ dst := some 37, op := Op.extract (Operand.tmp 31) 1, type := 37, pos := "exact.go:3049", after := #[{ on := 4, ground := Ground.data }, { on := 9, ground := Ground.gcOnly Departure.lateStores }], guard := none } : Oper)) rfl rfl e7
  refine wpAny_ready (rs := [9]) h1 (by simp) ?_
  refine AllReady.cons (o := ({ dst := none, op := Op.store 35 (Operand.tmp 9) (Operand.tmp 36), type := 0, pos := "exact.go:3049", after := #[{ on := 7, ground := Ground.data }, { on := 5, ground := Ground.data }, { on := 3, ground := Ground.chain }, { on := 0, ground := Ground.phase }, { on := 1, ground := Ground.phase }, { on := 2, ground := Ground.phase }, { on := 3, ground := Ground.phase }, { on := 4, ground := Ground.phase }, { on := 5, ground := Ground.phase }, { on := 6, ground := Ground.textOnly Departure.lateStores }, { on := 7, ground := Ground.phase }, { on := 8, ground := Ground.phase }], guard := none } : Oper)) rfl ?_ AllReady.nil
  intro K' hK'
  rw [if_pos (by simp [Region.wanted])]
  refine store_ls E6 E27 hg (hK' _ _ ?_)
  clear hK' K'
  refine wpAny_ready (rs := [10]) h2 (by simp) ?_
  refine AllReady.cons (o := ({ dst := none, op := Op.store 37 (Operand.tmp 10) (Operand.tmp 37), type := 0, pos := "exact.go:3049", after := #[{ on := 8, ground := Ground.data }, { on := 6, ground := Ground.data }, { on := 9, ground := Ground.chain }, { on := 0, ground := Ground.phase }, { on := 1, ground := Ground.phase }, { on := 2, ground := Ground.phase }, { on := 3, ground := Ground.phase }, { on := 4, ground := Ground.phase }, { on := 5, ground := Ground.phase }, { on := 6, ground := Ground.phase }, { on := 7, ground := Ground.phase }, { on := 8, ground := Ground.phase }, { on := 9, ground := Ground.phase }], guard := none } : Oper)) rfl ?_ AllReady.nil
  intro K' hK'
  rw [if_pos (by simp [Region.wanted])]
  refine store_rr E7 E28 (cell_of2 (box_far hg' n)) (hK' _ _ ?_)
  exact ⟨h3, hQ⟩

set_option maxRecDepth 20000 in
set_option maxHeartbeats 2000000 in
theorem regL7 {A G0 : Nat} {v : SV} {d D : LD} {k x y C V : Int} {AP : SV → Prop} {wb : World} {a0 : Act} {Q : Exit → Act → World → Prop} {id : Nat} (hbx : B3 wb G0 (v.m d) (v.s d) (v.q d)) (hbo : B3 wb A (.int .i64 k) (.int .i64 x) (.int .i64 y)) (hss : SS wb v d) (HX : Hid (Room v d ∧ Somes v)) (hfe : Few d)
    (HC : Hid (∀ W v', SS W v' d → Room v' d → Somes v' → Below wb.heap.size wb W → Calls Tryd.prog 12 #[stV v' d, .agg #[.int .i64 k, .int .i64 x, .int .i64 y]] W fun e w' => ∃ u, e = .returned (.tuple #[stV u D, .agg #[.int .i64 C, .int .i64 V]]) ∧ St W.heap.size w'.heap.size u D w' ∧ AP u ∧ Below W.heap.size W w'))
    (e1 : a0.eval (.tmp 8) = .pointer (some ⟨G0, 0, none⟩)) (e2 : a0.eval (.tmp 3) = .pointer (some ⟨A, 0, none⟩)) (hd : dstsOk a0.tmps.size opsL7.toList = true)
    (hfin : ∀ vs W', LateEnd 9 7 8 D C V AP wb vs W' → Q .normal (putsF vs 0 opsL7.toList a0) W') : (Code.region id opsL7 true).wp Tryd.prog Q a0 wb := by
  refine region_invX (x := 6) (ops := opsL7) (m := 9) (I := fun f W => Below wb.heap.size wb W) (V := VB wb.heap.size v d k x y D C V AP) (T := fun W W' => Below W.heap.size W W') (by kernel_rfl) (by decide) (by decide) (by kernel_rfl) hd VB_keep (Below.refl _ _).drew (hopL7 hbx hbo hss HX hfe (Nat.le_refl _) HC e1 e2) ?_ ?_
  · intro vs W hv hn hI'
    have hI : Below wb.heap.size wb W := hI'
    obtain ⟨z6, e6, h6⟩ := hv 5 (by omega)
    obtain ⟨z7, e7, h7⟩ := hv 6 (by omega)
    obtain ⟨z8, e8, h8⟩ := hv 7 (by omega)
    obtain ⟨z9, e9, h9⟩ := hv 8 (by omega)
    obtain ⟨u, lo, hi, rfl, hst, hlo, hle, hhi, hap⟩ := (show ∃ u lo hi, z6 = stV u D ∧ St lo hi u D W ∧ wb.heap.size ≤ lo ∧ lo ≤ hi ∧ hi ≤ W.heap.size ∧ AP u from h6)
    obtain rfl : z7 = .agg #[.int .i64 C, .int .i64 V] := h7
    obtain ⟨g, rfl, hbg, hg⟩ := (show ∃ g, z8 = .pointer (some ⟨g, 0, none⟩) ∧ wb.heap.size ≤ g ∧ W.heap[g]? = some (.cells #[.slice none 0 0, .slice none 0 0, .slice none 0 0] 35) from h8)
    obtain ⟨g', rfl, hbg', hg'⟩ := (show ∃ g, z9 = .pointer (some ⟨g, 0, none⟩) ∧ wb.heap.size ≤ g ∧ W.heap[g]? = some (.cells #[.int .i64 0, .int .i64 0] 37) from h9)
    have ne : g' ≠ g := fun e => by
      subst e
      have := cells_type hg hg'
      revert this
      decide
    have hRS := res_store (C := C) (V := V) hst hlo hhi hle hg hg' hbg hbg'
    exact tailL7 hd e6 e7 e8 e9 (cell_of3 hg) hg' ne (by kernel_rfl) (by kernel_rfl) (by kernel_rfl) (hfin vs _ ⟨fun i hi => (hv i hi).imp (fun _ h => h.1), hn, u, lo, hi, g, g', e8, e9, hRS.1, hI.trans hRS.2, hap⟩)
  · intro vs W hv hx hn hI'
    have hI : Below wb.heap.size wb W := hI'
    obtain ⟨z5, e5, h5⟩ := hv 4 (by omega) (by omega)
    obtain ⟨z6, e6, h6⟩ := hv 5 (by omega) (by omega)
    obtain ⟨z8, e8, h8⟩ := hv 7 (by omega) (by omega)
    obtain ⟨z9, e9, h9⟩ := hv 8 (by omega) (by omega)
    obtain ⟨u, lo, hi, rfl, hst, hlo, hle, hhi, hap⟩ := (show ∃ u lo hi, z6 = stV u D ∧ St lo hi u D W ∧ wb.heap.size ≤ lo ∧ lo ≤ hi ∧ hi ≤ W.heap.size ∧ AP u from h6)
    obtain ⟨u5, lo5, hi5, rfl, _⟩ := (show ∃ u lo hi, z5 = .tuple #[stV u D, .agg #[.int .i64 C, .int .i64 V]] ∧ St lo hi u D W ∧ wb.heap.size ≤ lo ∧ lo ≤ hi ∧ hi ≤ W.heap.size ∧ AP u from h5)
    obtain ⟨g, rfl, hbg, hg⟩ := (show ∃ g, z8 = .pointer (some ⟨g, 0, none⟩) ∧ wb.heap.size ≤ g ∧ W.heap[g]? = some (.cells #[.slice none 0 0, .slice none 0 0, .slice none 0 0] 35) from h8)
    obtain ⟨g', rfl, hbg', hg'⟩ := (show ∃ g, z9 = .pointer (some ⟨g, 0, none⟩) ∧ wb.heap.size ≤ g ∧ W.heap[g]? = some (.cells #[.int .i64 0, .int .i64 0] 37) from h9)
    have ne : g' ≠ g := fun e => by
      subst e
      have := cells_type hg hg'
      revert this
      decide
    have hRS := res_store (C := C) (V := V) hst hlo hhi hle hg hg' hbg hbg'
    have E1 := putsF_one (a0 := a0) (v := .agg #[.int .i64 C, .int .i64 V]) hd (i := 6) (o := ({ dst := some 37, op := Op.extract (Operand.tmp 31) 1, type := 37, pos := "exact.go:3049", after := #[{ on := 4, ground := Ground.data }, { on := 9, ground := Ground.gcOnly Departure.lateStores }], guard := none } : Oper)) rfl hx
    have hup : ∀ j, j ≠ 6 → updF vs 6 (.agg #[.int .i64 C, .int .i64 V]) j = vs j := fun j hj => updF_other vs _ hj
    have u6 := (hup 5 (by decide)).trans e6
    have u7 := updF_same vs 6 (.agg #[.int .i64 C, .int .i64 V])
    have u8 := (hup 7 (by decide)).trans e8
    have u9 := (hup 8 (by decide)).trans e9
    have hF := hfin (updF vs 6 (.agg #[.int .i64 C, .int .i64 V])) _ ⟨fun i hi => by
      by_cases hix : i = 6
      · subst hix
        exact ⟨_, u7⟩
      · obtain ⟨z, hz, _⟩ := hv i hi hix
        exact ⟨z, (hup i hix).trans hz⟩, fun i hi => (hup i (by omega)).trans (hn i hi), u, lo, hi, g, g', u8, u9, hRS.1, hI.trans hRS.2, hap⟩
    have E6 := putsF_eval (t := 9) hd (i := 7) (o := ({ dst := some 9, op := Op.alloc 35, type := 0, pos := "exact.go:3049", after := #[], guard := none } : Oper)) rfl rfl e8
    have E27 := putsF_eval (t := 36) hd (i := 5) (o := ({ dst := some 36, op := Op.extract (Operand.tmp 31) 0, type := 35, pos := "exact.go:3049", after := #[{ on := 4, ground := Ground.data }], guard := none } : Oper)) rfl rfl e6
    have E21 := putsF_eval (t := 31) hd (i := 4) (o := ({ dst := some 31, op := Op.move (Operand.tmp 35), type := 38, pos := "exact.go:3049", after := #[{ on := 3, ground := Ground.data }], guard := none } : Oper)) rfl rfl e5
    have e3 : 1 + (opsL7.size - 9) = 3 := by kernel_rfl
    rw [e3]
    refine wpAny_ready (rs := [6, 9]) (by kernel_rfl) (by simp) ?_
    refine AllReady.cons (o := ({ dst := some 37, op := Op.extract (Operand.tmp 31) 1, type := 37, pos := "exact.go:3049", after := #[{ on := 4, ground := Ground.data }, { on := 9, ground := Ground.gcOnly Departure.lateStores }], guard := none } : Oper)) rfl ?_ (AllReady.cons (o := ({ dst := none, op := Op.store 35 (Operand.tmp 9) (Operand.tmp 36), type := 0, pos := "exact.go:3049", after := #[{ on := 7, ground := Ground.data }, { on := 5, ground := Ground.data }, { on := 3, ground := Ground.chain }, { on := 0, ground := Ground.phase }, { on := 1, ground := Ground.phase }, { on := 2, ground := Ground.phase }, { on := 3, ground := Ground.phase }, { on := 4, ground := Ground.phase }, { on := 5, ground := Ground.phase }, { on := 6, ground := Ground.textOnly Departure.lateStores }, { on := 7, ground := Ground.phase }, { on := 8, ground := Ground.phase }], guard := none } : Oper)) rfl ?_ AllReady.nil)
    · intro K' hK'
      rw [if_pos (by simp [Region.wanted])]
      refine extract_1 E21 (hK' _ _ ?_)
      clear hK' K'
      rw [show (putsF vs 0 opsL7.toList a0).put (some 37) (.agg #[.int .i64 C, .int .i64 V]) = putsF (updF vs 6 (.agg #[.int .i64 C, .int .i64 V])) 0 opsL7.toList a0 from E1.symm]
      exact tailL7 hd u6 u7 u8 u9 (cell_of3 hg) hg' ne (by kernel_rfl) (by kernel_rfl) (by kernel_rfl) hF
    · intro K' hK'
      rw [if_pos (by simp [Region.wanted])]
      refine store_ls E6 E27 (cell_of3 hg) (hK' _ _ ?_)
      clear hK' K'
      refine wpAny_ready (rs := [6]) (by kernel_rfl) (by simp) ?_
      refine AllReady.cons (o := ({ dst := some 37, op := Op.extract (Operand.tmp 31) 1, type := 37, pos := "exact.go:3049", after := #[{ on := 4, ground := Ground.data }, { on := 9, ground := Ground.gcOnly Departure.lateStores }], guard := none } : Oper)) rfl ?_ AllReady.nil
      intro K' hK'
      rw [if_pos (by simp [Region.wanted])]
      refine extract_1 E21 (hK' _ _ ?_)
      clear hK' K'
      rw [show (putsF vs 0 opsL7.toList a0).put (some 37) (.agg #[.int .i64 C, .int .i64 V]) = putsF (updF vs 6 (.agg #[.int .i64 C, .int .i64 V])) 0 opsL7.toList a0 from E1.symm]
      have F7 := putsF_eval (t := 10) hd (i := 8) (o := ({ dst := some 10, op := Op.alloc 37, type := 0, pos := "exact.go:3049", after := #[], guard := none } : Oper)) rfl rfl u9
      have F28 := putsF_eval (t := 37) hd (i := 6) (o := ({ dst := some 37, op := Op.extract (Operand.tmp 31) 1, type := 37, pos := "exact.go:3049", after := #[{ on := 4, ground := Ground.data }, { on := 9, ground := Ground.gcOnly Departure.lateStores }], guard := none } : Oper)) rfl rfl u7
      refine wpAny_ready (rs := [10]) (by kernel_rfl) (by simp) ?_
      refine AllReady.cons (o := ({ dst := none, op := Op.store 37 (Operand.tmp 10) (Operand.tmp 37), type := 0, pos := "exact.go:3049", after := #[{ on := 8, ground := Ground.data }, { on := 6, ground := Ground.data }, { on := 9, ground := Ground.chain }, { on := 0, ground := Ground.phase }, { on := 1, ground := Ground.phase }, { on := 2, ground := Ground.phase }, { on := 3, ground := Ground.phase }, { on := 4, ground := Ground.phase }, { on := 5, ground := Ground.phase }, { on := 6, ground := Ground.phase }, { on := 7, ground := Ground.phase }, { on := 8, ground := Ground.phase }, { on := 9, ground := Ground.phase }], guard := none } : Oper)) rfl ?_ AllReady.nil
      intro K' hK'
      rw [if_pos (by simp [Region.wanted])]
      refine store_rr F7 F28 (cell_of2 (box_far hg' ne)) (hK' _ _ ?_)
      exact ⟨by kernel_rfl, hF⟩


set_option maxRecDepth 20000 in
set_option maxHeartbeats 1000000 in
theorem tailL24 {a0 : Act} {Q : Exit → Act → World → Prop} {vs : Nat → Option Value} {W : World} {listed : Array Bool} {u : SV} {D : LD} {C V : Int} {g g' : Nat} {x y z p q : Value} (hd : dstsOk a0.tmps.size opsL24.toList = true)
    (e6 : vs 6 = some (stV u D)) (e7 : vs 7 = some (.agg #[.int .i64 C, .int .i64 V])) (e8 : vs 8 = some (.pointer (some ⟨g, 0, none⟩))) (e9 : vs 9 = some (.pointer (some ⟨g', 0, none⟩)))
    (hg : B3 W g x y z) (hg' : W.heap[g']? = some (.cells #[p, q] 37)) (n : g' ≠ g) (h1 : Region.ready .any opsL24 listed = [10]) (h2 : Region.ready .any opsL24 (listed.setIfInBounds 10 true) = [11]) (h3 : Region.ready .any opsL24 ((listed.setIfInBounds 10 true).setIfInBounds 11 true) = [])
    (hQ : Q .normal (putsF vs 0 opsL24.toList a0) (((((W.setCell ⟨g, 0, none⟩ (u.m D)).setCell ⟨g, 1, none⟩ (u.s D)).setCell ⟨g, 2, none⟩ (u.q D)).setCell ⟨g', 0, none⟩ (.int .i64 C)).setCell ⟨g', 1, none⟩ (.int .i64 V))) :
    wpAny Tryd.prog .any opsL24 Q 2 listed (putsF vs 0 opsL24.toList a0) W := by
  have E6 := putsF_eval (t := 14) hd (i := 8) (o := ({ dst := some 14, op := Op.alloc 35, type := 0, pos := "exact.go:3071", after := #[], guard := none } : Oper)) rfl rfl e8
  have E27 := putsF_eval (t := 87) hd (i := 6) (o := ({ dst := some 87, op := Op.extract (Operand.tmp 81) 0, type := 35, pos := "exact.go:3071", after := #[{ on := 5, ground := Ground.data }], guard := none } : Oper)) rfl rfl e6
  have E7 := putsF_eval (t := 15) hd (i := 9) (o := ({ dst := some 15, op := Op.alloc 37, type := 0, pos := "exact.go:3071", after := #[], guard := none } : Oper)) rfl rfl e9
  have E28 := putsF_eval (t := 88) hd (i := 7) (o := ({ dst := some 88, op := Op.extract (Operand.tmp 81) 1, type := 37, pos := "exact.go:3071", after := #[{ on := 5, ground := Ground.data }, { on := 10, ground := Ground.gcOnly Departure.lateStores }], guard := none } : Oper)) rfl rfl e7
  refine wpAny_ready (rs := [10]) h1 (by simp) ?_
  refine AllReady.cons (o := ({ dst := none, op := Op.store 35 (Operand.tmp 14) (Operand.tmp 87), type := 0, pos := "exact.go:3071", after := #[{ on := 8, ground := Ground.data }, { on := 6, ground := Ground.data }, { on := 4, ground := Ground.chain }, { on := 0, ground := Ground.phase }, { on := 1, ground := Ground.phase }, { on := 2, ground := Ground.phase }, { on := 3, ground := Ground.phase }, { on := 4, ground := Ground.phase }, { on := 5, ground := Ground.phase }, { on := 6, ground := Ground.phase }, { on := 7, ground := Ground.textOnly Departure.lateStores }, { on := 8, ground := Ground.phase }, { on := 9, ground := Ground.phase }], guard := none } : Oper)) rfl ?_ AllReady.nil
  intro K' hK'
  rw [if_pos (by simp [Region.wanted])]
  refine store_ls E6 E27 hg (hK' _ _ ?_)
  clear hK' K'
  refine wpAny_ready (rs := [11]) h2 (by simp) ?_
  refine AllReady.cons (o := ({ dst := none, op := Op.store 37 (Operand.tmp 15) (Operand.tmp 88), type := 0, pos := "exact.go:3071", after := #[{ on := 9, ground := Ground.data }, { on := 7, ground := Ground.data }, { on := 10, ground := Ground.chain }, { on := 0, ground := Ground.phase }, { on := 1, ground := Ground.phase }, { on := 2, ground := Ground.phase }, { on := 3, ground := Ground.phase }, { on := 4, ground := Ground.phase }, { on := 5, ground := Ground.phase }, { on := 6, ground := Ground.phase }, { on := 7, ground := Ground.phase }, { on := 8, ground := Ground.phase }, { on := 9, ground := Ground.phase }, { on := 10, ground := Ground.phase }], guard := none } : Oper)) rfl ?_ AllReady.nil
  intro K' hK'
  rw [if_pos (by simp [Region.wanted])]
  refine store_rr E7 E28 (cell_of2 (box_far hg' n)) (hK' _ _ ?_)
  exact ⟨h3, hQ⟩

set_option maxRecDepth 20000 in
set_option maxHeartbeats 2000000 in
theorem regL24 {A G0 : Nat} {v : SV} {d D : LD} {k x y C V : Int} {AP : SV → Prop} {wb : World} {a0 : Act} {Q : Exit → Act → World → Prop} {id : Nat} (hbx : B3 wb G0 (v.m d) (v.s d) (v.q d)) (hbo : B3 wb A (.int .i64 k) (.int .i64 x) (.int .i64 y)) (hss : SS wb v d) (HX : Hid True) (hfe : Few d)
    (HC : Hid (∀ W v', SS W v' d → Room v' d → Somes v' → Below wb.heap.size wb W → Calls Tryd.prog 12 #[stV v' d, .agg #[.int .i64 k, .int .i64 x, .int .i64 y]] W fun e w' => ∃ u, e = .returned (.tuple #[stV u D, .agg #[.int .i64 C, .int .i64 V]]) ∧ St W.heap.size w'.heap.size u D w' ∧ AP u ∧ Below W.heap.size W w'))
    (e1 : a0.eval (.tmp 2) = .pointer (some ⟨G0, 0, none⟩)) (e2 : a0.eval (.tmp 3) = .pointer (some ⟨A, 0, none⟩)) (hd : dstsOk a0.tmps.size opsL24.toList = true)
    (hfin : ∀ vs W', LateEnd 10 8 9 D C V AP wb vs W' → Q .normal (putsF vs 0 opsL24.toList a0) W') : (Code.region id opsL24 true).wp Tryd.prog Q a0 wb := by
  refine region_invX (x := 7) (ops := opsL24) (m := 10) (I := fun f W => Below wb.heap.size wb W) (V := VA wb.heap.size v d k x y D C V AP) (T := fun W W' => Below W.heap.size W W') (by kernel_rfl) (by decide) (by decide) (by kernel_rfl) hd VA_keep (Below.refl _ _).drew (hopL24 hbx hbo hss HX hfe (Nat.le_refl _) HC e1 e2) ?_ ?_
  · intro vs W hv hn hI'
    have hI : Below wb.heap.size wb W := hI'
    obtain ⟨z6, e6, h6⟩ := hv 6 (by omega)
    obtain ⟨z7, e7, h7⟩ := hv 7 (by omega)
    obtain ⟨z8, e8, h8⟩ := hv 8 (by omega)
    obtain ⟨z9, e9, h9⟩ := hv 9 (by omega)
    obtain ⟨u, lo, hi, rfl, hst, hlo, hle, hhi, hap⟩ := (show ∃ u lo hi, z6 = stV u D ∧ St lo hi u D W ∧ wb.heap.size ≤ lo ∧ lo ≤ hi ∧ hi ≤ W.heap.size ∧ AP u from h6)
    obtain rfl : z7 = .agg #[.int .i64 C, .int .i64 V] := h7
    obtain ⟨g, rfl, hbg, hg⟩ := (show ∃ g, z8 = .pointer (some ⟨g, 0, none⟩) ∧ wb.heap.size ≤ g ∧ W.heap[g]? = some (.cells #[.slice none 0 0, .slice none 0 0, .slice none 0 0] 35) from h8)
    obtain ⟨g', rfl, hbg', hg'⟩ := (show ∃ g, z9 = .pointer (some ⟨g, 0, none⟩) ∧ wb.heap.size ≤ g ∧ W.heap[g]? = some (.cells #[.int .i64 0, .int .i64 0] 37) from h9)
    have ne : g' ≠ g := fun e => by
      subst e
      have := cells_type hg hg'
      revert this
      decide
    have hRS := res_store (C := C) (V := V) hst hlo hhi hle hg hg' hbg hbg'
    exact tailL24 hd e6 e7 e8 e9 (cell_of3 hg) hg' ne (by kernel_rfl) (by kernel_rfl) (by kernel_rfl) (hfin vs _ ⟨fun i hi => (hv i hi).imp (fun _ h => h.1), hn, u, lo, hi, g, g', e8, e9, hRS.1, hI.trans hRS.2, hap⟩)
  · intro vs W hv hx hn hI'
    have hI : Below wb.heap.size wb W := hI'
    obtain ⟨z5, e5, h5⟩ := hv 5 (by omega) (by omega)
    obtain ⟨z6, e6, h6⟩ := hv 6 (by omega) (by omega)
    obtain ⟨z8, e8, h8⟩ := hv 8 (by omega) (by omega)
    obtain ⟨z9, e9, h9⟩ := hv 9 (by omega) (by omega)
    obtain ⟨u, lo, hi, rfl, hst, hlo, hle, hhi, hap⟩ := (show ∃ u lo hi, z6 = stV u D ∧ St lo hi u D W ∧ wb.heap.size ≤ lo ∧ lo ≤ hi ∧ hi ≤ W.heap.size ∧ AP u from h6)
    obtain ⟨u5, lo5, hi5, rfl, _⟩ := (show ∃ u lo hi, z5 = .tuple #[stV u D, .agg #[.int .i64 C, .int .i64 V]] ∧ St lo hi u D W ∧ wb.heap.size ≤ lo ∧ lo ≤ hi ∧ hi ≤ W.heap.size ∧ AP u from h5)
    obtain ⟨g, rfl, hbg, hg⟩ := (show ∃ g, z8 = .pointer (some ⟨g, 0, none⟩) ∧ wb.heap.size ≤ g ∧ W.heap[g]? = some (.cells #[.slice none 0 0, .slice none 0 0, .slice none 0 0] 35) from h8)
    obtain ⟨g', rfl, hbg', hg'⟩ := (show ∃ g, z9 = .pointer (some ⟨g, 0, none⟩) ∧ wb.heap.size ≤ g ∧ W.heap[g]? = some (.cells #[.int .i64 0, .int .i64 0] 37) from h9)
    have ne : g' ≠ g := fun e => by
      subst e
      have := cells_type hg hg'
      revert this
      decide
    have hRS := res_store (C := C) (V := V) hst hlo hhi hle hg hg' hbg hbg'
    have E1 := putsF_one (a0 := a0) (v := .agg #[.int .i64 C, .int .i64 V]) hd (i := 7) (o := ({ dst := some 88, op := Op.extract (Operand.tmp 81) 1, type := 37, pos := "exact.go:3071", after := #[{ on := 5, ground := Ground.data }, { on := 10, ground := Ground.gcOnly Departure.lateStores }], guard := none } : Oper)) rfl hx
    have hup : ∀ j, j ≠ 7 → updF vs 7 (.agg #[.int .i64 C, .int .i64 V]) j = vs j := fun j hj => updF_other vs _ hj
    have u6 := (hup 6 (by decide)).trans e6
    have u7 := updF_same vs 7 (.agg #[.int .i64 C, .int .i64 V])
    have u8 := (hup 8 (by decide)).trans e8
    have u9 := (hup 9 (by decide)).trans e9
    have hF := hfin (updF vs 7 (.agg #[.int .i64 C, .int .i64 V])) _ ⟨fun i hi => by
      by_cases hix : i = 7
      · subst hix
        exact ⟨_, u7⟩
      · obtain ⟨z, hz, _⟩ := hv i hi hix
        exact ⟨z, (hup i hix).trans hz⟩, fun i hi => (hup i (by omega)).trans (hn i hi), u, lo, hi, g, g', u8, u9, hRS.1, hI.trans hRS.2, hap⟩
    have E6 := putsF_eval (t := 14) hd (i := 8) (o := ({ dst := some 14, op := Op.alloc 35, type := 0, pos := "exact.go:3071", after := #[], guard := none } : Oper)) rfl rfl e8
    have E27 := putsF_eval (t := 87) hd (i := 6) (o := ({ dst := some 87, op := Op.extract (Operand.tmp 81) 0, type := 35, pos := "exact.go:3071", after := #[{ on := 5, ground := Ground.data }], guard := none } : Oper)) rfl rfl e6
    have E21 := putsF_eval (t := 81) hd (i := 5) (o := ({ dst := some 81, op := Op.move (Operand.tmp 86), type := 38, pos := "exact.go:3071", after := #[{ on := 4, ground := Ground.data }], guard := none } : Oper)) rfl rfl e5
    have e3 : 1 + (opsL24.size - 10) = 3 := by kernel_rfl
    rw [e3]
    refine wpAny_ready (rs := [7, 10]) (by kernel_rfl) (by simp) ?_
    refine AllReady.cons (o := ({ dst := some 88, op := Op.extract (Operand.tmp 81) 1, type := 37, pos := "exact.go:3071", after := #[{ on := 5, ground := Ground.data }, { on := 10, ground := Ground.gcOnly Departure.lateStores }], guard := none } : Oper)) rfl ?_ (AllReady.cons (o := ({ dst := none, op := Op.store 35 (Operand.tmp 14) (Operand.tmp 87), type := 0, pos := "exact.go:3071", after := #[{ on := 8, ground := Ground.data }, { on := 6, ground := Ground.data }, { on := 4, ground := Ground.chain }, { on := 0, ground := Ground.phase }, { on := 1, ground := Ground.phase }, { on := 2, ground := Ground.phase }, { on := 3, ground := Ground.phase }, { on := 4, ground := Ground.phase }, { on := 5, ground := Ground.phase }, { on := 6, ground := Ground.phase }, { on := 7, ground := Ground.textOnly Departure.lateStores }, { on := 8, ground := Ground.phase }, { on := 9, ground := Ground.phase }], guard := none } : Oper)) rfl ?_ AllReady.nil)
    · intro K' hK'
      rw [if_pos (by simp [Region.wanted])]
      refine extract_1 E21 (hK' _ _ ?_)
      clear hK' K'
      rw [show (putsF vs 0 opsL24.toList a0).put (some 88) (.agg #[.int .i64 C, .int .i64 V]) = putsF (updF vs 7 (.agg #[.int .i64 C, .int .i64 V])) 0 opsL24.toList a0 from E1.symm]
      exact tailL24 hd u6 u7 u8 u9 (cell_of3 hg) hg' ne (by kernel_rfl) (by kernel_rfl) (by kernel_rfl) hF
    · intro K' hK'
      rw [if_pos (by simp [Region.wanted])]
      refine store_ls E6 E27 (cell_of3 hg) (hK' _ _ ?_)
      clear hK' K'
      refine wpAny_ready (rs := [7]) (by kernel_rfl) (by simp) ?_
      refine AllReady.cons (o := ({ dst := some 88, op := Op.extract (Operand.tmp 81) 1, type := 37, pos := "exact.go:3071", after := #[{ on := 5, ground := Ground.data }, { on := 10, ground := Ground.gcOnly Departure.lateStores }], guard := none } : Oper)) rfl ?_ AllReady.nil
      intro K' hK'
      rw [if_pos (by simp [Region.wanted])]
      refine extract_1 E21 (hK' _ _ ?_)
      clear hK' K'
      rw [show (putsF vs 0 opsL24.toList a0).put (some 88) (.agg #[.int .i64 C, .int .i64 V]) = putsF (updF vs 7 (.agg #[.int .i64 C, .int .i64 V])) 0 opsL24.toList a0 from E1.symm]
      have F7 := putsF_eval (t := 15) hd (i := 9) (o := ({ dst := some 15, op := Op.alloc 37, type := 0, pos := "exact.go:3071", after := #[], guard := none } : Oper)) rfl rfl u9
      have F28 := putsF_eval (t := 88) hd (i := 7) (o := ({ dst := some 88, op := Op.extract (Operand.tmp 81) 1, type := 37, pos := "exact.go:3071", after := #[{ on := 5, ground := Ground.data }, { on := 10, ground := Ground.gcOnly Departure.lateStores }], guard := none } : Oper)) rfl rfl u7
      refine wpAny_ready (rs := [11]) (by kernel_rfl) (by simp) ?_
      refine AllReady.cons (o := ({ dst := none, op := Op.store 37 (Operand.tmp 15) (Operand.tmp 88), type := 0, pos := "exact.go:3071", after := #[{ on := 9, ground := Ground.data }, { on := 7, ground := Ground.data }, { on := 10, ground := Ground.chain }, { on := 0, ground := Ground.phase }, { on := 1, ground := Ground.phase }, { on := 2, ground := Ground.phase }, { on := 3, ground := Ground.phase }, { on := 4, ground := Ground.phase }, { on := 5, ground := Ground.phase }, { on := 6, ground := Ground.phase }, { on := 7, ground := Ground.phase }, { on := 8, ground := Ground.phase }, { on := 9, ground := Ground.phase }, { on := 10, ground := Ground.phase }], guard := none } : Oper)) rfl ?_ AllReady.nil
      intro K' hK'
      rw [if_pos (by simp [Region.wanted])]
      refine store_rr F7 F28 (cell_of2 (box_far hg' ne)) (hK' _ _ ?_)
      exact ⟨by kernel_rfl, hF⟩

end Go.Proofs.YtklpdpdjblakgaaDoor

/- LMap -/
namespace Go.Proofs.YtklpdpdjblakgaaDoor
open Go.RowKit
set_option linter.unusedVariables false
set_option linter.unusedSimpArgs false

/-- Entries in blocks from B on. -/
def OwnR (B N : Nat) (W : World) (a : Option Addr) (n c : Nat) (L : List Int) : Prop := W.ownsRow B 84 2 (.slice a n c) n (L.map (Value.int .i64)) ∧ n ≤ N + 1
def GoodM (B N : Nat) (W : World) (g : Nat) : Prop := ∃ a n c L, W.heap[g]? = some (.cells #[.slice a n c] 33) ∧ OwnR B N W a n c L
def ResB (W : World) (g : Nat) : Prop := ∃ C D : Int, W.heap[g]? = some (.cells #[.int .i64 C, .int .i64 D] 37)
/-- What one operation of the region may turn: the reader; what it has made itself, as it should be. -/
structure TT (R B N : Nat) (W W' : World) : Prop where
  size : W.heap.size ≤ W'.heap.size
  block : ∀ c, c < W.heap.size → c ≠ R → W'.heap[c]? = W.heap[c]? ∨ ((∃ x, W.heap[c]? = some (.cells #[x] 33)) ∧ GoodM B N W' c) ∨ (ResB W c ∧ ResB W' c)

theorem TT.of_kb {R B N : Nat} {W W' : World} (h : KB R W W') : TT R B N W W' := ⟨h.size, fun c hc hn => .inl (h.block c hc hn)⟩

theorem OwnR.keep {R B N : Nat} {W W' : World} {a : Option Addr} {n c : Nat} {L : List Int} (h : OwnR B N W a n c L) (hR : R < B) (t : TT R B N W W') : OwnR B N W' a n c L := by
  refine ⟨own_block h.1 (fun g hg => ?_), h.2⟩
  obtain ⟨hb, hl, cur, hh⟩ := own_typed h.1 hg
  rcases t.block g hl (by omega) with e | ⟨⟨x, e⟩, _⟩ | ⟨⟨C, D, e⟩, _⟩
  · exact e
  · exact absurd (cells_type hh e) (by decide)
  · exact absurd (cells_type hh e) (by decide)
theorem GoodM.keep {R B N : Nat} {W W' : World} {g : Nat} (h : GoodM B N W g) (hR : R < B) (hg : B ≤ g) (t : TT R B N W W') : GoodM B N W' g := by
  obtain ⟨a, n, c, L, hh, ho⟩ := h
  have hl : g < W.heap.size := (Array.getElem?_eq_some_iff.1 hh).1
  rcases t.block g hl (by omega) with e | ⟨_, e⟩ | ⟨⟨C, D, e⟩, _⟩
  · exact ⟨a, n, c, L, e.trans hh, ho.keep hR t⟩
  · exact e
  · exact absurd (cells_type hh e) (by decide)
theorem ResB.keep {R B N : Nat} {W W' : World} {g : Nat} (h : ResB W g) (hR : R < B) (hg : B ≤ g) (t : TT R B N W W') : ResB W' g := by
  obtain ⟨C, D, hh⟩ := h
  have hl : g < W.heap.size := (Array.getElem?_eq_some_iff.1 hh).1
  rcases t.block g hl (by omega) with e | ⟨⟨x, e⟩, _⟩ | ⟨_, e⟩
  · exact ⟨C, D, e.trans hh⟩
  · exact absurd (cells_type hh e) (by decide)
  · exact e
theorem Lit.keep {R B N : Nat} {W W' : World} {g n : Nat} (h : Lit B W g n) (hR : R < B) (t : TT R B N W W') : Lit B W' g n := by
  obtain ⟨hb, xs, hx, hh⟩ := h
  have hl : g < W.heap.size := (Array.getElem?_eq_some_iff.1 hh).1
  rcases t.block g hl (by omega) with e | ⟨⟨x, e⟩, _⟩ | ⟨⟨C, D, e⟩, _⟩
  · exact ⟨hb, xs, hx, e.trans hh⟩
  · exact absurd (cells_type hh e) (by decide)
  · exact absurd (cells_type hh e) (by decide)
/-- What each operation leaves. -/
def VM (R B N : Nat) (am : Option Addr) (cm : Nat) : Nat → Value → World → Prop
  | 0, v, _ => v = .agg #[.slice am N cm]
  | 1, v, _ => v = .pointer (some ⟨R, 0, none⟩)
  | 3, v, _ => v = .pointer (some ⟨R, 0, none⟩)
  | 6, v, _ => v = .pointer (some ⟨R, 0, none⟩)
  | 10, v, _ => v = .pointer (some ⟨R, 0, none⟩)
  | 13, v, _ => v = .pointer (some ⟨R, 0, none⟩)
  | 2, v, _ => ∃ k : Int, v = .int .i64 k ∧ 0 ≤ k ∧ k < 10
  | 4, v, _ => ∃ k : Int, v = .int .i64 k ∧ 0 ≤ k ∧ k < 100
  | 7, v, _ => ∃ k : Int, v = .int .i64 k ∧ 0 ≤ k ∧ k < 4
  | 11, v, _ => ∃ k : Int, v = .int .i64 k ∧ 0 ≤ k ∧ k < 10
  | 14, v, _ => ∃ k : Int, v = .int .i64 k ∧ 0 ≤ k ∧ k < 3
  | 5, v, W => ∃ g, v = .slice (some ⟨g, 0, none⟩) 4 4 ∧ Lit B W g 4
  | 12, v, W => ∃ g, v = .slice (some ⟨g, 0, none⟩) 3 3 ∧ Lit B W g 3
  | 8, v, W => ∃ g k n, v = .pointer (some ⟨g, k, none⟩) ∧ k < n ∧ Lit B W g n
  | 15, v, W => ∃ g k n, v = .pointer (some ⟨g, k, none⟩) ∧ k < n ∧ Lit B W g n
  | 9, v, _ => ∃ x : Int, v = .int .i64 x
  | 16, v, _ => ∃ x : Int, v = .int .i64 x
  | 17, v, W => ∃ a n c L, ∃ C D : Int, v = .tuple #[.agg #[.slice a n c], .agg #[.int .i64 C, .int .i64 D]] ∧ OwnR B N W a n c L
  | 18, v, W => ∃ a n c L, ∃ C D : Int, v = .tuple #[.agg #[.slice a n c], .agg #[.int .i64 C, .int .i64 D]] ∧ OwnR B N W a n c L
  | 19, v, W => ∃ a n c L, v = .agg #[.slice a n c] ∧ OwnR B N W a n c L
  | 20, v, _ => ∃ C D : Int, v = .agg #[.int .i64 C, .int .i64 D]
  | 21, v, W => ∃ g, v = .pointer (some ⟨g, 0, none⟩) ∧ B ≤ g ∧ GoodM B N W g
  | 22, v, W => ∃ g, v = .pointer (some ⟨g, 0, none⟩) ∧ B ≤ g ∧ ResB W g
  | _, _, _ => True

theorem vm_keep {R B N : Nat} {am : Option Addr} {cm : Nat} (hR : R < B) : ∀ i v W W', VM R B N am cm i v W → TT R B N W W' → VM R B N am cm i v W' := by
  intro i v W W' h t
  unfold VM at h ⊢
  split at h <;> first
    | exact h
    | exact (let ⟨g, e, l⟩ := h; ⟨g, e, l.keep hR t⟩)
    | exact (let ⟨g, k, n, e, hk, l⟩ := h; ⟨g, k, n, e, hk, l.keep hR t⟩)
    | exact (let ⟨a, n, c, L, C, D, e, o⟩ := h; ⟨a, n, c, L, C, D, e, o.keep hR t⟩)
    | exact (let ⟨a, n, c, L, e, o⟩ := h; ⟨a, n, c, L, e, o.keep hR t⟩)
    | exact (let ⟨g, e, hb, l⟩ := h; ⟨g, e, hb, l.keep hR hb t⟩)

theorem storeM_tt {R B N : Nat} {W : World} {g : Nat} {x : Value} (hh : W.heap[g]? = some (.cells #[x] 33)) {a : Option Addr} {n c : Nat} {L : List Int} (ho : OwnR B N W a n c L) : TT R B N W (W.setCell ⟨g, 0, none⟩ (.slice a n c)) := by
  refine ⟨by simp, fun b hb hn => ?_⟩
  by_cases e : b = g
  · subst e
    refine .inr (.inl ⟨⟨x, hh⟩, a, n, c, L, ?_, own_block ho.1 (fun k hk => ?_), ho.2⟩)
    · rw [Go.Joins.block_setCell hh]
      rfl
    · obtain ⟨_, _, cur, hc⟩ := own_typed ho.1 hk
      exact Below.heap_setCell W ⟨b, 0, none⟩ _ k (fun e2 => by
        have e3 : k = b := e2
        subst e3
        exact absurd (cells_type hc hh) (by decide))
  · exact .inl (Below.heap_setCell W ⟨g, 0, none⟩ _ b e)
theorem storeR_tt {R B N : Nat} {W : World} {g : Nat} {C D : Int} (hh : W.heap[g]? = some (.cells #[.int .i64 C, .int .i64 D] 37)) (C' D' : Int) : TT R B N W ((W.setCell ⟨g, 0, none⟩ (.int .i64 C')).setCell ⟨g, 1, none⟩ (.int .i64 D')) := by
  refine ⟨by simp, fun b hb hn => ?_⟩
  by_cases e : b = g
  · subst e
    refine .inr (.inr ⟨⟨C, D, hh⟩, C', D', ?_⟩)
    rw [Go.Joins.block_setCell (Go.Joins.block_setCell hh _)]
    rfl
  · exact .inl ((Below.heap_setCell _ ⟨g, 1, none⟩ _ b e).trans (Below.heap_setCell W ⟨g, 0, none⟩ _ b e))

end Go.Proofs.YtklpdpdjblakgaaDoor

/- LMap2 -/
namespace Go.Proofs.YtklpdpdjblakgaaDoor
open Go.RowKit
set_option linter.unusedVariables false
set_option linter.unusedSimpArgs false

/-- What a draw of entries answers. -/
def DrawnM (R p : Nat) (w : World) (e : Ending) (w' : World) : Prop :=
  ∃ (L : List Int) (N : Nat) (a : Option Addr) (c q : Nat), e = .returned (.agg #[.slice a N c]) ∧ w'.ownsRow w.heap.size 84 2 (.slice a N c) N (L.map (Value.int .i64)) ∧ N ≤ 9 ∧ Rd w' R q ∧ q ≤ p + 400 ∧ KB R w w'

/-- What stands in the loop. -/
structure LM (w : World) (R q : Nat) (L : List Int) (N : Nat) (a : Option Addr) (c : Nat) (W : World) : Prop where
  rd : Rd W R q
  kb : KB R w W
  z : W.cell? ⟨w.heap.size, 0, none⟩ = some (.slice none 0 0)
  zf : W.frozen? ⟨w.heap.size, 0, none⟩ = false
  m : W.cell? ⟨w.heap.size + 1, 0, none⟩ = some (.slice a N c)
  mf : W.frozen? ⟨w.heap.size + 1, 0, none⟩ = false
  own : W.ownsRow (w.heap.size + 2) 84 2 (.slice a N c) N (L.map (Value.int .i64))
  lt : R < w.heap.size

theorem LM.sz {w : World} {R q : Nat} {L : List Int} {N : Nat} {a : Option Addr} {c : Nat} {W : World} (h : LM w R q L N a c W) : w.heap.size + 1 < W.heap.size := World.block_lt_of_cell? W ⟨w.heap.size + 1, 0, none⟩ h.m

/-- Behind what turns the reader alone. -/
theorem LM.kept {w : World} {R q q' : Nat} {L : List Int} {N : Nat} {a : Option Addr} {c : Nat} {W W' : World} (h : LM w R q L N a c W) (k : KB R W W') (hr : Rd W' R q') : LM w R q' L N a c W' := by
  have hs := h.sz
  have hl := h.lt
  exact
  { rd := hr, kb := h.kb.trans k, z := k.cell h.z (by omega), zf := (k.frozen (by omega) (by omega)).trans h.zf, m := k.cell h.m (by omega), mf := (k.frozen (by omega) (by omega)).trans h.mf,
    own := own_block h.own (fun g hg => k.block g (own_typed h.own hg).2.1 (by have := (own_typed h.own hg).1; omega)), lt := h.lt }


/-- The operations of the round's one region. -/
def ops5 : Array Oper := #[{ dst := some 17, op := Op.load 33 (Operand.tmp 5), type := 33, pos := "l20_draw.go:42", after := #[], guard := none }, { dst := some 18, op := Op.move (Operand.tmp 0), type := 78, pos := "l20_draw.go:42", after := #[], guard := none }, { dst := some 19, op := Op.call { callee := Callee.value (Operand.func 82), args := #[Operand.tmp 18, Operand.const (Value.int IntKind.i64 10)], argTypes := #[78, 3] }, type := 3, pos := "l20_draw.go:42", after := #[{ on := 1, ground := Ground.data }], guard := none }, { dst := some 20, op := Op.move (Operand.tmp 0), type := 78, pos := "l20_draw.go:42", after := #[], guard := none }, { dst := some 21, op := Op.call { callee := Callee.value (Operand.func 82), args := #[Operand.tmp 20, Operand.const (Value.int IntKind.i64 100)], argTypes := #[78, 3] }, type := 3, pos := "l20_draw.go:42", after := #[{ on := 3, ground := Ground.data }, { on := 2, ground := Ground.chain }], guard := none }, { dst := some 22, op := Op.buildSlice 25 4 #[(0, Operand.tmp 19), (1, Operand.tmp 21), (2, Operand.const (Value.int IntKind.i64 0)), (3, Operand.const (Value.int IntKind.i64 99))], type := 25, pos := "l20_draw.go:42", after := #[{ on := 2, ground := Ground.data }, { on := 4, ground := Ground.data }], guard := none }, { dst := some 23, op := Op.move (Operand.tmp 0), type := 78, pos := "l20_draw.go:42", after := #[], guard := none }, { dst := some 24, op := Op.call { callee := Callee.value (Operand.func 82), args := #[Operand.tmp 23, Operand.const (Value.int IntKind.i64 4)], argTypes := #[78, 3] }, type := 3, pos := "l20_draw.go:42", after := #[{ on := 6, ground := Ground.data }, { on := 4, ground := Ground.chain }], guard := none }, { dst := some 25, op := Op.indexAddr 25 (Operand.tmp 22) (Operand.tmp 24), type := 0, pos := "l20_draw.go:42", after := #[{ on := 5, ground := Ground.data }, { on := 7, ground := Ground.data }], guard := none }, { dst := some 26, op := Op.load 3 (Operand.tmp 25), type := 3, pos := "l20_draw.go:42", after := #[{ on := 8, ground := Ground.data }], guard := none }, { dst := some 27, op := Op.move (Operand.tmp 0), type := 78, pos := "l20_draw.go:42", after := #[], guard := none }, { dst := some 28, op := Op.call { callee := Callee.value (Operand.func 82), args := #[Operand.tmp 27, Operand.const (Value.int IntKind.i64 10)], argTypes := #[78, 3] }, type := 3, pos := "l20_draw.go:42", after := #[{ on := 10, ground := Ground.data }, { on := 7, ground := Ground.chain }], guard := none }, { dst := some 29, op := Op.buildSlice 25 3 #[(0, Operand.tmp 28), (1, Operand.const (Value.int IntKind.i64 999)), (2, Operand.const (Value.int IntKind.i64 0))], type := 25, pos := "l20_draw.go:42", after := #[{ on := 11, ground := Ground.data }], guard := none }, { dst := some 30, op := Op.move (Operand.tmp 0), type := 78, pos := "l20_draw.go:42", after := #[], guard := none }, { dst := some 31, op := Op.call { callee := Callee.value (Operand.func 82), args := #[Operand.tmp 30, Operand.const (Value.int IntKind.i64 3)], argTypes := #[78, 3] }, type := 3, pos := "l20_draw.go:42", after := #[{ on := 13, ground := Ground.data }, { on := 11, ground := Ground.chain }], guard := none }, { dst := some 32, op := Op.indexAddr 25 (Operand.tmp 29) (Operand.tmp 31), type := 0, pos := "l20_draw.go:42", after := #[{ on := 12, ground := Ground.data }, { on := 14, ground := Ground.data }], guard := none }, { dst := some 33, op := Op.load 3 (Operand.tmp 32), type := 3, pos := "l20_draw.go:42", after := #[{ on := 15, ground := Ground.data }], guard := none }, { dst := some 34, op := Op.call { callee := Callee.value (Operand.func 37), args := #[Operand.tmp 17, Operand.tmp 26, Operand.tmp 33], argTypes := #[33, 3, 3] }, type := 55, pos := "l20_draw.go:42", after := #[{ on := 0, ground := Ground.data }, { on := 9, ground := Ground.data }, { on := 16, ground := Ground.data }, { on := 14, ground := Ground.chain }], guard := none }, { dst := some 16, op := Op.move (Operand.tmp 34), type := 55, pos := "l20_draw.go:42", after := #[{ on := 17, ground := Ground.data }], guard := none }, { dst := some 35, op := Op.extract (Operand.tmp 16) 0, type := 33, pos := "l20_draw.go:42", after := #[{ on := 18, ground := Ground.data }], guard := none }, { dst := some 36, op := Op.extract (Operand.tmp 16) 1, type := 37, pos := "l20_draw.go:42", after := #[{ on := 18, ground := Ground.data }, { on := 23, ground := Ground.gcOnly Departure.lateStores }], guard := none }, { dst := some 7, op := Op.alloc 33, type := 0, pos := "l20_draw.go:42", after := #[], guard := none }, { dst := some 8, op := Op.alloc 37, type := 0, pos := "l20_draw.go:42", after := #[], guard := none }, { dst := none, op := Op.store 33 (Operand.tmp 7) (Operand.tmp 35), type := 0, pos := "l20_draw.go:42", after := #[{ on := 21, ground := Ground.data }, { on := 19, ground := Ground.data }, { on := 17, ground := Ground.chain }, { on := 0, ground := Ground.phase }, { on := 1, ground := Ground.phase }, { on := 2, ground := Ground.phase }, { on := 3, ground := Ground.phase }, { on := 4, ground := Ground.phase }, { on := 5, ground := Ground.phase }, { on := 6, ground := Ground.phase }, { on := 7, ground := Ground.phase }, { on := 8, ground := Ground.phase }, { on := 9, ground := Ground.phase }, { on := 10, ground := Ground.phase }, { on := 11, ground := Ground.phase }, { on := 12, ground := Ground.phase }, { on := 13, ground := Ground.phase }, { on := 14, ground := Ground.phase }, { on := 15, ground := Ground.phase }, { on := 16, ground := Ground.phase }, { on := 17, ground := Ground.phase }, { on := 18, ground := Ground.phase }, { on := 19, ground := Ground.phase }, { on := 20, ground := Ground.textOnly Departure.lateStores }, { on := 21, ground := Ground.phase }, { on := 22, ground := Ground.phase }], guard := none }, { dst := none, op := Op.store 37 (Operand.tmp 8) (Operand.tmp 36), type := 0, pos := "l20_draw.go:42", after := #[{ on := 22, ground := Ground.data }, { on := 20, ground := Ground.data }, { on := 23, ground := Ground.chain }, { on := 0, ground := Ground.phase }, { on := 1, ground := Ground.phase }, { on := 2, ground := Ground.phase }, { on := 3, ground := Ground.phase }, { on := 4, ground := Ground.phase }, { on := 5, ground := Ground.phase }, { on := 6, ground := Ground.phase }, { on := 7, ground := Ground.phase }, { on := 8, ground := Ground.phase }, { on := 9, ground := Ground.phase }, { on := 10, ground := Ground.phase }, { on := 11, ground := Ground.phase }, { on := 12, ground := Ground.phase }, { on := 13, ground := Ground.phase }, { on := 14, ground := Ground.phase }, { on := 15, ground := Ground.phase }, { on := 16, ground := Ground.phase }, { on := 17, ground := Ground.phase }, { on := 18, ground := Ground.phase }, { on := 19, ground := Ground.phase }, { on := 20, ground := Ground.phase }, { on := 21, ground := Ground.phase }, { on := 22, ground := Ground.phase }, { on := 23, ground := Ground.phase }], guard := none }]

set_option maxRecDepth 20000 in
set_option maxHeartbeats 20000000 in
theorem hop5 {R N c q : Nat} {a : Option Addr} {L : List Int} {w wr : World} {a0 : Act} {Q : Exit → Act → World → Prop} (hRw : R < w.heap.size) (hsz : w.heap.size + 1 < wr.heap.size) (HI : LM w R q L N a c wr) (hN : N ≤ 8) (hqb : q ≤ 990000)
    (e0 : a0.eval (.tmp 0) = .pointer (some ⟨R, 0, none⟩)) (e5 : a0.eval (.tmp 5) = .pointer (some ⟨w.heap.size + 1, 0, none⟩)) :
    ∀ (i : Nat) (o : Oper) (f : Nat) (W1 : Act) (W : World), i < 25 → ops5[i]? = some o → (∃ q', Rd W R q' ∧ q' + (f + 1) ≤ q + 25 ∧ KB R wr W) →
      (∀ e ∈ o.after, Region.binds .any e = true → ∀ oj, ops5[e.on]? = some oj → ∃ v, VM R wr.heap.size N a c e.on v W ∧ ∀ d, oj.dst = some d → W1.eval (.tmp d) = v) →
      (∀ d, (∀ oj ∈ ops5.toList, oj.dst ≠ some d) → W1.eval (.tmp d) = a0.eval (.tmp d)) → Oper.wp Tryd.prog o W1 W (fun a' w' => ∃ v, a' = W1.put o.dst v ∧ VM R wr.heap.size N a c i v w' ∧ (∃ q', Rd w' R q' ∧ q' + f ≤ q + 25 ∧ KB R wr w') ∧ TT R wr.heap.size N W w') Q := by
  intro i o f W1 W hi ho hI hdep hfix
  obtain ⟨q', hr, hq', hkb⟩ := hI
  have h0 := eval_tmp ((hfix 0 (dst_none (by kernel_rfl))).trans e0)
  have h5 := eval_tmp ((hfix 5 (dst_none (by kernel_rfl))).trans e5)
  have hm : W.cell? ⟨w.heap.size + 1, 0, none⟩ = some (.slice a N c) := hkb.cell HI.m (by omega)
  have hown : W.ownsRow (w.heap.size + 2) 84 2 (.slice a N c) N (L.map (Value.int .i64)) := own_block HI.own (fun g hg => hkb.block g (own_typed HI.own hg).2.1 (by have := (own_typed HI.own hg).1; omega))
  clear hfix HI e0 e5
  generalize hKK : (fun (a' : Act) (w' : World) => ∃ v, a' = W1.put o.dst v ∧ VM R wr.heap.size N a c i v w' ∧ (∃ q', Rd w' R q' ∧ q' + f ≤ q + 25 ∧ KB R wr w') ∧ TT R wr.heap.size N W w') = KK
  have HK : Hid (∀ v w', VM R wr.heap.size N a c i v w' → (∃ q', Rd w' R q' ∧ q' + f ≤ q + 25 ∧ KB R wr w') → TT R wr.heap.size N W w' → KK (W1.put o.dst v) w') := by
    subst hKK
    exact fun v w' h1 h2 h3 => ⟨v, rfl, h1, h2, h3⟩
  clear hKK
  rcases lt25 hi with rfl | rfl | rfl | rfl | rfl | rfl | rfl | rfl | rfl | rfl | rfl | rfl | rfl | rfl | rfl | rfl | rfl | rfl | rfl | rfl | rfl | rfl | rfl | rfl | rfl
  · obtain rfl : ({ dst := some 17, op := Op.load 33 (Operand.tmp 5), type := 33, pos := "l20_draw.go:42", after := #[], guard := none } : Oper) = o := Option.some.inj ho
    clear ho hi
    clear hdep
    go_simp
    exact HK.out _ _ rfl ⟨q', hr, by omega, hkb⟩ (TT.of_kb (KB.refl R W))
  · obtain rfl : ({ dst := some 18, op := Op.move (Operand.tmp 0), type := 78, pos := "l20_draw.go:42", after := #[], guard := none } : Oper) = o := Option.some.inj ho
    clear ho hi
    clear hdep
    go_simp
    exact HK.out _ _ rfl ⟨q', hr, by omega, hkb⟩ (TT.of_kb (KB.refl R W))
  · obtain rfl : ({ dst := some 19, op := Op.call { callee := Callee.value (Operand.func 82), args := #[Operand.tmp 18, Operand.const (Value.int IntKind.i64 10)], argTypes := #[78, 3] }, type := 3, pos := "l20_draw.go:42", after := #[{ on := 1, ground := Ground.data }], guard := none } : Oper) = o := Option.some.inj ho
    clear ho hi
    obtain ⟨v1, hv1, he1'⟩ := hdep { on := 1, ground := .data } (by simp) rfl _ rfl
    have he1 := eval_tmp (he1' 18 rfl)
    clear he1'
    clear hdep
    obtain rfl : v1 = .pointer (some ⟨R, 0, none⟩) := hv1
    go_simp
    refine (pick_any R q' 10 W hr (by omega) (by omega) (by omega)).mono ?_
    rintro e W2 ⟨k, hk, rfl, hpk⟩
    exact HK.out _ _ ⟨k, rfl, hk.1, hk.2⟩ ⟨q' + 1, rd_picked hr hpk, by omega, hkb.trans (KB.of_picked hpk)⟩ (TT.of_kb (KB.of_picked hpk))
  · obtain rfl : ({ dst := some 20, op := Op.move (Operand.tmp 0), type := 78, pos := "l20_draw.go:42", after := #[], guard := none } : Oper) = o := Option.some.inj ho
    clear ho hi
    clear hdep
    go_simp
    exact HK.out _ _ rfl ⟨q', hr, by omega, hkb⟩ (TT.of_kb (KB.refl R W))
  · obtain rfl : ({ dst := some 21, op := Op.call { callee := Callee.value (Operand.func 82), args := #[Operand.tmp 20, Operand.const (Value.int IntKind.i64 100)], argTypes := #[78, 3] }, type := 3, pos := "l20_draw.go:42", after := #[{ on := 3, ground := Ground.data }, { on := 2, ground := Ground.chain }], guard := none } : Oper) = o := Option.some.inj ho
    clear ho hi
    obtain ⟨v3, hv3, he3'⟩ := hdep { on := 3, ground := .data } (by simp) rfl _ rfl
    have he3 := eval_tmp (he3' 20 rfl)
    clear he3'
    clear hdep
    obtain rfl : v3 = .pointer (some ⟨R, 0, none⟩) := hv3
    go_simp
    refine (pick_any R q' 100 W hr (by omega) (by omega) (by omega)).mono ?_
    rintro e W2 ⟨k, hk, rfl, hpk⟩
    exact HK.out _ _ ⟨k, rfl, hk.1, hk.2⟩ ⟨q' + 1, rd_picked hr hpk, by omega, hkb.trans (KB.of_picked hpk)⟩ (TT.of_kb (KB.of_picked hpk))
  · obtain rfl : ({ dst := some 22, op := Op.buildSlice 25 4 #[(0, Operand.tmp 19), (1, Operand.tmp 21), (2, Operand.const (Value.int IntKind.i64 0)), (3, Operand.const (Value.int IntKind.i64 99))], type := 25, pos := "l20_draw.go:42", after := #[{ on := 2, ground := Ground.data }, { on := 4, ground := Ground.data }], guard := none } : Oper) = o := Option.some.inj ho
    clear ho hi
    obtain ⟨v2, hv2, he2'⟩ := hdep { on := 2, ground := .data } (by simp) rfl _ rfl
    have he2 := eval_tmp (he2' 19 rfl)
    clear he2'
    obtain ⟨v4, hv4, he4'⟩ := hdep { on := 4, ground := .data } (by simp) rfl _ rfl
    have he4 := eval_tmp (he4' 21 rfl)
    clear he4'
    clear hdep
    obtain ⟨k2, rfl, _, _⟩ := hv2
    obtain ⟨k4, rfl, _, _⟩ := hv4
    go_simp
    exact HK.out _ _ ⟨W.heap.size, rfl, by have := hkb.size; omega, [k2, k4, 0, 99], rfl, new_block W _⟩ ⟨q', rd_below hr (al1 _ _), by omega, hkb.trans (KB.of_below (al1 _ _) (by have := hkb.size; omega))⟩ (TT.of_kb (KB.of_below (al1 _ _) (by have := hkb.size; omega)))
  · obtain rfl : ({ dst := some 23, op := Op.move (Operand.tmp 0), type := 78, pos := "l20_draw.go:42", after := #[], guard := none } : Oper) = o := Option.some.inj ho
    clear ho hi
    clear hdep
    go_simp
    exact HK.out _ _ rfl ⟨q', hr, by omega, hkb⟩ (TT.of_kb (KB.refl R W))
  · obtain rfl : ({ dst := some 24, op := Op.call { callee := Callee.value (Operand.func 82), args := #[Operand.tmp 23, Operand.const (Value.int IntKind.i64 4)], argTypes := #[78, 3] }, type := 3, pos := "l20_draw.go:42", after := #[{ on := 6, ground := Ground.data }, { on := 4, ground := Ground.chain }], guard := none } : Oper) = o := Option.some.inj ho
    clear ho hi
    obtain ⟨v6, hv6, he6'⟩ := hdep { on := 6, ground := .data } (by simp) rfl _ rfl
    have he6 := eval_tmp (he6' 23 rfl)
    clear he6'
    clear hdep
    obtain rfl : v6 = .pointer (some ⟨R, 0, none⟩) := hv6
    go_simp
    refine (pick_any R q' 4 W hr (by omega) (by omega) (by omega)).mono ?_
    rintro e W2 ⟨k, hk, rfl, hpk⟩
    exact HK.out _ _ ⟨k, rfl, hk.1, hk.2⟩ ⟨q' + 1, rd_picked hr hpk, by omega, hkb.trans (KB.of_picked hpk)⟩ (TT.of_kb (KB.of_picked hpk))
  · obtain rfl : ({ dst := some 25, op := Op.indexAddr 25 (Operand.tmp 22) (Operand.tmp 24), type := 0, pos := "l20_draw.go:42", after := #[{ on := 5, ground := Ground.data }, { on := 7, ground := Ground.data }], guard := none } : Oper) = o := Option.some.inj ho
    clear ho hi
    obtain ⟨v5, hv5, he5'⟩ := hdep { on := 5, ground := .data } (by simp) rfl _ rfl
    have he5 := eval_tmp (he5' 22 rfl)
    clear he5'
    obtain ⟨v7, hv7, he7'⟩ := hdep { on := 7, ground := .data } (by simp) rfl _ rfl
    have he7 := eval_tmp (he7' 24 rfl)
    clear he7'
    clear hdep
    obtain ⟨g, rfl, hl⟩ := hv5
    obtain ⟨k, rfl, hk0, hk1⟩ := hv7
    obtain ⟨k, rfl⟩ := Int.eq_ofNat_of_zero_le hk0
    have hk : k < 4 := by omega
    go_simp
    exact HK.out _ _ ⟨g, k, 4, rfl, hk, hl⟩ ⟨q', hr, by omega, hkb⟩ (TT.of_kb (KB.refl R W))
  · obtain rfl : ({ dst := some 26, op := Op.load 3 (Operand.tmp 25), type := 3, pos := "l20_draw.go:42", after := #[{ on := 8, ground := Ground.data }], guard := none } : Oper) = o := Option.some.inj ho
    clear ho hi
    obtain ⟨v8, hv8, he8'⟩ := hdep { on := 8, ground := .data } (by simp) rfl _ rfl
    have he8 := eval_tmp (he8' 25 rfl)
    clear he8'
    clear hdep
    obtain ⟨g, k, n', rfl, hk, hl⟩ := hv8
    obtain ⟨x, hx⟩ := hl.cell hk
    go_simp
    exact HK.out _ _ ⟨x, rfl⟩ ⟨q', hr, by omega, hkb⟩ (TT.of_kb (KB.refl R W))
  · obtain rfl : ({ dst := some 27, op := Op.move (Operand.tmp 0), type := 78, pos := "l20_draw.go:42", after := #[], guard := none } : Oper) = o := Option.some.inj ho
    clear ho hi
    clear hdep
    go_simp
    exact HK.out _ _ rfl ⟨q', hr, by omega, hkb⟩ (TT.of_kb (KB.refl R W))
  · obtain rfl : ({ dst := some 28, op := Op.call { callee := Callee.value (Operand.func 82), args := #[Operand.tmp 27, Operand.const (Value.int IntKind.i64 10)], argTypes := #[78, 3] }, type := 3, pos := "l20_draw.go:42", after := #[{ on := 10, ground := Ground.data }, { on := 7, ground := Ground.chain }], guard := none } : Oper) = o := Option.some.inj ho
    clear ho hi
    obtain ⟨v10, hv10, he10'⟩ := hdep { on := 10, ground := .data } (by simp) rfl _ rfl
    have he10 := eval_tmp (he10' 27 rfl)
    clear he10'
    clear hdep
    obtain rfl : v10 = .pointer (some ⟨R, 0, none⟩) := hv10
    go_simp
    refine (pick_any R q' 10 W hr (by omega) (by omega) (by omega)).mono ?_
    rintro e W2 ⟨k, hk, rfl, hpk⟩
    exact HK.out _ _ ⟨k, rfl, hk.1, hk.2⟩ ⟨q' + 1, rd_picked hr hpk, by omega, hkb.trans (KB.of_picked hpk)⟩ (TT.of_kb (KB.of_picked hpk))
  · obtain rfl : ({ dst := some 29, op := Op.buildSlice 25 3 #[(0, Operand.tmp 28), (1, Operand.const (Value.int IntKind.i64 999)), (2, Operand.const (Value.int IntKind.i64 0))], type := 25, pos := "l20_draw.go:42", after := #[{ on := 11, ground := Ground.data }], guard := none } : Oper) = o := Option.some.inj ho
    clear ho hi
    obtain ⟨v11, hv11, he11'⟩ := hdep { on := 11, ground := .data } (by simp) rfl _ rfl
    have he11 := eval_tmp (he11' 28 rfl)
    clear he11'
    clear hdep
    obtain ⟨k2, rfl, _, _⟩ := hv11
    go_simp
    exact HK.out _ _ ⟨W.heap.size, rfl, by have := hkb.size; omega, [k2, 999, 0], rfl, new_block W _⟩ ⟨q', rd_below hr (al1 _ _), by omega, hkb.trans (KB.of_below (al1 _ _) (by have := hkb.size; omega))⟩ (TT.of_kb (KB.of_below (al1 _ _) (by have := hkb.size; omega)))
  · obtain rfl : ({ dst := some 30, op := Op.move (Operand.tmp 0), type := 78, pos := "l20_draw.go:42", after := #[], guard := none } : Oper) = o := Option.some.inj ho
    clear ho hi
    clear hdep
    go_simp
    exact HK.out _ _ rfl ⟨q', hr, by omega, hkb⟩ (TT.of_kb (KB.refl R W))
  · obtain rfl : ({ dst := some 31, op := Op.call { callee := Callee.value (Operand.func 82), args := #[Operand.tmp 30, Operand.const (Value.int IntKind.i64 3)], argTypes := #[78, 3] }, type := 3, pos := "l20_draw.go:42", after := #[{ on := 13, ground := Ground.data }, { on := 11, ground := Ground.chain }], guard := none } : Oper) = o := Option.some.inj ho
    clear ho hi
    obtain ⟨v13, hv13, he13'⟩ := hdep { on := 13, ground := .data } (by simp) rfl _ rfl
    have he13 := eval_tmp (he13' 30 rfl)
    clear he13'
    clear hdep
    obtain rfl : v13 = .pointer (some ⟨R, 0, none⟩) := hv13
    go_simp
    refine (pick_any R q' 3 W hr (by omega) (by omega) (by omega)).mono ?_
    rintro e W2 ⟨k, hk, rfl, hpk⟩
    exact HK.out _ _ ⟨k, rfl, hk.1, hk.2⟩ ⟨q' + 1, rd_picked hr hpk, by omega, hkb.trans (KB.of_picked hpk)⟩ (TT.of_kb (KB.of_picked hpk))
  · obtain rfl : ({ dst := some 32, op := Op.indexAddr 25 (Operand.tmp 29) (Operand.tmp 31), type := 0, pos := "l20_draw.go:42", after := #[{ on := 12, ground := Ground.data }, { on := 14, ground := Ground.data }], guard := none } : Oper) = o := Option.some.inj ho
    clear ho hi
    obtain ⟨v12, hv12, he12'⟩ := hdep { on := 12, ground := .data } (by simp) rfl _ rfl
    have he12 := eval_tmp (he12' 29 rfl)
    clear he12'
    obtain ⟨v14, hv14, he14'⟩ := hdep { on := 14, ground := .data } (by simp) rfl _ rfl
    have he14 := eval_tmp (he14' 31 rfl)
    clear he14'
    clear hdep
    obtain ⟨g, rfl, hl⟩ := hv12
    obtain ⟨k, rfl, hk0, hk1⟩ := hv14
    obtain ⟨k, rfl⟩ := Int.eq_ofNat_of_zero_le hk0
    have hk : k < 3 := by omega
    go_simp
    exact HK.out _ _ ⟨g, k, 3, rfl, hk, hl⟩ ⟨q', hr, by omega, hkb⟩ (TT.of_kb (KB.refl R W))
  · obtain rfl : ({ dst := some 33, op := Op.load 3 (Operand.tmp 32), type := 3, pos := "l20_draw.go:42", after := #[{ on := 15, ground := Ground.data }], guard := none } : Oper) = o := Option.some.inj ho
    clear ho hi
    obtain ⟨v15, hv15, he15'⟩ := hdep { on := 15, ground := .data } (by simp) rfl _ rfl
    have he15 := eval_tmp (he15' 32 rfl)
    clear he15'
    clear hdep
    obtain ⟨g, k, n', rfl, hk, hl⟩ := hv15
    obtain ⟨x, hx⟩ := hl.cell hk
    go_simp
    exact HK.out _ _ ⟨x, rfl⟩ ⟨q', hr, by omega, hkb⟩ (TT.of_kb (KB.refl R W))
  · obtain rfl : ({ dst := some 34, op := Op.call { callee := Callee.value (Operand.func 37), args := #[Operand.tmp 17, Operand.tmp 26, Operand.tmp 33], argTypes := #[33, 3, 3] }, type := 55, pos := "l20_draw.go:42", after := #[{ on := 0, ground := Ground.data }, { on := 9, ground := Ground.data }, { on := 16, ground := Ground.data }, { on := 14, ground := Ground.chain }], guard := none } : Oper) = o := Option.some.inj ho
    clear ho hi
    obtain ⟨v0, hv0, he0'⟩ := hdep { on := 0, ground := .data } (by simp) rfl _ rfl
    have he0 := eval_tmp (he0' 17 rfl)
    clear he0'
    obtain ⟨v9, hv9, he9'⟩ := hdep { on := 9, ground := .data } (by simp) rfl _ rfl
    have he9 := eval_tmp (he9' 26 rfl)
    clear he9'
    obtain ⟨v16, hv16, he16'⟩ := hdep { on := 16, ground := .data } (by simp) rfl _ rfl
    have he16 := eval_tmp (he16' 33 rfl)
    clear he16'
    clear hdep
    obtain rfl : v0 = .agg #[.slice a N c] := hv0
    obtain ⟨x9, rfl⟩ := hv9
    obtain ⟨x16, rfl⟩ := hv16
    go_simp
    refine (specMapPut_cap a N c L x9 x16 W (own2_sints hown) (by omega)).mono ?_
    rintro e W2 ⟨a2, c2, rfl, ho2, hb2⟩
    exact HK.out _ _ ⟨a2, _, c2, _, _, _, rfl, own_mono ho2 hkb.size, ptN_le L N x9 x16⟩ ⟨q', rd_below hr hb2, by omega, hkb.trans (KB.of_below hb2 (by have := hkb.size; omega))⟩ (TT.of_kb (KB.of_below hb2 (by have := hkb.size; omega)))
  · obtain rfl : ({ dst := some 16, op := Op.move (Operand.tmp 34), type := 55, pos := "l20_draw.go:42", after := #[{ on := 17, ground := Ground.data }], guard := none } : Oper) = o := Option.some.inj ho
    clear ho hi
    obtain ⟨v17, hv17, he17'⟩ := hdep { on := 17, ground := .data } (by simp) rfl _ rfl
    have he17 := eval_tmp (he17' 34 rfl)
    clear he17'
    clear hdep
    obtain ⟨a2, n2, c2, L2, C, D, rfl, ho2⟩ := hv17
    go_simp
    exact HK.out _ _ ⟨a2, n2, c2, L2, C, D, rfl, ho2⟩ ⟨q', hr, by omega, hkb⟩ (TT.of_kb (KB.refl R W))
  · obtain rfl : ({ dst := some 35, op := Op.extract (Operand.tmp 16) 0, type := 33, pos := "l20_draw.go:42", after := #[{ on := 18, ground := Ground.data }], guard := none } : Oper) = o := Option.some.inj ho
    clear ho hi
    obtain ⟨v18, hv18, he18'⟩ := hdep { on := 18, ground := .data } (by simp) rfl _ rfl
    have he18 := eval_tmp (he18' 16 rfl)
    clear he18'
    clear hdep
    obtain ⟨a2, n2, c2, L2, C, D, rfl, ho2⟩ := hv18
    go_simp
    exact HK.out _ _ ⟨a2, n2, c2, L2, rfl, ho2⟩ ⟨q', hr, by omega, hkb⟩ (TT.of_kb (KB.refl R W))
  · obtain rfl : ({ dst := some 36, op := Op.extract (Operand.tmp 16) 1, type := 37, pos := "l20_draw.go:42", after := #[{ on := 18, ground := Ground.data }, { on := 23, ground := Ground.gcOnly Departure.lateStores }], guard := none } : Oper) = o := Option.some.inj ho
    clear ho hi
    obtain ⟨v18, hv18, he18'⟩ := hdep { on := 18, ground := .data } (by simp) rfl _ rfl
    have he18 := eval_tmp (he18' 16 rfl)
    clear he18'
    clear hdep
    obtain ⟨a2, n2, c2, L2, C, D, rfl, ho2⟩ := hv18
    go_simp
    exact HK.out _ _ ⟨C, D, rfl⟩ ⟨q', hr, by omega, hkb⟩ (TT.of_kb (KB.refl R W))
  · obtain rfl : ({ dst := some 7, op := Op.alloc 33, type := 0, pos := "l20_draw.go:42", after := #[], guard := none } : Oper) = o := Option.some.inj ho
    clear ho hi
    clear hdep
    go_simp
    exact HK.out _ _ ⟨W.heap.size, rfl, hkb.size, none, 0, 0, [], new_block W _, ⟨rfl, .inl ⟨rfl, rfl⟩⟩, by omega⟩ ⟨q', rd_below hr (al1 _ _), by omega, hkb.trans (KB.of_below (al1 _ _) (by have := hkb.size; omega))⟩ (TT.of_kb (KB.of_below (al1 _ _) (by have := hkb.size; omega)))
  · obtain rfl : ({ dst := some 8, op := Op.alloc 37, type := 0, pos := "l20_draw.go:42", after := #[], guard := none } : Oper) = o := Option.some.inj ho
    clear ho hi
    clear hdep
    go_simp
    exact HK.out _ _ ⟨W.heap.size, rfl, hkb.size, 0, 0, new_block W _⟩ ⟨q', rd_below hr (al1 _ _), by omega, hkb.trans (KB.of_below (al1 _ _) (by have := hkb.size; omega))⟩ (TT.of_kb (KB.of_below (al1 _ _) (by have := hkb.size; omega)))
  · obtain rfl : ({ dst := none, op := Op.store 33 (Operand.tmp 7) (Operand.tmp 35), type := 0, pos := "l20_draw.go:42", after := #[{ on := 21, ground := Ground.data }, { on := 19, ground := Ground.data }, { on := 17, ground := Ground.chain }, { on := 0, ground := Ground.phase }, { on := 1, ground := Ground.phase }, { on := 2, ground := Ground.phase }, { on := 3, ground := Ground.phase }, { on := 4, ground := Ground.phase }, { on := 5, ground := Ground.phase }, { on := 6, ground := Ground.phase }, { on := 7, ground := Ground.phase }, { on := 8, ground := Ground.phase }, { on := 9, ground := Ground.phase }, { on := 10, ground := Ground.phase }, { on := 11, ground := Ground.phase }, { on := 12, ground := Ground.phase }, { on := 13, ground := Ground.phase }, { on := 14, ground := Ground.phase }, { on := 15, ground := Ground.phase }, { on := 16, ground := Ground.phase }, { on := 17, ground := Ground.phase }, { on := 18, ground := Ground.phase }, { on := 19, ground := Ground.phase }, { on := 20, ground := Ground.textOnly Departure.lateStores }, { on := 21, ground := Ground.phase }, { on := 22, ground := Ground.phase }], guard := none } : Oper) = o := Option.some.inj ho
    clear ho hi
    obtain ⟨v21, hv21, he21'⟩ := hdep { on := 21, ground := .data } (by simp) rfl _ rfl
    have he21 := eval_tmp (he21' 7 rfl)
    clear he21'
    obtain ⟨v19, hv19, he19'⟩ := hdep { on := 19, ground := .data } (by simp) rfl _ rfl
    have he19 := eval_tmp (he19' 35 rfl)
    clear he19'
    clear hdep
    obtain ⟨g, rfl, hg, a3, n3, c3, L3, hh, ho3⟩ := hv21
    obtain ⟨a2, n2, c2, L2, rfl, ho2⟩ := hv19
    have hcell := cell_block0 hh
    have hfz := frozen_block hh 0
    go_simp
    exact HK.out undef _ trivial ⟨q', rd_setCell hr (by omega) _, by omega, kb_setCell hkb (Nat.le_refl _) hg (by omega) _⟩ (storeM_tt hh ho2)
  · obtain rfl : ({ dst := none, op := Op.store 37 (Operand.tmp 8) (Operand.tmp 36), type := 0, pos := "l20_draw.go:42", after := #[{ on := 22, ground := Ground.data }, { on := 20, ground := Ground.data }, { on := 23, ground := Ground.chain }, { on := 0, ground := Ground.phase }, { on := 1, ground := Ground.phase }, { on := 2, ground := Ground.phase }, { on := 3, ground := Ground.phase }, { on := 4, ground := Ground.phase }, { on := 5, ground := Ground.phase }, { on := 6, ground := Ground.phase }, { on := 7, ground := Ground.phase }, { on := 8, ground := Ground.phase }, { on := 9, ground := Ground.phase }, { on := 10, ground := Ground.phase }, { on := 11, ground := Ground.phase }, { on := 12, ground := Ground.phase }, { on := 13, ground := Ground.phase }, { on := 14, ground := Ground.phase }, { on := 15, ground := Ground.phase }, { on := 16, ground := Ground.phase }, { on := 17, ground := Ground.phase }, { on := 18, ground := Ground.phase }, { on := 19, ground := Ground.phase }, { on := 20, ground := Ground.phase }, { on := 21, ground := Ground.phase }, { on := 22, ground := Ground.phase }, { on := 23, ground := Ground.phase }], guard := none } : Oper) = o := Option.some.inj ho
    clear ho hi
    obtain ⟨v22, hv22, he22'⟩ := hdep { on := 22, ground := .data } (by simp) rfl _ rfl
    have he22 := eval_tmp (he22' 8 rfl)
    clear he22'
    obtain ⟨v20, hv20, he20'⟩ := hdep { on := 20, ground := .data } (by simp) rfl _ rfl
    have he20 := eval_tmp (he20' 36 rfl)
    clear he20'
    clear hdep
    obtain ⟨g, rfl, hg, C3, D3, hh⟩ := hv22
    obtain ⟨C, D, rfl⟩ := hv20
    have hcell := cell_block0 hh
    have hcell1 := cell_block1 hh
    have hfz := frozen_block hh 0
    have hfz1 := frozen_block hh 1
    go_simp
    exact HK.out undef _ trivial ⟨q', rd_setCell (rd_setCell hr (by omega) _) (by omega) _, by omega, kb_setCell (kb_setCell hkb (Nat.le_refl _) hg (by omega) _) (Nat.le_refl _) hg (by omega) _⟩ (storeR_tt hh _ _)

end Go.Proofs.YtklpdpdjblakgaaDoor

/- LMap3 -/
namespace Go.Proofs.YtklpdpdjblakgaaDoor
open Go.RowKit
set_option linter.unusedVariables false
set_option linter.unusedSimpArgs false

theorem LM.turn {w : World} {R q q' : Nat} {L L2 : List Int} {N : Nat} {a a2 : Option Addr} {c n2 c2 : Nat} {wr W : World} (h : LM w R q L N a c wr) (k : KB R wr W) (hr : Rd W R q') (ho : OwnR wr.heap.size N W a2 n2 c2 L2) :
    LM w R q' L2 n2 a2 c2 (W.setCell ⟨w.heap.size + 1, 0, none⟩ (.slice a2 n2 c2)) := by
  have hs := h.sz
  have hl := h.lt
  have h1 := h.kept k hr
  exact
  { rd := rd_setCell hr (by omega) _, kb := kb_setCell h1.kb (Nat.le_refl _) (by omega) (by omega) _, z := (World.cell?_setCell_other _ _ _ _ (by simp)).trans h1.z, zf := by rw [World.frozen?_setCell]; exact h1.zf,
    m := World.cell?_setCell_same _ _ _ h1.m, mf := by rw [World.frozen?_setCell]; exact h1.mf,
    own := own_mono (ownsRow_setCell_other ho.1 (fun e => by have := (own_typed ho.1 e).1; dsimp only at this; omega) _) (by omega), lt := h.lt }

theorem LM.below {w : World} {R q : Nat} {L : List Int} {N : Nat} {a : Option Addr} {c : Nat} {W W' : World} (h : LM w R q L N a c W) (hb : Below W.heap.size W W') : LM w R q L N a c W' :=
  h.kept (KB.of_below hb (by have := h.sz; have := h.lt; omega)) (rd_below h.rd hb)

/-- Behind an append onto the entries. -/
theorem LM.app {w : World} {R q : Nat} {L L2 : List Int} {N : Nat} {a a2 : Option Addr} {c c2 : Nat} {W W' : World} (h : LM w R q L N a c W) (hg : W.grownBy W' (Value.slice a N c).ownBlock) (ho : W'.ownsRow (w.heap.size + 2) 84 2 (.slice a2 (N + 1) c2) (N + 1) (L2.map (Value.int .i64))) :
    W'.cell? ⟨w.heap.size + 1, 0, none⟩ = some (.slice a N c) ∧ W'.frozen? ⟨w.heap.size + 1, 0, none⟩ = false ∧ LM w R q L2 (N + 1) a2 c2 (W'.setCell ⟨w.heap.size + 1, 0, none⟩ (.slice a2 (N + 1) c2)) := by
  have hs := h.sz
  have hl := h.lt
  have nb : ∀ b, b < w.heap.size + 2 → some b ≠ (Value.slice a N c).ownBlock := fun b hb e => by have := (own_typed h.own e.symm).1; omega
  have nb2 : ∀ b, b < w.heap.size + 2 → (Value.slice a2 (N + 1) c2).ownBlock ≠ some b := fun b hb e => by have := (own_typed ho e).1; omega
  have hm := hg.cell h.m (nb _ (by dsimp only; omega))
  have hz := hg.cell h.z (nb _ (by dsimp only; omega))
  have fm : W'.frozen? ⟨w.heap.size + 1, 0, none⟩ = false := (World.frozen?_of_block (w := W) (a := ⟨w.heap.size + 1, 0, none⟩) (hg.block (w.heap.size + 1) hs (nb (w.heap.size + 1) (by omega)))).trans h.mf
  have fz : W'.frozen? ⟨w.heap.size, 0, none⟩ = false := (World.frozen?_of_block (w := W) (a := ⟨w.heap.size, 0, none⟩) (hg.block w.heap.size (by omega) (nb _ (by omega)))).trans h.zf
  have k : KB R w W' := ⟨h.kb.bel.grown hg (by omega) (fun b e => by have := (own_typed h.own e).1; omega), Nat.le_trans h.kb.size hg.size, fun b hb hn => (hg.block b (by have := h.kb.size; omega) (nb b (by omega))).trans (h.kb.block b hb hn)⟩
  have kb2 : Below (w.heap.size) W W' := (Below.refl _ W).grown hg (by omega) (fun b e => by have := (own_typed h.own e).1; omega)
  have hr : Rd W' R q := by
    obtain ⟨x, y, z, hb, hy, hc⟩ := h.rd
    refine ⟨x, y, z, (hg.block R (by omega) (nb R (by omega))).trans hb, hy, ?_⟩
    rcases hc with h0 | ⟨b, off, ha, hbR, hc⟩
    · exact .inl h0
    · refine .inr ⟨b, off, ha, hbR, fun i hi => ?_⟩
      obtain ⟨v, v0, v1, hx⟩ := hc i hi
      exact ⟨v, v0, v1, hg.cell hx (nb _ (by dsimp only; omega))⟩
  refine ⟨hm, fm, ?_⟩
  exact
  { rd := rd_setCell hr (by omega) _, kb := kb_setCell k (Nat.le_refl _) (by omega) (by omega) _, z := (World.cell?_setCell_other _ _ _ _ (by simp)).trans hz, zf := by rw [World.frozen?_setCell]; exact fz,
    m := World.cell?_setCell_same _ _ _ hm, mf := by rw [World.frozen?_setCell]; exact fm, own := ownsRow_setCell_other ho (nb2 _ (by dsimp only; omega)) _, lt := h.lt }

/-- The entries are handed back. -/
theorem LM.drawn {w : World} {R q p : Nat} {L : List Int} {N : Nat} {a : Option Addr} {c : Nat} {W : World} (h : LM w R q L N a c W) (hN : N ≤ 9) (hq : q ≤ p + 400) : DrawnM R p w (.returned (.agg #[.slice a N c])) (W.setCell ⟨w.heap.size, 0, none⟩ (.slice a N c)) :=
  ⟨L, N, a, c, q, rfl, own_mono (ownsRow_setCell_other h.own (fun e => by have := (own_typed h.own e).1; dsimp only at this; omega) _) (by omega), hN, rd_setCell h.rd h.lt _, hq, kb_setCell h.kb (Nat.le_refl _) (Nat.le_refl _) h.lt _⟩

set_option maxRecDepth 20000 in
set_option maxHeartbeats 4000000 in
theorem map_any (R p : Nat) (n : Int) (w : World) (hr : Rd w R p) (hRw : R < w.heap.size) (hp : p ≤ 900000) (hn : 1 ≤ n) (hn2 : n ≤ 1000) :
    Calls Tryd.prog 58 #[.pointer (some ⟨R, 0, none⟩), .int .i64 n] w (DrawnM R p w) := by
  obtain ⟨i0, hi, hz0, hz1, hz2⟩ := info_parts Tryd.info84
  have A := below_trans' (al1 w (.cells #[.slice none 0 0] 33)) (al1 _ (.cells #[.slice none 0 0] 33))
  have I0 : LM w R p [] 0 none 0 ((w.alloc (.cells #[.slice none 0 0] 33)).alloc (.cells #[.slice none 0 0] 33)) :=
    { rd := rd_below hr A, kb := KB.of_below A (by omega), z := cell_kept (al1 _ _) (cell_at w _ _ 0 rfl rfl), zf := ((al1 (w.alloc (.cells #[.slice none 0 0] 33)) (.cells #[.slice none 0 0] 33)).frozen (p := ⟨w.heap.size, 0, none⟩) (by simp)).trans (frozen_at w _ _ 0 rfl),
      m := cell_at _ _ _ 0 (by simp) rfl, mf := frozen_at _ _ _ 0 (by simp), own := ⟨rfl, .inl ⟨rfl, rfl⟩⟩, lt := hRw }
  clear A hr
  go_enter Tryd.func58, Tryd.ntmps58
  go_wp2_with fail
  refine (pick_any R p 9 _ I0.rd (by omega) (by omega) (by omega)).mono ?_
  rintro e w1 ⟨y, ⟨hy0, hy1⟩, rfl, hpk⟩
  obtain ⟨y, rfl⟩ := Int.eq_ofNat_of_zero_le hy0
  have I1 : Hid (LM w R (p + 1) [] 0 none 0 w1) := I0.kept (KB.of_picked hpk) (rd_picked I0.rd hpk)
  clear I0 hpk
  go_wp2
  go_loopw [6, 7, 8] (fun i _ _ wr => ∃ (K : Nat) (L : List Int) (N : Nat) (a : Option Addr) (c q : Nat), i = .int .i64 K ∧ LM w R q L N a c wr ∧ N + K ≤ 8 ∧ q + 25 * K ≤ p + 1 + 25 * 8)
    (fun i _ _ _ => (intOf i).toNat)
  case atStart => exact ⟨y, [], 0, _, _, _, rfl, I1.out, by omega, by omega⟩
  case round =>
    clear I1
    obtain ⟨K, L, N, a, c, q, rfl, I, hNK, hq⟩ := hrel
    have HI : Hid (LM w R q L N a c wr) := I
    clear I
    by_cases hK : K = 0
    · subst hK
      go_wp2_with fail
      refine (odd_any R q n _ HI.out.rd (by omega) (by omega) (by omega)).mono ?_
      rintro e w2 ⟨od, rfl, hpk⟩
      have HI2 : Hid (LM w R (q + 1) L N a c w2) := HI.out.kept (KB.of_picked hpk) (rd_picked HI.out.rd hpk)
      clear HI hpk
      cases od
      · have hm := HI2.out.m
        have hz := HI2.out.z
        have hzf := HI2.out.zf
        go_wp2
        exact bodyPost_ret (v := .agg #[.slice a N c]) (by simp [results, Tryd.results58, go_sem, hz]) rfl (HI2.out.drawn (by omega) (by omega))
      · go_wp2_with fail
        refine (pick_any R (q + 1) 4 _ HI2.out.rd (by omega) (by omega) (by omega)).mono ?_
        rintro e w3 ⟨k, ⟨hk0, hk1⟩, rfl, hpk⟩
        have HI3 : Hid (LM w R (q + 2) L N a c w3) := HI2.out.kept (KB.of_picked hpk) (rd_picked HI2.out.rd hpk)
        clear HI2 hpk
        by_cases ek0 : k = 0
        · subst ek0
          have HI4 : Hid (LM w R (q + 2) L N a c (w3.alloc (.cells #[.int .i64 (0), .int .i64 (0)] 84))) := HI3.out.below (al1 _ _)
          have hm := HI3.out.m
          have HSZ : Hid (w.heap.size + 1 < w3.heap.size) := HI3.out.sz
          go_wp2_with (at_builtin; go_must (refine wpList_append_own _ rfl (.tmp 60) (.tmp 62) 31 rfl (w.heap.size + 2) 84 i0 (.agg #[.int .i64 0, .int .i64 0]) 2 16 Tryd.underlying31 hi hz0 hz1 hz2 rfl (by decide) (.slice a N c) N _ rfl HI4.out.own ⟨w3.heap.size, 0, none⟩ 1 1 [.int .i64 (0), .int .i64 (0)] rfl rfl (by intro jj u hjj; match jj, hjj with | 0, hjj => simp at hjj; subst hjj; exact cell_at _ _ _ 0 rfl rfl | 1, hjj => simp at hjj; subst hjj; exact cell_at _ _ _ 1 rfl rfl) (by intro u hu; simp at hu; rcases hu with rfl | rfl <;> rfl) (by unfold maxLen; omega) (by omega) (by have := HSZ.out; simp; omega) ?_))
          intro v' w5 hown hgrow _
          obtain ⟨a2, c2, hv, _⟩ := own2_shape (zs := L ++ [0, 0]) (by simpa using hown)
          subst hv
          obtain ⟨mc5, mf5, M5⟩ := HI4.out.app hgrow (L2 := L ++ [0, 0]) (by simpa using hown)
          have HI5 : Hid (LM w R (q + 2) (L ++ [0, 0]) (N + 1) a2 c2 (w5.setCell ⟨w.heap.size + 1, 0, none⟩ (.slice a2 (N + 1) c2))) := M5
          have z5 := HI5.out.z
          have zf5 := HI5.out.zf
          rw [World.frozen?_setCell] at zf5
          rw [World.cell?_setCell_other _ _ _ _ (by simp)] at z5
          clear hown hgrow HI3 HI4 M5 hm HSZ
          go_wp2
          exact bodyPost_ret (v := .agg #[.slice a2 (N + 1) c2]) (by simp [results, Tryd.results58, go_sem, z5]) rfl (HI5.out.drawn (by omega) (by omega))
        by_cases ek1 : k = 1
        · subst ek1
          have HI4 : Hid (LM w R (q + 2) L N a c (w3.alloc (.cells #[.int .i64 (100), .int .i64 (0)] 84))) := HI3.out.below (al1 _ _)
          have hm := HI3.out.m
          have HSZ : Hid (w.heap.size + 1 < w3.heap.size) := HI3.out.sz
          go_wp2_with (at_builtin; go_must (refine wpList_append_own _ rfl (.tmp 68) (.tmp 70) 31 rfl (w.heap.size + 2) 84 i0 (.agg #[.int .i64 0, .int .i64 0]) 2 16 Tryd.underlying31 hi hz0 hz1 hz2 rfl (by decide) (.slice a N c) N _ rfl HI4.out.own ⟨w3.heap.size, 0, none⟩ 1 1 [.int .i64 (100), .int .i64 (0)] rfl rfl (by intro jj u hjj; match jj, hjj with | 0, hjj => simp at hjj; subst hjj; exact cell_at _ _ _ 0 rfl rfl | 1, hjj => simp at hjj; subst hjj; exact cell_at _ _ _ 1 rfl rfl) (by intro u hu; simp at hu; rcases hu with rfl | rfl <;> rfl) (by unfold maxLen; omega) (by omega) (by have := HSZ.out; simp; omega) ?_))
          intro v' w5 hown hgrow _
          obtain ⟨a2, c2, hv, _⟩ := own2_shape (zs := L ++ [100, 0]) (by simpa using hown)
          subst hv
          obtain ⟨mc5, mf5, M5⟩ := HI4.out.app hgrow (L2 := L ++ [100, 0]) (by simpa using hown)
          have HI5 : Hid (LM w R (q + 2) (L ++ [100, 0]) (N + 1) a2 c2 (w5.setCell ⟨w.heap.size + 1, 0, none⟩ (.slice a2 (N + 1) c2))) := M5
          have z5 := HI5.out.z
          have zf5 := HI5.out.zf
          rw [World.frozen?_setCell] at zf5
          rw [World.cell?_setCell_other _ _ _ _ (by simp)] at z5
          clear hown hgrow HI3 HI4 M5 hm HSZ
          go_wp2
          exact bodyPost_ret (v := .agg #[.slice a2 (N + 1) c2]) (by simp [results, Tryd.results58, go_sem, z5]) rfl (HI5.out.drawn (by omega) (by omega))
        by_cases ek2 : k = 2
        · subst ek2
          have HI4 : Hid (LM w R (q + 2) L N a c (w3.alloc (.cells #[.int .i64 (99), .int .i64 (-1)] 84))) := HI3.out.below (al1 _ _)
          have hm := HI3.out.m
          have HSZ : Hid (w.heap.size + 1 < w3.heap.size) := HI3.out.sz
          go_wp2_with (at_builtin; go_must (refine wpList_append_own _ rfl (.tmp 76) (.tmp 78) 31 rfl (w.heap.size + 2) 84 i0 (.agg #[.int .i64 0, .int .i64 0]) 2 16 Tryd.underlying31 hi hz0 hz1 hz2 rfl (by decide) (.slice a N c) N _ rfl HI4.out.own ⟨w3.heap.size, 0, none⟩ 1 1 [.int .i64 (99), .int .i64 (-1)] rfl rfl (by intro jj u hjj; match jj, hjj with | 0, hjj => simp at hjj; subst hjj; exact cell_at _ _ _ 0 rfl rfl | 1, hjj => simp at hjj; subst hjj; exact cell_at _ _ _ 1 rfl rfl) (by intro u hu; simp at hu; rcases hu with rfl | rfl <;> rfl) (by unfold maxLen; omega) (by omega) (by have := HSZ.out; simp; omega) ?_))
          intro v' w5 hown hgrow _
          obtain ⟨a2, c2, hv, _⟩ := own2_shape (zs := L ++ [99, -1]) (by simpa using hown)
          subst hv
          obtain ⟨mc5, mf5, M5⟩ := HI4.out.app hgrow (L2 := L ++ [99, -1]) (by simpa using hown)
          have HI5 : Hid (LM w R (q + 2) (L ++ [99, -1]) (N + 1) a2 c2 (w5.setCell ⟨w.heap.size + 1, 0, none⟩ (.slice a2 (N + 1) c2))) := M5
          have z5 := HI5.out.z
          have zf5 := HI5.out.zf
          rw [World.frozen?_setCell] at zf5
          rw [World.cell?_setCell_other _ _ _ _ (by simp)] at z5
          clear hown hgrow HI3 HI4 M5 hm HSZ
          go_wp2
          exact bodyPost_ret (v := .agg #[.slice a2 (N + 1) c2]) (by simp [results, Tryd.results58, go_sem, z5]) rfl (HI5.out.drawn (by omega) (by omega))
        obtain rfl : k = 3 := by omega
        have hN8 : N ≤ 8 := by omega
        go_wp2
        clear hN8
        go_loopw [43] (fun _ wr => ∃ (L : List Int) (N : Nat) (a : Option Addr) (c : Nat), LM w R (q + 2) L N a c wr ∧ N ≤ 9) (fun _ wr => match wr.cell? ⟨w.heap.size + 1, 0, none⟩ with | some (.slice _ n _) => 9 - n | _ => 0)
        case atStart => exact ⟨L, N, a, c, HI3.out, by omega⟩
        case round =>
          obtain ⟨L, N, a, c, I, hN9⟩ := hrel
          clear HI3
          have hm := I.m
          by_cases h8 : N ≤ 8
          · have h8i : (N : Int) ≤ 8 := by omega
            obtain ⟨x, hx⟩ : ∃ x : Int, 90 + (N : Int) = x := ⟨_, rfl⟩
            have HI3 : Hid (LM w R (q + 2) L N a c wr) := I
            have HI4 : Hid (LM w R (q + 2) L N a c (wr.alloc (.cells #[.int .i64 x, .int .i64 0] 84))) := HI3.out.below (al1 _ _)
            have HSZ : Hid (w.heap.size + 1 < wr.heap.size) := HI3.out.sz
            clear I
            go_wp2_with (at_builtin; go_must (refine wpList_append_own _ rfl (.tmp 48) (.tmp 54) 31 rfl (w.heap.size + 2) 84 i0 (.agg #[.int .i64 0, .int .i64 0]) 2 16 Tryd.underlying31 hi hz0 hz1 hz2 rfl (by decide) (.slice a N c) N _ rfl HI4.out.own ⟨wr.heap.size, 0, none⟩ 1 1 [.int .i64 x, .int .i64 0] rfl rfl (by intro jj u hjj; match jj, hjj with | 0, hjj => simp at hjj; subst hjj; exact cell_at _ _ _ 0 rfl rfl | 1, hjj => simp at hjj; subst hjj; exact cell_at _ _ _ 1 rfl rfl) (by intro u hu; simp at hu; rcases hu with rfl | rfl <;> rfl) (by unfold maxLen; omega) (by omega) (by have := HSZ.out; simp; omega) ?_))
            intro v' w5 hown hgrow _
            obtain ⟨a2, c2, hv, _⟩ := own2_shape (zs := L ++ [x, 0]) (by simpa using hown)
            subst hv
            obtain ⟨mc5, mf5, M5⟩ := HI4.out.app hgrow (L2 := L ++ [x, 0]) (by simpa using hown)
            have HI5 : Hid (LM w R (q + 2) (L ++ [x, 0]) (N + 1) a2 c2 (w5.setCell ⟨w.heap.size + 1, 0, none⟩ (.slice a2 (N + 1) c2))) := M5
            have HME : Hid (wr.cell? ⟨w.heap.size + 1, 0, none⟩ = some (.slice a N c)) := hm
            clear hown hgrow HI3 HI4 M5 hm HSZ
            go_wp2
            go_roundw
            case rel => exact ⟨_, N + 1, a2, c2, HI5.out, by omega⟩
            case measure => rw [HI5.out.m, HME.out]; dsimp only; omega
          · have h8i : ¬ (N : Int) ≤ 8 := by omega
            have HI3 : Hid (LM w R (q + 2) L N a c wr) := I
            have hz := I.z
            have hzf := I.zf
            clear I
            go_wp2
            exact bodyPost_ret (v := .agg #[.slice a N c]) (by simp [results, Tryd.results58, go_sem, hz]) rfl (HI3.out.drawn (by omega) (by omega))
    · have hK0 : (0 : Int) < (K : Int) := by omega
      go_wp2
      have hsz := HI.out.sz
      refine region_inv (ops := ops5) (m := 25) (I := fun f W => ∃ q', Rd W R q' ∧ q' + f ≤ q + 25 ∧ KB R wr W) (V := VM R wr.heap.size N a c) (T := TT R wr.heap.size N) (by kernel_rfl) (by decide) (by kernel_rfl) (by kernel_rfl) (vm_keep (by omega)) ⟨q, rd_below HI.out.rd (Below.refl _ _).drew, by omega, (KB.refl R wr).drew⟩ (hop5 hRw hsz HI.out (by omega) (by omega) rfl rfl) ?hend
      case hend =>
        intro vs W hv _ hI
        obtain ⟨q', hr, hq', hkb⟩ := hI
        obtain ⟨v0, e0, h0⟩ := hv 0 (by omega)
        obtain ⟨v1, e1, h1⟩ := hv 1 (by omega)
        obtain ⟨v2, e2, h2⟩ := hv 2 (by omega)
        obtain ⟨v3, e3, h3⟩ := hv 3 (by omega)
        obtain ⟨v4, e4, h4⟩ := hv 4 (by omega)
        obtain ⟨v5, e5, h5⟩ := hv 5 (by omega)
        obtain ⟨v6, e6, h6⟩ := hv 6 (by omega)
        obtain ⟨v7, e7, h7⟩ := hv 7 (by omega)
        obtain ⟨v8, e8, h8⟩ := hv 8 (by omega)
        obtain ⟨v9, e9, h9⟩ := hv 9 (by omega)
        obtain ⟨v10, e10, h10⟩ := hv 10 (by omega)
        obtain ⟨v11, e11, h11⟩ := hv 11 (by omega)
        obtain ⟨v12, e12, h12⟩ := hv 12 (by omega)
        obtain ⟨v13, e13, h13⟩ := hv 13 (by omega)
        obtain ⟨v14, e14, h14⟩ := hv 14 (by omega)
        obtain ⟨v15, e15, h15⟩ := hv 15 (by omega)
        obtain ⟨v16, e16, h16⟩ := hv 16 (by omega)
        obtain ⟨v17, e17, h17⟩ := hv 17 (by omega)
        obtain ⟨v18, e18, h18⟩ := hv 18 (by omega)
        obtain ⟨v19, e19, h19⟩ := hv 19 (by omega)
        obtain ⟨v20, e20, h20⟩ := hv 20 (by omega)
        obtain ⟨v21, e21, h21⟩ := hv 21 (by omega)
        obtain ⟨v22, e22, h22⟩ := hv 22 (by omega)
        obtain ⟨v23, e23, h23⟩ := hv 23 (by omega)
        obtain ⟨v24, e24, h24⟩ := hv 24 (by omega)
        clear hv
        refine ⟨by kernel_rfl, ?_⟩
        unfold ops5
        simp only [putsF, e0, e1, e2, e3, e4, e5, e6, e7, e8, e9, e10, e11, e12, e13, e14, e15, e16, e17, e18, e19, e20, e21, e22, e23, e24, Nat.zero_add, Nat.reduceAdd, Act.put, List.setIfInBounds_toArray, List.set_cons_zero, List.set_cons_succ]
        obtain ⟨g, rfl, hg, a2, n2, c2, L2, hh, ho2⟩ := h21
        have hcell := cell_block0 hh
        have hne : ¬ g = w.heap.size + 1 := by omega
        have I2 := HI.out.kept hkb hr
        have hm := I2.m
        have hmf := I2.mf
        have HI3 : Hid (LM w R q' L2 n2 a2 c2 (W.setCell ⟨w.heap.size + 1, 0, none⟩ (.slice a2 n2 c2)) ∧ n2 ≤ N + 1 ∧ q' ≤ q + 25) := ⟨HI.out.turn hkb hr ho2, ho2.2, by omega⟩
        clear h0 e0 h1 e1 h2 e2 h3 e3 h4 e4 h5 e5 h6 e6 h7 e7 h8 e8 h9 e9 h10 e10 h11 e11 h12 e12 h13 e13 h14 e14 h15 e15 h16 e16 h17 e17 h18 e18 h19 e19 h20 e20 h22 e22 h23 e23 h24 e24 e21 hh ho2 I2 HI hkb hr
        go_wp2
        go_roundw
        case rel => exact ⟨K - 1, L2, n2, a2, c2, q', by go_num, HI3.out.1, by have := HI3.out.2.1; omega, by have := HI3.out.2.2; omega⟩
        case measure => simp [intOf]; omega

end Go.Proofs.YtklpdpdjblakgaaDoor
