/- A region that draws its order, by an invariant: what each operation leaves, whatever comes first. No order is walked. -/
import Derived.Orders
import Derived.Test.YtafhlflddndgjaaDoorRows
namespace Go.Proofs.YtafhlflddndgjaaDoor
set_option linter.unusedVariables false

section
variable {P : Program} {ops : Array Oper} {Q : Exit → Act → World → Prop} {md : Region.Mode}

/-- What those that have come up leave, in the operations' order. -/
def putsF (vs : Nat → Option Value) : Nat → List Oper → Act → Act
  | _, [], a => a
  | i, o :: os, a => putsF vs (i + 1) os (match vs i with | some v => a.put o.dst v | none => a)
/-- One more has come up. -/
def updF (vs : Nat → Option Value) (i : Nat) (v : Value) : Nat → Option Value := fun j => if j = i then some v else vs j

theorem updF_same (vs : Nat → Option Value) (i : Nat) (v : Value) : updF vs i v i = some v := by simp [updF]
theorem updF_other (vs : Nat → Option Value) {i j : Nat} (v : Value) (h : j ≠ i) : updF vs i v j = vs j := by simp [updF, h]

theorem putsF_congr {vs us : Nat → Option Value} : ∀ (os : List Oper) (n : Nat) (a : Act), (∀ j, n ≤ j → vs j = us j) → putsF vs n os a = putsF us n os a
  | [], _, _, _ => rfl
  | o :: os, n, a, h => by
    unfold putsF
    rw [h n (Nat.le_refl _)]
    exact putsF_congr os (n + 1) _ (fun j hj => h j (by omega))

theorem putsF_put {vs : Nat → Option Value} {x : Option Tmp} {v : Value} : ∀ (os : List Oper) (n : Nat) (a : Act), (∀ o ∈ os, ∀ d, x = some d → o.dst ≠ some d) → putsF vs n os (a.put x v) = (putsF vs n os a).put x v
  | [], _, _, _ => rfl
  | o :: os, n, a, h => by
    unfold putsF
    have ih := fun b => putsF_put (vs := vs) (v := v) os (n + 1) b (fun o' ho' => h o' (List.mem_cons_of_mem _ ho'))
    cases vs n with
    | none => exact ih a
    | some u =>
      show putsF vs (n + 1) os ((a.put x v).put o.dst u) = _
      rw [Act.put_comm a v u (h o (List.mem_cons_self ..))]
      exact ih _

theorem putsF_upd {vs : Nat → Option Value} {v : Value} : ∀ (os : List Oper) (n i : Nat) (o : Oper) (a : Act), os[i]? = some o → vs (n + i) = none →
    (∀ (k : Nat) (o' : Oper), os[k]? = some o' → k ≠ i → ∀ d, o.dst = some d → o'.dst ≠ some d) → putsF (updF vs (n + i) v) n os a = (putsF vs n os a).put o.dst v
  | [], _, _, _, _, h, _, _ => by simp at h
  | o' :: os, n, 0, o, a, h, hn, hd => by
    obtain rfl : o' = o := by simpa using h
    unfold putsF
    rw [Nat.add_zero, updF_same]
    rw [Nat.add_zero] at hn
    rw [hn]
    show putsF _ (n + 1) os (a.put o'.dst v) = _
    rw [putsF_congr (us := vs) os (n + 1) _ (fun j hj => updF_other vs v (by omega))]
    exact putsF_put os (n + 1) a (fun x hx d e => by
      obtain ⟨k, hk, rfl⟩ := List.mem_iff_getElem.1 hx
      exact hd (k + 1) os[k] (by simp [hk]) (by omega) d e)
  | o' :: os, n, i + 1, o, a, h, hn, hd => by
    unfold putsF
    rw [updF_other vs v (show n ≠ n + (i + 1) by omega), show n + (i + 1) = n + 1 + i by omega]
    exact putsF_upd os (n + 1) i o _ (by simpa using h) (by rw [show n + 1 + i = n + (i + 1) by omega]; exact hn) (fun k o'' hk hne => hd (k + 1) o'' (by simpa using hk) (by omega))

theorem putsF_size {vs : Nat → Option Value} : ∀ (os : List Oper) (n : Nat) (a : Act), (putsF vs n os a).tmps.size = a.tmps.size
  | [], _, _ => rfl
  | o :: os, n, a => by
    unfold putsF
    rw [putsF_size os (n + 1)]
    cases vs n with
    | none => rfl
    | some u => cases o.dst <;> simp [Act.put]

theorem putsF_other {vs : Nat → Option Value} {d : Tmp} : ∀ (os : List Oper) (n : Nat) (a : Act), (∀ o ∈ os, o.dst ≠ some d) → (putsF vs n os a).eval (.tmp d) = a.eval (.tmp d)
  | [], _, _, _ => rfl
  | o :: os, n, a, h => by
    unfold putsF
    rw [putsF_other os (n + 1) _ (fun o' ho' => h o' (List.mem_cons_of_mem _ ho'))]
    cases vs n with
    | none => rfl
    | some u => exact Act.eval_put (fun x hx e => by cases e; exact h o (List.mem_cons_self ..) hx)

theorem putsF_at {vs : Nat → Option Value} {v : Value} {d : Tmp} : ∀ (os : List Oper) (n j : Nat) (o : Oper) (a : Act), os[j]? = some o → o.dst = some d → vs (n + j) = some v → d < a.tmps.size →
    (∀ (k : Nat) (o' : Oper), os[k]? = some o' → k ≠ j → o'.dst ≠ some d) → (putsF vs n os a).eval (.tmp d) = v
  | [], _, _, _, _, h, _, _, _, _ => by simp at h
  | o' :: os, n, 0, o, a, h, hd, hv, hs, hne => by
    obtain rfl : o' = o := by simpa using h
    unfold putsF
    rw [Nat.add_zero] at hv
    rw [hv, putsF_other os (n + 1) _ (fun x hx => by
      obtain ⟨k, hk, rfl⟩ := List.mem_iff_getElem.1 hx
      exact hne (k + 1) os[k] (by simp [hk]) (by omega))]
    simp [Act.put, Act.eval, hd, hs]
  | o' :: os, n, j + 1, o, a, h, hd, hv, hs, hne => by
    unfold putsF
    refine putsF_at os (n + 1) j o _ (by simpa using h) hd (by rw [show n + 1 + j = n + (j + 1) by omega]; exact hv) ?_ (fun k o'' hk hkj => hne (k + 1) o'' (by simpa using hk) (by omega))
    cases vs n with
    | none => exact hs
    | some u => cases hx : o'.dst <;> simp [Act.put, hs]

/-- How many of the first m have not come up. -/
def leftF (vs : Nat → Option Value) : Nat → Nat
  | 0 => 0
  | m + 1 => leftF vs m + (if (vs m).isSome then 0 else 1)
theorem leftF_upd {vs : Nat → Option Value} {i : Nat} {v : Value} (hn : vs i = none) : ∀ m, leftF (updF vs i v) m + (if i < m then 1 else 0) = leftF vs m
  | 0 => by simp [leftF]
  | m + 1 => by
    unfold leftF
    have ih := leftF_upd (v := v) hn m
    by_cases e : m = i
    · subst e
      rw [updF_same, hn]
      simp at ih ⊢
      omega
    · rw [updF_other vs v e]
      by_cases h : i < m
      · rw [if_pos h] at ih
        rw [if_pos (show i < m + 1 by omega)]
        omega
      · rw [if_neg h] at ih
        rw [if_neg (show ¬ i < m + 1 by omega)]
        omega
theorem leftF_zero {vs : Nat → Option Value} : ∀ m, leftF vs m = 0 → ∀ i, i < m → (vs i).isSome = true
  | 0, _, i, hi => by omega
  | m + 1, h, i, hi => by
    unfold leftF at h
    by_cases e : i = m
    · subst e
      by_cases hs : (vs i).isSome = true
      · exact hs
      · rw [if_neg hs] at h; omega
    · exact leftF_zero m (by omega) i (by omega)
theorem leftF_some {vs : Nat → Option Value} : ∀ m, (∀ i, i < m → (vs i).isSome = true) → leftF vs m = 0
  | 0, _ => rfl
  | m + 1, h => by
    unfold leftF
    rw [leftF_some m (fun i hi => h i (by omega)), if_pos (h m (by omega))]
/-- Of those that have not come up there is a first one. -/
theorem leftF_first {vs : Nat → Option Value} : ∀ m, leftF vs m ≠ 0 → ∃ i, i < m ∧ vs i = none ∧ ∀ j, j < i → (vs j).isSome = true
  | 0, h => absurd rfl h
  | m + 1, h => by
    by_cases h0 : leftF vs m = 0
    · refine ⟨m, by omega, ?_, leftF_zero m h0⟩
      unfold leftF at h
      cases hv : vs m with
      | none => rfl
      | some v => rw [hv] at h; simp at h; omega
    · obtain ⟨i, hi, hn, hj⟩ := leftF_first m h0
      exact ⟨i, by omega, hn, hj⟩

/-- No two leave what they leave in one temporary; all have room. -/
def dstsOk (n : Nat) : List Oper → Bool
  | [] => true
  | o :: os => (match o.dst with | none => true | some d => decide (d < n) && os.all (fun x => x.dst != some d)) && dstsOk n os
theorem dstsOk_ne {n : Nat} : ∀ {os : List Oper}, dstsOk n os = true → ∀ (i j : Nat) (o o' : Oper) (d : Tmp), os[i]? = some o → os[j]? = some o' → i < j → o.dst = some d → o'.dst ≠ some d
  | [], _, _, _, _, _, _, h, _, _, _ => by simp at h
  | x :: os, h, 0, j + 1, o, o', d, hi, hj, _, hd => by
    obtain rfl : x = o := by simpa using hi
    unfold dstsOk at h
    rw [hd] at h
    simp only [Bool.and_eq_true, List.all_eq_true] at h
    have := h.1.2 o' (List.mem_of_getElem? (i := j) (by simpa using hj))
    simpa using this
  | x :: os, h, i + 1, j + 1, o, o', d, hi, hj, hij, hd => by
    unfold dstsOk at h
    simp only [Bool.and_eq_true] at h
    exact dstsOk_ne h.2 i j o o' d (by simpa using hi) (by simpa using hj) (by omega) hd
  | x :: os, h, i, 0, o, o', d, hi, hj, hij, hd => by omega
theorem dstsOk_lt {n : Nat} : ∀ {os : List Oper}, dstsOk n os = true → ∀ (i : Nat) (o : Oper) (d : Tmp), os[i]? = some o → o.dst = some d → d < n
  | [], _, _, _, _, h, _ => by simp at h
  | x :: os, h, 0, o, d, hi, hd => by
    obtain rfl : x = o := by simpa using hi
    unfold dstsOk at h
    rw [hd] at h
    simp only [Bool.and_eq_true, decide_eq_true_eq] at h
    exact h.1.1
  | x :: os, h, i + 1, o, d, hi, hd => by
    unfold dstsOk at h
    simp only [Bool.and_eq_true] at h
    exact dstsOk_lt h.2 i o d (by simpa using hi) hd

/-- The first m: no guard, each waits for earlier ones alone; all others wait for all of these. -/
def frontOk (md : Region.Mode) (m : Nat) (ops : Array Oper) : Bool :=
  (List.range ops.size).all fun i => match ops[i]? with
    | none => true
    | some o => if i < m then o.guard.isNone && o.after.toList.all (fun e => !(Region.binds md e) || decide (e.on < i)) else (List.range m).all (fun j => o.after.toList.any (fun e => e.on == j && Region.binds md e))

theorem frontOk_near {m : Nat} (h : frontOk md m ops = true) {i : Nat} {o : Oper} (ho : ops[i]? = some o) (hi : i < m) : o.guard = none ∧ ∀ e ∈ o.after, Region.binds md e = true → e.on < i := by
  have := List.all_eq_true.1 h i (List.mem_range.2 (Array.getElem?_eq_some_iff.1 ho).1)
  rw [ho] at this
  simp only [hi, if_true, Bool.and_eq_true, Option.isNone_iff_eq_none, List.all_eq_true, Bool.or_eq_true, Bool.not_eq_true', decide_eq_true_eq] at this
  exact ⟨this.1, fun e he hb => (this.2 e (by simpa using he)).resolve_left (by simp [hb])⟩
theorem frontOk_far {m : Nat} (h : frontOk md m ops = true) {i : Nat} {o : Oper} (ho : ops[i]? = some o) (hi : ¬ i < m) {j : Nat} (hj : j < m) : ∃ e ∈ o.after, e.on = j ∧ Region.binds md e = true := by
  have := List.all_eq_true.1 h i (List.mem_range.2 (Array.getElem?_eq_some_iff.1 ho).1)
  rw [ho] at this
  simp only [hi, if_false, List.all_eq_true, List.any_eq_true, Bool.and_eq_true, beq_iff_eq] at this
  obtain ⟨e, he, h1, h2⟩ := this j (List.mem_range.2 hj)
  exact ⟨e, by simpa using he, h1, h2⟩

theorem wanted_plain {o : Oper} (h : o.guard = none) (f : Nat → Option Bool) : Region.wanted o f = true := by
  unfold Region.wanted
  rw [h]

theorem wpAny_front {a0 : Act} {m : Nat} {I : Nat → World → Prop} {V : Nat → Value → World → Prop} {T : World → World → Prop}
    (hm : m ≤ ops.size) (hf : frontOk md m ops = true) (hd : dstsOk a0.tmps.size ops.toList = true) (hT : ∀ i v w w', V i v w → T w w' → V i v w')
    (hop : ∀ (i : Nat) (o : Oper) (f : Nat) (a : Act) (w : World), i < m → ops[i]? = some o → I (f + 1) w →
      (∀ e ∈ o.after, Region.binds md e = true → ∀ oj, ops[e.on]? = some oj → ∃ v, V e.on v w ∧ ∀ d, oj.dst = some d → a.eval (.tmp d) = v) →
      (∀ d, (∀ oj ∈ ops.toList, oj.dst ≠ some d) → a.eval (.tmp d) = a0.eval (.tmp d)) → Oper.wp P o a w (fun a' w' => ∃ v, a' = a.put o.dst v ∧ V i v w' ∧ I f w' ∧ T w w') Q)
    (hend : ∀ (vs : Nat → Option Value) (w : World), (∀ i, i < m → ∃ v, vs i = some v ∧ V i v w) → (∀ i, m ≤ i → vs i = none) → I 0 w →
      wpAny P md ops Q (ops.size - m) ((List.replicate m true ++ List.replicate (ops.size - m) false).toArray) (putsF vs 0 ops.toList a0) w) :
    ∀ (r : Nat) (vs : Nat → Option Value) (listed : Array Bool) (w : World), leftF vs m = r → listed.size = ops.size → (∀ i, i < ops.size → listed[i]? = some (vs i).isSome) → (∀ i v, vs i = some v → V i v w) → (∀ i, m ≤ i → vs i = none) → I r w →
      wpAny P md ops Q (r + (ops.size - m)) listed (putsF vs 0 ops.toList a0) w := by
  intro r
  induction r with
  | zero =>
    intro vs listed w hr hsz hl hV hlate hI
    have hall := leftF_zero m hr
    have el : listed = (List.replicate m true ++ List.replicate (ops.size - m) false).toArray := by
      refine Array.ext_getElem? (fun i => ?_)
      by_cases hi : i < ops.size
      · rw [hl i hi]
        rw [List.getElem?_toArray]
        by_cases him : i < m
        · rw [hall i him, List.getElem?_append_left (by simp; exact him), List.getElem?_replicate, if_pos him]
        · rw [hlate i (by omega), List.getElem?_append_right (by simp; omega), List.getElem?_replicate, if_pos (by simp; omega)]
          rfl
      · rw [Array.getElem?_eq_none (by omega), Array.getElem?_eq_none (by simp; omega)]
    rw [el, Nat.zero_add]
    refine hend vs w (fun i hi => ?_) hlate hI
    cases hv : vs i with
    | none => have := hall i hi; rw [hv] at this; simp at this
    | some v => exact ⟨v, rfl, hV i v hv⟩
  | succ r ih =>
    intro vs listed w hr hsz hl hV hlate hI
    have hg : ∀ i, i < ops.size → ∀ b, listed.getD i b = (vs i).isSome := fun i hi b => by simp [Array.getD_eq_getD_getElem?, hl i hi]
    have hup : ∀ i b, ¬ i < ops.size → listed.getD i b = b := fun i b hi => by simp [Array.getD_eq_getD_getElem?, Array.getElem?_eq_none (show listed.size ≤ i by omega)]
    rw [show r + 1 + (ops.size - m) = (r + (ops.size - m)) + 1 by omega]
    refine ⟨fun h0 => ?_, fun i hi => ?_⟩
    · exfalso
      obtain ⟨i, him, hn, hj⟩ := leftF_first (vs := vs) m (by omega)
      have hlt : i < ops.size := by omega
      have hmem : i ∈ Region.ready md ops listed := by
        refine mem_ready.2 ⟨by rw [hg i hlt, hn]; rfl, ops[i], Array.getElem?_eq_getElem hlt, fun e he hb => ?_⟩
        have hlt2 := (frontOk_near hf (Array.getElem?_eq_getElem hlt) him).2 e he hb
        rw [hg e.on (by omega)]
        exact hj e.on hlt2
      rw [h0] at hmem
      cases hmem
    · obtain ⟨hun, o, ho, hall⟩ := mem_ready.1 hi
      have hlt : i < ops.size := (Array.getElem?_eq_some_iff.1 ho).1
      have hn : vs i = none := by
        rw [hg i hlt] at hun
        cases hv : vs i with
        | none => rfl
        | some v => rw [hv] at hun; simp at hun
      have him : i < m := by
        refine Decidable.byContradiction fun hnm => ?_
        have : leftF vs m = 0 := leftF_some m (fun j hj => by
          obtain ⟨e, he, rfl, hb⟩ := frontOk_far hf ho hnm hj
          have := hall e he hb
          rwa [hg e.on (by omega)] at this)
        omega
      have hne : ∀ (k : Nat) (o' : Oper), ops.toList[k]? = some o' → k ≠ i → ∀ d, o.dst = some d → o'.dst ≠ some d := fun k o' hk hki d hdd hdk => by
        have ho' : ops.toList[i]? = some o := by rw [Array.getElem?_toList]; exact ho
        rcases Nat.lt_or_gt_of_ne hki with h | h
        · exact dstsOk_ne hd k i o' o d hk ho' h hdk hdd
        · exact dstsOk_ne hd i k o o' d ho' hk h hdd hdk
      have hstep := hop i o r (putsF vs 0 ops.toList a0) w him ho hI (fun e he hb oj hoj => ?_) (fun d hdd => putsF_other _ 0 a0 hdd)
      · have hlu := leftF_upd (v := undef) hn m
        rw [if_pos him] at hlu
        have go : ∀ a' w', (∃ v, a' = (putsF vs 0 ops.toList a0).put o.dst v ∧ V i v w' ∧ I r w' ∧ T w w') → wpAny P md ops Q (r + (ops.size - m)) (listed.setIfInBounds i true) a' w' := by
          rintro a' w' ⟨v, rfl, hv, hI', hTw⟩
          have e := putsF_upd (vs := vs) (v := v) ops.toList 0 i o a0 (by rw [Array.getElem?_toList]; exact ho) (by rw [Nat.zero_add]; exact hn) hne
          rw [Nat.zero_add] at e
          rw [← e]
          refine ih (updF vs i v) _ w' ?_ (by simp [hsz]) (fun j hj => ?_) (fun j u hu => ?_) (fun j hj => ?_) hI'
          · have := leftF_upd (v := v) hn m
            rw [if_pos him] at this
            omega
          · by_cases hji : j = i
            · subst hji
              rw [updF_same, Array.getElem?_setIfInBounds_self_of_lt (by omega)]
              rfl
            · rw [updF_other vs v hji, Array.getElem?_setIfInBounds_ne (by omega)]
              exact hl j hj
          · by_cases hji : j = i
            · subst hji
              rw [updF_same] at hu
              cases hu
              exact hv
            · rw [updF_other vs v hji] at hu
              exact hT j u w w' (hV j u hu) hTw
          · rw [updF_other vs v (by omega)]
            exact hlate j hj
        have hw : wpOp P ops Q i (fun a' w' => ∃ v, a' = (putsF vs 0 ops.toList a0).put o.dst v ∧ V i v w' ∧ I r w' ∧ T w w') (putsF vs 0 ops.toList a0) w := by
          unfold wpOp
          rw [ho]
          simp only [wanted_plain (frontOk_near hf ho him).1, if_true]
          exact .inl hstep
        exact wpOp_mono go hw
      · have hlt2 : e.on < ops.size := (Array.getElem?_eq_some_iff.1 hoj).1
        have hs := hall e he hb
        rw [hg e.on hlt2] at hs
        cases hv : vs e.on with
        | none => rw [hv] at hs; simp at hs
        | some v =>
          refine ⟨v, hV e.on v hv, fun d hdd => ?_⟩
          have hoj' : ops.toList[e.on]? = some oj := by rw [Array.getElem?_toList]; exact hoj
          exact putsF_at ops.toList 0 e.on oj a0 hoj' hdd (by rw [Nat.zero_add]; exact hv) (dstsOk_lt hd e.on oj d hoj' hdd) (fun k o' hk hkj hdk => by
            rcases Nat.lt_or_gt_of_ne hkj with h | h
            · exact dstsOk_ne hd k e.on o' oj d hk hoj' h hdk hdd
            · exact dstsOk_ne hd e.on k oj o' d hoj' hk h hdd hdk)

theorem region_inv {a0 : Act} {m id : Nat} {I : Nat → World → Prop} {V : Nat → Value → World → Prop} {T : World → World → Prop} {w : World} (hmo : P.follows .mixedOrders = true)
    (hm : m ≤ ops.size) (hf : frontOk .any m ops = true) (hd : dstsOk a0.tmps.size ops.toList = true) (hT : ∀ i v w w', V i v w → T w w' → V i v w') (hI : I m w.drew)
    (hop : ∀ (i : Nat) (o : Oper) (f : Nat) (a : Act) (w : World), i < m → ops[i]? = some o → I (f + 1) w →
      (∀ e ∈ o.after, Region.binds .any e = true → ∀ oj, ops[e.on]? = some oj → ∃ v, V e.on v w ∧ ∀ d, oj.dst = some d → a.eval (.tmp d) = v) →
      (∀ d, (∀ oj ∈ ops.toList, oj.dst ≠ some d) → a.eval (.tmp d) = a0.eval (.tmp d)) → Oper.wp P o a w (fun a' w' => ∃ v, a' = a.put o.dst v ∧ V i v w' ∧ I f w' ∧ T w w') Q)
    (hend : ∀ (vs : Nat → Option Value) (w : World), (∀ i, i < m → ∃ v, vs i = some v ∧ V i v w) → (∀ i, m ≤ i → vs i = none) → I 0 w →
      wpAny P .any ops Q (ops.size - m) ((List.replicate m true ++ List.replicate (ops.size - m) false).toArray) (putsF vs 0 ops.toList a0) w) :
    (Code.region id ops true).wp P Q a0 w := by
  have none_left : ∀ k, leftF (fun _ => none) k = k := fun k => by
    induction k with
    | zero => rfl
    | succ k ih => unfold leftF; rw [ih]; rfl
  have none_put : ∀ (os : List Oper) (n : Nat), putsF (fun _ => none) n os a0 = a0 := fun os => by
    induction os with
    | nil => intro n; rfl
    | cons o os ih => intro n; exact ih (n + 1)
  have := wpAny_front (P := P) (Q := Q) hm hf hd hT hop hend m (fun _ => none) (Array.replicate ops.size false) w.drew (none_left m) (by simp) (fun i hi => by simp [hi]) (fun i v h => by cases h) (fun _ _ => rfl) hI
  rw [none_put, show m + (ops.size - m) = ops.size by omega] at this
  exact wp_region_any hmo this

end

end Go.Proofs.YtafhlflddndgjaaDoor
