/- The specification's PolOk. -/
import Derived.Test.YtcffoehldohooaaOutS
namespace Go.Proofs.Ytcffoehldohooaa
open Go.RowKit
set_option linter.unusedVariables false

/-- A place that was taken out, no later than in an epoch. -/
def okOld (E : Int) (o : Od) : Bool := inR o.1 1 9 && inR o.2 0 E
/-- The first three conditions of a pool. -/
def okP1 (E : Int) (np nl : Nat) : Bool := inR E 0 100000 && (decide (np = 3) && decide (nl = 3))
/-- The others. -/
def okP2 (E : Int) (ps : List Int) (oss : List (List Od)) : Bool := ps.all (fun p => inR p 0 (E + 1)) && (oss.all (fun os => os.all (okOld E)) && decide (outL oss).Nodup)
/-- A pool is ok. -/
def okP (E : Int) (ps : List Int) (oss : List (List Od)) : Bool := okP1 E ps.length oss.length && okP2 E ps oss

theorem okP2_pin {E : Int} {ps : List Int} {oss : List (List Od)} {i : Nat} (hi : i < ps.length) (h : inR (ps.getD i 0) 0 (E + 1) = false) : okP2 E ps oss = false := by
  have : ps.all (fun p => inR p 0 (E + 1)) = false := all_no hi h
  simp [okP2, this]
theorem okP2_old {E : Int} {ps : List Int} {oss : List (List Od)} {k j : Nat} {os : List Od} {o : Od} (hk : oss[k]? = some os) (hj : os[j]? = some o) (h : okOld E o = false) : okP2 E ps oss = false := by
  have h1 : os.all (okOld E) = false := by
    rw [List.all_eq_false]
    exact ⟨o, List.mem_of_getElem? hj, by simp [h]⟩
  have h2 : oss.all (fun os => os.all (okOld E)) = false := by
    rw [List.all_eq_false]
    exact ⟨os, List.mem_of_getElem? hk, by simp [h1]⟩
  simp [okP2, h2]
theorem outL_sub {oss : List (List Od)} {k j : Nat} {os : List Od} (hk : oss[k]? = some os) : (outL (oss.take k) ++ nodesOf (os.take j)).Sublist (outL oss) := by
  have e : outL oss = outL (oss.take (k + 1)) ++ outL (oss.drop (k + 1)) := by
    unfold outL
    rw [← List.flatMap_append, List.take_append_drop]
  rw [e, outL_next hk]
  refine List.Sublist.trans (List.Sublist.append (List.Sublist.refl _) ?_) (List.sublist_append_left _ _)
  unfold nodesOf
  exact List.Sublist.map _ (List.take_sublist _ _)
theorem okP2_twice {E : Int} {ps : List Int} {oss : List (List Od)} {k j : Nat} {os : List Od} {x y : Int} (hk : oss[k]? = some os) (hj : os[j]? = some (x, y)) (h : hasB (outL (oss.take k) ++ nodesOf (os.take j)) x = true) : okP2 E ps oss = false := by
  have h1 : ¬ (outL oss).Nodup := fun hd => by
    have h2 := (outL_sub (j := j + 1) hk).nodup hd
    rw [nodesOf_next hj, ← List.append_assoc, List.nodup_append] at h2
    exact h2.2.2 _ (hasB_iff.1 h) _ (by simp) rfl
  simp [okP2, h1]

theorem sints_oneB (w : World) (v : Int) {b : Nat} (hb : b = w.heap.size) : SInts (w.alloc (.cells #[.int .i64 v] 3)) (some ⟨b, 0, none⟩) 1 [v] := by
  subst hb
  exact sints_one w v

/-- What was found so far. -/
structure GoodTo (E : Int) (ps : List Int) (oss : List (List Od)) (k : Nat) : Prop where
  pins : ∀ i, i < k → inR (ps.getD i 0) 0 (E + 1) = true
  olds : (oss.take k).all (fun os => os.all (okOld E)) = true
  once : (outL (oss.take k)).Nodup
theorem GoodTo.next {E : Int} {ps : List Int} {oss : List (List Od)} {k : Nat} {os : List Od} (h : GoodTo E ps oss k) (hk : oss[k]? = some os) (hp : inR (ps.getD k 0) 0 (E + 1) = true) (ho : os.all (okOld E) = true) (hd : (outL (oss.take k) ++ nodesOf os).Nodup) : GoodTo E ps oss (k + 1) := by
  refine ⟨fun i hi => ?_, ?_, by rw [outL_next hk]; exact hd⟩
  · by_cases e : i = k
    · subst e; exact hp
    · exact h.pins i (by omega)
  · rw [take_one hk, List.all_append, h.olds]
    simpa using ho
theorem GoodTo.done {E : Int} {ps : List Int} {oss : List (List Od)} {k : Nat} (h : GoodTo E ps oss k) (h1 : ps.length = k) (h2 : oss.length = k) : okP2 E ps oss = true := by
  have e : oss.take k = oss := List.take_of_length_le (by omega)
  have h3 := h.olds
  have h4 := h.once
  rw [e] at h3 h4
  have h5 : ps.all (fun p => inR p 0 (E + 1)) = true := all_yes (fun i hi => h.pins i (by omega))
  simp only [okP2, h5, h3, decide_eq_true h4, Bool.and_self]

end Go.Proofs.Ytcffoehldohooaa
