/- Contracts of ArnTake, of the specification's and of the program's. -/
import Derived.Test.YtbjgepcbbonceaaSwap
import Derived.Test.YtbjgepcbbonceaaFree
namespace Go.Proofs.Ytbjgepcbbonceaa
open Go.RowKit
set_option linter.unusedVariables false


/-- What ArnTake leaves at a place. -/
def takenN (x : Nd) : Nd := ⟨0, 0, 0, 0, true, wrap64 (x.gen + 1)⟩
/-- Which place ArnTake takes. -/
def takeK (ns : List Nd) : Nat := (freeTo ns 10).headD 0
/-- What ArnTake leaves. -/
def takeL (ns : List Nd) : List Nd := if freeTo ns 10 = [] then ns else ns.set (takeK ns) (takenN (ns.getD (takeK ns) Nd.zero))

theorem freeTo_nil {ns : List Nd} {k : Nat} (h : ∀ (j : Nat) x, j < k → ns[j]? = some x → x.used = true) (hk : k ≤ ns.length) : freeTo ns k = [] := by
  unfold freeTo
  rw [List.filter_eq_nil_iff]
  intro i hi
  have hi' : i < k := by simpa using hi
  have e : ns[i]? = some ns[i] := List.getElem?_eq_getElem (by omega)
  have := h i _ hi' e
  simp [List.getD, e, this]

theorem take_hit {ns : List Nd} {k : Nat} {x : Nd} (hl : ns.length = 10) (hk : k < 10) (h : ∀ (j : Nat) x, j < k → ns[j]? = some x → x.used = true) (hx : ns[k]? = some x) (hu : x.used = false) : takeK ns = k ∧ takeL ns = ns.set k (takenN x) := by
  have h1 := freeTo_hit hx hu
  rw [freeTo_nil h (by omega), List.nil_append] at h1
  obtain ⟨r, hr⟩ := freeTo_prefix ns (k := k + 1) (m := 10) (by omega)
  rw [h1] at hr
  have e1 : takeK ns = k := by simp [takeK, ← hr]
  refine ⟨e1, ?_⟩
  unfold takeL
  rw [if_neg (by rw [← hr]; simp), e1]
  simp [List.getD, hx]

theorem take_first {ns : List Nd} {k : Nat} {x : Nd} (h : [k] <+: freeTo ns 10) (hx : ns[k]? = some x) : takeK ns = k ∧ takeL ns = ns.set k (takenN x) := by
  obtain ⟨r, hr⟩ := h
  have e1 : takeK ns = k := by simp [takeK, ← hr]
  refine ⟨e1, ?_⟩
  unfold takeL
  rw [if_neg (by rw [← hr]; simp), e1]
  simp [List.getD, hx]

theorem take_none {ns : List Nd} (h : freeTo ns 10 = []) : takeK ns = 0 ∧ takeL ns = ns := by simp [takeK, takeL, h]

theorem grown_of_below {w w' : World} {row : Option Nat} (h : Below w.heap.size w w') : w.grownBy w' row := ⟨h.os, h.tape, h.output, h.size, fun c hc _ => h.block c hc⟩
theorem grown_set {w W : World} {row : Option Nat} (h : w.grownBy W row) {p : Addr} (hp : w.heap.size ≤ p.block) (u : Value) : w.grownBy (W.setCell p u) row :=
  ⟨h.os, h.tape, h.output, by simpa using h.size, fun c hc hne => (Below.heap_setCell W p u c (by omega)).trans (h.block c hc hne)⟩
theorem grown_putA {w W : World} {row : Option Nat} (h : w.grownBy W row) {b : Nat} (hb : w.heap.size ≤ b) (a : Option Addr) (n cap : Nat) (t f l : Int) : w.grownBy (putA W b a n cap t f l) row :=
  grown_set (grown_set (grown_set (grown_set h (p := ⟨b, 0, none⟩) hb _) (p := ⟨b, 1, none⟩) hb _) (p := ⟨b, 2, none⟩) hb _) (p := ⟨b, 3, none⟩) hb _
theorem own_putA_other {W : World} {base : Nat} {e : TypeId} {size : Nat} {v : Value} {m : Nat} {xs : List Value} (h : W.ownsRow base e size v m xs) {b : Nat} (hb : v.ownBlock ≠ some b) (a : Option Addr) (n cap : Nat) (t f l : Int) : (putA W b a n cap t f l).ownsRow base e size v m xs :=
  ownsRow_setCell_other (ownsRow_setCell_other (ownsRow_setCell_other (ownsRow_setCell_other h (a := ⟨b, 0, none⟩) hb _) (a := ⟨b, 1, none⟩) hb _) (a := ⟨b, 2, none⟩) hb _) (a := ⟨b, 3, none⟩) hb _

set_option maxHeartbeats 1000000 in
/-- l2Take: in the places that it was handed. -/
theorem l2Take_any (g c base : Nat) (ns : List Nd) (t f l : Int) (w : World) (ho : w.ownsRow base 46 6 (.slice (some ⟨g, 0, none⟩) 10 c) 10 (flatN ns)) (h0 : ∀ x, ns[0]? = some x → x.used = true) :
    Calls Try.prog 31 #[.agg #[.slice (some ⟨g, 0, none⟩) 10 c, .int .i64 t, .int .i64 f, .int .i64 l]] w fun e w' => e = .returned (.tuple #[.agg #[.slice (some ⟨g, 0, none⟩) 10 c, .int .i64 t, .int .i64 f, .int .i64 l], .int .i64 (takeK ns : Nat)]) ∧
      w'.ownsRow base 46 6 (.slice (some ⟨g, 0, none⟩) 10 c) 10 (flatN (takeL ns)) ∧ w.grownBy w' (some g) := by
  have I0 := locA_start w (some ⟨g, 0, none⟩) 10 c t f l
  have hlen : Hid (ns.length = 10) := own6_len ho
  have HO : Hid (w.ownsRow base 46 6 (.slice (some ⟨g, 0, none⟩) 10 c) 10 (flatN ns)) := ho
  have H0 : Hid (∀ x, ns[0]? = some x → x.used = true) := h0
  have hglt : g < w.heap.size := (ho.lt g rfl).2
  clear ho h0
  go_enter Try.func31, Try.ntmps31
  go_wp2
  go_loopw [4, 5] (fun i _ wr => ∃ k : Nat, 1 ≤ k ∧ k ≤ 10 ∧ i = .int .i64 k ∧ LocA w (some ⟨g, 0, none⟩) 10 c t f l wr ∧ ∀ (j : Nat) x, j < k → ns[j]? = some x → x.used = true) (fun i _ _ => 10 - (intOf i).toNat)
  case atStart => exact ⟨1, by omega, by omega, rfl, I0, fun j x hj hx => by obtain rfl : j = 0 := (by omega); exact H0.out x hx⟩
  case round =>
    obtain ⟨k, hk1, hk, rfl, I, hall0⟩ := hrel
    have hall : Hid (∀ (j : Nat) x, j < k → ns[j]? = some x → x.used = true) := hall0
    clear hall0 I0
    have p0 := I.box.c0
    by_cases hlt : k < 10
    · obtain ⟨⟨x0, x1, x2, x3, u, x5⟩, hx⟩ : ∃ x, ns[k]? = some x := ⟨_, List.getElem?_eq_getElem (by have := hlen.out; omega)⟩
      have HX : Hid (ns[k]? = some ⟨x0, x1, x2, x3, u, x5⟩) := hx
      have own1 := ownsRow_below HO.out I.bel
      have hN := own6_cell own1 hx
      have n0 := hN.c0
      have n1 := hN.c1
      have n2 := hN.c2
      have n3 := hN.c3
      have n4 := hN.c4
      have n5 := hN.c5
      dsimp only at n0 n1 n2 n3 n4 n5
      have I2 : Hid (LocA w (some ⟨g, 0, none⟩) 10 c t f l (wr.alloc (.cells #[.int .i64 x0, .int .i64 x1, .int .i64 x2, .int .i64 x3, .bool u, .int .i64 x5] 46))) := I.below (al1 _ _)
      have own2 := ownsRow_below own1 (al1 wr (.cells #[.int .i64 x0, .int .i64 x1, .int .i64 x2, .int .i64 x3, .bool u, .int .i64 x5] 46))
      clear hx hN own1 I
      cases u
      · have hM := own6_cell own2 HX.out
        have m0 := hM.c0
        have m1 := hM.c1
        have m2 := hM.c2
        have m3 := hM.c3
        have m4 := hM.c4
        have m5 := hM.c5
        dsimp only at m0 m1 m2 m3 m4 m5
        have fm0 := own2.frozenAt (k * 6)
        have fm1 := own2.frozenAt (k * 6 + 1)
        have fm2 := own2.frozenAt (k * 6 + 2)
        have fm3 := own2.frozenAt (k * 6 + 3)
        have fm4 := own2.frozenAt (k * 6 + 4)
        have fm5 := own2.frozenAt (k * 6 + 5)
        have q0 := I2.out.box.c0
        have q1 := I2.out.box.c1
        have q2 := I2.out.box.c2
        have q3 := I2.out.box.c3
        have v0 := I2.out.res.c0
        have v1 := I2.out.res.c1
        have v2 := I2.out.res.c2
        have v3 := I2.out.res.c3
        have fv0 := I2.out.fz 0
        have fv1 := I2.out.fz 1
        have fv2 := I2.out.fz 2
        have fv3 := I2.out.fz 3
        have hne1 : Hid (w.heap.size + 1 ≠ g) := by show _ ≠ _; omega
        have d1 : ¬ g = w.heap.size := by omega
        have d2 : ¬ w.heap.size = g := by omega
        have d3 : ¬ g = w.heap.size + 1 := by omega
        have d4 : ¬ w.heap.size + 1 = g := by omega
        have pu := own6_put own2 k ⟨0, 0, 0, 0, true, wrap64 (x5 + 1)⟩
        have R : Hid ((put6 (wr.alloc (.cells #[.int .i64 x0, .int .i64 x1, .int .i64 x2, .int .i64 x3, .bool false, .int .i64 x5] 46)) g (k * 6) ⟨0, 0, 0, 0, true, wrap64 (x5 + 1)⟩).ownsRow base 46 6 (.slice (some ⟨g, 0, none⟩) 10 c) 10 (flatN (ns.set k ⟨0, 0, 0, 0, true, wrap64 (x5 + 1)⟩)) ∧ w.grownBy (put6 (wr.alloc (.cells #[.int .i64 x0, .int .i64 x1, .int .i64 x2, .int .i64 x3, .bool false, .int .i64 x5] 46)) g (k * 6) ⟨0, 0, 0, 0, true, wrap64 (x5 + 1)⟩) (some g)) :=
          ⟨pu.1, grown_trans (grown_of_below I2.out.bel) pu.2.1⟩
        clear hM own2 pu hglt
        go_wp2
        obtain ⟨e1, e2⟩ := take_hit hlen.out hlt hall.out HX.out rfl
        refine bodyPost_ret (v := .tuple #[.agg #[.slice (some ⟨g, 0, none⟩) 10 c, .int .i64 t, .int .i64 f, .int .i64 l], .int .i64 k]) (by simp [results, Try.results31, go_sem, v0, v1, v2, v3]) rfl ⟨by rw [e1], ?_, grown_putA R.out.2 (by omega) _ _ _ _ _ _⟩
        rw [e2]
        exact own_putA_other R.out.1 (fun e => hne1.out (Option.some.inj e).symm) _ _ _ _ _ _
      · clear own2
        go_wp2
        go_roundw
        case rel => exact ⟨k + 1, by omega, by omega, by go_num, I2.out, fun j x hj hx => by
          by_cases e : j = k
          · subst e; rw [HX.out] at hx; cases hx; rfl
          · exact hall.out j x (by omega) hx⟩
        case measure => simp [intOf]; omega
    · obtain rfl : k = 10 := by omega
      have own1 := ownsRow_below HO.out I.bel
      have p1 := I.box.c1
      have p2 := I.box.c2
      have p3 := I.box.c3
      have v0 := I.res.c0
      have v1 := I.res.c1
      have v2 := I.res.c2
      have v3 := I.res.c3
      have f0 := I.fz 0
      have f1 := I.fz 1
      have f2 := I.fz 2
      have f3 := I.fz 3
      have R : Hid (wr.ownsRow base 46 6 (.slice (some ⟨g, 0, none⟩) 10 c) 10 (flatN ns) ∧ w.grownBy wr (some g)) := ⟨own1, grown_of_below I.bel⟩
      clear own1 I
      go_wp2
      obtain ⟨e1, e2⟩ := take_none (freeTo_nil hall.out (by have := hlen.out; omega))
      refine bodyPost_ret (v := .tuple #[.agg #[.slice (some ⟨g, 0, none⟩) 10 c, .int .i64 t, .int .i64 f, .int .i64 l], .int .i64 0]) (by simp [results, Try.results31, go_sem, v0, v1, v2, v3]) rfl ⟨by rw [e1]; rfl, ?_, grown_putA R.out.2 (by omega) _ _ _ _ _ _⟩
      rw [e2]
      exact own_putA_other R.out.1 (fun e => by have : g = w.heap.size + 1 := Option.some.inj e; omega) _ _ _ _ _ _

end Go.Proofs.Ytbjgepcbbonceaa
