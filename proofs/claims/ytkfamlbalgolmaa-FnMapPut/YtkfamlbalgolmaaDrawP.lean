/- The draw of entries, a key and a value. -/
import Derived.Test.YtkfamlbalgolmaaPOk
namespace Go.Proofs.Ytkfamlbalgolmaa
open Go.RowKit
set_option linter.unusedVariables false
set_option linter.unusedSimpArgs false

/-- The operations of the region. -/
def opsP : Array Oper := #[{ dst := some 8, op := Op.move (Operand.tmp 5), type := 43, pos := "l20_draw.go:84", after := #[], guard := none }, { dst := some 9, op := Op.call { callee := Callee.value (Operand.func 30), args := #[Operand.tmp 8, Operand.const (Value.int IntKind.i64 9)], argTypes := #[43, 3] }, type := 25, pos := "l20_draw.go:84", after := #[{ on := 0, ground := Ground.data }], guard := none }, { dst := some 10, op := Op.move (Operand.tmp 5), type := 43, pos := "l20_draw.go:84", after := #[], guard := none }, { dst := some 11, op := Op.call { callee := Callee.value (Operand.func 31), args := #[Operand.tmp 10, Operand.const (Value.int IntKind.i64 9)], argTypes := #[43, 3] }, type := 3, pos := "l20_draw.go:84", after := #[{ on := 2, ground := Ground.data }, { on := 1, ground := Ground.chain }], guard := none }, { dst := some 12, op := Op.move (Operand.tmp 5), type := 43, pos := "l20_draw.go:84", after := #[], guard := none }, { dst := some 13, op := Op.call { callee := Callee.value (Operand.func 32), args := #[Operand.tmp 12, Operand.const (Value.int IntKind.i64 10)], argTypes := #[43, 3] }, type := 3, pos := "l20_draw.go:84", after := #[{ on := 4, ground := Ground.data }, { on := 3, ground := Ground.chain }], guard := none }, { dst := some 14, op := Op.buildSlice 48 5 #[(0, Operand.tmp 13), (1, Operand.const (Value.int IntKind.i64 999)), (2, Operand.const (Value.int IntKind.i64 1000)), (3, Operand.const (Value.int IntKind.i64 (-1))), (4, Operand.const (Value.int IntKind.i64 5))], type := 48, pos := "l20_draw.go:84", after := #[{ on := 5, ground := Ground.data }, { on := 12, ground := Ground.gcOnly Departure.lateStores }], guard := none }, { dst := some 15, op := Op.move (Operand.tmp 5), type := 43, pos := "l20_draw.go:84", after := #[], guard := none }, { dst := some 16, op := Op.call { callee := Callee.value (Operand.func 32), args := #[Operand.tmp 15, Operand.const (Value.int IntKind.i64 5)], argTypes := #[43, 3] }, type := 3, pos := "l20_draw.go:84", after := #[{ on := 7, ground := Ground.data }, { on := 5, ground := Ground.chain }], guard := none }, { dst := some 17, op := Op.indexAddr 48 (Operand.tmp 14) (Operand.tmp 16), type := 0, pos := "l20_draw.go:84", after := #[{ on := 6, ground := Ground.data }, { on := 8, ground := Ground.data }, { on := 12, ground := Ground.gcOnly Departure.lateStores }], guard := none }, { dst := some 18, op := Op.load 3 (Operand.tmp 17), type := 3, pos := "l20_draw.go:84", after := #[{ on := 9, ground := Ground.data }, { on := 12, ground := Ground.gcOnly Departure.lateStores }], guard := none }, { dst := none, op := Op.store 25 (Operand.tmp 2) (Operand.tmp 9), type := 0, pos := "l20_draw.go:84", after := #[{ on := 1, ground := Ground.data }, { on := 8, ground := Ground.chain }, { on := 0, ground := Ground.phase }, { on := 1, ground := Ground.phase }, { on := 2, ground := Ground.textOnly Departure.lateStores }, { on := 3, ground := Ground.textOnly Departure.lateStoresUnsure }, { on := 4, ground := Ground.textOnly Departure.lateStores }, { on := 5, ground := Ground.textOnly Departure.lateStoresUnsure }, { on := 6, ground := Ground.textOnly Departure.lateStores }, { on := 7, ground := Ground.textOnly Departure.lateStores }, { on := 8, ground := Ground.textOnly Departure.lateStoresUnsure }, { on := 9, ground := Ground.textOnly Departure.lateStores }, { on := 10, ground := Ground.textOnly Departure.lateStores }], guard := none }, { dst := some 3, op := Op.assign (Operand.tmp 11), type := 3, pos := "l20_draw.go:84", after := #[{ on := 3, ground := Ground.data }, { on := 11, ground := Ground.chain }, { on := 0, ground := Ground.phase }, { on := 1, ground := Ground.phase }, { on := 2, ground := Ground.phase }, { on := 3, ground := Ground.phase }, { on := 4, ground := Ground.textOnly Departure.lateStores }, { on := 5, ground := Ground.textOnly Departure.lateStoresUnsure }, { on := 6, ground := Ground.textOnly Departure.lateStores }, { on := 7, ground := Ground.textOnly Departure.lateStores }, { on := 8, ground := Ground.textOnly Departure.lateStoresUnsure }, { on := 9, ground := Ground.textOnly Departure.lateStores }, { on := 10, ground := Ground.textOnly Departure.lateStores }, { on := 11, ground := Ground.phase }], guard := none }, { dst := some 4, op := Op.assign (Operand.tmp 18), type := 3, pos := "l20_draw.go:84", after := #[{ on := 10, ground := Ground.data }, { on := 12, ground := Ground.chain }, { on := 0, ground := Ground.phase }, { on := 1, ground := Ground.phase }, { on := 2, ground := Ground.phase }, { on := 3, ground := Ground.phase }, { on := 4, ground := Ground.phase }, { on := 5, ground := Ground.phase }, { on := 6, ground := Ground.phase }, { on := 7, ground := Ground.phase }, { on := 8, ground := Ground.phase }, { on := 9, ground := Ground.phase }, { on := 10, ground := Ground.phase }, { on := 11, ground := Ground.phase }, { on := 12, ground := Ground.phase }], guard := none }]

/-- What each leaves. -/
def VP (R B : Nat) : Nat → Value → World → Prop
  | 0, v, _ => v = .pointer (some ⟨R, 0, none⟩)
  | 1, v, W => ∃ a n c L, v = .agg #[.slice a n c] ∧ OwnR B 8 W a n c L
  | 2, v, _ => v = .pointer (some ⟨R, 0, none⟩)
  | 3, v, _ => ∃ x : Int, v = .int .i64 x
  | 4, v, _ => v = .pointer (some ⟨R, 0, none⟩)
  | 5, v, _ => ∃ k : Int, v = .int .i64 k ∧ 0 ≤ k ∧ k < 10
  | 6, v, W => ∃ g, v = .slice (some ⟨g, 0, none⟩) 5 5 ∧ Lit B W g 5
  | 7, v, _ => v = .pointer (some ⟨R, 0, none⟩)
  | 8, v, _ => ∃ k : Int, v = .int .i64 k ∧ 0 ≤ k ∧ k < 5
  | 9, v, W => ∃ g k n, v = .pointer (some ⟨g, k, none⟩) ∧ k < n ∧ Lit B W g n
  | 10, v, _ => ∃ x : Int, v = .int .i64 x
  | 12, v, _ => ∃ x : Int, v = .int .i64 x
  | 13, v, _ => ∃ x : Int, v = .int .i64 x
  | _, _, _ => True

theorem VP_keep {R B : Nat} (hR : R < B) : ∀ i v W W', VP R B i v W → TT R B 8 W W' → VP R B i v W' := by
  intro i v W W' h t
  unfold VP at h ⊢
  split at h <;> first
    | exact h
    | exact (let ⟨g, e, l⟩ := h; ⟨g, e, l.keep hR t⟩)
    | exact (let ⟨g, k, n, e, hk, l⟩ := h; ⟨g, k, n, e, hk, l.keep hR t⟩)
    | exact (let ⟨a, n, c, L, e, o⟩ := h; ⟨a, n, c, L, e, o.keep hR t⟩)

/-- What holds whatever has come up. -/
structure DPI (w : World) (R B : Nat) (f : Nat) (W : World) : Prop where
  rd : ∃ q, Rd W R q ∧ q + 400 * f ≤ 5600
  bel : Below w.heap.size w W
  sz : B ≤ W.heap.size
  z : GoodM B 8 W w.heap.size
  lt : w.heap.size < R
  lt2 : R < B
theorem DPI.same {w : World} {R B f : Nat} {W : World} (h : DPI w R B (f + 1) W) : DPI w R B f W := by
  obtain ⟨q, hr, hq⟩ := h.rd
  exact ⟨⟨q, hr, by omega⟩, h.bel, h.sz, h.z, h.lt, h.lt2⟩
theorem DPI.kb {w : World} {R B f q : Nat} {W W' : World} (h : DPI w R B (f + 1) W) (k : KB R W W') (hr : Rd W' R q) (hq : q + 400 * f ≤ 5600) : DPI w R B f W' := by
  refine ⟨⟨q, hr, hq⟩, h.bel.trans (k.bel.mono (by have := h.lt; omega)), Nat.le_trans h.sz k.size, ?_, h.lt, h.lt2⟩
  obtain ⟨a, n, c, L, hh, ho⟩ := h.z
  exact ⟨a, n, c, L, (k.block _ (Array.getElem?_eq_some_iff.1 hh).1 (by have := h.lt; omega)).trans hh, ho.keep h.lt2 (TT.of_kb k)⟩
theorem rd_setM {R q : Nat} {W : World} (hr : Rd W R q) {g : Nat} {a3 : Option Addr} {n3 c3 : Nat} {t : TypeId} (hh : W.heap[g]? = some (.cells #[.slice a3 n3 c3] t)) (hn : R ≠ g) (u : Value) : Rd (W.setCell ⟨g, 0, none⟩ u) R q := by
  obtain ⟨a, m, c, hb, hm, hc⟩ := hr
  refine ⟨a, m, c, (Below.heap_setCell W ⟨g, 0, none⟩ u R hn).trans hb, hm, ?_⟩
  rcases hc with h0 | ⟨b, off, ha, hbR, hc⟩
  · exact .inl h0
  · refine .inr ⟨b, off, ha, hbR, fun i hi => ?_⟩
    obtain ⟨x, x0, x1, hx⟩ := hc i hi
    refine ⟨x, x0, x1, cell_store hx (fun e => ?_)⟩
    subst e
    cases h : off + i with
    | zero => simp [World.cell?, hh, h] at hx
    | succ k => simp [World.cell?, hh, h] at hx
theorem DPI.store {w : World} {R B f : Nat} {W : World} (h : DPI w R B (f + 1) W) {a3 : Option Addr} {n3 c3 : Nat} (hh : W.heap[w.heap.size]? = some (.cells #[.slice a3 n3 c3] 25)) {a : Option Addr} {n c : Nat} {L : List Int} (ho : OwnR B 8 W a n c L) : DPI w R B f (W.setCell ⟨w.heap.size, 0, none⟩ (.slice a n c)) := by
  obtain ⟨q, hr, hq⟩ := h.rd
  have t : TT R B 8 W (W.setCell ⟨w.heap.size, 0, none⟩ (.slice a n c)) := storeM_tt hh ho
  refine ⟨⟨q, rd_setM hr hh (by have := h.lt; omega) _, by omega⟩, h.bel.setCell (p := ⟨w.heap.size, 0, none⟩) (Nat.le_refl _) _, by simpa using h.sz, ⟨a, n, c, L, ?_, ho.keep h.lt2 t⟩, h.lt, h.lt2⟩
  rw [Go.Joins.block_setCell hh]
  rfl

theorem lt14 {i : Nat} (h : i < 14) : i = 0 ∨ i = 1 ∨ i = 2 ∨ i = 3 ∨ i = 4 ∨ i = 5 ∨ i = 6 ∨ i = 7 ∨ i = 8 ∨ i = 9 ∨ i = 10 ∨ i = 11 ∨ i = 12 ∨ i = 13 := by omega

set_option maxRecDepth 20000 in
set_option maxHeartbeats 20000000 in
theorem hopP {R B : Nat} {w : World} {a0 : Act} {Q : Exit → Act → World → Prop} (e0 : a0.eval (.tmp 5) = .pointer (some ⟨R, 0, none⟩)) (e2 : a0.eval (.tmp 2) = .pointer (some ⟨w.heap.size, 0, none⟩)) :
    ∀ (i : Nat) (o : Oper) (f : Nat) (W1 : Act) (W : World), i < 14 → opsP[i]? = some o → DPI w R B (f + 1) W →
      (∀ e ∈ o.after, Region.binds .any e = true → ∀ oj, opsP[e.on]? = some oj → ∃ v, VP R B e.on v W ∧ ∀ d, oj.dst = some d → W1.eval (.tmp d) = v) →
      (∀ d, (∀ oj ∈ opsP.toList, oj.dst ≠ some d) → W1.eval (.tmp d) = a0.eval (.tmp d)) → Oper.wp Try.prog o W1 W (fun a' w' => ∃ v, a' = W1.put o.dst v ∧ VP R B i v w' ∧ DPI w R B f w' ∧ TT R B 8 W w') Q := by
  intro i o f W1 W hi ho hI hdep hfix
  have h0 := eval_tmp ((hfix 5 (dst_none (by kernel_rfl))).trans e0)
  have h2 := eval_tmp ((hfix 2 (dst_none (by kernel_rfl))).trans e2)
  obtain ⟨q', hr, hq'⟩ := hI.rd
  have hRW : R < W.heap.size := Nat.lt_of_lt_of_le hI.lt2 hI.sz
  clear hfix e0 e2
  generalize hKK : (fun (a' : Act) (w' : World) => ∃ v, a' = W1.put o.dst v ∧ VP R B i v w' ∧ DPI w R B f w' ∧ TT R B 8 W w') = KK
  have HK : Hid (∀ v w', VP R B i v w' → DPI w R B f w' → TT R B 8 W w' → KK (W1.put o.dst v) w') := by
    subst hKK
    exact fun v w' h1 h2 h3 => ⟨v, rfl, h1, h2, h3⟩
  clear hKK
  rcases lt14 hi with rfl | rfl | rfl | rfl | rfl | rfl | rfl | rfl | rfl | rfl | rfl | rfl | rfl | rfl
  · obtain rfl : ({ dst := some 8, op := Op.move (Operand.tmp 5), type := 43, pos := "l20_draw.go:84", after := #[], guard := none } : Oper) = o := Option.some.inj ho
    clear ho hi
    clear hdep
    go_simp
    exact HK.out _ _ rfl (hI.same) (TT.of_kb (KB.refl R W))
  · obtain rfl : ({ dst := some 9, op := Op.call { callee := Callee.value (Operand.func 30), args := #[Operand.tmp 8, Operand.const (Value.int IntKind.i64 9)], argTypes := #[43, 3] }, type := 25, pos := "l20_draw.go:84", after := #[{ on := 0, ground := Ground.data }], guard := none } : Oper) = o := Option.some.inj ho
    clear ho hi
    obtain ⟨v0, hv0, he0'⟩ := hdep { on := 0, ground := .data } (by simp) rfl _ rfl
    have he0 := eval_tmp (he0' 8 rfl)
    clear he0'
    clear hdep
    obtain rfl : v0 = .pointer (some ⟨R, 0, none⟩) := hv0
    go_simp
    refine (map_any R q' 9 W hr hRW (by omega) (by omega) (by omega)).mono ?_
    rintro e W2 ⟨L, N, a2, c2, q2, rfl, ho2, hN, hr2, hq2, k2⟩
    exact HK.out _ _ ⟨a2, N, c2, L, rfl, own_mono ho2 hI.sz, by omega⟩ (hI.kb k2 hr2 (by omega)) (TT.of_kb k2)
  · obtain rfl : ({ dst := some 10, op := Op.move (Operand.tmp 5), type := 43, pos := "l20_draw.go:84", after := #[], guard := none } : Oper) = o := Option.some.inj ho
    clear ho hi
    clear hdep
    go_simp
    exact HK.out _ _ rfl (hI.same) (TT.of_kb (KB.refl R W))
  · obtain rfl : ({ dst := some 11, op := Op.call { callee := Callee.value (Operand.func 31), args := #[Operand.tmp 10, Operand.const (Value.int IntKind.i64 9)], argTypes := #[43, 3] }, type := 3, pos := "l20_draw.go:84", after := #[{ on := 2, ground := Ground.data }, { on := 1, ground := Ground.chain }], guard := none } : Oper) = o := Option.some.inj ho
    clear ho hi
    obtain ⟨v2, hv2, he2'⟩ := hdep { on := 2, ground := .data } (by simp) rfl _ rfl
    have he2 := eval_tmp (he2' 10 rfl)
    clear he2'
    clear hdep
    obtain rfl : v2 = .pointer (some ⟨R, 0, none⟩) := hv2
    go_simp
    refine (key_any R q' 9 W hr hRW (by omega) (by omega) (by omega)).mono ?_
    rintro e W2 ⟨x, q2, rfl, hr2, hq2, k2⟩
    exact HK.out _ _ ⟨x, rfl⟩ (hI.kb k2 hr2 (by omega)) (TT.of_kb k2)
  · obtain rfl : ({ dst := some 12, op := Op.move (Operand.tmp 5), type := 43, pos := "l20_draw.go:84", after := #[], guard := none } : Oper) = o := Option.some.inj ho
    clear ho hi
    clear hdep
    go_simp
    exact HK.out _ _ rfl (hI.same) (TT.of_kb (KB.refl R W))
  · obtain rfl : ({ dst := some 13, op := Op.call { callee := Callee.value (Operand.func 32), args := #[Operand.tmp 12, Operand.const (Value.int IntKind.i64 10)], argTypes := #[43, 3] }, type := 3, pos := "l20_draw.go:84", after := #[{ on := 4, ground := Ground.data }, { on := 3, ground := Ground.chain }], guard := none } : Oper) = o := Option.some.inj ho
    clear ho hi
    obtain ⟨v4, hv4, he4'⟩ := hdep { on := 4, ground := .data } (by simp) rfl _ rfl
    have he4 := eval_tmp (he4' 12 rfl)
    clear he4'
    clear hdep
    obtain rfl : v4 = .pointer (some ⟨R, 0, none⟩) := hv4
    go_simp
    refine (pick_any R q' 10 W hr (by omega) (by omega) (by omega)).mono ?_
    rintro e W2 ⟨k, hk, rfl, hpk⟩
    exact HK.out _ _ ⟨k, rfl, hk.1, hk.2⟩ (hI.kb (KB.of_picked hpk) (rd_picked hr hpk) (by omega)) (TT.of_kb (KB.of_picked hpk))
  · obtain rfl : ({ dst := some 14, op := Op.buildSlice 48 5 #[(0, Operand.tmp 13), (1, Operand.const (Value.int IntKind.i64 999)), (2, Operand.const (Value.int IntKind.i64 1000)), (3, Operand.const (Value.int IntKind.i64 (-1))), (4, Operand.const (Value.int IntKind.i64 5))], type := 48, pos := "l20_draw.go:84", after := #[{ on := 5, ground := Ground.data }, { on := 12, ground := Ground.gcOnly Departure.lateStores }], guard := none } : Oper) = o := Option.some.inj ho
    clear ho hi
    obtain ⟨v5, hv5, he5'⟩ := hdep { on := 5, ground := .data } (by simp) rfl _ rfl
    have he5 := eval_tmp (he5' 13 rfl)
    clear he5'
    clear hdep
    obtain ⟨k5, rfl, _, _⟩ := hv5
    go_simp
    have hkA := KB.of_below (R := R) (al1 W (.cells #[.int .i64 k5, .int .i64 999, .int .i64 1000, .int .i64 (-1), .int .i64 5] 3)) (by omega)
    exact HK.out _ _ ⟨W.heap.size, rfl, hI.sz, [k5, 999, 1000, -1, 5], rfl, new_block W _⟩ (hI.kb hkA (rd_below hr (al1 _ _)) (by omega)) (TT.of_kb hkA)
  · obtain rfl : ({ dst := some 15, op := Op.move (Operand.tmp 5), type := 43, pos := "l20_draw.go:84", after := #[], guard := none } : Oper) = o := Option.some.inj ho
    clear ho hi
    clear hdep
    go_simp
    exact HK.out _ _ rfl (hI.same) (TT.of_kb (KB.refl R W))
  · obtain rfl : ({ dst := some 16, op := Op.call { callee := Callee.value (Operand.func 32), args := #[Operand.tmp 15, Operand.const (Value.int IntKind.i64 5)], argTypes := #[43, 3] }, type := 3, pos := "l20_draw.go:84", after := #[{ on := 7, ground := Ground.data }, { on := 5, ground := Ground.chain }], guard := none } : Oper) = o := Option.some.inj ho
    clear ho hi
    obtain ⟨v7, hv7, he7'⟩ := hdep { on := 7, ground := .data } (by simp) rfl _ rfl
    have he7 := eval_tmp (he7' 15 rfl)
    clear he7'
    clear hdep
    obtain rfl : v7 = .pointer (some ⟨R, 0, none⟩) := hv7
    go_simp
    refine (pick_any R q' 5 W hr (by omega) (by omega) (by omega)).mono ?_
    rintro e W2 ⟨k, hk, rfl, hpk⟩
    exact HK.out _ _ ⟨k, rfl, hk.1, hk.2⟩ (hI.kb (KB.of_picked hpk) (rd_picked hr hpk) (by omega)) (TT.of_kb (KB.of_picked hpk))
  · obtain rfl : ({ dst := some 17, op := Op.indexAddr 48 (Operand.tmp 14) (Operand.tmp 16), type := 0, pos := "l20_draw.go:84", after := #[{ on := 6, ground := Ground.data }, { on := 8, ground := Ground.data }, { on := 12, ground := Ground.gcOnly Departure.lateStores }], guard := none } : Oper) = o := Option.some.inj ho
    clear ho hi
    obtain ⟨v6, hv6, he6'⟩ := hdep { on := 6, ground := .data } (by simp) rfl _ rfl
    have he6 := eval_tmp (he6' 14 rfl)
    clear he6'
    obtain ⟨v8, hv8, he8'⟩ := hdep { on := 8, ground := .data } (by simp) rfl _ rfl
    have he8 := eval_tmp (he8' 16 rfl)
    clear he8'
    clear hdep
    obtain ⟨g, rfl, hl⟩ := hv6
    obtain ⟨k, rfl, hk0, hk1⟩ := hv8
    obtain ⟨k, rfl⟩ := Int.eq_ofNat_of_zero_le hk0
    have hk : k < 5 := by omega
    go_simp
    exact HK.out _ _ ⟨g, k, 5, rfl, hk, hl⟩ (hI.same) (TT.of_kb (KB.refl R W))
  · obtain rfl : ({ dst := some 18, op := Op.load 3 (Operand.tmp 17), type := 3, pos := "l20_draw.go:84", after := #[{ on := 9, ground := Ground.data }, { on := 12, ground := Ground.gcOnly Departure.lateStores }], guard := none } : Oper) = o := Option.some.inj ho
    clear ho hi
    obtain ⟨v9, hv9, he9'⟩ := hdep { on := 9, ground := .data } (by simp) rfl _ rfl
    have he9 := eval_tmp (he9' 17 rfl)
    clear he9'
    clear hdep
    obtain ⟨g, k, n', rfl, hk, hl⟩ := hv9
    obtain ⟨x, hx⟩ := hl.cell hk
    go_simp
    exact HK.out _ _ ⟨x, rfl⟩ (hI.same) (TT.of_kb (KB.refl R W))
  · obtain rfl : ({ dst := none, op := Op.store 25 (Operand.tmp 2) (Operand.tmp 9), type := 0, pos := "l20_draw.go:84", after := #[{ on := 1, ground := Ground.data }, { on := 8, ground := Ground.chain }, { on := 0, ground := Ground.phase }, { on := 1, ground := Ground.phase }, { on := 2, ground := Ground.textOnly Departure.lateStores }, { on := 3, ground := Ground.textOnly Departure.lateStoresUnsure }, { on := 4, ground := Ground.textOnly Departure.lateStores }, { on := 5, ground := Ground.textOnly Departure.lateStoresUnsure }, { on := 6, ground := Ground.textOnly Departure.lateStores }, { on := 7, ground := Ground.textOnly Departure.lateStores }, { on := 8, ground := Ground.textOnly Departure.lateStoresUnsure }, { on := 9, ground := Ground.textOnly Departure.lateStores }, { on := 10, ground := Ground.textOnly Departure.lateStores }], guard := none } : Oper) = o := Option.some.inj ho
    clear ho hi
    obtain ⟨v1, hv1, he1'⟩ := hdep { on := 1, ground := .data } (by simp) rfl _ rfl
    have he1 := eval_tmp (he1' 9 rfl)
    clear he1'
    clear hdep
    obtain ⟨a2, n2, c2, L2, rfl, ho2⟩ := hv1
    obtain ⟨a3, n3, c3, L3, hh, ho3⟩ := hI.z
    have hcell := cell_block0 hh
    have hfz := frozen_block hh 0
    go_simp
    exact HK.out undef _ trivial (hI.store hh ho2) (storeM_tt hh ho2)
  · obtain rfl : ({ dst := some 3, op := Op.assign (Operand.tmp 11), type := 3, pos := "l20_draw.go:84", after := #[{ on := 3, ground := Ground.data }, { on := 11, ground := Ground.chain }, { on := 0, ground := Ground.phase }, { on := 1, ground := Ground.phase }, { on := 2, ground := Ground.phase }, { on := 3, ground := Ground.phase }, { on := 4, ground := Ground.textOnly Departure.lateStores }, { on := 5, ground := Ground.textOnly Departure.lateStoresUnsure }, { on := 6, ground := Ground.textOnly Departure.lateStores }, { on := 7, ground := Ground.textOnly Departure.lateStores }, { on := 8, ground := Ground.textOnly Departure.lateStoresUnsure }, { on := 9, ground := Ground.textOnly Departure.lateStores }, { on := 10, ground := Ground.textOnly Departure.lateStores }, { on := 11, ground := Ground.phase }], guard := none } : Oper) = o := Option.some.inj ho
    clear ho hi
    obtain ⟨v3, hv3, he3'⟩ := hdep { on := 3, ground := .data } (by simp) rfl _ rfl
    have he3 := eval_tmp (he3' 11 rfl)
    clear he3'
    clear hdep
    obtain ⟨x, rfl⟩ := hv3
    go_simp
    exact HK.out _ _ ⟨x, rfl⟩ (hI.same) (TT.of_kb (KB.refl R W))
  · obtain rfl : ({ dst := some 4, op := Op.assign (Operand.tmp 18), type := 3, pos := "l20_draw.go:84", after := #[{ on := 10, ground := Ground.data }, { on := 12, ground := Ground.chain }, { on := 0, ground := Ground.phase }, { on := 1, ground := Ground.phase }, { on := 2, ground := Ground.phase }, { on := 3, ground := Ground.phase }, { on := 4, ground := Ground.phase }, { on := 5, ground := Ground.phase }, { on := 6, ground := Ground.phase }, { on := 7, ground := Ground.phase }, { on := 8, ground := Ground.phase }, { on := 9, ground := Ground.phase }, { on := 10, ground := Ground.phase }, { on := 11, ground := Ground.phase }, { on := 12, ground := Ground.phase }], guard := none } : Oper) = o := Option.some.inj ho
    clear ho hi
    obtain ⟨v10, hv10, he10'⟩ := hdep { on := 10, ground := .data } (by simp) rfl _ rfl
    have he10 := eval_tmp (he10' 18 rfl)
    clear he10'
    clear hdep
    obtain ⟨x, rfl⟩ := hv10
    go_simp
    exact HK.out _ _ ⟨x, rfl⟩ (hI.same) (TT.of_kb (KB.refl R W))

/-- What the draw answers. -/
def DrawnMKV (w : World) (e : Ending) (w' : World) : Prop :=
  ∃ (L : List Int) (N : Nat) (a : Option Addr) (c : Nat) (x y : Int), e = .returned (.tuple #[.agg #[.slice a N c], .int .i64 x, .int .i64 y]) ∧ w'.ownsRow w.heap.size 41 2 (.slice a N c) N (L.map (Value.int .i64)) ∧ N ≤ 9 ∧ Below w.heap.size w w'

set_option maxRecDepth 20000 in
set_option maxHeartbeats 2000000 in
theorem drawMapPut_any (a : Option Addr) (n cap : Nat) (w : World) (hs : SBytes w a n) (hc : n ≤ cap) (hn : n ≤ 1048576) :
    Calls Try.prog 9 #[.slice a n cap] w (DrawnMKV w) := by
  have A := al1 w (.cells #[.slice none 0 0] 25)
  have zb := new_block w (.cells #[.slice none 0 0] 25)
  have hs1 := sbytes_below hs A
  have hwz : w.heap.size < (w.alloc (.cells #[.slice none 0 0] 25)).heap.size := by simp
  go_enter Try.func9, Try.ntmps9
  go_wp2_with fail
  refine (open_any a n cap _ hc hn).mono ?_
  generalize w.alloc (.cells #[.slice none 0 0] 25) = w0 at A zb hs1 hwz ⊢
  rintro e w1 ⟨m, c, ⟨hm, h3⟩, rfl, hw1⟩
  have hrd : Rd w1 w0.heap.size 0 := by rw [hw1]; exact rd_open w0 a n m c hs1 hm h3
  have hb1 : Below w0.heap.size w0 w1 := by rw [hw1]; exact al1 _ _
  have hsz : w0.heap.size < w1.heap.size := by rw [hw1]; simp
  have D0 : DPI w w0.heap.size w1.heap.size 14 w1.drew :=
    ⟨⟨0, rd_below hrd (Below.refl _ _).drew, by omega⟩, (below_trans' A hb1).drew, Nat.le_refl _, ⟨none, 0, 0, [], (hb1.block _ hwz).trans zb, ⟨rfl, .inl ⟨rfl, rfl⟩⟩, by omega⟩, hwz, hsz⟩
  clear hw1 hb1 A zb hs hs1 hrd
  go_wp2
  refine region_inv (ops := opsP) (m := 14) (I := DPI w w0.heap.size w1.heap.size) (V := VP w0.heap.size w1.heap.size) (T := TT w0.heap.size w1.heap.size 8) (by kernel_rfl) (by decide) (by kernel_rfl) (by kernel_rfl) (VP_keep hsz) D0 (hopP rfl rfl) ?hend
  case hend =>
    intro vs W hv _ hI
    obtain ⟨v0, e0, h0⟩ := hv 0 (by omega)
    obtain ⟨v1, e1, h1⟩ := hv 1 (by omega)
    obtain ⟨v2, e2, h2⟩ := hv 2 (by omega)
    obtain ⟨v3, e3, h3⟩ := hv 3 (by omega)
    obtain ⟨v4, e4, h4⟩ := hv 4 (by omega)
    obtain ⟨v5, e5, h5⟩ := hv 5 (by omega)
    obtain ⟨v6, e6, h6⟩ := hv 6 (by omega)
    obtain ⟨v7, e7, h7⟩ := hv 7 (by omega)
    obtain ⟨v8, e8, h8⟩ := hv 8 (by omega)
    obtain ⟨v9, e9, h9⟩ := hv 9 (by omega)
    obtain ⟨v10, e10, h10⟩ := hv 10 (by omega)
    obtain ⟨v11, e11, h11⟩ := hv 11 (by omega)
    obtain ⟨v12, e12, h12⟩ := hv 12 (by omega)
    obtain ⟨v13, e13, h13⟩ := hv 13 (by omega)
    clear hv
    refine ⟨by kernel_rfl, ?_⟩
    unfold opsP
    simp only [putsF, e0, e1, e2, e3, e4, e5, e6, e7, e8, e9, e10, e11, e12, e13, Nat.zero_add, Nat.reduceAdd, Act.put, List.setIfInBounds_toArray, List.set_cons_zero, List.set_cons_succ]
    obtain ⟨x, rfl⟩ := h12
    obtain ⟨y, rfl⟩ := h13
    obtain ⟨a2, N, c2, L, hh, ho, hN⟩ := hI.z
    have z3 := cell_block0 hh
    have HB : Hid (Below w.heap.size w W ∧ W.ownsRow w1.heap.size 41 2 (.slice a2 N c2) N (L.map (Value.int .i64))) := ⟨hI.bel, ho⟩
    clear h0 e0 h1 e1 h2 e2 h3 e3 h4 e4 h5 e5 h6 e6 h7 e7 h8 e8 h9 e9 h10 e10 h11 e11 e12 e13 hI ho D0
    go_wp2
    exact bodyPost_ret (v := .tuple #[.agg #[.slice a2 N c2], .int .i64 x, .int .i64 y]) (by simp [results, Try.results9, go_sem, z3]) rfl ⟨L, N, a2, c2, x, y, rfl, own_mono HB.out.2 (by omega), by omega, HB.out.1⟩

end Go.Proofs.Ytkfamlbalgolmaa
