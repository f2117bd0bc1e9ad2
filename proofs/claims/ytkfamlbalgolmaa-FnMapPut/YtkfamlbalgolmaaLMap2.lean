/- l20Map: the draw of entries, its walk. -/
import Derived.Test.YtkfamlbalgolmaaLMap
import Derived.Test.YtkfamlbalgolmaaKB
namespace Go.Proofs.Ytkfamlbalgolmaa
open Go.RowKit
set_option linter.unusedVariables false
set_option linter.unusedSimpArgs false

/-- What a draw of entries answers. -/
def DrawnM (R p : Nat) (w : World) (e : Ending) (w' : World) : Prop :=
  ∃ (L : List Int) (N : Nat) (a : Option Addr) (c q : Nat), e = .returned (.agg #[.slice a N c]) ∧ w'.ownsRow w.heap.size 41 2 (.slice a N c) N (L.map (Value.int .i64)) ∧ N ≤ 9 ∧ Rd w' R q ∧ q ≤ p + 400 ∧ KB R w w'

/-- What stands in the loop. -/
structure LM (w : World) (R q : Nat) (L : List Int) (N : Nat) (a : Option Addr) (c : Nat) (W : World) : Prop where
  rd : Rd W R q
  kb : KB R w W
  z : W.cell? ⟨w.heap.size, 0, none⟩ = some (.slice none 0 0)
  zf : W.frozen? ⟨w.heap.size, 0, none⟩ = false
  m : W.cell? ⟨w.heap.size + 1, 0, none⟩ = some (.slice a N c)
  mf : W.frozen? ⟨w.heap.size + 1, 0, none⟩ = false
  own : W.ownsRow (w.heap.size + 2) 41 2 (.slice a N c) N (L.map (Value.int .i64))
  lt : R < w.heap.size

theorem LM.sz {w : World} {R q : Nat} {L : List Int} {N : Nat} {a : Option Addr} {c : Nat} {W : World} (h : LM w R q L N a c W) : w.heap.size + 1 < W.heap.size := World.block_lt_of_cell? W ⟨w.heap.size + 1, 0, none⟩ h.m

/-- Behind what turns the reader alone. -/
theorem LM.kept {w : World} {R q q' : Nat} {L : List Int} {N : Nat} {a : Option Addr} {c : Nat} {W W' : World} (h : LM w R q L N a c W) (k : KB R W W') (hr : Rd W' R q') : LM w R q' L N a c W' := by
  have hs := h.sz
  have hl := h.lt
  exact
  { rd := hr, kb := h.kb.trans k, z := k.cell h.z (by omega), zf := (k.frozen (by omega) (by omega)).trans h.zf, m := k.cell h.m (by omega), mf := (k.frozen (by omega) (by omega)).trans h.mf,
    own := own_block h.own (fun g hg => k.block g (own_typed h.own hg).2.1 (by have := (own_typed h.own hg).1; omega)), lt := h.lt }


/-- The operations of the round's one region. -/
def ops5 : Array Oper := #[{ dst := some 17, op := Op.load 25 (Operand.tmp 5), type := 25, pos := "l20_draw.go:42", after := #[], guard := none }, { dst := some 18, op := Op.move (Operand.tmp 0), type := 43, pos := "l20_draw.go:42", after := #[], guard := none }, { dst := some 19, op := Op.call { callee := Callee.value (Operand.func 32), args := #[Operand.tmp 18, Operand.const (Value.int IntKind.i64 10)], argTypes := #[43, 3] }, type := 3, pos := "l20_draw.go:42", after := #[{ on := 1, ground := Ground.data }], guard := none }, { dst := some 20, op := Op.move (Operand.tmp 0), type := 43, pos := "l20_draw.go:42", after := #[], guard := none }, { dst := some 21, op := Op.call { callee := Callee.value (Operand.func 32), args := #[Operand.tmp 20, Operand.const (Value.int IntKind.i64 100)], argTypes := #[43, 3] }, type := 3, pos := "l20_draw.go:42", after := #[{ on := 3, ground := Ground.data }, { on := 2, ground := Ground.chain }], guard := none }, { dst := some 22, op := Op.buildSlice 48 4 #[(0, Operand.tmp 19), (1, Operand.tmp 21), (2, Operand.const (Value.int IntKind.i64 0)), (3, Operand.const (Value.int IntKind.i64 99))], type := 48, pos := "l20_draw.go:42", after := #[{ on := 2, ground := Ground.data }, { on := 4, ground := Ground.data }], guard := none }, { dst := some 23, op := Op.move (Operand.tmp 0), type := 43, pos := "l20_draw.go:42", after := #[], guard := none }, { dst := some 24, op := Op.call { callee := Callee.value (Operand.func 32), args := #[Operand.tmp 23, Operand.const (Value.int IntKind.i64 4)], argTypes := #[43, 3] }, type := 3, pos := "l20_draw.go:42", after := #[{ on := 6, ground := Ground.data }, { on := 4, ground := Ground.chain }], guard := none }, { dst := some 25, op := Op.indexAddr 48 (Operand.tmp 22) (Operand.tmp 24), type := 0, pos := "l20_draw.go:42", after := #[{ on := 5, ground := Ground.data }, { on := 7, ground := Ground.data }], guard := none }, { dst := some 26, op := Op.load 3 (Operand.tmp 25), type := 3, pos := "l20_draw.go:42", after := #[{ on := 8, ground := Ground.data }], guard := none }, { dst := some 27, op := Op.move (Operand.tmp 0), type := 43, pos := "l20_draw.go:42", after := #[], guard := none }, { dst := some 28, op := Op.call { callee := Callee.value (Operand.func 32), args := #[Operand.tmp 27, Operand.const (Value.int IntKind.i64 10)], argTypes := #[43, 3] }, type := 3, pos := "l20_draw.go:42", after := #[{ on := 10, ground := Ground.data }, { on := 7, ground := Ground.chain }], guard := none }, { dst := some 29, op := Op.buildSlice 48 3 #[(0, Operand.tmp 28), (1, Operand.const (Value.int IntKind.i64 999)), (2, Operand.const (Value.int IntKind.i64 0))], type := 48, pos := "l20_draw.go:42", after := #[{ on := 11, ground := Ground.data }], guard := none }, { dst := some 30, op := Op.move (Operand.tmp 0), type := 43, pos := "l20_draw.go:42", after := #[], guard := none }, { dst := some 31, op := Op.call { callee := Callee.value (Operand.func 32), args := #[Operand.tmp 30, Operand.const (Value.int IntKind.i64 3)], argTypes := #[43, 3] }, type := 3, pos := "l20_draw.go:42", after := #[{ on := 13, ground := Ground.data }, { on := 11, ground := Ground.chain }], guard := none }, { dst := some 32, op := Op.indexAddr 48 (Operand.tmp 29) (Operand.tmp 31), type := 0, pos := "l20_draw.go:42", after := #[{ on := 12, ground := Ground.data }, { on := 14, ground := Ground.data }], guard := none }, { dst := some 33, op := Op.load 3 (Operand.tmp 32), type := 3, pos := "l20_draw.go:42", after := #[{ on := 15, ground := Ground.data }], guard := none }, { dst := some 34, op := Op.call { callee := Callee.value (Operand.func 11), args := #[Operand.tmp 17, Operand.tmp 26, Operand.tmp 33], argTypes := #[25, 3, 3] }, type := 30, pos := "l20_draw.go:42", after := #[{ on := 0, ground := Ground.data }, { on := 9, ground := Ground.data }, { on := 16, ground := Ground.data }, { on := 14, ground := Ground.chain }], guard := none }, { dst := some 16, op := Op.move (Operand.tmp 34), type := 30, pos := "l20_draw.go:42", after := #[{ on := 17, ground := Ground.data }], guard := none }, { dst := some 35, op := Op.extract (Operand.tmp 16) 0, type := 25, pos := "l20_draw.go:42", after := #[{ on := 18, ground := Ground.data }], guard := none }, { dst := some 36, op := Op.extract (Operand.tmp 16) 1, type := 29, pos := "l20_draw.go:42", after := #[{ on := 18, ground := Ground.data }, { on := 23, ground := Ground.gcOnly Departure.lateStores }], guard := none }, { dst := some 7, op := Op.alloc 25, type := 0, pos := "l20_draw.go:42", after := #[], guard := none }, { dst := some 8, op := Op.alloc 29, type := 0, pos := "l20_draw.go:42", after := #[], guard := none }, { dst := none, op := Op.store 25 (Operand.tmp 7) (Operand.tmp 35), type := 0, pos := "l20_draw.go:42", after := #[{ on := 21, ground := Ground.data }, { on := 19, ground := Ground.data }, { on := 17, ground := Ground.chain }, { on := 0, ground := Ground.phase }, { on := 1, ground := Ground.phase }, { on := 2, ground := Ground.phase }, { on := 3, ground := Ground.phase }, { on := 4, ground := Ground.phase }, { on := 5, ground := Ground.phase }, { on := 6, ground := Ground.phase }, { on := 7, ground := Ground.phase }, { on := 8, ground := Ground.phase }, { on := 9, ground := Ground.phase }, { on := 10, ground := Ground.phase }, { on := 11, ground := Ground.phase }, { on := 12, ground := Ground.phase }, { on := 13, ground := Ground.phase }, { on := 14, ground := Ground.phase }, { on := 15, ground := Ground.phase }, { on := 16, ground := Ground.phase }, { on := 17, ground := Ground.phase }, { on := 18, ground := Ground.phase }, { on := 19, ground := Ground.phase }, { on := 20, ground := Ground.textOnly Departure.lateStores }, { on := 21, ground := Ground.phase }, { on := 22, ground := Ground.phase }], guard := none }, { dst := none, op := Op.store 29 (Operand.tmp 8) (Operand.tmp 36), type := 0, pos := "l20_draw.go:42", after := #[{ on := 22, ground := Ground.data }, { on := 20, ground := Ground.data }, { on := 23, ground := Ground.chain }, { on := 0, ground := Ground.phase }, { on := 1, ground := Ground.phase }, { on := 2, ground := Ground.phase }, { on := 3, ground := Ground.phase }, { on := 4, ground := Ground.phase }, { on := 5, ground := Ground.phase }, { on := 6, ground := Ground.phase }, { on := 7, ground := Ground.phase }, { on := 8, ground := Ground.phase }, { on := 9, ground := Ground.phase }, { on := 10, ground := Ground.phase }, { on := 11, ground := Ground.phase }, { on := 12, ground := Ground.phase }, { on := 13, ground := Ground.phase }, { on := 14, ground := Ground.phase }, { on := 15, ground := Ground.phase }, { on := 16, ground := Ground.phase }, { on := 17, ground := Ground.phase }, { on := 18, ground := Ground.phase }, { on := 19, ground := Ground.phase }, { on := 20, ground := Ground.phase }, { on := 21, ground := Ground.phase }, { on := 22, ground := Ground.phase }, { on := 23, ground := Ground.phase }], guard := none }]

set_option maxRecDepth 20000 in
set_option maxHeartbeats 20000000 in
theorem hop5 {R N c q : Nat} {a : Option Addr} {L : List Int} {w wr : World} {a0 : Act} {Q : Exit → Act → World → Prop} (hRw : R < w.heap.size) (hsz : w.heap.size + 1 < wr.heap.size) (HI : LM w R q L N a c wr) (hN : N ≤ 8) (hqb : q ≤ 990000)
    (e0 : a0.eval (.tmp 0) = .pointer (some ⟨R, 0, none⟩)) (e5 : a0.eval (.tmp 5) = .pointer (some ⟨w.heap.size + 1, 0, none⟩)) :
    ∀ (i : Nat) (o : Oper) (f : Nat) (W1 : Act) (W : World), i < 25 → ops5[i]? = some o → (∃ q', Rd W R q' ∧ q' + (f + 1) ≤ q + 25 ∧ KB R wr W) →
      (∀ e ∈ o.after, Region.binds .any e = true → ∀ oj, ops5[e.on]? = some oj → ∃ v, VM R wr.heap.size N a c e.on v W ∧ ∀ d, oj.dst = some d → W1.eval (.tmp d) = v) →
      (∀ d, (∀ oj ∈ ops5.toList, oj.dst ≠ some d) → W1.eval (.tmp d) = a0.eval (.tmp d)) → Oper.wp Try.prog o W1 W (fun a' w' => ∃ v, a' = W1.put o.dst v ∧ VM R wr.heap.size N a c i v w' ∧ (∃ q', Rd w' R q' ∧ q' + f ≤ q + 25 ∧ KB R wr w') ∧ TT R wr.heap.size N W w') Q := by
  intro i o f W1 W hi ho hI hdep hfix
  obtain ⟨q', hr, hq', hkb⟩ := hI
  have h0 := eval_tmp ((hfix 0 (dst_none (by kernel_rfl))).trans e0)
  have h5 := eval_tmp ((hfix 5 (dst_none (by kernel_rfl))).trans e5)
  have hm : W.cell? ⟨w.heap.size + 1, 0, none⟩ = some (.slice a N c) := hkb.cell HI.m (by omega)
  have hown : W.ownsRow (w.heap.size + 2) 41 2 (.slice a N c) N (L.map (Value.int .i64)) := own_block HI.own (fun g hg => hkb.block g (own_typed HI.own hg).2.1 (by have := (own_typed HI.own hg).1; omega))
  clear hfix HI e0 e5
  generalize hKK : (fun (a' : Act) (w' : World) => ∃ v, a' = W1.put o.dst v ∧ VM R wr.heap.size N a c i v w' ∧ (∃ q', Rd w' R q' ∧ q' + f ≤ q + 25 ∧ KB R wr w') ∧ TT R wr.heap.size N W w') = KK
  have HK : Hid (∀ v w', VM R wr.heap.size N a c i v w' → (∃ q', Rd w' R q' ∧ q' + f ≤ q + 25 ∧ KB R wr w') → TT R wr.heap.size N W w' → KK (W1.put o.dst v) w') := by
    subst hKK
    exact fun v w' h1 h2 h3 => ⟨v, rfl, h1, h2, h3⟩
  clear hKK
  rcases lt25 hi with rfl | rfl | rfl | rfl | rfl | rfl | rfl | rfl | rfl | rfl | rfl | rfl | rfl | rfl | rfl | rfl | rfl | rfl | rfl | rfl | rfl | rfl | rfl | rfl | rfl
  · obtain rfl : ({ dst := some 17, op := Op.load 25 (Operand.tmp 5), type := 25, pos := "l20_draw.go:42", after := #[], guard := none } : Oper) = o := Option.some.inj ho
    clear ho hi
    clear hdep
    go_simp
    exact HK.out _ _ rfl ⟨q', hr, by omega, hkb⟩ (TT.of_kb (KB.refl R W))
  · obtain rfl : ({ dst := some 18, op := Op.move (Operand.tmp 0), type := 43, pos := "l20_draw.go:42", after := #[], guard := none } : Oper) = o := Option.some.inj ho
    clear ho hi
    clear hdep
    go_simp
    exact HK.out _ _ rfl ⟨q', hr, by omega, hkb⟩ (TT.of_kb (KB.refl R W))
  · obtain rfl : ({ dst := some 19, op := Op.call { callee := Callee.value (Operand.func 32), args := #[Operand.tmp 18, Operand.const (Value.int IntKind.i64 10)], argTypes := #[43, 3] }, type := 3, pos := "l20_draw.go:42", after := #[{ on := 1, ground := Ground.data }], guard := none } : Oper) = o := Option.some.inj ho
    clear ho hi
    obtain ⟨v1, hv1, he1'⟩ := hdep { on := 1, ground := .data } (by simp) rfl _ rfl
    have he1 := eval_tmp (he1' 18 rfl)
    clear he1'
    clear hdep
    obtain rfl : v1 = .pointer (some ⟨R, 0, none⟩) := hv1
    go_simp
    refine (pick_any R q' 10 W hr (by omega) (by omega) (by omega)).mono ?_
    rintro e W2 ⟨k, hk, rfl, hpk⟩
    exact HK.out _ _ ⟨k, rfl, hk.1, hk.2⟩ ⟨q' + 1, rd_picked hr hpk, by omega, hkb.trans (KB.of_picked hpk)⟩ (TT.of_kb (KB.of_picked hpk))
  · obtain rfl : ({ dst := some 20, op := Op.move (Operand.tmp 0), type := 43, pos := "l20_draw.go:42", after := #[], guard := none } : Oper) = o := Option.some.inj ho
    clear ho hi
    clear hdep
    go_simp
    exact HK.out _ _ rfl ⟨q', hr, by omega, hkb⟩ (TT.of_kb (KB.refl R W))
  · obtain rfl : ({ dst := some 21, op := Op.call { callee := Callee.value (Operand.func 32), args := #[Operand.tmp 20, Operand.const (Value.int IntKind.i64 100)], argTypes := #[43, 3] }, type := 3, pos := "l20_draw.go:42", after := #[{ on := 3, ground := Ground.data }, { on := 2, ground := Ground.chain }], guard := none } : Oper) = o := Option.some.inj ho
    clear ho hi
    obtain ⟨v3, hv3, he3'⟩ := hdep { on := 3, ground := .data } (by simp) rfl _ rfl
    have he3 := eval_tmp (he3' 20 rfl)
    clear he3'
    clear hdep
    obtain rfl : v3 = .pointer (some ⟨R, 0, none⟩) := hv3
    go_simp
    refine (pick_any R q' 100 W hr (by omega) (by omega) (by omega)).mono ?_
    rintro e W2 ⟨k, hk, rfl, hpk⟩
    exact HK.out _ _ ⟨k, rfl, hk.1, hk.2⟩ ⟨q' + 1, rd_picked hr hpk, by omega, hkb.trans (KB.of_picked hpk)⟩ (TT.of_kb (KB.of_picked hpk))
  · obtain rfl : ({ dst := some 22, op := Op.buildSlice 48 4 #[(0, Operand.tmp 19), (1, Operand.tmp 21), (2, Operand.const (Value.int IntKind.i64 0)), (3, Operand.const (Value.int IntKind.i64 99))], type := 48, pos := "l20_draw.go:42", after := #[{ on := 2, ground := Ground.data }, { on := 4, ground := Ground.data }], guard := none } : Oper) = o := Option.some.inj ho
    clear ho hi
    obtain ⟨v2, hv2, he2'⟩ := hdep { on := 2, ground := .data } (by simp) rfl _ rfl
    have he2 := eval_tmp (he2' 19 rfl)
    clear he2'
    obtain ⟨v4, hv4, he4'⟩ := hdep { on := 4, ground := .data } (by simp) rfl _ rfl
    have he4 := eval_tmp (he4' 21 rfl)
    clear he4'
    clear hdep
    obtain ⟨k2, rfl, _, _⟩ := hv2
    obtain ⟨k4, rfl, _, _⟩ := hv4
    go_simp
    exact HK.out _ _ ⟨W.heap.size, rfl, by have := hkb.size; omega, [k2, k4, 0, 99], rfl, new_block W _⟩ ⟨q', rd_below hr (al1 _ _), by omega, hkb.trans (KB.of_below (al1 _ _) (by have := hkb.size; omega))⟩ (TT.of_kb (KB.of_below (al1 _ _) (by have := hkb.size; omega)))
  · obtain rfl : ({ dst := some 23, op := Op.move (Operand.tmp 0), type := 43, pos := "l20_draw.go:42", after := #[], guard := none } : Oper) = o := Option.some.inj ho
    clear ho hi
    clear hdep
    go_simp
    exact HK.out _ _ rfl ⟨q', hr, by omega, hkb⟩ (TT.of_kb (KB.refl R W))
  · obtain rfl : ({ dst := some 24, op := Op.call { callee := Callee.value (Operand.func 32), args := #[Operand.tmp 23, Operand.const (Value.int IntKind.i64 4)], argTypes := #[43, 3] }, type := 3, pos := "l20_draw.go:42", after := #[{ on := 6, ground := Ground.data }, { on := 4, ground := Ground.chain }], guard := none } : Oper) = o := Option.some.inj ho
    clear ho hi
    obtain ⟨v6, hv6, he6'⟩ := hdep { on := 6, ground := .data } (by simp) rfl _ rfl
    have he6 := eval_tmp (he6' 23 rfl)
    clear he6'
    clear hdep
    obtain rfl : v6 = .pointer (some ⟨R, 0, none⟩) := hv6
    go_simp
    refine (pick_any R q' 4 W hr (by omega) (by omega) (by omega)).mono ?_
    rintro e W2 ⟨k, hk, rfl, hpk⟩
    exact HK.out _ _ ⟨k, rfl, hk.1, hk.2⟩ ⟨q' + 1, rd_picked hr hpk, by omega, hkb.trans (KB.of_picked hpk)⟩ (TT.of_kb (KB.of_picked hpk))
  · obtain rfl : ({ dst := some 25, op := Op.indexAddr 48 (Operand.tmp 22) (Operand.tmp 24), type := 0, pos := "l20_draw.go:42", after := #[{ on := 5, ground := Ground.data }, { on := 7, ground := Ground.data }], guard := none } : Oper) = o := Option.some.inj ho
    clear ho hi
    obtain ⟨v5, hv5, he5'⟩ := hdep { on := 5, ground := .data } (by simp) rfl _ rfl
    have he5 := eval_tmp (he5' 22 rfl)
    clear he5'
    obtain ⟨v7, hv7, he7'⟩ := hdep { on := 7, ground := .data } (by simp) rfl _ rfl
    have he7 := eval_tmp (he7' 24 rfl)
    clear he7'
    clear hdep
    obtain ⟨g, rfl, hl⟩ := hv5
    obtain ⟨k, rfl, hk0, hk1⟩ := hv7
    obtain ⟨k, rfl⟩ := Int.eq_ofNat_of_zero_le hk0
    have hk : k < 4 := by omega
    go_simp
    exact HK.out _ _ ⟨g, k, 4, rfl, hk, hl⟩ ⟨q', hr, by omega, hkb⟩ (TT.of_kb (KB.refl R W))
  · obtain rfl : ({ dst := some 26, op := Op.load 3 (Operand.tmp 25), type := 3, pos := "l20_draw.go:42", after := #[{ on := 8, ground := Ground.data }], guard := none } : Oper) = o := Option.some.inj ho
    clear ho hi
    obtain ⟨v8, hv8, he8'⟩ := hdep { on := 8, ground := .data } (by simp) rfl _ rfl
    have he8 := eval_tmp (he8' 25 rfl)
    clear he8'
    clear hdep
    obtain ⟨g, k, n', rfl, hk, hl⟩ := hv8
    obtain ⟨x, hx⟩ := hl.cell hk
    go_simp
    exact HK.out _ _ ⟨x, rfl⟩ ⟨q', hr, by omega, hkb⟩ (TT.of_kb (KB.refl R W))
  · obtain rfl : ({ dst := some 27, op := Op.move (Operand.tmp 0), type := 43, pos := "l20_draw.go:42", after := #[], guard := none } : Oper) = o := Option.some.inj ho
    clear ho hi
    clear hdep
    go_simp
    exact HK.out _ _ rfl ⟨q', hr, by omega, hkb⟩ (TT.of_kb (KB.refl R W))
  · obtain rfl : ({ dst := some 28, op := Op.call { callee := Callee.value (Operand.func 32), args := #[Operand.tmp 27, Operand.const (Value.int IntKind.i64 10)], argTypes := #[43, 3] }, type := 3, pos := "l20_draw.go:42", after := #[{ on := 10, ground := Ground.data }, { on := 7, ground := Ground.chain }], guard := none } : Oper) = o := Option.some.inj ho
    clear ho hi
    obtain ⟨v10, hv10, he10'⟩ := hdep { on := 10, ground := .data } (by simp) rfl _ rfl
    have he10 := eval_tmp (he10' 27 rfl)
    clear he10'
    clear hdep
    obtain rfl : v10 = .pointer (some ⟨R, 0, none⟩) := hv10
    go_simp
    refine (pick_any R q' 10 W hr (by omega) (by omega) (by omega)).mono ?_
    rintro e W2 ⟨k, hk, rfl, hpk⟩
    exact HK.out _ _ ⟨k, rfl, hk.1, hk.2⟩ ⟨q' + 1, rd_picked hr hpk, by omega, hkb.trans (KB.of_picked hpk)⟩ (TT.of_kb (KB.of_picked hpk))
  · obtain rfl : ({ dst := some 29, op := Op.buildSlice 48 3 #[(0, Operand.tmp 28), (1, Operand.const (Value.int IntKind.i64 999)), (2, Operand.const (Value.int IntKind.i64 0))], type := 48, pos := "l20_draw.go:42", after := #[{ on := 11, ground := Ground.data }], guard := none } : Oper) = o := Option.some.inj ho
    clear ho hi
    obtain ⟨v11, hv11, he11'⟩ := hdep { on := 11, ground := .data } (by simp) rfl _ rfl
    have he11 := eval_tmp (he11' 28 rfl)
    clear he11'
    clear hdep
    obtain ⟨k2, rfl, _, _⟩ := hv11
    go_simp
    exact HK.out _ _ ⟨W.heap.size, rfl, by have := hkb.size; omega, [k2, 999, 0], rfl, new_block W _⟩ ⟨q', rd_below hr (al1 _ _), by omega, hkb.trans (KB.of_below (al1 _ _) (by have := hkb.size; omega))⟩ (TT.of_kb (KB.of_below (al1 _ _) (by have := hkb.size; omega)))
  · obtain rfl : ({ dst := some 30, op := Op.move (Operand.tmp 0), type := 43, pos := "l20_draw.go:42", after := #[], guard := none } : Oper) = o := Option.some.inj ho
    clear ho hi
    clear hdep
    go_simp
    exact HK.out _ _ rfl ⟨q', hr, by omega, hkb⟩ (TT.of_kb (KB.refl R W))
  · obtain rfl : ({ dst := some 31, op := Op.call { callee := Callee.value (Operand.func 32), args := #[Operand.tmp 30, Operand.const (Value.int IntKind.i64 3)], argTypes := #[43, 3] }, type := 3, pos := "l20_draw.go:42", after := #[{ on := 13, ground := Ground.data }, { on := 11, ground := Ground.chain }], guard := none } : Oper) = o := Option.some.inj ho
    clear ho hi
    obtain ⟨v13, hv13, he13'⟩ := hdep { on := 13, ground := .data } (by simp) rfl _ rfl
    have he13 := eval_tmp (he13' 30 rfl)
    clear he13'
    clear hdep
    obtain rfl : v13 = .pointer (some ⟨R, 0, none⟩) := hv13
    go_simp
    refine (pick_any R q' 3 W hr (by omega) (by omega) (by omega)).mono ?_
    rintro e W2 ⟨k, hk, rfl, hpk⟩
    exact HK.out _ _ ⟨k, rfl, hk.1, hk.2⟩ ⟨q' + 1, rd_picked hr hpk, by omega, hkb.trans (KB.of_picked hpk)⟩ (TT.of_kb (KB.of_picked hpk))
  · obtain rfl : ({ dst := some 32, op := Op.indexAddr 48 (Operand.tmp 29) (Operand.tmp 31), type := 0, pos := "l20_draw.go:42", after := #[{ on := 12, ground := Ground.data }, { on := 14, ground := Ground.data }], guard := none } : Oper) = o := Option.some.inj ho
    clear ho hi
    obtain ⟨v12, hv12, he12'⟩ := hdep { on := 12, ground := .data } (by simp) rfl _ rfl
    have he12 := eval_tmp (he12' 29 rfl)
    clear he12'
    obtain ⟨v14, hv14, he14'⟩ := hdep { on := 14, ground := .data } (by simp) rfl _ rfl
    have he14 := eval_tmp (he14' 31 rfl)
    clear he14'
    clear hdep
    obtain ⟨g, rfl, hl⟩ := hv12
    obtain ⟨k, rfl, hk0, hk1⟩ := hv14
    obtain ⟨k, rfl⟩ := Int.eq_ofNat_of_zero_le hk0
    have hk : k < 3 := by omega
    go_simp
    exact HK.out _ _ ⟨g, k, 3, rfl, hk, hl⟩ ⟨q', hr, by omega, hkb⟩ (TT.of_kb (KB.refl R W))
  · obtain rfl : ({ dst := some 33, op := Op.load 3 (Operand.tmp 32), type := 3, pos := "l20_draw.go:42", after := #[{ on := 15, ground := Ground.data }], guard := none } : Oper) = o := Option.some.inj ho
    clear ho hi
    obtain ⟨v15, hv15, he15'⟩ := hdep { on := 15, ground := .data } (by simp) rfl _ rfl
    have he15 := eval_tmp (he15' 32 rfl)
    clear he15'
    clear hdep
    obtain ⟨g, k, n', rfl, hk, hl⟩ := hv15
    obtain ⟨x, hx⟩ := hl.cell hk
    go_simp
    exact HK.out _ _ ⟨x, rfl⟩ ⟨q', hr, by omega, hkb⟩ (TT.of_kb (KB.refl R W))
  · obtain rfl : ({ dst := some 34, op := Op.call { callee := Callee.value (Operand.func 11), args := #[Operand.tmp 17, Operand.tmp 26, Operand.tmp 33], argTypes := #[25, 3, 3] }, type := 30, pos := "l20_draw.go:42", after := #[{ on := 0, ground := Ground.data }, { on := 9, ground := Ground.data }, { on := 16, ground := Ground.data }, { on := 14, ground := Ground.chain }], guard := none } : Oper) = o := Option.some.inj ho
    clear ho hi
    obtain ⟨v0, hv0, he0'⟩ := hdep { on := 0, ground := .data } (by simp) rfl _ rfl
    have he0 := eval_tmp (he0' 17 rfl)
    clear he0'
    obtain ⟨v9, hv9, he9'⟩ := hdep { on := 9, ground := .data } (by simp) rfl _ rfl
    have he9 := eval_tmp (he9' 26 rfl)
    clear he9'
    obtain ⟨v16, hv16, he16'⟩ := hdep { on := 16, ground := .data } (by simp) rfl _ rfl
    have he16 := eval_tmp (he16' 33 rfl)
    clear he16'
    clear hdep
    obtain rfl : v0 = .agg #[.slice a N c] := hv0
    obtain ⟨x9, rfl⟩ := hv9
    obtain ⟨x16, rfl⟩ := hv16
    go_simp
    refine (specMapPut_cap a N c L x9 x16 W (own2_sints hown) (by omega)).mono ?_
    rintro e W2 ⟨a2, c2, rfl, ho2, hb2⟩
    exact HK.out _ _ ⟨a2, _, c2, _, _, _, rfl, own_mono ho2 hkb.size, ptN_le L N x9 x16⟩ ⟨q', rd_below hr hb2, by omega, hkb.trans (KB.of_below hb2 (by have := hkb.size; omega))⟩ (TT.of_kb (KB.of_below hb2 (by have := hkb.size; omega)))
  · obtain rfl : ({ dst := some 16, op := Op.move (Operand.tmp 34), type := 30, pos := "l20_draw.go:42", after := #[{ on := 17, ground := Ground.data }], guard := none } : Oper) = o := Option.some.inj ho
    clear ho hi
    obtain ⟨v17, hv17, he17'⟩ := hdep { on := 17, ground := .data } (by simp) rfl _ rfl
    have he17 := eval_tmp (he17' 34 rfl)
    clear he17'
    clear hdep
    obtain ⟨a2, n2, c2, L2, C, D, rfl, ho2⟩ := hv17
    go_simp
    exact HK.out _ _ ⟨a2, n2, c2, L2, C, D, rfl, ho2⟩ ⟨q', hr, by omega, hkb⟩ (TT.of_kb (KB.refl R W))
  · obtain rfl : ({ dst := some 35, op := Op.extract (Operand.tmp 16) 0, type := 25, pos := "l20_draw.go:42", after := #[{ on := 18, ground := Ground.data }], guard := none } : Oper) = o := Option.some.inj ho
    clear ho hi
    obtain ⟨v18, hv18, he18'⟩ := hdep { on := 18, ground := .data } (by simp) rfl _ rfl
    have he18 := eval_tmp (he18' 16 rfl)
    clear he18'
    clear hdep
    obtain ⟨a2, n2, c2, L2, C, D, rfl, ho2⟩ := hv18
    go_simp
    exact HK.out _ _ ⟨a2, n2, c2, L2, rfl, ho2⟩ ⟨q', hr, by omega, hkb⟩ (TT.of_kb (KB.refl R W))
  · obtain rfl : ({ dst := some 36, op := Op.extract (Operand.tmp 16) 1, type := 29, pos := "l20_draw.go:42", after := #[{ on := 18, ground := Ground.data }, { on := 23, ground := Ground.gcOnly Departure.lateStores }], guard := none } : Oper) = o := Option.some.inj ho
    clear ho hi
    obtain ⟨v18, hv18, he18'⟩ := hdep { on := 18, ground := .data } (by simp) rfl _ rfl
    have he18 := eval_tmp (he18' 16 rfl)
    clear he18'
    clear hdep
    obtain ⟨a2, n2, c2, L2, C, D, rfl, ho2⟩ := hv18
    go_simp
    exact HK.out _ _ ⟨C, D, rfl⟩ ⟨q', hr, by omega, hkb⟩ (TT.of_kb (KB.refl R W))
  · obtain rfl : ({ dst := some 7, op := Op.alloc 25, type := 0, pos := "l20_draw.go:42", after := #[], guard := none } : Oper) = o := Option.some.inj ho
    clear ho hi
    clear hdep
    go_simp
    exact HK.out _ _ ⟨W.heap.size, rfl, hkb.size, none, 0, 0, [], new_block W _, ⟨rfl, .inl ⟨rfl, rfl⟩⟩, by omega⟩ ⟨q', rd_below hr (al1 _ _), by omega, hkb.trans (KB.of_below (al1 _ _) (by have := hkb.size; omega))⟩ (TT.of_kb (KB.of_below (al1 _ _) (by have := hkb.size; omega)))
  · obtain rfl : ({ dst := some 8, op := Op.alloc 29, type := 0, pos := "l20_draw.go:42", after := #[], guard := none } : Oper) = o := Option.some.inj ho
    clear ho hi
    clear hdep
    go_simp
    exact HK.out _ _ ⟨W.heap.size, rfl, hkb.size, 0, 0, new_block W _⟩ ⟨q', rd_below hr (al1 _ _), by omega, hkb.trans (KB.of_below (al1 _ _) (by have := hkb.size; omega))⟩ (TT.of_kb (KB.of_below (al1 _ _) (by have := hkb.size; omega)))
  · obtain rfl : ({ dst := none, op := Op.store 25 (Operand.tmp 7) (Operand.tmp 35), type := 0, pos := "l20_draw.go:42", after := #[{ on := 21, ground := Ground.data }, { on := 19, ground := Ground.data }, { on := 17, ground := Ground.chain }, { on := 0, ground := Ground.phase }, { on := 1, ground := Ground.phase }, { on := 2, ground := Ground.phase }, { on := 3, ground := Ground.phase }, { on := 4, ground := Ground.phase }, { on := 5, ground := Ground.phase }, { on := 6, ground := Ground.phase }, { on := 7, ground := Ground.phase }, { on := 8, ground := Ground.phase }, { on := 9, ground := Ground.phase }, { on := 10, ground := Ground.phase }, { on := 11, ground := Ground.phase }, { on := 12, ground := Ground.phase }, { on := 13, ground := Ground.phase }, { on := 14, ground := Ground.phase }, { on := 15, ground := Ground.phase }, { on := 16, ground := Ground.phase }, { on := 17, ground := Ground.phase }, { on := 18, ground := Ground.phase }, { on := 19, ground := Ground.phase }, { on := 20, ground := Ground.textOnly Departure.lateStores }, { on := 21, ground := Ground.phase }, { on := 22, ground := Ground.phase }], guard := none } : Oper) = o := Option.some.inj ho
    clear ho hi
    obtain ⟨v21, hv21, he21'⟩ := hdep { on := 21, ground := .data } (by simp) rfl _ rfl
    have he21 := eval_tmp (he21' 7 rfl)
    clear he21'
    obtain ⟨v19, hv19, he19'⟩ := hdep { on := 19, ground := .data } (by simp) rfl _ rfl
    have he19 := eval_tmp (he19' 35 rfl)
    clear he19'
    clear hdep
    obtain ⟨g, rfl, hg, a3, n3, c3, L3, hh, ho3⟩ := hv21
    obtain ⟨a2, n2, c2, L2, rfl, ho2⟩ := hv19
    have hcell := cell_block0 hh
    have hfz := frozen_block hh 0
    go_simp
    exact HK.out undef _ trivial ⟨q', rd_setCell hr (by omega) _, by omega, kb_setCell hkb (Nat.le_refl _) hg (by omega) _⟩ (storeM_tt hh ho2)
  · obtain rfl : ({ dst := none, op := Op.store 29 (Operand.tmp 8) (Operand.tmp 36), type := 0, pos := "l20_draw.go:42", after := #[{ on := 22, ground := Ground.data }, { on := 20, ground := Ground.data }, { on := 23, ground := Ground.chain }, { on := 0, ground := Ground.phase }, { on := 1, ground := Ground.phase }, { on := 2, ground := Ground.phase }, { on := 3, ground := Ground.phase }, { on := 4, ground := Ground.phase }, { on := 5, ground := Ground.phase }, { on := 6, ground := Ground.phase }, { on := 7, ground := Ground.phase }, { on := 8, ground := Ground.phase }, { on := 9, ground := Ground.phase }, { on := 10, ground := Ground.phase }, { on := 11, ground := Ground.phase }, { on := 12, ground := Ground.phase }, { on := 13, ground := Ground.phase }, { on := 14, ground := Ground.phase }, { on := 15, ground := Ground.phase }, { on := 16, ground := Ground.phase }, { on := 17, ground := Ground.phase }, { on := 18, ground := Ground.phase }, { on := 19, ground := Ground.phase }, { on := 20, ground := Ground.phase }, { on := 21, ground := Ground.phase }, { on := 22, ground := Ground.phase }, { on := 23, ground := Ground.phase }], guard := none } : Oper) = o := Option.some.inj ho
    clear ho hi
    obtain ⟨v22, hv22, he22'⟩ := hdep { on := 22, ground := .data } (by simp) rfl _ rfl
    have he22 := eval_tmp (he22' 8 rfl)
    clear he22'
    obtain ⟨v20, hv20, he20'⟩ := hdep { on := 20, ground := .data } (by simp) rfl _ rfl
    have he20 := eval_tmp (he20' 36 rfl)
    clear he20'
    clear hdep
    obtain ⟨g, rfl, hg, C3, D3, hh⟩ := hv22
    obtain ⟨C, D, rfl⟩ := hv20
    have hcell := cell_block0 hh
    have hcell1 := cell_block1 hh
    have hfz := frozen_block hh 0
    have hfz1 := frozen_block hh 1
    go_simp
    exact HK.out undef _ trivial ⟨q', rd_setCell (rd_setCell hr (by omega) _) (by omega) _, by omega, kb_setCell (kb_setCell hkb (Nat.le_refl _) hg (by omega) _) (Nat.le_refl _) hg (by omega) _⟩ (storeR_tt hh _ _)

end Go.Proofs.Ytkfamlbalgolmaa
