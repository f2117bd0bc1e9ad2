/- The draws of a place and a mark, and of a word. -/
import Derived.Test.YtcffoehldohooaaKB
namespace Go.Proofs.Ytcffoehldohooaa
open Go.RowKit
set_option linter.unusedVariables false
set_option linter.unusedSimpArgs false

/-- The operations of the region. -/
def opsW : Array Oper := #[{ dst := some 7, op := Op.move (Operand.tmp 4), type := 48, pos := "l20_draw.go:143", after := #[], guard := none }, { dst := some 8, op := Op.call { callee := Callee.value (Operand.func 28), args := #[Operand.tmp 7, Operand.const (Value.int IntKind.i64 9)], argTypes := #[48, 3] }, type := 3, pos := "l20_draw.go:143", after := #[{ on := 0, ground := Ground.data }], guard := none }, { dst := some 9, op := Op.buildSlice 35 6 #[(0, Operand.const (Value.int IntKind.i64 0)), (1, Operand.const (Value.int IntKind.i64 1)), (2, Operand.const (Value.int IntKind.i64 9)), (3, Operand.const (Value.int IntKind.i64 10)), (4, Operand.const (Value.int IntKind.i64 (-1))), (5, Operand.tmp 8)], type := 35, pos := "l20_draw.go:143", after := #[{ on := 1, ground := Ground.data }], guard := none }, { dst := some 10, op := Op.move (Operand.tmp 4), type := 48, pos := "l20_draw.go:143", after := #[], guard := none }, { dst := some 11, op := Op.call { callee := Callee.value (Operand.func 28), args := #[Operand.tmp 10, Operand.const (Value.int IntKind.i64 6)], argTypes := #[48, 3] }, type := 3, pos := "l20_draw.go:143", after := #[{ on := 3, ground := Ground.data }, { on := 1, ground := Ground.chain }], guard := none }, { dst := some 12, op := Op.indexAddr 35 (Operand.tmp 9) (Operand.tmp 11), type := 0, pos := "l20_draw.go:143", after := #[{ on := 2, ground := Ground.data }, { on := 4, ground := Ground.data }], guard := none }, { dst := some 13, op := Op.load 3 (Operand.tmp 12), type := 3, pos := "l20_draw.go:143", after := #[{ on := 5, ground := Ground.data }], guard := none }, { dst := some 14, op := Op.move (Operand.tmp 4), type := 48, pos := "l20_draw.go:143", after := #[], guard := none }, { dst := some 15, op := Op.call { callee := Callee.value (Operand.func 28), args := #[Operand.tmp 14, Operand.const (Value.int IntKind.i64 2)], argTypes := #[48, 3] }, type := 3, pos := "l20_draw.go:143", after := #[{ on := 7, ground := Ground.data }, { on := 4, ground := Ground.chain }], guard := none }, { dst := some 16, op := Op.binOp BinOp.eql 3 (Operand.tmp 15) (Operand.const (Value.int IntKind.i64 0)) 3, type := 4, pos := "l20_draw.go:143", after := #[{ on := 8, ground := Ground.data }, { on := 10, ground := Ground.gcOnly Departure.lateStores }], guard := none }, { dst := some 2, op := Op.assign (Operand.tmp 13), type := 3, pos := "l20_draw.go:143", after := #[{ on := 6, ground := Ground.data }, { on := 8, ground := Ground.chain }, { on := 0, ground := Ground.phase }, { on := 1, ground := Ground.phase }, { on := 2, ground := Ground.phase }, { on := 3, ground := Ground.phase }, { on := 4, ground := Ground.phase }, { on := 5, ground := Ground.phase }, { on := 6, ground := Ground.phase }, { on := 7, ground := Ground.textOnly Departure.lateStores }, { on := 8, ground := Ground.textOnly Departure.lateStoresUnsure }, { on := 9, ground := Ground.textOnly Departure.lateStores }], guard := none }, { dst := some 3, op := Op.assign (Operand.tmp 16), type := 4, pos := "l20_draw.go:143", after := #[{ on := 9, ground := Ground.data }, { on := 10, ground := Ground.chain }, { on := 0, ground := Ground.phase }, { on := 1, ground := Ground.phase }, { on := 2, ground := Ground.phase }, { on := 3, ground := Ground.phase }, { on := 4, ground := Ground.phase }, { on := 5, ground := Ground.phase }, { on := 6, ground := Ground.phase }, { on := 7, ground := Ground.phase }, { on := 8, ground := Ground.phase }, { on := 9, ground := Ground.phase }, { on := 10, ground := Ground.phase }], guard := none }]

/-- What each leaves. -/
def VW (R B : Nat) : Nat → Value → World → Prop
  | 0, v, _ => v = .pointer (some ⟨R, 0, none⟩)
  | 1, v, _ => ∃ k : Int, v = .int .i64 k ∧ 0 ≤ k ∧ k < 9
  | 2, v, W => ∃ g, v = .slice (some ⟨g, 0, none⟩) 6 6 ∧ Lit B W g 6
  | 3, v, _ => v = .pointer (some ⟨R, 0, none⟩)
  | 4, v, _ => ∃ k : Int, v = .int .i64 k ∧ 0 ≤ k ∧ k < 6
  | 5, v, W => ∃ g k n, v = .pointer (some ⟨g, k, none⟩) ∧ k < n ∧ Lit B W g n
  | 6, v, _ => ∃ x : Int, v = .int .i64 x
  | 7, v, _ => v = .pointer (some ⟨R, 0, none⟩)
  | 8, v, _ => ∃ k : Int, v = .int .i64 k ∧ 0 ≤ k ∧ k < 2
  | 9, v, _ => ∃ x : Bool, v = .bool x
  | 10, v, _ => ∃ x : Int, v = .int .i64 x
  | 11, v, _ => ∃ x : Bool, v = .bool x
  | _, _, _ => True

theorem VW_keep {R B : Nat} (hR : R < B) : ∀ i v W W', VW R B i v W → KB R W W' → VW R B i v W' := by
  intro i v W W' h t
  unfold VW at h ⊢
  split at h <;> first
    | exact h
    | exact (let ⟨g, e, l⟩ := h; ⟨g, e, l.kb hR t⟩)
    | exact (let ⟨g, k, n, e, hk, l⟩ := h; ⟨g, k, n, e, hk, l.kb hR t⟩)

theorem ltW {i : Nat} (h : i < 12) : i = 0 ∨ i = 1 ∨ i = 2 ∨ i = 3 ∨ i = 4 ∨ i = 5 ∨ i = 6 ∨ i = 7 ∨ i = 8 ∨ i = 9 ∨ i = 10 ∨ i = 11 := by omega

set_option maxRecDepth 20000 in
set_option maxHeartbeats 20000000 in
theorem hopW {R q : Nat} {wr : World} {a0 : Act} {Q : Exit → Act → World → Prop} (hRw : R < wr.heap.size) (hqb : q ≤ 990000) (e0 : a0.eval (.tmp 4) = .pointer (some ⟨R, 0, none⟩)) :
    ∀ (i : Nat) (o : Oper) (f : Nat) (W1 : Act) (W : World), i < 12 → opsW[i]? = some o → (∃ q', Rd W R q' ∧ q' + (f + 1) ≤ q + 12 ∧ KB R wr W) →
      (∀ e ∈ o.after, Region.binds .any e = true → ∀ oj, opsW[e.on]? = some oj → ∃ v, VW R wr.heap.size e.on v W ∧ ∀ d, oj.dst = some d → W1.eval (.tmp d) = v) →
      (∀ d, (∀ oj ∈ opsW.toList, oj.dst ≠ some d) → W1.eval (.tmp d) = a0.eval (.tmp d)) → Oper.wp Try.prog o W1 W (fun a' w' => ∃ v, a' = W1.put o.dst v ∧ VW R wr.heap.size i v w' ∧ (∃ q', Rd w' R q' ∧ q' + f ≤ q + 12 ∧ KB R wr w') ∧ KB R W w') Q := by
  intro i o f W1 W hi ho hI hdep hfix
  obtain ⟨q', hr, hq', hkb⟩ := hI
  have h0 := eval_tmp ((hfix 4 (dst_none (by kernel_rfl))).trans e0)
  clear hfix e0
  generalize hKK : (fun (a' : Act) (w' : World) => ∃ v, a' = W1.put o.dst v ∧ VW R wr.heap.size i v w' ∧ (∃ q', Rd w' R q' ∧ q' + f ≤ q + 12 ∧ KB R wr w') ∧ KB R W w') = KK
  have HK : Hid (∀ v w', VW R wr.heap.size i v w' → (∃ q', Rd w' R q' ∧ q' + f ≤ q + 12 ∧ KB R wr w') → KB R W w' → KK (W1.put o.dst v) w') := by
    subst hKK
    exact fun v w' h1 h2 h3 => ⟨v, rfl, h1, h2, h3⟩
  clear hKK
  rcases ltW hi with rfl | rfl | rfl | rfl | rfl | rfl | rfl | rfl | rfl | rfl | rfl | rfl
  · obtain rfl : ({ dst := some 7, op := Op.move (Operand.tmp 4), type := 48, pos := "l20_draw.go:143", after := #[], guard := none } : Oper) = o := Option.some.inj ho
    clear ho hi
    clear hdep
    go_simp
    exact HK.out _ _ rfl ⟨q', hr, by omega, hkb⟩ (KB.refl R W)
  · obtain rfl : ({ dst := some 8, op := Op.call { callee := Callee.value (Operand.func 28), args := #[Operand.tmp 7, Operand.const (Value.int IntKind.i64 9)], argTypes := #[48, 3] }, type := 3, pos := "l20_draw.go:143", after := #[{ on := 0, ground := Ground.data }], guard := none } : Oper) = o := Option.some.inj ho
    clear ho hi
    obtain ⟨v0, hv0, he0'⟩ := hdep { on := 0, ground := .data } (by simp) rfl _ rfl
    have he0 := eval_tmp (he0' 7 rfl)
    clear he0'
    clear hdep
    obtain rfl : v0 = .pointer (some ⟨R, 0, none⟩) := hv0
    go_simp
    refine (pick_any R q' 9 W hr (by omega) (by omega) (by omega)).mono ?_
    rintro e W2 ⟨k, hk, rfl, hpk⟩
    exact HK.out _ _ ⟨k, rfl, hk.1, hk.2⟩ ⟨q' + 1, rd_picked hr hpk, by omega, hkb.trans (KB.of_picked hpk)⟩ (KB.of_picked hpk)
  · obtain rfl : ({ dst := some 9, op := Op.buildSlice 35 6 #[(0, Operand.const (Value.int IntKind.i64 0)), (1, Operand.const (Value.int IntKind.i64 1)), (2, Operand.const (Value.int IntKind.i64 9)), (3, Operand.const (Value.int IntKind.i64 10)), (4, Operand.const (Value.int IntKind.i64 (-1))), (5, Operand.tmp 8)], type := 35, pos := "l20_draw.go:143", after := #[{ on := 1, ground := Ground.data }], guard := none } : Oper) = o := Option.some.inj ho
    clear ho hi
    obtain ⟨v1, hv1, he1'⟩ := hdep { on := 1, ground := .data } (by simp) rfl _ rfl
    have he1 := eval_tmp (he1' 8 rfl)
    clear he1'
    clear hdep
    obtain ⟨k1, rfl, _, _⟩ := hv1
    go_simp
    exact HK.out _ _ ⟨W.heap.size, rfl, by have := hkb.size; omega, [0, 1, 9, 10, -1, k1], rfl, new_block W _⟩ ⟨q', rd_below hr (al1 _ _), by omega, hkb.trans (KB.of_below (al1 _ _) (by have := hkb.size; omega))⟩ (KB.of_below (al1 _ _) (by have := hkb.size; omega))
  · obtain rfl : ({ dst := some 10, op := Op.move (Operand.tmp 4), type := 48, pos := "l20_draw.go:143", after := #[], guard := none } : Oper) = o := Option.some.inj ho
    clear ho hi
    clear hdep
    go_simp
    exact HK.out _ _ rfl ⟨q', hr, by omega, hkb⟩ (KB.refl R W)
  · obtain rfl : ({ dst := some 11, op := Op.call { callee := Callee.value (Operand.func 28), args := #[Operand.tmp 10, Operand.const (Value.int IntKind.i64 6)], argTypes := #[48, 3] }, type := 3, pos := "l20_draw.go:143", after := #[{ on := 3, ground := Ground.data }, { on := 1, ground := Ground.chain }], guard := none } : Oper) = o := Option.some.inj ho
    clear ho hi
    obtain ⟨v3, hv3, he3'⟩ := hdep { on := 3, ground := .data } (by simp) rfl _ rfl
    have he3 := eval_tmp (he3' 10 rfl)
    clear he3'
    clear hdep
    obtain rfl : v3 = .pointer (some ⟨R, 0, none⟩) := hv3
    go_simp
    refine (pick_any R q' 6 W hr (by omega) (by omega) (by omega)).mono ?_
    rintro e W2 ⟨k, hk, rfl, hpk⟩
    exact HK.out _ _ ⟨k, rfl, hk.1, hk.2⟩ ⟨q' + 1, rd_picked hr hpk, by omega, hkb.trans (KB.of_picked hpk)⟩ (KB.of_picked hpk)
  · obtain rfl : ({ dst := some 12, op := Op.indexAddr 35 (Operand.tmp 9) (Operand.tmp 11), type := 0, pos := "l20_draw.go:143", after := #[{ on := 2, ground := Ground.data }, { on := 4, ground := Ground.data }], guard := none } : Oper) = o := Option.some.inj ho
    clear ho hi
    obtain ⟨v2, hv2, he2'⟩ := hdep { on := 2, ground := .data } (by simp) rfl _ rfl
    have he2 := eval_tmp (he2' 9 rfl)
    clear he2'
    obtain ⟨v4, hv4, he4'⟩ := hdep { on := 4, ground := .data } (by simp) rfl _ rfl
    have he4 := eval_tmp (he4' 11 rfl)
    clear he4'
    clear hdep
    obtain ⟨g, rfl, hl⟩ := hv2
    obtain ⟨k, rfl, hk0, hk1⟩ := hv4
    obtain ⟨k, rfl⟩ := Int.eq_ofNat_of_zero_le hk0
    have hk : k < 6 := by omega
    go_simp
    exact HK.out _ _ ⟨g, k, 6, rfl, hk, hl⟩ ⟨q', hr, by omega, hkb⟩ (KB.refl R W)
  · obtain rfl : ({ dst := some 13, op := Op.load 3 (Operand.tmp 12), type := 3, pos := "l20_draw.go:143", after := #[{ on := 5, ground := Ground.data }], guard := none } : Oper) = o := Option.some.inj ho
    clear ho hi
    obtain ⟨v5, hv5, he5'⟩ := hdep { on := 5, ground := .data } (by simp) rfl _ rfl
    have he5 := eval_tmp (he5' 12 rfl)
    clear he5'
    clear hdep
    obtain ⟨g, k, n', rfl, hk, hl⟩ := hv5
    obtain ⟨x, hx⟩ := hl.cell hk
    go_simp
    exact HK.out _ _ ⟨x, rfl⟩ ⟨q', hr, by omega, hkb⟩ (KB.refl R W)
  · obtain rfl : ({ dst := some 14, op := Op.move (Operand.tmp 4), type := 48, pos := "l20_draw.go:143", after := #[], guard := none } : Oper) = o := Option.some.inj ho
    clear ho hi
    clear hdep
    go_simp
    exact HK.out _ _ rfl ⟨q', hr, by omega, hkb⟩ (KB.refl R W)
  · obtain rfl : ({ dst := some 15, op := Op.call { callee := Callee.value (Operand.func 28), args := #[Operand.tmp 14, Operand.const (Value.int IntKind.i64 2)], argTypes := #[48, 3] }, type := 3, pos := "l20_draw.go:143", after := #[{ on := 7, ground := Ground.data }, { on := 4, ground := Ground.chain }], guard := none } : Oper) = o := Option.some.inj ho
    clear ho hi
    obtain ⟨v7, hv7, he7'⟩ := hdep { on := 7, ground := .data } (by simp) rfl _ rfl
    have he7 := eval_tmp (he7' 14 rfl)
    clear he7'
    clear hdep
    obtain rfl : v7 = .pointer (some ⟨R, 0, none⟩) := hv7
    go_simp
    refine (pick_any R q' 2 W hr (by omega) (by omega) (by omega)).mono ?_
    rintro e W2 ⟨k, hk, rfl, hpk⟩
    exact HK.out _ _ ⟨k, rfl, hk.1, hk.2⟩ ⟨q' + 1, rd_picked hr hpk, by omega, hkb.trans (KB.of_picked hpk)⟩ (KB.of_picked hpk)
  · obtain rfl : ({ dst := some 16, op := Op.binOp BinOp.eql 3 (Operand.tmp 15) (Operand.const (Value.int IntKind.i64 0)) 3, type := 4, pos := "l20_draw.go:143", after := #[{ on := 8, ground := Ground.data }, { on := 10, ground := Ground.gcOnly Departure.lateStores }], guard := none } : Oper) = o := Option.some.inj ho
    clear ho hi
    obtain ⟨v8, hv8, he8'⟩ := hdep { on := 8, ground := .data } (by simp) rfl _ rfl
    have he8 := eval_tmp (he8' 15 rfl)
    clear he8'
    clear hdep
    obtain ⟨k, rfl, _, _⟩ := hv8
    go_simp
    exact HK.out _ _ ⟨_, rfl⟩ ⟨q', hr, by omega, hkb⟩ (KB.refl R W)
  · obtain rfl : ({ dst := some 2, op := Op.assign (Operand.tmp 13), type := 3, pos := "l20_draw.go:143", after := #[{ on := 6, ground := Ground.data }, { on := 8, ground := Ground.chain }, { on := 0, ground := Ground.phase }, { on := 1, ground := Ground.phase }, { on := 2, ground := Ground.phase }, { on := 3, ground := Ground.phase }, { on := 4, ground := Ground.phase }, { on := 5, ground := Ground.phase }, { on := 6, ground := Ground.phase }, { on := 7, ground := Ground.textOnly Departure.lateStores }, { on := 8, ground := Ground.textOnly Departure.lateStoresUnsure }, { on := 9, ground := Ground.textOnly Departure.lateStores }], guard := none } : Oper) = o := Option.some.inj ho
    clear ho hi
    obtain ⟨v6, hv6, he6'⟩ := hdep { on := 6, ground := .data } (by simp) rfl _ rfl
    have he6 := eval_tmp (he6' 13 rfl)
    clear he6'
    clear hdep
    obtain ⟨x, rfl⟩ := hv6
    go_simp
    exact HK.out _ _ ⟨x, rfl⟩ ⟨q', hr, by omega, hkb⟩ (KB.refl R W)
  · obtain rfl : ({ dst := some 3, op := Op.assign (Operand.tmp 16), type := 4, pos := "l20_draw.go:143", after := #[{ on := 9, ground := Ground.data }, { on := 10, ground := Ground.chain }, { on := 0, ground := Ground.phase }, { on := 1, ground := Ground.phase }, { on := 2, ground := Ground.phase }, { on := 3, ground := Ground.phase }, { on := 4, ground := Ground.phase }, { on := 5, ground := Ground.phase }, { on := 6, ground := Ground.phase }, { on := 7, ground := Ground.phase }, { on := 8, ground := Ground.phase }, { on := 9, ground := Ground.phase }, { on := 10, ground := Ground.phase }], guard := none } : Oper) = o := Option.some.inj ho
    clear ho hi
    obtain ⟨v9, hv9, he9'⟩ := hdep { on := 9, ground := .data } (by simp) rfl _ rfl
    have he9 := eval_tmp (he9' 16 rfl)
    clear he9'
    clear hdep
    obtain ⟨x, rfl⟩ := hv9
    go_simp
    exact HK.out _ _ ⟨x, rfl⟩ ⟨q', hr, by omega, hkb⟩ (KB.refl R W)

set_option maxRecDepth 20000 in
set_option maxHeartbeats 1000000 in
theorem drawWrdMake_any (a : Option Addr) (n cap : Nat) (w : World) (hs : SBytes w a n) (hc : n ≤ cap) (hn : n ≤ 1048576) :
    Calls Try.prog 5 #[.slice a n cap] w fun e w' => ∃ (x : Int) (m : Bool), e = .returned (.tuple #[.int .i64 x, .bool m]) ∧ Below w.heap.size w w' := by
  go_enter Try.func5, Try.ntmps5
  go_wp2_with fail
  refine (open_any a n cap w hc hn).mono ?_
  rintro e w1 ⟨m, c, ⟨hm, h3⟩, rfl, hw1⟩
  have hrd : Rd w1 w.heap.size 0 := by rw [hw1]; exact rd_open w a n m c hs hm h3
  have hsz : w.heap.size < w1.heap.size := by rw [hw1]; simp
  have HB : Hid (Below w.heap.size w w1) := by rw [hw1]; exact al1 _ _
  clear hw1 hs
  go_wp2
  refine region_inv (ops := opsW) (m := 12) (I := fun f W => ∃ q', Rd W w.heap.size q' ∧ q' + f ≤ 0 + 12 ∧ KB w.heap.size w1 W) (V := VW w.heap.size w1.heap.size) (T := KB w.heap.size) (by kernel_rfl) (by decide) (by kernel_rfl) (by kernel_rfl) (VW_keep (by omega)) ⟨0, rd_below hrd (Below.refl _ _).drew, by omega, (KB.refl _ w1).drew⟩ (hopW hsz (by omega) rfl) ?hend
  case hend =>
    intro vs W hv _ hI
    obtain ⟨q', hr, hq', hkb⟩ := hI
    obtain ⟨v0, e0, h0⟩ := hv 0 (by omega)
    obtain ⟨v1, e1, h1⟩ := hv 1 (by omega)
    obtain ⟨v2, e2, h2⟩ := hv 2 (by omega)
    obtain ⟨v3, e3, h3⟩ := hv 3 (by omega)
    obtain ⟨v4, e4, h4⟩ := hv 4 (by omega)
    obtain ⟨v5, e5, h5⟩ := hv 5 (by omega)
    obtain ⟨v6, e6, h6⟩ := hv 6 (by omega)
    obtain ⟨v7, e7, h7⟩ := hv 7 (by omega)
    obtain ⟨v8, e8, h8⟩ := hv 8 (by omega)
    obtain ⟨v9, e9, h9⟩ := hv 9 (by omega)
    obtain ⟨v10, e10, h10⟩ := hv 10 (by omega)
    obtain ⟨v11, e11, h11⟩ := hv 11 (by omega)
    clear hv
    refine ⟨by kernel_rfl, ?_⟩
    unfold opsW
    simp only [putsF, e0, e1, e2, e3, e4, e5, e6, e7, e8, e9, e10, e11, Nat.zero_add, Nat.reduceAdd, Act.put, List.setIfInBounds_toArray, List.set_cons_zero, List.set_cons_succ]
    obtain ⟨x, rfl⟩ := h10
    obtain ⟨y, rfl⟩ := h11
    have hB : Below w.heap.size w W := HB.out.trans hkb.bel
    clear h0 e0 h1 e1 h2 e2 h3 e3 h4 e4 h5 e5 h6 e6 h7 e7 h8 e8 h9 e9 e10 e11 hkb hr
    go_wp2
    exact bodyPost_ret (v := .tuple #[.int .i64 x, .bool y]) (by simp [results, Try.results5, go_sem]) rfl ⟨x, y, rfl, hB⟩

set_option maxHeartbeats 1000000 in
theorem drawWrdTo_any (a : Option Addr) (n cap : Nat) (w : World) (hs : SBytes w a n) (hc : n ≤ cap) (hn : n ≤ 1048576) :
    Calls Try.prog 6 #[.slice a n cap] w fun e w' => ∃ x : Int, e = .returned (.int .i64 x) ∧ Below w.heap.size w w' := by
  go_enter Try.func6, Try.ntmps6
  go_wp2_with fail
  refine (open_any a n cap w hc hn).mono ?_
  rintro e w1 ⟨m, c, ⟨hm, h3⟩, rfl, hw1⟩
  have hrd : Rd w1 w.heap.size 0 := by rw [hw1]; exact rd_open w a n m c hs hm h3
  have HB : Hid (Below w.heap.size w w1 ∧ w.heap.size < w1.heap.size) := by rw [hw1]; exact ⟨al1 _ _, by simp⟩
  clear hw1 hs
  go_wp2_with fail
  refine (pick_any w.heap.size 0 22 _ hrd (by omega) (by omega) (by omega)).mono ?_
  rintro e w2 ⟨k1, hk1, rfl, hpk⟩
  have HR2 : Hid (Rd w2 w.heap.size 1 ∧ KB w.heap.size w1 w2) := ⟨rd_picked hrd hpk, KB.of_picked hpk⟩
  clear hrd hpk hk1
  go_wp2_with fail
  refine (pick_any w.heap.size 1 22 _ HR2.out.1 (by omega) (by omega) (by omega)).mono ?_
  rintro e w3 ⟨k2, hk2, rfl, hpk⟩
  have HR3 : Hid (Rd (w3.alloc (.cells #[.int .i64 k1, .int .i64 k2, .int .i64 (-1), .int .i64 19, .int .i64 20, .int .i64 9223372036854775807] 3)) w.heap.size 2 ∧ KB w.heap.size w1 (w3.alloc (.cells #[.int .i64 k1, .int .i64 k2, .int .i64 (-1), .int .i64 19, .int .i64 20, .int .i64 9223372036854775807] 3)) ∧ w1.heap.size ≤ w3.heap.size) := by
    have r := rd_picked HR2.out.1 hpk
    have k := HR2.out.2.trans (KB.of_picked hpk)
    exact ⟨rd_below r (al1 _ _), k.trans (KB.of_below (al1 _ _) (by have := k.size; have := HB.out.2; omega)), k.size⟩
  clear HR2 hpk hk2
  go_wp2_with fail
  refine (pick_any w.heap.size 2 6 _ HR3.out.1 (by omega) (by omega) (by omega)).mono ?_
  rintro e w5 ⟨k, ⟨hk0, hk1⟩, rfl, hpk⟩
  obtain ⟨k, rfl⟩ := Int.eq_ofNat_of_zero_le hk0
  have hk : k < 6 := by omega
  obtain ⟨x, hx⟩ := lit_new w3 [k1, k2, -1, 19, 20, 9223372036854775807] (k := k) (by simp; omega)
  have hx5 : w5.cell? ⟨w3.heap.size, k, none⟩ = some (.int .i64 x) := (KB.of_picked hpk).cell hx (by have := HR3.out.2.2; have := HB.out.2; omega)
  have HB5 : Hid (Below w.heap.size w w5) := HB.out.1.trans (HR3.out.2.1.trans (KB.of_picked hpk)).bel
  clear HR3 hpk hx
  go_wp2
  go_ret
  exact ⟨x, rfl, HB5.out⟩

end Go.Proofs.Ytcffoehldohooaa
