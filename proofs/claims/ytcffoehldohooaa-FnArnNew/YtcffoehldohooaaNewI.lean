/- The program's PolNew. -/
import Derived.Test.YtcffoehldohooaaNewS
import Derived.Deep.OwnRows
namespace Go.Proofs.Ytcffoehldohooaa
open Go.RowKit
set_option linter.unusedVariables false

theorem wp_make_row {P : Program} (w : World) {o : Oper} {a : Act} {K : Act → World → Prop} {Q : Exit → Act → World → Prop} (l c : Operand) (t : TypeId) (hop : o.op = Op.makeSlice t l c)
    (e : TypeId) (i : TypeInfo) (z : Value) (ht : P.underlying t = some (.slice e)) (hi : P.info? e = some i) (hz : i.zero = some z) (hsize : i.size = 1) (hz1 : z.cells = #[z])
    (kl kc : IntKind) (n : Nat) (hl : a.eval l = .int kl (n : Int)) (hc : a.eval c = .int kc (n : Int)) (hbytes : i.bytes * n ≤ 281474976710656) (h63 : n ≤ 9223372036854775807)
    (hK : K (a.put o.dst (.slice (some ⟨w.heap.size, 0, none⟩) n n)) (w.alloc (.cells (madeCells #[z] n) e))) : Oper.wp P o a w K Q := by
  have hrun := run_make_row (P := P) t e i z ht hi hz hsize hz1 kl kc n hbytes h63 w
  unfold Oper.wp
  simp [execOp, hop, hl, hc, hrun, Result.andThen]
  exact hK

/-- A pool in memory of its own: pins, and three lists that are none. -/
structure New3 (lo gp gl : Nat) (ps : List Int) (W : World) : Prop where
  op : W.ownsRow lo 3 1 (.slice (some ⟨gp, 0, none⟩) 3 3) 3 (ps.map (Value.int .i64))
  ol : ∀ i, i < 3 → W.cell? ⟨gl, i, none⟩ = some (.slice none 0 0)
  ne : gp ≠ gl
  le : lo ≤ gl

theorem mk0 : madeCells #[Value.int .i64 0] 3 = #[.int .i64 0, .int .i64 0, .int .i64 0] := by kernel_rfl
theorem mk1 : madeCells #[Value.slice none 0 0] 3 = #[.slice none 0 0, .slice none 0 0, .slice none 0 0] := by kernel_rfl

set_option maxRecDepth 20000 in
set_option maxHeartbeats 2000000 in
theorem implPolNew_any (w : World) :
    Calls Try.prog 15 #[] w fun e w' => ∃ gp gl, e = .returned (.agg #[.int .i64 0, .slice (some ⟨gp, 0, none⟩) 3 3, .slice (some ⟨gl, 0, none⟩) 3 3]) ∧ New3 w.heap.size gp gl [0, 0, 0] w' ∧ Below w.heap.size w w' := by
  obtain ⟨i0, hi, hz0, hz1, hz2⟩ := info_parts Try.info3
  obtain ⟨j0, hj, jz0, jz1, jz2⟩ := info_parts Try.info61
  have RR0 : Hid ((((w.alloc (.cells #[.int .i64 0, .slice none 0 0, .slice none 0 0] 38)).drew.alloc (.cells #[.int .i64 0, .int .i64 0, .int .i64 0] 3)).alloc (.cells #[.slice none 0 0, .slice none 0 0, .slice none 0 0] 61)).cell? ⟨w.heap.size, 0, none⟩ = some (.int .i64 0) ∧ (((w.alloc (.cells #[.int .i64 0, .slice none 0 0, .slice none 0 0] 38)).drew.alloc (.cells #[.int .i64 0, .int .i64 0, .int .i64 0] 3)).alloc (.cells #[.slice none 0 0, .slice none 0 0, .slice none 0 0] 61)).cell? ⟨w.heap.size, 1, none⟩ = some (.slice none 0 0) ∧ (((w.alloc (.cells #[.int .i64 0, .slice none 0 0, .slice none 0 0] 38)).drew.alloc (.cells #[.int .i64 0, .int .i64 0, .int .i64 0] 3)).alloc (.cells #[.slice none 0 0, .slice none 0 0, .slice none 0 0] 61)).cell? ⟨w.heap.size, 2, none⟩ = some (.slice none 0 0) ∧ (((w.alloc (.cells #[.int .i64 0, .slice none 0 0, .slice none 0 0] 38)).drew.alloc (.cells #[.int .i64 0, .int .i64 0, .int .i64 0] 3)).alloc (.cells #[.slice none 0 0, .slice none 0 0, .slice none 0 0] 61)).frozen? ⟨w.heap.size, 0, none⟩ = false ∧ (((w.alloc (.cells #[.int .i64 0, .slice none 0 0, .slice none 0 0] 38)).drew.alloc (.cells #[.int .i64 0, .int .i64 0, .int .i64 0] 3)).alloc (.cells #[.slice none 0 0, .slice none 0 0, .slice none 0 0] 61)).frozen? ⟨w.heap.size, 1, none⟩ = false ∧ (((w.alloc (.cells #[.int .i64 0, .slice none 0 0, .slice none 0 0] 38)).drew.alloc (.cells #[.int .i64 0, .int .i64 0, .int .i64 0] 3)).alloc (.cells #[.slice none 0 0, .slice none 0 0, .slice none 0 0] 61)).frozen? ⟨w.heap.size, 2, none⟩ = false ∧ New3 w.heap.size (w.heap.size + 1) (w.heap.size + 1 + 1) [0, 0, 0] (putP (((w.alloc (.cells #[.int .i64 0, .slice none 0 0, .slice none 0 0] 38)).drew.alloc (.cells #[.int .i64 0, .int .i64 0, .int .i64 0] 3)).alloc (.cells #[.slice none 0 0, .slice none 0 0, .slice none 0 0] 61)) w.heap.size 0 (some ⟨w.heap.size + 1, 0, none⟩) 3 3 (some ⟨w.heap.size + 1 + 1, 0, none⟩) 3 3) ∧ Below w.heap.size w (putP (((w.alloc (.cells #[.int .i64 0, .slice none 0 0, .slice none 0 0] 38)).drew.alloc (.cells #[.int .i64 0, .int .i64 0, .int .i64 0] 3)).alloc (.cells #[.slice none 0 0, .slice none 0 0, .slice none 0 0] 61)) w.heap.size 0 (some ⟨w.heap.size + 1, 0, none⟩) 3 3 (some ⟨w.heap.size + 1 + 1, 0, none⟩) 3 3)) := by
    have a0 := al1 w (.cells #[.int .i64 0, .slice none 0 0, .slice none 0 0] 38)
    have a1 := al1 (w.alloc (.cells #[.int .i64 0, .slice none 0 0, .slice none 0 0] 38)).drew (.cells #[.int .i64 0, .int .i64 0, .int .i64 0] 3)
    have a2 := al1 ((w.alloc (.cells #[.int .i64 0, .slice none 0 0, .slice none 0 0] 38)).drew.alloc (.cells #[.int .i64 0, .int .i64 0, .int .i64 0] 3)) (.cells #[.slice none 0 0, .slice none 0 0, .slice none 0 0] 61)
    have bx : BoxP (w.alloc (.cells #[.int .i64 0, .slice none 0 0, .slice none 0 0] 38)).drew w.heap.size 0 none 0 0 none 0 0 := by
      have b := boxP_new w 0 none 0 0 none 0 0 38 rfl
      exact ⟨b.c0, b.c1, b.c2⟩
    have b2 := (bx.below a1).below a2
    have fz : ∀ j, (((w.alloc (.cells #[.int .i64 0, .slice none 0 0, .slice none 0 0] 38)).drew.alloc (.cells #[.int .i64 0, .int .i64 0, .int .i64 0] 3)).alloc (.cells #[.slice none 0 0, .slice none 0 0, .slice none 0 0] 61)).frozen? ⟨w.heap.size, j, none⟩ = false := fun j => (a2.frozen (p := ⟨w.heap.size, j, none⟩) (by simp; omega)).trans ((a1.frozen (p := ⟨w.heap.size, j, none⟩) (by simp)).trans (frozen_at' w _ _ j rfl))
    have q : ∀ (U : World) (v : Value) (xs : List Value) (j : Nat) (u : Value), U.ownsRow (w.heap.size + 1) 3 1 v 3 xs → (U.setCell ⟨w.heap.size, j, none⟩ u).ownsRow (w.heap.size + 1) 3 1 v 3 xs := fun U v xs j u h => ownsRow_setCell_other h (fun e => own_not h (x := w.heap.size) (by omega) e.symm) _
    have k : ∀ (U : World) (p : Addr) (x : Value) (j : Nat) (u : Value), w.heap.size < p.block → U.cell? p = some x → (U.setCell ⟨w.heap.size, j, none⟩ u).cell? p = some x := fun U p x j u hp h => (World.cell?_setCell_other _ _ _ _ (fun e => by rw [← e] at hp; exact absurd hp (Nat.lt_irrefl _))).trans h
    have o := World.ownsRow_lit (base := w.heap.size + 1) (e := 3) (size := 1) (w.alloc (.cells #[.int .i64 0, .slice none 0 0, .slice none 0 0] 38)).drew #[.int .i64 0, .int .i64 0, .int .i64 0] 3 (by simp) (by decide) rfl
    have o2 := ownsRow_below o a2
    have sz : (w.alloc (.cells #[.int .i64 0, .slice none 0 0, .slice none 0 0] 38)).drew.heap.size = w.heap.size + 1 := by simp
    rw [sz] at o2
    have cl : ∀ i, i < 3 → (((w.alloc (.cells #[.int .i64 0, .slice none 0 0, .slice none 0 0] 38)).drew.alloc (.cells #[.int .i64 0, .int .i64 0, .int .i64 0] 3)).alloc (.cells #[.slice none 0 0, .slice none 0 0, .slice none 0 0] 61)).cell? ⟨w.heap.size + 1 + 1, i, none⟩ = some (.slice none 0 0) := fun i hi => by
      match i, hi with
      | 0, _ => exact cell_at _ _ _ 0 (by simp) rfl
      | 1, _ => exact cell_at _ _ _ 1 (by simp) rfl
      | 2, _ => exact cell_at _ _ _ 2 (by simp) rfl
    refine ⟨b2.c0, b2.c1, b2.c2, fz 0, fz 1, fz 2, ⟨own_mono (q _ _ _ 2 _ (q _ _ _ 1 _ (q _ _ _ 0 _ o2))) (by omega), fun i hi => k _ _ _ 2 _ (by dsimp only; omega) (k _ _ _ 1 _ (by dsimp only; omega) (k _ _ _ 0 _ (by dsimp only; omega) (cl i hi))), by omega, by omega⟩, below_putP (below_trans' (below_trans' a0.drew a1) a2) (Nat.le_refl _) _ _ _ _ _ _ _⟩
  have RR1 : Hid ((((w.alloc (.cells #[.int .i64 0, .slice none 0 0, .slice none 0 0] 38)).drew.alloc (.cells #[.slice none 0 0, .slice none 0 0, .slice none 0 0] 61)).alloc (.cells #[.int .i64 0, .int .i64 0, .int .i64 0] 3)).cell? ⟨w.heap.size, 0, none⟩ = some (.int .i64 0) ∧ (((w.alloc (.cells #[.int .i64 0, .slice none 0 0, .slice none 0 0] 38)).drew.alloc (.cells #[.slice none 0 0, .slice none 0 0, .slice none 0 0] 61)).alloc (.cells #[.int .i64 0, .int .i64 0, .int .i64 0] 3)).cell? ⟨w.heap.size, 1, none⟩ = some (.slice none 0 0) ∧ (((w.alloc (.cells #[.int .i64 0, .slice none 0 0, .slice none 0 0] 38)).drew.alloc (.cells #[.slice none 0 0, .slice none 0 0, .slice none 0 0] 61)).alloc (.cells #[.int .i64 0, .int .i64 0, .int .i64 0] 3)).cell? ⟨w.heap.size, 2, none⟩ = some (.slice none 0 0) ∧ (((w.alloc (.cells #[.int .i64 0, .slice none 0 0, .slice none 0 0] 38)).drew.alloc (.cells #[.slice none 0 0, .slice none 0 0, .slice none 0 0] 61)).alloc (.cells #[.int .i64 0, .int .i64 0, .int .i64 0] 3)).frozen? ⟨w.heap.size, 0, none⟩ = false ∧ (((w.alloc (.cells #[.int .i64 0, .slice none 0 0, .slice none 0 0] 38)).drew.alloc (.cells #[.slice none 0 0, .slice none 0 0, .slice none 0 0] 61)).alloc (.cells #[.int .i64 0, .int .i64 0, .int .i64 0] 3)).frozen? ⟨w.heap.size, 1, none⟩ = false ∧ (((w.alloc (.cells #[.int .i64 0, .slice none 0 0, .slice none 0 0] 38)).drew.alloc (.cells #[.slice none 0 0, .slice none 0 0, .slice none 0 0] 61)).alloc (.cells #[.int .i64 0, .int .i64 0, .int .i64 0] 3)).frozen? ⟨w.heap.size, 2, none⟩ = false ∧ New3 w.heap.size (w.heap.size + 1 + 1) (w.heap.size + 1) [0, 0, 0] (putP (((w.alloc (.cells #[.int .i64 0, .slice none 0 0, .slice none 0 0] 38)).drew.alloc (.cells #[.slice none 0 0, .slice none 0 0, .slice none 0 0] 61)).alloc (.cells #[.int .i64 0, .int .i64 0, .int .i64 0] 3)) w.heap.size 0 (some ⟨w.heap.size + 1 + 1, 0, none⟩) 3 3 (some ⟨w.heap.size + 1, 0, none⟩) 3 3) ∧ Below w.heap.size w (putP (((w.alloc (.cells #[.int .i64 0, .slice none 0 0, .slice none 0 0] 38)).drew.alloc (.cells #[.slice none 0 0, .slice none 0 0, .slice none 0 0] 61)).alloc (.cells #[.int .i64 0, .int .i64 0, .int .i64 0] 3)) w.heap.size 0 (some ⟨w.heap.size + 1 + 1, 0, none⟩) 3 3 (some ⟨w.heap.size + 1, 0, none⟩) 3 3)) := by
    have a0 := al1 w (.cells #[.int .i64 0, .slice none 0 0, .slice none 0 0] 38)
    have a1 := al1 (w.alloc (.cells #[.int .i64 0, .slice none 0 0, .slice none 0 0] 38)).drew (.cells #[.slice none 0 0, .slice none 0 0, .slice none 0 0] 61)
    have a2 := al1 ((w.alloc (.cells #[.int .i64 0, .slice none 0 0, .slice none 0 0] 38)).drew.alloc (.cells #[.slice none 0 0, .slice none 0 0, .slice none 0 0] 61)) (.cells #[.int .i64 0, .int .i64 0, .int .i64 0] 3)
    have bx : BoxP (w.alloc (.cells #[.int .i64 0, .slice none 0 0, .slice none 0 0] 38)).drew w.heap.size 0 none 0 0 none 0 0 := by
      have b := boxP_new w 0 none 0 0 none 0 0 38 rfl
      exact ⟨b.c0, b.c1, b.c2⟩
    have b2 := (bx.below a1).below a2
    have fz : ∀ j, (((w.alloc (.cells #[.int .i64 0, .slice none 0 0, .slice none 0 0] 38)).drew.alloc (.cells #[.slice none 0 0, .slice none 0 0, .slice none 0 0] 61)).alloc (.cells #[.int .i64 0, .int .i64 0, .int .i64 0] 3)).frozen? ⟨w.heap.size, j, none⟩ = false := fun j => (a2.frozen (p := ⟨w.heap.size, j, none⟩) (by simp; omega)).trans ((a1.frozen (p := ⟨w.heap.size, j, none⟩) (by simp)).trans (frozen_at' w _ _ j rfl))
    have q : ∀ (U : World) (v : Value) (xs : List Value) (j : Nat) (u : Value), U.ownsRow (w.heap.size + 1) 3 1 v 3 xs → (U.setCell ⟨w.heap.size, j, none⟩ u).ownsRow (w.heap.size + 1) 3 1 v 3 xs := fun U v xs j u h => ownsRow_setCell_other h (fun e => own_not h (x := w.heap.size) (by omega) e.symm) _
    have k : ∀ (U : World) (p : Addr) (x : Value) (j : Nat) (u : Value), w.heap.size < p.block → U.cell? p = some x → (U.setCell ⟨w.heap.size, j, none⟩ u).cell? p = some x := fun U p x j u hp h => (World.cell?_setCell_other _ _ _ _ (fun e => by rw [← e] at hp; exact absurd hp (Nat.lt_irrefl _))).trans h
    have o2 := World.ownsRow_lit (base := w.heap.size + 1) (e := 3) (size := 1) ((w.alloc (.cells #[.int .i64 0, .slice none 0 0, .slice none 0 0] 38)).drew.alloc (.cells #[.slice none 0 0, .slice none 0 0, .slice none 0 0] 61)) #[.int .i64 0, .int .i64 0, .int .i64 0] 3 (by simp) (by decide) rfl
    have sz : ((w.alloc (.cells #[.int .i64 0, .slice none 0 0, .slice none 0 0] 38)).drew.alloc (.cells #[.slice none 0 0, .slice none 0 0, .slice none 0 0] 61)).heap.size = w.heap.size + 1 + 1 := by simp
    rw [sz] at o2
    have cl : ∀ i, i < 3 → (((w.alloc (.cells #[.int .i64 0, .slice none 0 0, .slice none 0 0] 38)).drew.alloc (.cells #[.slice none 0 0, .slice none 0 0, .slice none 0 0] 61)).alloc (.cells #[.int .i64 0, .int .i64 0, .int .i64 0] 3)).cell? ⟨w.heap.size + 1, i, none⟩ = some (.slice none 0 0) := fun i hi => by
      match i, hi with
      | 0, _ => exact cell_kept a2 (cell_at _ _ _ 0 (by simp) rfl)
      | 1, _ => exact cell_kept a2 (cell_at _ _ _ 1 (by simp) rfl)
      | 2, _ => exact cell_kept a2 (cell_at _ _ _ 2 (by simp) rfl)
    refine ⟨b2.c0, b2.c1, b2.c2, fz 0, fz 1, fz 2, ⟨own_mono (q _ _ _ 2 _ (q _ _ _ 1 _ (q _ _ _ 0 _ o2))) (by omega), fun i hi => k _ _ _ 2 _ (by dsimp only; omega) (k _ _ _ 1 _ (by dsimp only; omega) (k _ _ _ 0 _ (by dsimp only; omega) (cl i hi))), by omega, by omega⟩, below_putP (below_trans' (below_trans' a0.drew a1) a2) (Nat.le_refl _) _ _ _ _ _ _ _⟩
  go_enter Try.func15, Try.ntmps15
  go_wp2
  refine wp_region_held_drew (S := fun _ => True) (by kernel_rfl) trivial (fun hHeld => ?_)
  refine wpAnyH_ready (rs := [0, 1]) (by kernel_rfl) (by simp) ?_
  refine AllReadyH.cons (o := ({ dst := some 1, op := Op.makeSlice 35 (Operand.const (Value.int IntKind.i64 3)) (Operand.const (Value.int IntKind.i64 3)), type := 35, pos := "l3_pool.go:77", after := #[], guard := none } : Oper)) rfl (fun K hK => ?_) (AllReadyH.cons (o := ({ dst := some 2, op := Op.makeSlice 36 (Operand.const (Value.int IntKind.i64 3)) (Operand.const (Value.int IntKind.i64 3)), type := 36, pos := "l3_pool.go:77", after := #[], guard := none } : Oper)) rfl (fun K hK => ?_) AllReadyH.nil)
  · refine (if_pos (by rfl)).mpr ?_
    refine wp_make_row _ _ _ 35 rfl 3 i0 (.int .i64 0) Try.underlying35 hi hz0 hz1 rfl .i64 .i64 3 rfl rfl (by rw [hz2]; decide) (by decide) ?_
    rw [mk0]
    refine hK.out _ _ trivial (fun hHeld => ?_)
    clear hK K
    (try simp only [Act.put, List.setIfInBounds_toArray, List.set_cons_zero, List.set_cons_succ])
    refine wpAnyH_ready (rs := [1]) (by kernel_rfl) (by simp) ?_
    refine AllReadyH.cons (o := ({ dst := some 2, op := Op.makeSlice 36 (Operand.const (Value.int IntKind.i64 3)) (Operand.const (Value.int IntKind.i64 3)), type := 36, pos := "l3_pool.go:77", after := #[], guard := none } : Oper)) rfl (fun K hK => ?_) AllReadyH.nil
    refine (if_pos (by rfl)).mpr ?_
    refine wp_make_row _ _ _ 36 rfl 61 j0 (.slice none 0 0) Try.underlying36 hj jz0 jz1 rfl .i64 .i64 3 rfl rfl (by rw [jz2]; decide) (by decide) ?_
    rw [mk1]
    refine hK.out _ _ trivial (fun hHeld => ?_)
    clear hK K
    (try simp only [Act.put, List.setIfInBounds_toArray, List.set_cons_zero, List.set_cons_succ])
    refine wpAnyH_take (i := 2) (oi := ({ dst := some 3, op := Op.build 38 #[(1, Operand.tmp 1), (2, Operand.tmp 2)], type := 38, pos := "l3_pool.go:77", after := #[{ on := 0, ground := Ground.data }, { on := 1, ground := Ground.data }], guard := none } : Oper)) (v := ?_) rfl (by kernel_rfl) (by kernel_rfl) (by kernel_rfl) (fun _ _ _ h => h) (Or.inl ⟨by rfl, ?_⟩) (by assumption) ?_
    rotate_left
    · (intro wz hSw; (try dsimp only at hSw); go_simp; first | done | with_reducible rfl)
    (try simp only [Act.put, List.setIfInBounds_toArray, List.set_cons_zero, List.set_cons_succ])
    obtain ⟨q0, q1, q2, g0, g1, g2, RR⟩ := RR0.out
    have R : Hid (New3 w.heap.size (w.heap.size + 1) (w.heap.size + 1 + 1) [0, 0, 0] (putP (((w.alloc (.cells #[.int .i64 0, .slice none 0 0, .slice none 0 0] 38)).drew.alloc (.cells #[.int .i64 0, .int .i64 0, .int .i64 0] 3)).alloc (.cells #[.slice none 0 0, .slice none 0 0, .slice none 0 0] 61)) w.heap.size 0 (some ⟨w.heap.size + 1, 0, none⟩) 3 3 (some ⟨w.heap.size + 1 + 1, 0, none⟩) 3 3) ∧ Below w.heap.size w (putP (((w.alloc (.cells #[.int .i64 0, .slice none 0 0, .slice none 0 0] 38)).drew.alloc (.cells #[.int .i64 0, .int .i64 0, .int .i64 0] 3)).alloc (.cells #[.slice none 0 0, .slice none 0 0, .slice none 0 0] 61)) w.heap.size 0 (some ⟨w.heap.size + 1, 0, none⟩) 3 3 (some ⟨w.heap.size + 1 + 1, 0, none⟩) 3 3)) := RR
    generalize hV : (((w.alloc (.cells #[.int .i64 0, .slice none 0 0, .slice none 0 0] 38)).drew.alloc (.cells #[.int .i64 0, .int .i64 0, .int .i64 0] 3)).alloc (.cells #[.slice none 0 0, .slice none 0 0, .slice none 0 0] 61)) = V at *
    refine wpAnyH_ready (rs := [3]) (by kernel_rfl) (by simp) ?_
    refine AllReadyH.cons (o := ({ dst := none, op := Op.store 38 (Operand.tmp 0) (Operand.tmp 3), type := 0, pos := "l3_pool.go:77", after := #[{ on := 2, ground := Ground.data }, { on := 0, ground := Ground.phase }, { on := 1, ground := Ground.phase }, { on := 2, ground := Ground.phase }], guard := none } : Oper)) rfl (fun K hK => ?_) AllReadyH.nil
    clear hHeld RR0 RR1 RR hV
    go_simp
    refine hK.out _ _ trivial (fun hHeld => ?_)
    clear hK K hHeld
    (try simp only [Act.put, List.setIfInBounds_toArray, List.set_cons_zero, List.set_cons_succ])
    refine wpAnyH_done (by kernel_rfl) ?_ _
    go_wp2
    exact bodyPost_ret (v := .agg #[.int .i64 0, .slice (some ⟨w.heap.size + 1, 0, none⟩) 3 3, .slice (some ⟨w.heap.size + 1 + 1, 0, none⟩) 3 3]) (by simp [results, Try.results15, go_sem, q0, q1, q2]) rfl ⟨_, _, rfl, R.out.1, R.out.2⟩
  · refine (if_pos (by rfl)).mpr ?_
    refine wp_make_row _ _ _ 36 rfl 61 j0 (.slice none 0 0) Try.underlying36 hj jz0 jz1 rfl .i64 .i64 3 rfl rfl (by rw [jz2]; decide) (by decide) ?_
    rw [mk1]
    refine hK.out _ _ trivial (fun hHeld => ?_)
    clear hK K
    (try simp only [Act.put, List.setIfInBounds_toArray, List.set_cons_zero, List.set_cons_succ])
    refine wpAnyH_ready (rs := [0]) (by kernel_rfl) (by simp) ?_
    refine AllReadyH.cons (o := ({ dst := some 1, op := Op.makeSlice 35 (Operand.const (Value.int IntKind.i64 3)) (Operand.const (Value.int IntKind.i64 3)), type := 35, pos := "l3_pool.go:77", after := #[], guard := none } : Oper)) rfl (fun K hK => ?_) AllReadyH.nil
    refine (if_pos (by rfl)).mpr ?_
    refine wp_make_row _ _ _ 35 rfl 3 i0 (.int .i64 0) Try.underlying35 hi hz0 hz1 rfl .i64 .i64 3 rfl rfl (by rw [hz2]; decide) (by decide) ?_
    rw [mk0]
    refine hK.out _ _ trivial (fun hHeld => ?_)
    clear hK K
    (try simp only [Act.put, List.setIfInBounds_toArray, List.set_cons_zero, List.set_cons_succ])
    refine wpAnyH_take (i := 2) (oi := ({ dst := some 3, op := Op.build 38 #[(1, Operand.tmp 1), (2, Operand.tmp 2)], type := 38, pos := "l3_pool.go:77", after := #[{ on := 0, ground := Ground.data }, { on := 1, ground := Ground.data }], guard := none } : Oper)) (v := ?_) rfl (by kernel_rfl) (by kernel_rfl) (by kernel_rfl) (fun _ _ _ h => h) (Or.inl ⟨by rfl, ?_⟩) (by assumption) ?_
    rotate_left
    · (intro wz hSw; (try dsimp only at hSw); go_simp; first | done | with_reducible rfl)
    (try simp only [Act.put, List.setIfInBounds_toArray, List.set_cons_zero, List.set_cons_succ])
    obtain ⟨q0, q1, q2, g0, g1, g2, RR⟩ := RR1.out
    have R : Hid (New3 w.heap.size (w.heap.size + 1 + 1) (w.heap.size + 1) [0, 0, 0] (putP (((w.alloc (.cells #[.int .i64 0, .slice none 0 0, .slice none 0 0] 38)).drew.alloc (.cells #[.slice none 0 0, .slice none 0 0, .slice none 0 0] 61)).alloc (.cells #[.int .i64 0, .int .i64 0, .int .i64 0] 3)) w.heap.size 0 (some ⟨w.heap.size + 1 + 1, 0, none⟩) 3 3 (some ⟨w.heap.size + 1, 0, none⟩) 3 3) ∧ Below w.heap.size w (putP (((w.alloc (.cells #[.int .i64 0, .slice none 0 0, .slice none 0 0] 38)).drew.alloc (.cells #[.slice none 0 0, .slice none 0 0, .slice none 0 0] 61)).alloc (.cells #[.int .i64 0, .int .i64 0, .int .i64 0] 3)) w.heap.size 0 (some ⟨w.heap.size + 1 + 1, 0, none⟩) 3 3 (some ⟨w.heap.size + 1, 0, none⟩) 3 3)) := RR
    generalize hV : (((w.alloc (.cells #[.int .i64 0, .slice none 0 0, .slice none 0 0] 38)).drew.alloc (.cells #[.slice none 0 0, .slice none 0 0, .slice none 0 0] 61)).alloc (.cells #[.int .i64 0, .int .i64 0, .int .i64 0] 3)) = V at *
    refine wpAnyH_ready (rs := [3]) (by kernel_rfl) (by simp) ?_
    refine AllReadyH.cons (o := ({ dst := none, op := Op.store 38 (Operand.tmp 0) (Operand.tmp 3), type := 0, pos := "l3_pool.go:77", after := #[{ on := 2, ground := Ground.data }, { on := 0, ground := Ground.phase }, { on := 1, ground := Ground.phase }, { on := 2, ground := Ground.phase }], guard := none } : Oper)) rfl (fun K hK => ?_) AllReadyH.nil
    clear hHeld RR0 RR1 RR hV
    go_simp
    refine hK.out _ _ trivial (fun hHeld => ?_)
    clear hK K hHeld
    (try simp only [Act.put, List.setIfInBounds_toArray, List.set_cons_zero, List.set_cons_succ])
    refine wpAnyH_done (by kernel_rfl) ?_ _
    go_wp2
    exact bodyPost_ret (v := .agg #[.int .i64 0, .slice (some ⟨w.heap.size + 1 + 1, 0, none⟩) 3 3, .slice (some ⟨w.heap.size + 1, 0, none⟩) 3 3]) (by simp [results, Try.results15, go_sem, q0, q1, q2]) rfl ⟨_, _, rfl, R.out.1, R.out.2⟩

end Go.Proofs.Ytcffoehldohooaa
