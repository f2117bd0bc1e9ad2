/- For every slice of bytes the law FnMapPut answers true and leaves its argument as it was. No condition. -/
import Derived.Test.YtkfamlbalgolmaaDrawP
import Derived.Test.YtkfamlbalgolmaaPutM
namespace Go.Proofs.Ytkfamlbalgolmaa
open Go.ChangeShapes Go.WideShapes Go.ChangeAt Go.RowKit
set_option linter.unusedVariables false

set_option maxRecDepth 20000 in
set_option maxHeartbeats 16000000 in
theorem mapPut_walk (a : Option Addr) (n cap : Nat) (w : World) (hs : SBytes w a n) (hc : n ≤ cap) (hm : n ≤ 9223372036854775807) :
    Calls Try.prog 3 #[.slice a n cap] w fun e w' => e = .returned (.bool true) ∧ Below w.heap.size w w' := by
  by_cases hn : n ≤ 1048576
  · have hn' : ¬ (1048576 : Int) < (n : Int) := by omega
    go_enter Try.func3, Try.ntmps3
    go_wp2_with fail
    refine (drawMapPut_any a n cap w hs hc hn).mono ?_
    rintro e w1 ⟨L, N, am, cm, key, val, rfl, ho1, hN, hb1⟩
    obtain ⟨hNc, hcM⟩ := own2_room ho1
    have HL : Hid (L.length = N * 2) := (own2_sints ho1).1
    have S1 : Hid (SInts (w1.alloc (.cells #[.slice am N cm] 25)) am (N * 2) L ∧ Below w.heap.size w (w1.alloc (.cells #[.slice am N cm] 25)) ∧ (w1.alloc (.cells #[.slice am N cm] 25)).cell? ⟨w1.heap.size, 0, none⟩ = some (.slice am N cm)) := ⟨(own2_sints ho1).below (al1 _ _), below_trans' hb1 (al1 _ _), cell_at w1 _ _ 0 rfl rfl⟩
    clear ho1 hb1 hs
    have himpl : Hid (∀ W, SInts W am (N * 2) L → Calls Try.prog 10 #[.agg #[.slice am N cm], .int .i64 key, .int .i64 val] W fun e w' => MapRes (ptL L N key val) (ptN L N key val) (ptC L N key val) 0 e W w') := fun W h => implMapPut_cap am N cm L key val W h (by omega) hNc hcM
    have hspec : Hid (∀ W, SInts W am (N * 2) L → Calls Try.prog 11 #[.agg #[.slice am N cm], .int .i64 key, .int .i64 val] W fun e w' => MapRes (ptL L N key val) (ptN L N key val) (ptC L N key val) 0 e W w') := fun W h => specMapPut_cap am N cm L key val W h (by omega)
    have HA := fun h => put_all (key := key) (val := val) HL.out h
    have HA2 := fun h => put_not (L := L) (N := N) (key := key) (val := val) (ptOk_no h)
    have hn9 := ptN_le L N key val
    generalize ptL L N key val = D at himpl hspec HA
    generalize ptN L N key val = n' at himpl hspec HA HA2 hn9
    generalize ptC L N key val = C at himpl hspec HA HA2
    obtain ⟨bk, hbk⟩ : ∃ bk, okM L N = bk := ⟨_, rfl⟩
    rw [hbk] at HA2
    have HBK : Hid (okM L N = bk) := hbk
    have HNO : Hid (bk = false ∨ key < 0 ∨ 99 < key ∨ val < 0 ∨ 999 < val → C = 0 ∧ n' = 0) := HA2
    have HALL : Hid (bk = true → 0 ≤ key → key ≤ 99 → 0 ≤ val → val ≤ 999 → okM D n' = true ∧ ((C = 1 ∧ D = L ∧ n' = N ∧ getC L N key = 2) ∨ (C = 3 ∧ D = L ∧ n' = N ∧ getC L N key = 1 ∧ N = 8) ∨ (C = 2 ∧ getC L N key = 1 ∧ getC D n' key = 2 ∧ getV D n' key = val ∧ ∀ k, k ≠ key → getC D n' k = getC L N k ∧ getV D n' k = getV L N k))) := fun h h1 h2 h3 h4 => HA (ptOk_yes (hbk.trans h) h1 h2 h3 h4)
    clear HA HA2 hbk
    go_wp2_with fail
    refine (himpl.out _ S1.out.1).mono ?_
    rintro e w2 ⟨ax, cx, rfl, hox, hb2⟩
    have T2 := below_trans' (al1 w2 (.cells #[.slice ax n' cx] 25)) (al1 _ (.cells #[.int .i64 C, .int .i64 0] 29))
    have P2 : Hid (PD w w1.heap.size am N cm L w2.heap.size ax n' cx D (w2.heap.size + 1) C 0 ((w2.alloc (.cells #[.slice ax n' cx] 25)).alloc (.cells #[.int .i64 C, .int .i64 0] 29))) :=
      ⟨below_trans' (below_trans' S1.out.2.1 hb2) T2, cell_kept T2 (cell_kept hb2 S1.out.2.2), (S1.out.1.below hb2).below T2, cell_kept (al1 _ _) (cell_at w2 _ _ 0 rfl rfl), (own2_sints hox).below T2, cell_at _ _ _ 0 (by simp) rfl, cell_at _ _ _ 1 (by simp) rfl⟩
    clear S1 hb2 T2 hox himpl
    obtain ⟨p0, p1, p2, p3⟩ := P2.out.cells
    go_wp2_with fail
    refine (hspec.out _ P2.out.s).mono ?_
    generalize ((w2.alloc (.cells #[.slice ax n' cx] 25)).alloc (.cells #[.int .i64 C, .int .i64 0] 29)) = W2 at P2 p0 p1 p2 p3 ⊢
    rintro e w3 ⟨aw, cw, rfl, how, hb3⟩
    have T3 := below_trans' (al1 w3 (.cells #[.slice aw n' cw] 25)) (al1 _ (.cells #[.int .i64 C, .int .i64 0] 29))
    have P3 : Hid (PD w w1.heap.size am N cm L w2.heap.size ax n' cx D (w2.heap.size + 1) C 0 ((w3.alloc (.cells #[.slice aw n' cw] 25)).alloc (.cells #[.int .i64 C, .int .i64 0] 29)) ∧ SInts ((w3.alloc (.cells #[.slice aw n' cw] 25)).alloc (.cells #[.int .i64 C, .int .i64 0] 29)) aw (n' * 2) D) := ⟨(P2.out.below hb3).below T3, (own2_sints how).below T3⟩
    have q0 := cell_kept (al1 (w3.alloc (.cells #[.slice aw n' cw] 25)) (.cells #[.int .i64 C, .int .i64 0] 29)) (cell_at w3 #[.slice aw n' cw] 25 0 rfl (v := .slice aw n' cw) rfl)
    have q1 := cell_at (w3.alloc (.cells #[.slice aw n' cw] 25)) #[.int .i64 C, .int .i64 0] 29 0 (b := w3.heap.size + 1) (by simp) (v := .int .i64 C) rfl
    have q2 := cell_at (w3.alloc (.cells #[.slice aw n' cw] 25)) #[.int .i64 C, .int .i64 0] 29 1 (b := w3.heap.size + 1) (by simp) (v := .int .i64 0) rfl
    clear P2 hb3 T3 how hspec p0 p1 p2 p3
    go_wp2
    generalize ((w3.alloc (.cells #[.slice aw n' cw] 25)).alloc (.cells #[.int .i64 C, .int .i64 0] 29)) = W3 at P3 q0 q1 q2 ⊢
    have hdr := (Below.refl W3.heap.size W3).drew
    have SW : Hid (SInts W3.drew aw (n' * 2) D) := P3.out.2.below hdr
    have E3 : Hid (PD w w1.heap.size am N cm L w2.heap.size ax n' cx D (w2.heap.size + 1) C 0 W3.drew ∧ W3.drew.cell? ⟨w3.heap.size, 0, none⟩ = some (.slice aw n' cw) ∧ W3.drew.cell? ⟨w3.heap.size + 1, 0, none⟩ = some (.int .i64 C) ∧ W3.drew.cell? ⟨w3.heap.size + 1, 1, none⟩ = some (.int .i64 0)) := ⟨P3.out.1.below hdr, cell_kept hdr q0, cell_kept hdr q1, cell_kept hdr q2⟩
    clear P3 q0 q1 q2 hdr
    refine wp_region_held_drew (S := (fun V' => (V'.cell? ⟨w1.heap.size, 0, none⟩ = some (.slice am N cm) ∧ V'.cell? ⟨w2.heap.size, 0, none⟩ = some (.slice ax n' cx) ∧ V'.cell? ⟨w2.heap.size + 1, 0, none⟩ = some (.int .i64 C) ∧ V'.cell? ⟨w2.heap.size + 1, 1, none⟩ = some (.int .i64 0)) ∧ V'.cell? ⟨w3.heap.size, 0, none⟩ = some (.slice aw n' cw) ∧ V'.cell? ⟨w3.heap.size + 1, 0, none⟩ = some (.int .i64 C) ∧ V'.cell? ⟨w3.heap.size + 1, 1, none⟩ = some (.int .i64 0))) (by kernel_rfl) ⟨E3.out.1.cells, E3.out.2⟩ (fun hHeld => ?_)
    refine wpAnyH_take (i := 0) (oi := ({ dst := some 36, op := Op.load 25 (Operand.tmp 6), type := 25, pos := "laws.go:138", after := #[], guard := none } : Oper)) (v := ?_) rfl (by kernel_rfl) (by kernel_rfl) (by kernel_rfl) (fun _ _ _ h => h) (Or.inl ⟨by rfl, ?_⟩) (by assumption) ?_
    rotate_left
    · (intro wz hSw; (try dsimp only at hSw); go_simp; first | done | with_reducible rfl)
    (try simp only [Act.put, List.setIfInBounds_toArray, List.set_cons_zero, List.set_cons_succ])
    refine wpAnyH_take (i := 1) (oi := ({ dst := some 37, op := Op.load 25 (Operand.tmp 8), type := 25, pos := "laws.go:138", after := #[], guard := none } : Oper)) (v := ?_) rfl (by kernel_rfl) (by kernel_rfl) (by kernel_rfl) (fun _ _ _ h => h) (Or.inl ⟨by rfl, ?_⟩) (by assumption) ?_
    rotate_left
    · (intro wz hSw; (try dsimp only at hSw); go_simp; first | done | with_reducible rfl)
    (try simp only [Act.put, List.setIfInBounds_toArray, List.set_cons_zero, List.set_cons_succ])
    refine wpAnyH_ready (rs := [2]) (by kernel_rfl) (by simp) ?_
    refine AllReadyH.cons (o := ({ dst := some 38, op := Op.call { callee := Callee.value (Operand.func 12), args := #[Operand.tmp 36, Operand.tmp 37], argTypes := #[25, 25] }, type := 4, pos := "laws.go:138", after := #[{ on := 0, ground := Ground.data }, { on := 1, ground := Ground.data }], guard := none } : Oper)) rfl (fun K hK => ?_) AllReadyH.nil
    clear hHeld
    go_simp
    go_wp2_with (go_at_call 12; refine (tgMap_yes _ _ _ _ _ D _ E3.out.1.sx SW.out (by omega)).mono ?_; rintro e w4 ⟨rfl, hb4⟩; have E4 : Hid (PD w w1.heap.size am N cm L w2.heap.size ax n' cx D (w2.heap.size + 1) C 0 w4 ∧ w4.cell? ⟨w3.heap.size, 0, none⟩ = some (.slice aw n' cw) ∧ w4.cell? ⟨w3.heap.size + 1, 0, none⟩ = some (.int .i64 C) ∧ w4.cell? ⟨w3.heap.size + 1, 1, none⟩ = some (.int .i64 0)) := ⟨E3.out.1.below hb4, cell_kept hb4 E3.out.2.1, cell_kept hb4 E3.out.2.2.1, cell_kept hb4 E3.out.2.2.2⟩; clear hb4)
    refine hK.out _ _ ⟨E4.out.1.cells, E4.out.2⟩ (fun hHeld => ?_)
    clear hK K
    (try simp only [Act.put, List.setIfInBounds_toArray, List.set_cons_zero, List.set_cons_succ])
    refine wpAnyH_take (i := 3) (oi := ({ dst := some 39, op := Op.unOp UnOp.not 4 (Operand.tmp 38), type := 4, pos := "laws.go:138", after := #[{ on := 2, ground := Ground.data }], guard := none } : Oper)) (v := .bool false) rfl (by kernel_rfl) (by kernel_rfl) (by kernel_rfl) (fun _ _ _ h => h) (Or.inl ⟨by rfl, ?_⟩) (by assumption) ?_
    · (intro wz hSw; (try dsimp only at hSw); go_simp; first | done | rfl)
    (try simp only [Act.put, List.setIfInBounds_toArray, List.set_cons_zero, List.set_cons_succ])
    refine wpAnyH_take (i := 4) (oi := ({ dst := some 40, op := Op.move (Operand.tmp 39), type := 4, pos := "laws.go:138", after := #[{ on := 3, ground := Ground.data }, { on := 2, ground := Ground.chain }], guard := none } : Oper)) (v := ?_) rfl (by kernel_rfl) (by kernel_rfl) (by kernel_rfl) (fun _ _ _ h => h) (Or.inl ⟨by rfl, ?_⟩) (by assumption) ?_
    rotate_left
    · (intro wz hSw; (try dsimp only at hSw); go_simp; first | done | with_reducible rfl)
    (try simp only [Act.put, List.setIfInBounds_toArray, List.set_cons_zero, List.set_cons_succ])
    refine wpAnyH_take (i := 5) (oi := ({ dst := some 41, op := Op.load 29 (Operand.tmp 7), type := 29, pos := "laws.go:138", after := #[{ on := 4, ground := Ground.guard }], guard := some (4, false) } : Oper)) (v := ?_) rfl (by kernel_rfl) (by kernel_rfl) (by kernel_rfl) (fun _ _ _ h => h) (Or.inl ⟨by rfl, ?_⟩) (by assumption) ?_
    rotate_left
    · (intro wz hSw; (try dsimp only at hSw); go_simp; first | done | with_reducible rfl)
    (try simp only [Act.put, List.setIfInBounds_toArray, List.set_cons_zero, List.set_cons_succ])
    refine wpAnyH_take (i := 6) (oi := ({ dst := some 42, op := Op.load 29 (Operand.tmp 9), type := 29, pos := "laws.go:138", after := #[{ on := 4, ground := Ground.guard }], guard := some (4, false) } : Oper)) (v := ?_) rfl (by kernel_rfl) (by kernel_rfl) (by kernel_rfl) (fun _ _ _ h => h) (Or.inl ⟨by rfl, ?_⟩) (by assumption) ?_
    rotate_left
    · (intro wz hSw; (try dsimp only at hSw); go_simp; first | done | with_reducible rfl)
    (try simp only [Act.put, List.setIfInBounds_toArray, List.set_cons_zero, List.set_cons_succ])
    refine wpAnyH_take (i := 7) (oi := ({ dst := some 43, op := Op.binOp BinOp.neq 29 (Operand.tmp 41) (Operand.tmp 42) 29, type := 4, pos := "laws.go:138", after := #[{ on := 5, ground := Ground.data }, { on := 6, ground := Ground.data }, { on := 4, ground := Ground.guard }], guard := some (4, false) } : Oper)) (v := .bool false) rfl (by kernel_rfl) (by kernel_rfl) (by kernel_rfl) (fun _ _ _ h => h) (Or.inl ⟨by rfl, ?_⟩) (by assumption) ?_
    · (intro wz hSw; (try dsimp only at hSw); go_simp; first | done | simp)
    (try simp only [Act.put, List.setIfInBounds_toArray, List.set_cons_zero, List.set_cons_succ])
    refine wpAnyH_take (i := 8) (oi := ({ dst := some 44, op := Op.pick (Operand.tmp 40) (Operand.const (Value.bool true)) (Operand.tmp 43), type := 4, pos := "laws.go:138", after := #[{ on := 4, ground := Ground.data }, { on := 7, ground := Ground.data }], guard := none } : Oper)) (v := .bool false) rfl (by kernel_rfl) (by kernel_rfl) (by kernel_rfl) (fun _ _ _ h => h) (Or.inl ⟨by rfl, ?_⟩) (by assumption) ?_
    · (intro wz hSw; (try dsimp only at hSw); go_simp; first | done | rfl)
    (try simp only [Act.put, List.setIfInBounds_toArray, List.set_cons_zero, List.set_cons_succ])
    refine wpAnyH_take (i := 9) (oi := ({ dst := some 45, op := Op.move (Operand.tmp 44), type := 4, pos := "laws.go:138", after := #[{ on := 8, ground := Ground.data }, { on := 4, ground := Ground.chain }], guard := none } : Oper)) (v := ?_) rfl (by kernel_rfl) (by kernel_rfl) (by kernel_rfl) (fun _ _ _ h => h) (Or.inl ⟨by rfl, ?_⟩) (by assumption) ?_
    rotate_left
    · (intro wz hSw; (try dsimp only at hSw); go_simp; first | done | with_reducible rfl)
    (try simp only [Act.put, List.setIfInBounds_toArray, List.set_cons_zero, List.set_cons_succ])
    refine wpAnyH_take (i := 10) (oi := ({ dst := some 46, op := Op.load 25 (Operand.tmp 3), type := 25, pos := "laws.go:138", after := #[{ on := 9, ground := Ground.guard }], guard := some (9, false) } : Oper)) (v := ?_) rfl (by kernel_rfl) (by kernel_rfl) (by kernel_rfl) (fun _ _ _ h => h) (Or.inl ⟨by rfl, ?_⟩) (by assumption) ?_
    rotate_left
    · (intro wz hSw; (try dsimp only at hSw); go_simp; first | done | with_reducible rfl)
    (try simp only [Act.put, List.setIfInBounds_toArray, List.set_cons_zero, List.set_cons_succ])
    refine wpAnyH_take (i := 12) (oi := ({ dst := some 48, op := Op.load 25 (Operand.tmp 3), type := 25, pos := "laws.go:138", after := #[{ on := 9, ground := Ground.guard }], guard := some (9, false) } : Oper)) (v := ?_) rfl (by kernel_rfl) (by kernel_rfl) (by kernel_rfl) (fun _ _ _ h => h) (Or.inl ⟨by rfl, ?_⟩) (by assumption) ?_
    rotate_left
    · (intro wz hSw; (try dsimp only at hSw); go_simp; first | done | with_reducible rfl)
    (try simp only [Act.put, List.setIfInBounds_toArray, List.set_cons_zero, List.set_cons_succ])
    refine wpAnyH_ready (rs := [11]) (by kernel_rfl) (by simp) ?_
    refine AllReadyH.cons (o := ({ dst := some 47, op := Op.call { callee := Callee.value (Operand.func 13), args := #[Operand.tmp 46], argTypes := #[25] }, type := 4, pos := "laws.go:138", after := #[{ on := 10, ground := Ground.data }, { on := 9, ground := Ground.chain }, { on := 9, ground := Ground.guard }], guard := some (9, false) } : Oper)) rfl (fun K hK => ?_) AllReadyH.nil
    clear hHeld
    go_simp
    go_wp2_with (go_at_call 13; refine (implMapOk_any am N cm L _ E4.out.1.s (by omega)).mono ?_; rintro e w5 ⟨rfl, hb5⟩; rw [HBK.out]; have E5 : Hid (PD w w1.heap.size am N cm L w2.heap.size ax n' cx D (w2.heap.size + 1) C 0 w5 ∧ w5.cell? ⟨w3.heap.size, 0, none⟩ = some (.slice aw n' cw) ∧ w5.cell? ⟨w3.heap.size + 1, 0, none⟩ = some (.int .i64 C) ∧ w5.cell? ⟨w3.heap.size + 1, 1, none⟩ = some (.int .i64 0)) := ⟨E4.out.1.below hb5, cell_kept hb5 E4.out.2.1, cell_kept hb5 E4.out.2.2.1, cell_kept hb5 E4.out.2.2.2⟩; clear hb5)
    refine hK.out _ _ ⟨E5.out.1.cells, E5.out.2⟩ (fun hHeld => ?_)
    clear hK K
    (try simp only [Act.put, List.setIfInBounds_toArray, List.set_cons_zero, List.set_cons_succ])
    refine wpAnyH_ready (rs := [13]) (by kernel_rfl) (by simp) ?_
    refine AllReadyH.cons (o := ({ dst := some 49, op := Op.call { callee := Callee.value (Operand.func 14), args := #[Operand.tmp 48], argTypes := #[25] }, type := 4, pos := "laws.go:138", after := #[{ on := 12, ground := Ground.data }, { on := 11, ground := Ground.chain }, { on := 9, ground := Ground.guard }], guard := some (9, false) } : Oper)) rfl (fun K hK => ?_) AllReadyH.nil
    clear hHeld
    go_simp
    go_wp2_with (go_at_call 14; refine (specMapOk_any am N cm L _ E5.out.1.s (by omega)).mono ?_; rintro e w6 ⟨rfl, hb6⟩; rw [HBK.out]; have E6 : Hid (PD w w1.heap.size am N cm L w2.heap.size ax n' cx D (w2.heap.size + 1) C 0 w6 ∧ w6.cell? ⟨w3.heap.size, 0, none⟩ = some (.slice aw n' cw) ∧ w6.cell? ⟨w3.heap.size + 1, 0, none⟩ = some (.int .i64 C) ∧ w6.cell? ⟨w3.heap.size + 1, 1, none⟩ = some (.int .i64 0)) := ⟨E5.out.1.below hb6, cell_kept hb6 E5.out.2.1, cell_kept hb6 E5.out.2.2.1, cell_kept hb6 E5.out.2.2.2⟩; clear hb6)
    refine hK.out _ _ ⟨E6.out.1.cells, E6.out.2⟩ (fun hHeld => ?_)
    clear hK K
    (try simp only [Act.put, List.setIfInBounds_toArray, List.set_cons_zero, List.set_cons_succ])
    refine wpAnyH_take (i := 14) (oi := ({ dst := some 50, op := Op.binOp BinOp.neq 4 (Operand.tmp 47) (Operand.tmp 49) 4, type := 4, pos := "laws.go:138", after := #[{ on := 11, ground := Ground.data }, { on := 13, ground := Ground.data }, { on := 9, ground := Ground.guard }], guard := some (9, false) } : Oper)) (v := .bool false) rfl (by kernel_rfl) (by kernel_rfl) (by kernel_rfl) (fun _ _ _ h => h) (Or.inl ⟨by rfl, ?_⟩) (by assumption) ?_
    · (intro wz hSw; (try dsimp only at hSw); go_simp; first | done | (cases bk <;> rfl) | simp)
    (try simp only [Act.put, List.setIfInBounds_toArray, List.set_cons_zero, List.set_cons_succ])
    refine wpAnyH_take (i := 15) (oi := ({ dst := some 51, op := Op.pick (Operand.tmp 45) (Operand.const (Value.bool true)) (Operand.tmp 50), type := 4, pos := "laws.go:138", after := #[{ on := 9, ground := Ground.data }, { on := 14, ground := Ground.data }], guard := none } : Oper)) (v := .bool false) rfl (by kernel_rfl) (by kernel_rfl) (by kernel_rfl) (fun _ _ _ h => h) (Or.inl ⟨by rfl, ?_⟩) (by assumption) ?_
    · (intro wz hSw; (try dsimp only at hSw); go_simp; first | done | rfl)
    (try simp only [Act.put, List.setIfInBounds_toArray, List.set_cons_zero, List.set_cons_succ])
    refine wpAnyH_done (by kernel_rfl) ?_ _
    clear hHeld
    have P6 : Hid (PD w w1.heap.size am N cm L w2.heap.size ax n' cx D (w2.heap.size + 1) C 0 w6) := E6.out.1
    clear E3 E4 E5 E6 SW
    obtain ⟨p0, p1, p2, p3⟩ := P6.out.cells
    go_wp2_with fail
    refine (specMapOk_any am N cm L _ P6.out.s (by omega)).mono ?_
    rintro e w7 ⟨rfl, hb7⟩
    rw [HBK.out]
    have P7 : Hid (PD w w1.heap.size am N cm L w2.heap.size ax n' cx D (w2.heap.size + 1) C 0 w7) := P6.out.below hb7
    clear P6 hb7 p0 p1 p2 p3
    obtain ⟨p0, p1, p2, p3⟩ := P7.out.cells
    cases bk
    · have h0 : Hid (false = false) := rfl
      obtain ⟨e1, e2⟩ := HNO.out (.inl rfl)
      clear HNO HALL HBK
      subst e1 e2
      go_wp2_with fail
      refine (tgOk_any _).mono ?_
      rintro e w9 ⟨rfl, hb9⟩
      have HB9 : Hid (Below w.heap.size w w9) := below_trans' P7.out.bel hb9
      clear hb9 P7
      go_wp2
      go_ret
      exact ⟨rfl, HB9.out⟩
    by_cases k1 : key < 0
    · have k1' : ¬ 0 ≤ key := by omega
      obtain ⟨e1, e2⟩ := HNO.out (.inr (.inl k1))
      clear HNO HALL HBK
      subst e1 e2
      go_wp2_with fail
      refine (tgOk_any _).mono ?_
      rintro e w9 ⟨rfl, hb9⟩
      have HB9 : Hid (Below w.heap.size w w9) := below_trans' P7.out.bel hb9
      clear hb9 P7
      go_wp2
      go_ret
      exact ⟨rfl, HB9.out⟩
    by_cases k2 : 99 < key
    · have k2' : ¬ key ≤ 99 := by omega
      obtain ⟨e1, e2⟩ := HNO.out (.inr (.inr (.inl k2)))
      clear HNO HALL HBK
      subst e1 e2
      go_wp2_with fail
      refine (tgOk_any _).mono ?_
      rintro e w9 ⟨rfl, hb9⟩
      have HB9 : Hid (Below w.heap.size w w9) := below_trans' P7.out.bel hb9
      clear hb9 P7
      go_wp2
      go_ret
      exact ⟨rfl, HB9.out⟩
    by_cases k3 : val < 0
    · have k3' : ¬ 0 ≤ val := by omega
      obtain ⟨e1, e2⟩ := HNO.out (.inr (.inr (.inr (.inl k3))))
      clear HNO HALL HBK
      subst e1 e2
      go_wp2_with fail
      refine (tgOk_any _).mono ?_
      rintro e w9 ⟨rfl, hb9⟩
      have HB9 : Hid (Below w.heap.size w w9) := below_trans' P7.out.bel hb9
      clear hb9 P7
      go_wp2
      go_ret
      exact ⟨rfl, HB9.out⟩
    by_cases k4 : 999 < val
    · have k4' : ¬ val ≤ 999 := by omega
      obtain ⟨e1, e2⟩ := HNO.out (.inr (.inr (.inr (.inr k4))))
      clear HNO HALL HBK
      subst e1 e2
      go_wp2_with fail
      refine (tgOk_any _).mono ?_
      rintro e w9 ⟨rfl, hb9⟩
      have HB9 : Hid (Below w.heap.size w w9) := below_trans' P7.out.bel hb9
      clear hb9 P7
      go_wp2
      go_ret
      exact ⟨rfl, HB9.out⟩
    obtain ⟨hD, hX⟩ := HALL.out rfl (by omega) (by omega) (by omega) (by omega)
    have HD : Hid (okM D n' = true) := hD
    have HX : Hid ((C = 1 ∧ D = L ∧ n' = N ∧ getC L N key = 2) ∨ (C = 3 ∧ D = L ∧ n' = N ∧ getC L N key = 1 ∧ N = 8) ∨ (C = 2 ∧ getC L N key = 1 ∧ getC D n' key = 2 ∧ getV D n' key = val ∧ ∀ k, k ≠ key → getC D n' k = getC L N k ∧ getV D n' k = getV L N k)) := hX
    clear hD hX HALL HNO HBK
    have hfd : ∀ (W : World) (u v : Int), (Instr.field 29 (.agg #[.int .i64 u, .int .i64 v]) 0).run Try.prog W = .ok (.int .i64 u) W := fun _ _ _ => by kernel_rfl
    go_wp2_with fail
    refine (implMapOk_any ax n' cx D _ P7.out.sx (by omega)).mono ?_
    rintro e w8 ⟨rfl, hb8⟩
    rw [HD.out]
    have P8 : Hid (PD w w1.heap.size am N cm L w2.heap.size ax n' cx D (w2.heap.size + 1) C 0 w8) := P7.out.below hb8
    clear P7 hb8 p0 p1 p2 p3 HD
    obtain ⟨p0, p1, p2, p3⟩ := P8.out.cells
    obtain ⟨gc, hgc⟩ : ∃ gc, getC L N key = gc := ⟨_, rfl⟩
    obtain ⟨gv, hgv⟩ : ∃ gv, getV L N key = gv := ⟨_, rfl⟩
    have HGC : Hid (getC L N key = gc ∧ getV L N key = gv) := ⟨hgc, hgv⟩
    clear hgc hgv
    go_wp2_with fail
    refine (implMapGet_any am N cm L key _ P8.out.s (by omega)).mono ?_
    rintro e w9 ⟨rfl, hb9⟩
    rw [HGC.out.1, HGC.out.2]
    have P9 : Hid (PD w w1.heap.size am N cm L w2.heap.size ax n' cx D (w2.heap.size + 1) C 0 w9) := P8.out.below hb9
    clear P8 hb9 p0 p1 p2 p3
    obtain ⟨p0, p1, p2, p3⟩ := P9.out.cells
    rcases HX.out with ⟨e1, e2, e3, e4⟩ | ⟨e1, e2, e3, e4, e5⟩ | ⟨e1, e4, e6, e7, e8⟩
    · obtain rfl : gc = 2 := HGC.out.1.symm.trans e4
      clear e4 HGC
      clear HX
      subst e1 e2 e3
      go_wp2_with fail
      refine (tgMap_yes _ _ _ _ _ D _ P9.out.sx P9.out.s (by omega)).mono ?_
      rintro e w10 ⟨rfl, hb10⟩
      have P10 : Hid (PD w w1.heap.size am n' cm D w2.heap.size ax n' cx D (w2.heap.size + 1) 1 0 w10) := P9.out.below hb10
      clear hb10 P9 p0 p1 p2 p3
      obtain ⟨p0, p1, p2, p3⟩ := P10.out.cells
      go_wp2
      go_ret
      exact ⟨rfl, P10.out.bel⟩
    · obtain rfl : gc = 1 := HGC.out.1.symm.trans e4
      clear e4 HGC
      clear HX
      subst e1 e2 e3 e5
      go_wp2_with fail
      refine (tgMap_yes _ _ _ _ _ D _ P9.out.sx P9.out.s (by omega)).mono ?_
      rintro e w10 ⟨rfl, hb10⟩
      have P10 : Hid (PD w w1.heap.size am 8 cm D w2.heap.size ax 8 cx D (w2.heap.size + 1) 3 0 w10) := P9.out.below hb10
      clear hb10 P9 p0 p1 p2 p3
      obtain ⟨p0, p1, p2, p3⟩ := P10.out.cells
      go_wp2
      go_ret
      exact ⟨rfl, P10.out.bel⟩
    · obtain rfl : gc = 1 := HGC.out.1.symm.trans e4
      have HG : Hid (getC D n' key = 2 ∧ getV D n' key = val ∧ ∀ k, k ≠ key → getC D n' k = getC L N k ∧ getV D n' k = getV L N k) := ⟨e6, e7, e8⟩
      clear e4 HGC HX e6 e7 e8
      subst e1
      go_wp2
      go_loopw [11] (fun i wr => ∃ k : Nat, k ≤ 100 ∧ i = .int .i64 k ∧ PD w w1.heap.size am N cm L w2.heap.size ax n' cx D (w2.heap.size + 1) 2 0 wr) (fun i _ => 100 - (intOf i).toNat)
      case atStart => exact ⟨0, by omega, rfl, P9.out⟩
      case round =>
        obtain ⟨k, hk, rfl, P⟩ := hrel
        clear P9 p0 p1 p2 p3
        have HP : Hid (PD w w1.heap.size am N cm L w2.heap.size ax n' cx D (w2.heap.size + 1) 2 0 wr) := P
        obtain ⟨p0, p1, p2, p3⟩ := P.cells
        clear P
        by_cases hlt : k ≤ 99
        · have hlti : (k : Int) ≤ 99 := by omega
          obtain ⟨c1, hc1⟩ : ∃ c, getC L N k = c := ⟨_, rfl⟩
          obtain ⟨c2, hc2⟩ : ∃ c, getV L N k = c := ⟨_, rfl⟩
          have HE : Hid (getC L N k = c1 ∧ getV L N k = c2) := ⟨hc1, hc2⟩
          clear hc1 hc2
          go_wp2_with fail
          refine (implMapGet_any am N cm L k _ HP.out.s (by omega)).mono ?_
          rintro e wg ⟨rfl, hbg⟩
          rw [HE.out.1, HE.out.2]
          have T := al1 wg (.cells #[.int .i64 c1, .int .i64 c2] 29)
          by_cases hke : (k : Int) = key
          · have hkb : ((k : Int) == key) = true := by simpa using hke
            have HQ : Hid (getC D n' k = 2 ∧ getV D n' k = val) := by rw [hke]; exact ⟨HG.out.1, HG.out.2.1⟩
            clear p0 p1 p2 p3 hke
            have T2 := al1 wg (.cells #[.int .i64 2, .int .i64 val] 29)
            have F : Hid (PD w w1.heap.size am N cm L w2.heap.size ax n' cx D (w2.heap.size + 1) 2 0 (wg.alloc (.cells #[.int .i64 2, .int .i64 val] 29)).drew ∧ (wg.alloc (.cells #[.int .i64 2, .int .i64 val] 29)).drew.cell? ⟨wg.heap.size, 0, none⟩ = some (.int .i64 2) ∧ (wg.alloc (.cells #[.int .i64 2, .int .i64 val] 29)).drew.cell? ⟨wg.heap.size, 1, none⟩ = some (.int .i64 val)) := ⟨(HP.out.below hbg).below T2.drew, cell_block0 (new_block wg _), cell_block1 (new_block wg _)⟩
            clear HP hbg T T2 HE
            go_wp2
            generalize (wg.alloc (.cells #[.int .i64 2, .int .i64 val] 29)) = WF at F ⊢
            obtain ⟨p0, p1, p2, p3⟩ := F.out.1.cells
            obtain ⟨s0, s1⟩ := F.out.2
            refine wp_region_held_drew (S := (fun V' => (V'.cell? ⟨w1.heap.size, 0, none⟩ = some (.slice am N cm) ∧ V'.cell? ⟨w2.heap.size, 0, none⟩ = some (.slice ax n' cx) ∧ V'.cell? ⟨w2.heap.size + 1, 0, none⟩ = some (.int .i64 2) ∧ V'.cell? ⟨w2.heap.size + 1, 1, none⟩ = some (.int .i64 0)) ∧ V'.cell? ⟨wg.heap.size, 0, none⟩ = some (.int .i64 2) ∧ V'.cell? ⟨wg.heap.size, 1, none⟩ = some (.int .i64 val))) (by kernel_rfl) ⟨F.out.1.cells, F.out.2⟩ (fun hHeld => ?_)
            clear p0 p1 p2 p3 s0 s1
            refine wpAnyH_take (i := 0) (oi := ({ dst := some 130, op := Op.load 25 (Operand.tmp 6), type := 25, pos := "laws.go:156", after := #[], guard := none } : Oper)) (v := ?_) rfl (by kernel_rfl) (by kernel_rfl) (by kernel_rfl) (fun _ _ _ h => h) (Or.inl ⟨by rfl, ?_⟩) (by assumption) ?_
            rotate_left
            · (intro wz hSw; (try dsimp only at hSw); go_simp; first | done | with_reducible rfl)
            (try simp only [Act.put, List.setIfInBounds_toArray, List.set_cons_zero, List.set_cons_succ])
            refine wpAnyH_take (i := 1) (oi := ({ dst := some 131, op := Op.move (Operand.tmp 11), type := 3, pos := "laws.go:156", after := #[], guard := none } : Oper)) (v := ?_) rfl (by kernel_rfl) (by kernel_rfl) (by kernel_rfl) (fun _ _ _ h => h) (Or.inl ⟨by rfl, ?_⟩) (by assumption) ?_
            rotate_left
            · (intro wz hSw; (try dsimp only at hSw); go_simp; first | done | with_reducible rfl)
            (try simp only [Act.put, List.setIfInBounds_toArray, List.set_cons_zero, List.set_cons_succ])
            refine wpAnyH_take (i := 3) (oi := ({ dst := some 133, op := Op.load 29 (Operand.tmp 12), type := 29, pos := "laws.go:156", after := #[], guard := none } : Oper)) (v := ?_) rfl (by kernel_rfl) (by kernel_rfl) (by kernel_rfl) (fun _ _ _ h => h) (Or.inl ⟨by rfl, ?_⟩) (by assumption) ?_
            rotate_left
            · (intro wz hSw; (try dsimp only at hSw); go_simp; first | done | with_reducible rfl)
            (try simp only [Act.put, List.setIfInBounds_toArray, List.set_cons_zero, List.set_cons_succ])
            refine wpAnyH_ready (rs := [2]) (by kernel_rfl) (by simp) ?_
            refine AllReadyH.cons (o := ({ dst := some 132, op := Op.call { callee := Callee.value (Operand.func 16), args := #[Operand.tmp 130, Operand.tmp 131], argTypes := #[25, 3] }, type := 29, pos := "laws.go:156", after := #[{ on := 0, ground := Ground.data }, { on := 1, ground := Ground.data }], guard := none } : Oper)) rfl (fun K hK => ?_) AllReadyH.nil
            clear hHeld
            go_simp
            go_wp2_with (go_at_call 16; refine (implMapGet_any ax n' cx D k _ F.out.1.sx (by omega)).mono ?_; rintro e wh ⟨rfl, hbh⟩; rw [HQ.out.1, HQ.out.2]; have G : Hid (PD w w1.heap.size am N cm L w2.heap.size ax n' cx D (w2.heap.size + 1) 2 0 wh ∧ wh.cell? ⟨wg.heap.size, 0, none⟩ = some (.int .i64 2) ∧ wh.cell? ⟨wg.heap.size, 1, none⟩ = some (.int .i64 val)) := ⟨F.out.1.below hbh, cell_kept hbh F.out.2.1, cell_kept hbh F.out.2.2⟩; clear hbh)
            refine hK.out _ _ ⟨G.out.1.cells, G.out.2⟩ (fun hHeld => ?_)
            clear hK K
            (try simp only [Act.put, List.setIfInBounds_toArray, List.set_cons_zero, List.set_cons_succ])
            refine wpAnyH_take (i := 4) (oi := ({ dst := some 134, op := Op.binOp BinOp.neq 29 (Operand.tmp 132) (Operand.tmp 133) 29, type := 4, pos := "laws.go:156", after := #[{ on := 2, ground := Ground.data }, { on := 3, ground := Ground.data }], guard := none } : Oper)) (v := .bool false) rfl (by kernel_rfl) (by kernel_rfl) (by kernel_rfl) (fun _ _ _ h => h) (Or.inl ⟨by rfl, ?_⟩) (by assumption) ?_
            · (intro wz hSw; (try dsimp only at hSw); go_simp; first | done | simp)
            (try simp only [Act.put, List.setIfInBounds_toArray, List.set_cons_zero, List.set_cons_succ])
            refine wpAnyH_done (by kernel_rfl) ?_ _
            clear hHeld F
            go_wp2
            go_roundw
            case rel => exact ⟨k + 1, by omega, by go_num, G.out.1⟩
            case measure => simp [intOf]; omega
          · have hkb : ((k : Int) == key) = false := by simpa using hke
            have HQ : Hid (getC D n' k = c1 ∧ getV D n' k = c2) := ⟨(HG.out.2.2 k hke).1.trans HE.out.1, (HG.out.2.2 k hke).2.trans HE.out.2⟩
            clear p0 p1 p2 p3
            have F : Hid (PD w w1.heap.size am N cm L w2.heap.size ax n' cx D (w2.heap.size + 1) 2 0 (wg.alloc (.cells #[.int .i64 c1, .int .i64 c2] 29)).drew ∧ (wg.alloc (.cells #[.int .i64 c1, .int .i64 c2] 29)).drew.cell? ⟨wg.heap.size, 0, none⟩ = some (.int .i64 c1) ∧ (wg.alloc (.cells #[.int .i64 c1, .int .i64 c2] 29)).drew.cell? ⟨wg.heap.size, 1, none⟩ = some (.int .i64 c2)) := ⟨(HP.out.below hbg).below T.drew, cell_block0 (new_block wg _), cell_block1 (new_block wg _)⟩
            clear HP hbg T HE
            go_wp2
            generalize (wg.alloc (.cells #[.int .i64 c1, .int .i64 c2] 29)) = WF at F ⊢
            obtain ⟨p0, p1, p2, p3⟩ := F.out.1.cells
            obtain ⟨s0, s1⟩ := F.out.2
            refine wp_region_held_drew (S := (fun V' => (V'.cell? ⟨w1.heap.size, 0, none⟩ = some (.slice am N cm) ∧ V'.cell? ⟨w2.heap.size, 0, none⟩ = some (.slice ax n' cx) ∧ V'.cell? ⟨w2.heap.size + 1, 0, none⟩ = some (.int .i64 2) ∧ V'.cell? ⟨w2.heap.size + 1, 1, none⟩ = some (.int .i64 0)) ∧ V'.cell? ⟨wg.heap.size, 0, none⟩ = some (.int .i64 c1) ∧ V'.cell? ⟨wg.heap.size, 1, none⟩ = some (.int .i64 c2))) (by kernel_rfl) ⟨F.out.1.cells, F.out.2⟩ (fun hHeld => ?_)
            clear p0 p1 p2 p3 s0 s1
            refine wpAnyH_take (i := 0) (oi := ({ dst := some 130, op := Op.load 25 (Operand.tmp 6), type := 25, pos := "laws.go:156", after := #[], guard := none } : Oper)) (v := ?_) rfl (by kernel_rfl) (by kernel_rfl) (by kernel_rfl) (fun _ _ _ h => h) (Or.inl ⟨by rfl, ?_⟩) (by assumption) ?_
            rotate_left
            · (intro wz hSw; (try dsimp only at hSw); go_simp; first | done | with_reducible rfl)
            (try simp only [Act.put, List.setIfInBounds_toArray, List.set_cons_zero, List.set_cons_succ])
            refine wpAnyH_take (i := 1) (oi := ({ dst := some 131, op := Op.move (Operand.tmp 11), type := 3, pos := "laws.go:156", after := #[], guard := none } : Oper)) (v := ?_) rfl (by kernel_rfl) (by kernel_rfl) (by kernel_rfl) (fun _ _ _ h => h) (Or.inl ⟨by rfl, ?_⟩) (by assumption) ?_
            rotate_left
            · (intro wz hSw; (try dsimp only at hSw); go_simp; first | done | with_reducible rfl)
            (try simp only [Act.put, List.setIfInBounds_toArray, List.set_cons_zero, List.set_cons_succ])
            refine wpAnyH_take (i := 3) (oi := ({ dst := some 133, op := Op.load 29 (Operand.tmp 12), type := 29, pos := "laws.go:156", after := #[], guard := none } : Oper)) (v := ?_) rfl (by kernel_rfl) (by kernel_rfl) (by kernel_rfl) (fun _ _ _ h => h) (Or.inl ⟨by rfl, ?_⟩) (by assumption) ?_
            rotate_left
            · (intro wz hSw; (try dsimp only at hSw); go_simp; first | done | with_reducible rfl)
            (try simp only [Act.put, List.setIfInBounds_toArray, List.set_cons_zero, List.set_cons_succ])
            refine wpAnyH_ready (rs := [2]) (by kernel_rfl) (by simp) ?_
            refine AllReadyH.cons (o := ({ dst := some 132, op := Op.call { callee := Callee.value (Operand.func 16), args := #[Operand.tmp 130, Operand.tmp 131], argTypes := #[25, 3] }, type := 29, pos := "laws.go:156", after := #[{ on := 0, ground := Ground.data }, { on := 1, ground := Ground.data }], guard := none } : Oper)) rfl (fun K hK => ?_) AllReadyH.nil
            clear hHeld
            go_simp
            go_wp2_with (go_at_call 16; refine (implMapGet_any ax n' cx D k _ F.out.1.sx (by omega)).mono ?_; rintro e wh ⟨rfl, hbh⟩; rw [HQ.out.1, HQ.out.2]; have G : Hid (PD w w1.heap.size am N cm L w2.heap.size ax n' cx D (w2.heap.size + 1) 2 0 wh ∧ wh.cell? ⟨wg.heap.size, 0, none⟩ = some (.int .i64 c1) ∧ wh.cell? ⟨wg.heap.size, 1, none⟩ = some (.int .i64 c2)) := ⟨F.out.1.below hbh, cell_kept hbh F.out.2.1, cell_kept hbh F.out.2.2⟩; clear hbh)
            refine hK.out _ _ ⟨G.out.1.cells, G.out.2⟩ (fun hHeld => ?_)
            clear hK K
            (try simp only [Act.put, List.setIfInBounds_toArray, List.set_cons_zero, List.set_cons_succ])
            refine wpAnyH_take (i := 4) (oi := ({ dst := some 134, op := Op.binOp BinOp.neq 29 (Operand.tmp 132) (Operand.tmp 133) 29, type := 4, pos := "laws.go:156", after := #[{ on := 2, ground := Ground.data }, { on := 3, ground := Ground.data }], guard := none } : Oper)) (v := .bool false) rfl (by kernel_rfl) (by kernel_rfl) (by kernel_rfl) (fun _ _ _ h => h) (Or.inl ⟨by rfl, ?_⟩) (by assumption) ?_
            · (intro wz hSw; (try dsimp only at hSw); go_simp; first | done | simp)
            (try simp only [Act.put, List.setIfInBounds_toArray, List.set_cons_zero, List.set_cons_succ])
            refine wpAnyH_done (by kernel_rfl) ?_ _
            clear hHeld F
            go_wp2
            go_roundw
            case rel => exact ⟨k + 1, by omega, by go_num, G.out.1⟩
            case measure => simp [intOf]; omega
        · have hlti : ¬ (k : Int) ≤ 99 := by omega
          go_wp2
          go_ret
          exact ⟨rfl, HP.out.bel⟩
  · have hn' : (1048576 : Int) < (n : Int) := by omega
    clear hs
    go_enter Try.func3, Try.ntmps3
    go_wp2
    go_ret
    exact ⟨rfl, Below.refl _ _⟩

set_option maxRecDepth 100000 in
theorem mapPut_lifted (os : Os) (started : os.Started) (H : Type) (enc : TypeId × Value → H) :
    ReturnsInHanded {} Try.checked os 3 .any (Rows.fnMapPutSpec.pre6 enc Try.prog Try.f3 Rows.fnMapPutRow.domain false) (Rows.fnMapPutSpec.post enc Try.prog Try.f3 false true false false) := by
  refine returnsInHanded_of_change (C := Try.checked) own started (by kernel_rfl) Try.func3
    (ChangeSpec.witness6 (enc := enc) (C := Try.checked) false ⟨#[], #[.slice none 0 0], []⟩ 8 (by kernel_rfl) (by kernel_rfl) (by kernel_rfl) (by kernel_rfl)) ?_
  intro W base args ds gs before hval0 hW hcnd _
  have hval : ∀ (j : Nat) t v, Try.f3.params[j]? = some t → args[j]? = some v → Value.okWide Try.prog W .any base t v := hval0
  have hW' := hW
  obtain ⟨p, q, hA0, hV, rfl, hfz, hnd⟩ := hW
  have hA : DataW.TrodAll enc Try.prog W 0 (fun _ => true) true Try.f3.params.toList args.toList ds p := hA0
  rw [Try.params3] at hA hval
  obtain ⟨v0, vs0, d0, ds0, p0, q0, hargs, rfl, rfl, h0, r0⟩ := trodAll_cons hA
  obtain ⟨rfl, rfl, rfl⟩ := trodAll_nil r0
  obtain rfl : args = #[v0] := by cases args; simp_all
  obtain ⟨rfl, rfl⟩ := trodVars_none hV
  obtain ⟨a0, len0, cap0, rfl⟩ := okWide_slice Try.underlying22 (hval 0 22 v0 rfl rfl)
  have k0 := h0
  have lt0 : ∀ x ∈ p0, x.block < W.heap.size := by obtain ⟨m, hm⟩ := k0; exact DataW.trod_lt m _ _ _ hm
  obtain ⟨hs, hc, hm⟩ := sbytes_of_open h0
  clear hA0 hval0
  refine (mapPut_walk a0 len0 cap0 W hs hc hm).mono fun e W' ⟨he, bel⟩ => ?_
  subst he
  exact ⟨_, rfl, _, _, _, [], _, [], hW', trodAll_mk1 (shut_bool Try.underlying4 _), (trodAll_cons_mk (Below.trod laidOut (by kernel_rfl) (of_decide_eq_true (by kernel_rfl)) k0 bel lt0) trodAll_mk0), rfl, bel.frame _, fun h => by cases h⟩

theorem mapPut_holds : Rows.FnMapPutSaid :=
  OpenClaim.holds_of_wide 3 Try.f3 rfl rfl rfl rfl rfl rfl rfl ⟨rfl, rfl, rfl, rfl, rfl⟩ rfl rfl rfl rfl rfl (by kernel_rfl) Try.func3 (by kernel_rfl)
    (of_decide_eq_true (by kernel_rfl)) (by unfold Func.isWrapper; first | (rw [if_pos (by decide +kernel)]; kernel_rfl) | (rw [if_neg (by decide +kernel)]; exact ⟨rfl, rfl⟩))
    (fun os started H enc _ => mapPut_lifted os started H enc)

#print axioms mapPut_holds

end Go.Proofs.Ytkfamlbalgolmaa
