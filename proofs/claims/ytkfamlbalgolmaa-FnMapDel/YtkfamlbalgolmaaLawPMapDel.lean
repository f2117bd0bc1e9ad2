/- For every slice of bytes the law FnMapDel answers true and leaves its argument as it was. No condition. -/
import Derived.Test.YtkfamlbalgolmaaPDel
namespace Go.Proofs.Ytkfamlbalgolmaa
open Go.ChangeShapes Go.WideShapes Go.ChangeAt Go.RowKit
set_option linter.unusedVariables false

theorem delN_le2 (L : List Int) (N : Nat) (key : Int) (h : N ≤ 9) : delN L N key ≤ 9 := Nat.le_trans (delN_le L N key) h

/-- What MapDel of entries that are ok makes, and answers. -/
theorem del_all {L : List Int} {N : Nat} (key : Int) (hl : L.length = N * 2) (hok : okM L N = true) :
    okM (delL L N key) (delN L N key) = true ∧ getC L N key = delC L N key ∧ getV L N key = delV L N key ∧ getC (delL L N key) (delN L N key) key = 1 ∧
    (∀ k, k ≠ key → getC (delL L N key) (delN L N key) k = getC L N k ∧ getV (delL L N key) (delN L N key) k = getV L N k) ∧
    ((delC L N key = 1 ∧ delL L N key = L ∧ delN L N key = N) ∨ (delC L N key = 2 ∧ ptL (delL L N key) (delN L N key) key (delV L N key) = L ∧ ptN (delL L N key) (delN L N key) key (delV L N key) = N)) := by
  obtain ⟨h1, h2, h3⟩ := okM_iff.1 hok
  rcases ent_cases key hok with ⟨hB, hi, hk⟩ | ⟨hB, hno⟩
  · have e1 : delL L N key = L.take (entI L N key * 2) ++ L.drop ((entI L N key + 1) * 2) := by simp [delL, hok, hB]
    have e2 : delN L N key = N - 1 := by simp [delN, hok, hB]
    have e3 : delC L N key = 2 := by simp [delC, hok, hB]
    have e4 : delV L N key = valAt L (entI L N key) := by simp [delV, hok, hB]
    generalize entI L N key = i at hi hk e1 e2 e4
    subst hk
    rw [e1, e2, e3, e4]
    have g := get_yes h3 hi rfl
    have c := cut_get hl hok hi
    exact ⟨cut_ok hl hok hi, g.1, g.2, c.1, c.2, .inr ⟨rfl, cut_back hl hok hi⟩⟩
  · have e1 : delL L N key = L := by simp [delL, hok, hB]
    have e2 : delN L N key = N := by simp [delN, hok, hB]
    have e3 : delC L N key = 1 := by simp [delC, hok, hB]
    have e4 : delV L N key = 0 := by simp [delV, hB]
    rw [e1, e2, e3, e4]
    have g := get_no hno
    exact ⟨hok, g.1, g.2, g.1, fun k _ => ⟨rfl, rfl⟩, .inl ⟨rfl, rfl, rfl⟩⟩

set_option maxRecDepth 20000 in
set_option maxHeartbeats 8000000 in
theorem mapDel_walk (a : Option Addr) (n cap : Nat) (w : World) (hs : SBytes w a n) (hc : n ≤ cap) (hm : n ≤ 9223372036854775807) :
    Calls Try.prog 4 #[.slice a n cap] w fun e w' => e = .returned (.bool true) ∧ Below w.heap.size w w' := by
  by_cases hn : n ≤ 1048576
  · have hn' : ¬ (1048576 : Int) < (n : Int) := by omega
    go_enter Try.func4, Try.ntmps4
    go_wp2_with fail
    refine (drawMapDel_any a n cap w hs hc hn).mono ?_
    rintro e w1 ⟨L, N, am, cm, key, rfl, ho1, hN, hb1⟩
    obtain ⟨hNc, hcM⟩ := own2_room ho1
    have HL : Hid (L.length = N * 2) := (own2_sints ho1).1
    have S1 : Hid (SInts (w1.alloc (.cells #[.slice am N cm] 25)) am (N * 2) L ∧ Below w.heap.size w (w1.alloc (.cells #[.slice am N cm] 25)) ∧ (w1.alloc (.cells #[.slice am N cm] 25)).cell? ⟨w1.heap.size, 0, none⟩ = some (.slice am N cm)) := ⟨(own2_sints ho1).below (al1 _ _), below_trans' hb1 (al1 _ _), cell_at w1 _ _ 0 rfl rfl⟩
    clear ho1 hb1 hs
    have himpl : Hid (∀ W, SInts W am (N * 2) L → Calls Try.prog 18 #[.agg #[.slice am N cm], .int .i64 key] W fun e w' => MapRes (delL L N key) (delN L N key) (delC L N key) (delV L N key) e W w') := fun W h => implMapDel_cap am N cm L key W h (by omega) hNc hcM
    have hspec : Hid (∀ W, SInts W am (N * 2) L → Calls Try.prog 19 #[.agg #[.slice am N cm], .int .i64 key] W fun e w' => MapRes (delL L N key) (delN L N key) (delC L N key) (delV L N key) e W w') := fun W h => specMapDel_cap am N cm L key W h (by omega)
    have HA := fun h => del_all key HL.out h
    have HA2 : Hid (okM L N = false → delC L N key = 0 ∧ delN L N key = 0) := fun h => ⟨by simp [delC, h], by simp [delN, h]⟩
    have hn9 := delN_le2 L N key hN
    generalize delL L N key = D at himpl hspec HA
    generalize delN L N key = n' at himpl hspec HA HA2 hn9
    generalize delC L N key = C at himpl hspec HA HA2
    generalize delV L N key = V at himpl hspec HA
    have HALL : Hid (okM L N = true → okM D n' = true ∧ getC L N key = C ∧ getV L N key = V ∧ getC D n' key = 1 ∧ (∀ k, k ≠ key → getC D n' k = getC L N k ∧ getV D n' k = getV L N k) ∧ ((C = 1 ∧ D = L ∧ n' = N) ∨ (C = 2 ∧ ptL D n' key V = L ∧ ptN D n' key V = N))) := HA
    clear HA
    go_wp2_with fail
    refine (himpl.out _ S1.out.1).mono ?_
    rintro e w2 ⟨ax, cx, rfl, hox, hb2⟩
    have hcx := own2_room hox
    obtain ⟨hnx, hcxM⟩ := hcx
    have T2 := below_trans' (al1 w2 (.cells #[.slice ax n' cx] 25)) (al1 _ (.cells #[.int .i64 C, .int .i64 V] 29))
    have P2 : Hid (PD w w1.heap.size am N cm L w2.heap.size ax n' cx D (w2.heap.size + 1) C V ((w2.alloc (.cells #[.slice ax n' cx] 25)).alloc (.cells #[.int .i64 C, .int .i64 V] 29))) :=
      ⟨below_trans' (below_trans' S1.out.2.1 hb2) T2, cell_kept T2 (cell_kept hb2 S1.out.2.2), (S1.out.1.below hb2).below T2, cell_kept (al1 _ _) (cell_at w2 _ _ 0 rfl rfl), (own2_sints hox).below T2, cell_at _ _ _ 0 (by simp) rfl, cell_at _ _ _ 1 (by simp) rfl⟩
    clear S1 hb2 T2 hox himpl
    obtain ⟨p0, p1, p2, p3⟩ := P2.out.cells
    go_wp2_with fail
    refine (hspec.out _ P2.out.s).mono ?_
    generalize ((w2.alloc (.cells #[.slice ax n' cx] 25)).alloc (.cells #[.int .i64 C, .int .i64 V] 29)) = W2 at P2 p0 p1 p2 p3 ⊢
    rintro e w3 ⟨aw, cw, rfl, how, hb3⟩
    have T3 := below_trans' (al1 w3 (.cells #[.slice aw n' cw] 25)) (al1 _ (.cells #[.int .i64 C, .int .i64 V] 29))
    have P3 : Hid (PD w w1.heap.size am N cm L w2.heap.size ax n' cx D (w2.heap.size + 1) C V ((w3.alloc (.cells #[.slice aw n' cw] 25)).alloc (.cells #[.int .i64 C, .int .i64 V] 29)) ∧ SInts ((w3.alloc (.cells #[.slice aw n' cw] 25)).alloc (.cells #[.int .i64 C, .int .i64 V] 29)) aw (n' * 2) D) := ⟨(P2.out.below hb3).below T3, (own2_sints how).below T3⟩
    have q0 := cell_kept (al1 (w3.alloc (.cells #[.slice aw n' cw] 25)) (.cells #[.int .i64 C, .int .i64 V] 29)) (cell_at w3 #[.slice aw n' cw] 25 0 rfl (v := .slice aw n' cw) rfl)
    have q1 := cell_at (w3.alloc (.cells #[.slice aw n' cw] 25)) #[.int .i64 C, .int .i64 V] 29 0 (b := w3.heap.size + 1) (by simp) (v := .int .i64 C) rfl
    have q2 := cell_at (w3.alloc (.cells #[.slice aw n' cw] 25)) #[.int .i64 C, .int .i64 V] 29 1 (b := w3.heap.size + 1) (by simp) (v := .int .i64 V) rfl
    clear P2 hb3 T3 how hspec p0 p1 p2 p3
    obtain ⟨p0, p1, p2, p3⟩ := P3.out.1.cells
    go_wp2_with fail
    refine (tgMap_yes _ _ _ _ _ D _ P3.out.1.sx P3.out.2 (by omega)).mono ?_
    generalize ((w3.alloc (.cells #[.slice aw n' cw] 25)).alloc (.cells #[.int .i64 C, .int .i64 V] 29)) = W3 at P3 p0 p1 p2 p3 q0 q1 q2 ⊢
    rintro e w4 ⟨rfl, hb4⟩
    have P4 : Hid (PD w w1.heap.size am N cm L w2.heap.size ax n' cx D (w2.heap.size + 1) C V w4) := P3.out.1.below hb4
    have r1 := cell_kept hb4 q1
    have r2 := cell_kept hb4 q2
    clear P3 hb4 p0 p1 p2 p3 q0 q1 q2
    obtain ⟨p0, p1, p2, p3⟩ := P4.out.cells
    go_wp2_with fail
    refine (specMapOk_any am N cm L _ P4.out.s (by omega)).mono ?_
    rintro e w5 ⟨rfl, hb5⟩
    have P5 : Hid (PD w w1.heap.size am N cm L w2.heap.size ax n' cx D (w2.heap.size + 1) C V w5) := P4.out.below hb5
    clear P4 hb5 p0 p1 p2 p3 r1 r2
    obtain ⟨p0, p1, p2, p3⟩ := P5.out.cells
    cases hok : okM L N
    · obtain ⟨e1, e2⟩ := HA2.out hok
      clear HALL HA2 hok
      subst e1 e2
      go_wp2_with fail
      refine (tgOk_any _).mono ?_
      rintro e w9 ⟨rfl, hb9⟩
      have HB9 : Hid (Below w.heap.size w w9) := below_trans' P5.out.bel hb9
      clear hb9 P5
      go_wp2
      go_ret
      exact ⟨rfl, HB9.out⟩
    · obtain ⟨hD, hC, hV, hG, hK, hR⟩ := HALL.out hok
      have HX : Hid (okM D n' = true ∧ getC L N key = C ∧ getV L N key = V ∧ getC D n' key = 1 ∧ (∀ k, k ≠ key → getC D n' k = getC L N k ∧ getV D n' k = getV L N k) ∧ ((C = 1 ∧ D = L ∧ n' = N) ∨ (C = 2 ∧ ptL D n' key V = L ∧ ptN D n' key V = N))) := ⟨hD, hC, hV, hG, hK, hR⟩
      clear HALL HA2 hok hD hC hV hG hK hR
      obtain ⟨gv, hgv⟩ : ∃ gv, getV D n' key = gv := ⟨_, rfl⟩
      have HGV : Hid (getV D n' key = gv) := hgv
      have hfd : ∀ (W : World) (u v : Int), (Instr.field 29 (.agg #[.int .i64 u, .int .i64 v]) 0).run Try.prog W = .ok (.int .i64 u) W := fun _ _ _ => by kernel_rfl
      clear hgv
      have P5' : Hid (PD w w1.heap.size am N cm L w2.heap.size ax n' cx D (w2.heap.size + 1) C V w5.drew) := P5.out.below (Below.refl _ _).drew
      go_wp2
      go_region_held_law (fun V' => V'.cell? ⟨w1.heap.size, 0, none⟩ = some (.slice am N cm) ∧ V'.cell? ⟨w2.heap.size, 0, none⟩ = some (.slice ax n' cx) ∧ V'.cell? ⟨w2.heap.size + 1, 0, none⟩ = some (.int .i64 C) ∧ V'.cell? ⟨w2.heap.size + 1, 1, none⟩ = some (.int .i64 V)) (first | (go_keep; done) | exact KP.out) ((first | (go_at_call 13; refine (implMapOk_any ax n' cx D _ P5'.out.sx (by omega)).mono ?_; rintro e w6 ⟨rfl, hb6⟩; rw [HX.out.1]; have P6 : Hid (PD w w1.heap.size am N cm L w2.heap.size ax n' cx D (w2.heap.size + 1) C V w6) := P5'.out.below hb6; have KP : Hid (w6.cell? ⟨w1.heap.size, 0, none⟩ = some (.slice am N cm) ∧ w6.cell? ⟨w2.heap.size, 0, none⟩ = some (.slice ax n' cx) ∧ w6.cell? ⟨w2.heap.size + 1, 0, none⟩ = some (.int .i64 C) ∧ w6.cell? ⟨w2.heap.size + 1, 1, none⟩ = some (.int .i64 V)) := P6.out.cells; clear hb6) | (go_at_call_of 16 (Value.agg #[.slice ax n' cx]); refine (implMapGet_any ax n' cx D key _ P7.out.sx (by omega)).mono ?_; rintro e w8 ⟨rfl, hb8⟩; rw [HX.out.2.2.2.1, HGV.out]; have P8 : Hid (PD w w1.heap.size am N cm L w2.heap.size ax n' cx D (w2.heap.size + 1) C V w8) := P7.out.below hb8; have KP : Hid (w8.cell? ⟨w1.heap.size, 0, none⟩ = some (.slice am N cm) ∧ w8.cell? ⟨w2.heap.size, 0, none⟩ = some (.slice ax n' cx) ∧ w8.cell? ⟨w2.heap.size + 1, 0, none⟩ = some (.int .i64 C) ∧ w8.cell? ⟨w2.heap.size + 1, 1, none⟩ = some (.int .i64 V)) := P8.out.cells; clear hb8) | (go_at_call 16; refine (implMapGet_any am N cm L key _ P6.out.s (by omega)).mono ?_; rintro e w7 ⟨rfl, hb7⟩; rw [HX.out.2.1, HX.out.2.2.1]; have P7 : Hid (PD w w1.heap.size am N cm L w2.heap.size ax n' cx D (w2.heap.size + 1) C V w7) := P6.out.below hb7; have KP : Hid (w7.cell? ⟨w1.heap.size, 0, none⟩ = some (.slice am N cm) ∧ w7.cell? ⟨w2.heap.size, 0, none⟩ = some (.slice ax n' cx) ∧ w7.cell? ⟨w2.heap.size + 1, 0, none⟩ = some (.int .i64 C) ∧ w7.cell? ⟨w2.heap.size + 1, 1, none⟩ = some (.int .i64 V)) := P7.out.cells; clear hb7)))
      clear P5 P5' P6 P7 p0 p1 p2 p3 hfd HGV
      go_wp2
      go_loopw [9] (fun i wr => ∃ k : Nat, k ≤ 100 ∧ i = .int .i64 k ∧ PD w w1.heap.size am N cm L w2.heap.size ax n' cx D (w2.heap.size + 1) C V wr) (fun i _ => 100 - (intOf i).toNat)
      case atStart => exact ⟨0, by omega, rfl, P8.out⟩
      case round =>
        obtain ⟨k, hk, rfl, P⟩ := hrel
        clear P8
        have HP : Hid (PD w w1.heap.size am N cm L w2.heap.size ax n' cx D (w2.heap.size + 1) C V wr) := P
        obtain ⟨p0, p1, p2, p3⟩ := P.cells
        clear P
        by_cases hlt : k ≤ 99
        · have hlti : (k : Int) ≤ 99 := by omega
          by_cases hke : (k : Int) = key
          · have hkb : ((k : Int) == key) = true := by simpa using hke
            subst hke
            go_wp2
            refine wp_region_held_drew (S := fun _ => True) (by kernel_rfl) trivial (fun hHeld => ?_)
            refine wpAnyH_take (i := 0) (oi := ({ dst := some 77, op := Op.move (Operand.tmp 9), type := 3, pos := "laws.go:181", after := #[], guard := none } : Oper)) (v := ?_) rfl (by kernel_rfl) (by kernel_rfl) (by kernel_rfl) (fun _ _ _ h => h) (Or.inl ⟨by rfl, ?_⟩) (by assumption) ?_
            rotate_left
            · (intro wz hSw; (try dsimp only at hSw); go_simp; first | done | with_reducible rfl)
            (try simp only [Act.put, List.setIfInBounds_toArray, List.set_cons_zero, List.set_cons_succ])
            refine wpAnyH_take (i := 1) (oi := ({ dst := some 78, op := Op.move (Operand.tmp 4), type := 3, pos := "laws.go:181", after := #[], guard := none } : Oper)) (v := ?_) rfl (by kernel_rfl) (by kernel_rfl) (by kernel_rfl) (fun _ _ _ h => h) (Or.inl ⟨by rfl, ?_⟩) (by assumption) ?_
            rotate_left
            · (intro wz hSw; (try dsimp only at hSw); go_simp; first | done | with_reducible rfl)
            (try simp only [Act.put, List.setIfInBounds_toArray, List.set_cons_zero, List.set_cons_succ])
            refine wpAnyH_take (i := 2) (oi := ({ dst := some 79, op := Op.binOp BinOp.neq 3 (Operand.tmp 77) (Operand.tmp 78) 3, type := 4, pos := "laws.go:181", after := #[{ on := 0, ground := Ground.data }, { on := 1, ground := Ground.data }], guard := none } : Oper)) (v := ?_) rfl (by kernel_rfl) (by kernel_rfl) (by kernel_rfl) (fun _ _ _ h => h) (Or.inl ⟨by rfl, ?_⟩) (by assumption) ?_
            rotate_left
            · (intro wz hSw; (try dsimp only at hSw); go_simp; first | done | with_reducible rfl)
            (try simp only [Act.put, List.setIfInBounds_toArray, List.set_cons_zero, List.set_cons_succ])
            refine wpAnyH_take (i := 3) (oi := ({ dst := some 80, op := Op.move (Operand.tmp 79), type := 4, pos := "laws.go:181", after := #[{ on := 2, ground := Ground.data }], guard := none } : Oper)) (v := ?_) rfl (by kernel_rfl) (by kernel_rfl) (by kernel_rfl) (fun _ _ _ h => h) (Or.inl ⟨by rfl, ?_⟩) (by assumption) ?_
            rotate_left
            · (intro wz hSw; (try dsimp only at hSw); go_simp; first | done | with_reducible rfl)
            (try simp only [Act.put, List.setIfInBounds_toArray, List.set_cons_zero, List.set_cons_succ])
            refine wpAnyH_take (i := 4) (oi := ({ dst := some 81, op := Op.load 25 (Operand.tmp 5), type := 25, pos := "laws.go:181", after := #[{ on := 3, ground := Ground.guard }], guard := some (3, true) } : Oper)) (v := undef) rfl (by kernel_rfl) (by kernel_rfl) (by kernel_rfl) (fun _ _ _ h => h) (Or.inr ⟨by rfl, rfl⟩) (by assumption) ?_
            (try simp only [Act.put, List.setIfInBounds_toArray, List.set_cons_zero, List.set_cons_succ])
            refine wpAnyH_take (i := 5) (oi := ({ dst := some 82, op := Op.move (Operand.tmp 9), type := 3, pos := "laws.go:181", after := #[{ on := 3, ground := Ground.guard }], guard := some (3, true) } : Oper)) (v := undef) rfl (by kernel_rfl) (by kernel_rfl) (by kernel_rfl) (fun _ _ _ h => h) (Or.inr ⟨by rfl, rfl⟩) (by assumption) ?_
            (try simp only [Act.put, List.setIfInBounds_toArray, List.set_cons_zero, List.set_cons_succ])
            refine wpAnyH_take (i := 6) (oi := ({ dst := some 83, op := Op.call { callee := Callee.value (Operand.func 16), args := #[Operand.tmp 81, Operand.tmp 82], argTypes := #[25, 3] }, type := 29, pos := "laws.go:181", after := #[{ on := 4, ground := Ground.data }, { on := 5, ground := Ground.data }, { on := 3, ground := Ground.chain }, { on := 3, ground := Ground.guard }], guard := some (3, true) } : Oper)) (v := undef) rfl (by kernel_rfl) (by kernel_rfl) (by kernel_rfl) (fun _ _ _ h => h) (Or.inr ⟨by rfl, rfl⟩) (by assumption) ?_
            (try simp only [Act.put, List.setIfInBounds_toArray, List.set_cons_zero, List.set_cons_succ])
            refine wpAnyH_take (i := 7) (oi := ({ dst := some 84, op := Op.load 25 (Operand.tmp 3), type := 25, pos := "laws.go:181", after := #[{ on := 3, ground := Ground.guard }], guard := some (3, true) } : Oper)) (v := undef) rfl (by kernel_rfl) (by kernel_rfl) (by kernel_rfl) (fun _ _ _ h => h) (Or.inr ⟨by rfl, rfl⟩) (by assumption) ?_
            (try simp only [Act.put, List.setIfInBounds_toArray, List.set_cons_zero, List.set_cons_succ])
            refine wpAnyH_take (i := 8) (oi := ({ dst := some 85, op := Op.move (Operand.tmp 9), type := 3, pos := "laws.go:181", after := #[{ on := 3, ground := Ground.guard }], guard := some (3, true) } : Oper)) (v := undef) rfl (by kernel_rfl) (by kernel_rfl) (by kernel_rfl) (fun _ _ _ h => h) (Or.inr ⟨by rfl, rfl⟩) (by assumption) ?_
            (try simp only [Act.put, List.setIfInBounds_toArray, List.set_cons_zero, List.set_cons_succ])
            refine wpAnyH_take (i := 9) (oi := ({ dst := some 86, op := Op.call { callee := Callee.value (Operand.func 16), args := #[Operand.tmp 84, Operand.tmp 85], argTypes := #[25, 3] }, type := 29, pos := "laws.go:181", after := #[{ on := 7, ground := Ground.data }, { on := 8, ground := Ground.data }, { on := 6, ground := Ground.chain }, { on := 3, ground := Ground.guard }], guard := some (3, true) } : Oper)) (v := undef) rfl (by kernel_rfl) (by kernel_rfl) (by kernel_rfl) (fun _ _ _ h => h) (Or.inr ⟨by rfl, rfl⟩) (by assumption) ?_
            (try simp only [Act.put, List.setIfInBounds_toArray, List.set_cons_zero, List.set_cons_succ])
            refine wpAnyH_take (i := 10) (oi := ({ dst := some 87, op := Op.binOp BinOp.neq 29 (Operand.tmp 83) (Operand.tmp 86) 29, type := 4, pos := "laws.go:181", after := #[{ on := 6, ground := Ground.data }, { on := 9, ground := Ground.data }, { on := 3, ground := Ground.guard }], guard := some (3, true) } : Oper)) (v := undef) rfl (by kernel_rfl) (by kernel_rfl) (by kernel_rfl) (fun _ _ _ h => h) (Or.inr ⟨by rfl, rfl⟩) (by assumption) ?_
            (try simp only [Act.put, List.setIfInBounds_toArray, List.set_cons_zero, List.set_cons_succ])
            refine wpAnyH_take (i := 11) (oi := ({ dst := some 88, op := Op.pick (Operand.tmp 80) (Operand.tmp 87) (Operand.const (Value.bool false)), type := 4, pos := "laws.go:181", after := #[{ on := 3, ground := Ground.data }, { on := 10, ground := Ground.data }], guard := none } : Oper)) (v := ?_) rfl (by kernel_rfl) (by kernel_rfl) (by kernel_rfl) (fun _ _ _ h => h) (Or.inl ⟨by rfl, ?_⟩) (by assumption) ?_
            rotate_left
            · (intro wz hSw; (try dsimp only at hSw); go_simp; first | done | with_reducible rfl)
            (try simp only [Act.put, List.setIfInBounds_toArray, List.set_cons_zero, List.set_cons_succ])
            refine wpAnyH_done (by kernel_rfl) ?_ _
            go_wp2
            go_roundw
            case rel => exact ⟨k + 1, by omega, by go_num, HP.out.below (Below.refl _ _).drew⟩
            case measure => simp [intOf]; omega
          · have hkb : ((k : Int) == key) = false := by simpa using hke
            obtain ⟨c1, hc1⟩ : ∃ c, getC L N k = c := ⟨_, rfl⟩
            obtain ⟨c2, hc2⟩ : ∃ c, getV L N k = c := ⟨_, rfl⟩
            have HE : Hid (getC L N k = c1 ∧ getV L N k = c2 ∧ getC D n' k = c1 ∧ getV D n' k = c2) := ⟨hc1, hc2, (HX.out.2.2.2.2.1 k hke).1.trans hc1, (HX.out.2.2.2.2.1 k hke).2.trans hc2⟩
            have HP' : Hid (PD w w1.heap.size am N cm L w2.heap.size ax n' cx D (w2.heap.size + 1) C V wr.drew) := HP.out.below (Below.refl _ _).drew
            clear hc1 hc2
            go_wp2
            refine wp_region_held_drew (S := (fun V' => V'.cell? ⟨w1.heap.size, 0, none⟩ = some (.slice am N cm) ∧ V'.cell? ⟨w2.heap.size, 0, none⟩ = some (.slice ax n' cx) ∧ V'.cell? ⟨w2.heap.size + 1, 0, none⟩ = some (.int .i64 C) ∧ V'.cell? ⟨w2.heap.size + 1, 1, none⟩ = some (.int .i64 V))) (by kernel_rfl) HP'.out.cells (fun hHeld => ?_)
            clear p0 p1 p2 p3
            refine wpAnyH_take (i := 0) (oi := ({ dst := some 77, op := Op.move (Operand.tmp 9), type := 3, pos := "laws.go:181", after := #[], guard := none } : Oper)) (v := ?_) rfl (by kernel_rfl) (by kernel_rfl) (by kernel_rfl) (fun _ _ _ h => h) (Or.inl ⟨by rfl, ?_⟩) (by assumption) ?_
            rotate_left
            · (intro wz hSw; (try dsimp only at hSw); go_simp; first | done | with_reducible rfl)
            (try simp only [Act.put, List.setIfInBounds_toArray, List.set_cons_zero, List.set_cons_succ])
            refine wpAnyH_take (i := 1) (oi := ({ dst := some 78, op := Op.move (Operand.tmp 4), type := 3, pos := "laws.go:181", after := #[], guard := none } : Oper)) (v := ?_) rfl (by kernel_rfl) (by kernel_rfl) (by kernel_rfl) (fun _ _ _ h => h) (Or.inl ⟨by rfl, ?_⟩) (by assumption) ?_
            rotate_left
            · (intro wz hSw; (try dsimp only at hSw); go_simp; first | done | with_reducible rfl)
            (try simp only [Act.put, List.setIfInBounds_toArray, List.set_cons_zero, List.set_cons_succ])
            refine wpAnyH_take (i := 2) (oi := ({ dst := some 79, op := Op.binOp BinOp.neq 3 (Operand.tmp 77) (Operand.tmp 78) 3, type := 4, pos := "laws.go:181", after := #[{ on := 0, ground := Ground.data }, { on := 1, ground := Ground.data }], guard := none } : Oper)) (v := .bool true) rfl (by kernel_rfl) (by kernel_rfl) (by kernel_rfl) (fun _ _ _ h => h) (Or.inl ⟨by rfl, ?_⟩) (by assumption) ?_
            · (intro wz hSw; (try dsimp only at hSw); go_simp; first | done | simp [hke])
            (try simp only [Act.put, List.setIfInBounds_toArray, List.set_cons_zero, List.set_cons_succ])
            refine wpAnyH_take (i := 3) (oi := ({ dst := some 80, op := Op.move (Operand.tmp 79), type := 4, pos := "laws.go:181", after := #[{ on := 2, ground := Ground.data }], guard := none } : Oper)) (v := ?_) rfl (by kernel_rfl) (by kernel_rfl) (by kernel_rfl) (fun _ _ _ h => h) (Or.inl ⟨by rfl, ?_⟩) (by assumption) ?_
            rotate_left
            · (intro wz hSw; (try dsimp only at hSw); go_simp; first | done | with_reducible rfl)
            (try simp only [Act.put, List.setIfInBounds_toArray, List.set_cons_zero, List.set_cons_succ])
            refine wpAnyH_take (i := 4) (oi := ({ dst := some 81, op := Op.load 25 (Operand.tmp 5), type := 25, pos := "laws.go:181", after := #[{ on := 3, ground := Ground.guard }], guard := some (3, true) } : Oper)) (v := ?_) rfl (by kernel_rfl) (by kernel_rfl) (by kernel_rfl) (fun _ _ _ h => h) (Or.inl ⟨by rfl, ?_⟩) (by assumption) ?_
            rotate_left
            · (intro wz hSw; (try dsimp only at hSw); go_simp; first | done | with_reducible rfl)
            (try simp only [Act.put, List.setIfInBounds_toArray, List.set_cons_zero, List.set_cons_succ])
            refine wpAnyH_take (i := 5) (oi := ({ dst := some 82, op := Op.move (Operand.tmp 9), type := 3, pos := "laws.go:181", after := #[{ on := 3, ground := Ground.guard }], guard := some (3, true) } : Oper)) (v := ?_) rfl (by kernel_rfl) (by kernel_rfl) (by kernel_rfl) (fun _ _ _ h => h) (Or.inl ⟨by rfl, ?_⟩) (by assumption) ?_
            rotate_left
            · (intro wz hSw; (try dsimp only at hSw); go_simp; first | done | with_reducible rfl)
            (try simp only [Act.put, List.setIfInBounds_toArray, List.set_cons_zero, List.set_cons_succ])
            refine wpAnyH_take (i := 7) (oi := ({ dst := some 84, op := Op.load 25 (Operand.tmp 3), type := 25, pos := "laws.go:181", after := #[{ on := 3, ground := Ground.guard }], guard := some (3, true) } : Oper)) (v := ?_) rfl (by kernel_rfl) (by kernel_rfl) (by kernel_rfl) (fun _ _ _ h => h) (Or.inl ⟨by rfl, ?_⟩) (by assumption) ?_
            rotate_left
            · (intro wz hSw; (try dsimp only at hSw); go_simp; first | done | with_reducible rfl)
            (try simp only [Act.put, List.setIfInBounds_toArray, List.set_cons_zero, List.set_cons_succ])
            refine wpAnyH_take (i := 8) (oi := ({ dst := some 85, op := Op.move (Operand.tmp 9), type := 3, pos := "laws.go:181", after := #[{ on := 3, ground := Ground.guard }], guard := some (3, true) } : Oper)) (v := ?_) rfl (by kernel_rfl) (by kernel_rfl) (by kernel_rfl) (fun _ _ _ h => h) (Or.inl ⟨by rfl, ?_⟩) (by assumption) ?_
            rotate_left
            · (intro wz hSw; (try dsimp only at hSw); go_simp; first | done | with_reducible rfl)
            (try simp only [Act.put, List.setIfInBounds_toArray, List.set_cons_zero, List.set_cons_succ])
            refine wpAnyH_ready (rs := [6]) (by kernel_rfl) (by simp) ?_
            refine AllReadyH.cons (o := ({ dst := some 83, op := Op.call { callee := Callee.value (Operand.func 16), args := #[Operand.tmp 81, Operand.tmp 82], argTypes := #[25, 3] }, type := 29, pos := "laws.go:181", after := #[{ on := 4, ground := Ground.data }, { on := 5, ground := Ground.data }, { on := 3, ground := Ground.chain }, { on := 3, ground := Ground.guard }], guard := some (3, true) } : Oper)) rfl (fun K hK => ?_) AllReadyH.nil
            clear hHeld
            go_simp
            go_wp2_with (go_at_call 16; refine (implMapGet_any ax n' cx D k _ HP'.out.sx (by omega)).mono ?_; rintro e w6 ⟨rfl, hb6⟩; rw [HE.out.2.2.1, HE.out.2.2.2]; have Q6 : Hid (PD w w1.heap.size am N cm L w2.heap.size ax n' cx D (w2.heap.size + 1) C V w6) := HP'.out.below hb6; have KP : Hid (w6.cell? ⟨w1.heap.size, 0, none⟩ = some (.slice am N cm) ∧ w6.cell? ⟨w2.heap.size, 0, none⟩ = some (.slice ax n' cx) ∧ w6.cell? ⟨w2.heap.size + 1, 0, none⟩ = some (.int .i64 C) ∧ w6.cell? ⟨w2.heap.size + 1, 1, none⟩ = some (.int .i64 V)) := Q6.out.cells; clear hb6)
            refine hK.out _ _ ?_ (fun hHeld => ?_)
            · exact KP.out
            clear hK K KP
            (try simp only [Act.put, List.setIfInBounds_toArray, List.set_cons_zero, List.set_cons_succ])
            refine wpAnyH_ready (rs := [9]) (by kernel_rfl) (by simp) ?_
            refine AllReadyH.cons (o := ({ dst := some 86, op := Op.call { callee := Callee.value (Operand.func 16), args := #[Operand.tmp 84, Operand.tmp 85], argTypes := #[25, 3] }, type := 29, pos := "laws.go:181", after := #[{ on := 7, ground := Ground.data }, { on := 8, ground := Ground.data }, { on := 6, ground := Ground.chain }, { on := 3, ground := Ground.guard }], guard := some (3, true) } : Oper)) rfl (fun K hK => ?_) AllReadyH.nil
            clear hHeld
            go_simp
            go_wp2_with (go_at_call 16; refine (implMapGet_any am N cm L k _ Q6.out.s (by omega)).mono ?_; rintro e w7 ⟨rfl, hb7⟩; rw [HE.out.1, HE.out.2.1]; have Q7 : Hid (PD w w1.heap.size am N cm L w2.heap.size ax n' cx D (w2.heap.size + 1) C V w7) := Q6.out.below hb7; have KP : Hid (w7.cell? ⟨w1.heap.size, 0, none⟩ = some (.slice am N cm) ∧ w7.cell? ⟨w2.heap.size, 0, none⟩ = some (.slice ax n' cx) ∧ w7.cell? ⟨w2.heap.size + 1, 0, none⟩ = some (.int .i64 C) ∧ w7.cell? ⟨w2.heap.size + 1, 1, none⟩ = some (.int .i64 V)) := Q7.out.cells; clear hb7)
            refine hK.out _ _ ?_ (fun hHeld => ?_)
            · exact KP.out
            clear hK K KP
            (try simp only [Act.put, List.setIfInBounds_toArray, List.set_cons_zero, List.set_cons_succ])
            refine wpAnyH_take (i := 10) (oi := ({ dst := some 87, op := Op.binOp BinOp.neq 29 (Operand.tmp 83) (Operand.tmp 86) 29, type := 4, pos := "laws.go:181", after := #[{ on := 6, ground := Ground.data }, { on := 9, ground := Ground.data }, { on := 3, ground := Ground.guard }], guard := some (3, true) } : Oper)) (v := .bool false) rfl (by kernel_rfl) (by kernel_rfl) (by kernel_rfl) (fun _ _ _ h => h) (Or.inl ⟨by rfl, ?_⟩) (by assumption) ?_
            · (intro wz hSw; (try dsimp only at hSw); go_simp; first | done | simp)
            (try simp only [Act.put, List.setIfInBounds_toArray, List.set_cons_zero, List.set_cons_succ])
            refine wpAnyH_take (i := 11) (oi := ({ dst := some 88, op := Op.pick (Operand.tmp 80) (Operand.tmp 87) (Operand.const (Value.bool false)), type := 4, pos := "laws.go:181", after := #[{ on := 3, ground := Ground.data }, { on := 10, ground := Ground.data }], guard := none } : Oper)) (v := ?_) rfl (by kernel_rfl) (by kernel_rfl) (by kernel_rfl) (fun _ _ _ h => h) (Or.inl ⟨by rfl, ?_⟩) (by assumption) ?_
            rotate_left
            · (intro wz hSw; (try dsimp only at hSw); go_simp; first | done | with_reducible rfl)
            (try simp only [Act.put, List.setIfInBounds_toArray, List.set_cons_zero, List.set_cons_succ])
            refine wpAnyH_done (by kernel_rfl) ?_ _
            clear HP HP' Q6
            go_wp2
            go_roundw
            case rel => exact ⟨k + 1, by omega, by go_num, Q7.out⟩
            case measure => simp [intOf]; omega
        · have hlti : ¬ (k : Int) ≤ 99 := by omega
          rcases HX.out.2.2.2.2.2 with ⟨e1, e2, e3⟩ | ⟨e1, e2, e3⟩
          · clear HX
            subst e1 e2 e3
            go_wp2_with fail
            refine (tgMap_yes _ _ _ _ _ D _ HP.out.sx HP.out.s (by omega)).mono ?_
            rintro e w9 ⟨rfl, hb9⟩
            have HB9 : Hid (Below w.heap.size w w9) := below_trans' HP.out.bel hb9
            clear hb9 HP
            go_wp2
            go_ret
            exact ⟨rfl, HB9.out⟩
          · have HPT : Hid (ptL D n' key V = L ∧ ptN D n' key V = N) := ⟨e2, e3⟩
            clear HX e2 e3
            subst e1
            go_wp2_with fail
            refine (implMapPut_cap ax n' cx D key V _ HP.out.sx (by omega) hnx hcxM).mono ?_
            rintro e w9 ⟨ay, cy, rfl, hoy, hb9⟩
            rw [HPT.out.1, HPT.out.2] at *
            obtain ⟨pc, hpc⟩ : ∃ pc, ptC D n' key V = pc := ⟨_, rfl⟩
            rw [hpc]
            clear hpc
            have T9 := below_trans' (al1 w9 (.cells #[.slice ay N cy] 25)) (al1 _ (.cells #[.int .i64 pc, .int .i64 0] 29))
            have P9 : Hid (PD w w1.heap.size am N cm L w2.heap.size ax n' cx D (w2.heap.size + 1) 2 V ((w9.alloc (.cells #[.slice ay N cy] 25)).alloc (.cells #[.int .i64 pc, .int .i64 0] 29)) ∧ SInts ((w9.alloc (.cells #[.slice ay N cy] 25)).alloc (.cells #[.int .i64 pc, .int .i64 0] 29)) ay (N * 2) L) := ⟨(HP.out.below hb9).below T9, (own2_sints hoy).below T9⟩
            have q0 := cell_kept (al1 (w9.alloc (.cells #[.slice ay N cy] 25)) (.cells #[.int .i64 pc, .int .i64 0] 29)) (cell_at w9 #[.slice ay N cy] 25 0 rfl (v := .slice ay N cy) rfl)
            clear HP hb9 T9 hoy p0 p1 p2 p3
            obtain ⟨p0, p1, p2, p3⟩ := P9.out.1.cells
            go_wp2_with fail
            refine (tgMap_yes _ _ _ _ _ L _ P9.out.2 P9.out.1.s (by omega)).mono ?_
            rintro e w10 ⟨rfl, hb10⟩
            have HB9 : Hid (Below w.heap.size w w10) := below_trans' P9.out.1.bel hb10
            clear hb10 P9
            go_wp2
            go_ret
            exact ⟨rfl, HB9.out⟩
  · have hn' : (1048576 : Int) < (n : Int) := by omega
    clear hs
    go_enter Try.func4, Try.ntmps4
    go_wp2
    go_ret
    exact ⟨rfl, Below.refl _ _⟩

set_option maxRecDepth 100000 in
theorem mapDel_lifted (os : Os) (started : os.Started) (H : Type) (enc : TypeId × Value → H) :
    ReturnsInHanded {} Try.checked os 4 .any (Rows.fnMapDelSpec.pre6 enc Try.prog Try.f4 Rows.fnMapDelRow.domain false) (Rows.fnMapDelSpec.post enc Try.prog Try.f4 false true false false) := by
  refine returnsInHanded_of_change (C := Try.checked) own started (by kernel_rfl) Try.func4
    (ChangeSpec.witness6 (enc := enc) (C := Try.checked) false ⟨#[], #[.slice none 0 0], []⟩ 8 (by kernel_rfl) (by kernel_rfl) (by kernel_rfl) (by kernel_rfl)) ?_
  intro W base args ds gs before hval0 hW hcnd _
  have hval : ∀ (j : Nat) t v, Try.f4.params[j]? = some t → args[j]? = some v → Value.okWide Try.prog W .any base t v := hval0
  have hW' := hW
  obtain ⟨p, q, hA0, hV, rfl, hfz, hnd⟩ := hW
  have hA : DataW.TrodAll enc Try.prog W 0 (fun _ => true) true Try.f4.params.toList args.toList ds p := hA0
  rw [Try.params4] at hA hval
  obtain ⟨v0, vs0, d0, ds0, p0, q0, hargs, rfl, rfl, h0, r0⟩ := trodAll_cons hA
  obtain ⟨rfl, rfl, rfl⟩ := trodAll_nil r0
  obtain rfl : args = #[v0] := by cases args; simp_all
  obtain ⟨rfl, rfl⟩ := trodVars_none hV
  obtain ⟨a0, len0, cap0, rfl⟩ := okWide_slice Try.underlying22 (hval 0 22 v0 rfl rfl)
  have k0 := h0
  have lt0 : ∀ x ∈ p0, x.block < W.heap.size := by obtain ⟨m, hm⟩ := k0; exact DataW.trod_lt m _ _ _ hm
  obtain ⟨hs, hc, hm⟩ := sbytes_of_open h0
  clear hA0 hval0
  refine (mapDel_walk a0 len0 cap0 W hs hc hm).mono fun e W' ⟨he, bel⟩ => ?_
  subst he
  exact ⟨_, rfl, _, _, _, [], _, [], hW', trodAll_mk1 (shut_bool Try.underlying4 _), (trodAll_cons_mk (Below.trod laidOut (by kernel_rfl) (of_decide_eq_true (by kernel_rfl)) k0 bel lt0) trodAll_mk0), rfl, bel.frame _, fun h => by cases h⟩

theorem mapDel_holds : Rows.FnMapDelSaid :=
  OpenClaim.holds_of_wide 4 Try.f4 rfl rfl rfl rfl rfl rfl rfl ⟨rfl, rfl, rfl, rfl, rfl⟩ rfl rfl rfl rfl rfl (by kernel_rfl) Try.func4 (by kernel_rfl)
    (of_decide_eq_true (by kernel_rfl)) (by unfold Func.isWrapper; first | (rw [if_pos (by decide +kernel)]; kernel_rfl) | (rw [if_neg (by decide +kernel)]; exact ⟨rfl, rfl⟩))
    (fun os started H enc _ => mapDel_lifted os started H enc)

#print axioms mapDel_holds

end Go.Proofs.Ytkfamlbalgolmaa
