/- Several texts in one: OkS5, OkS6, OkI. -/
import Derived.Test.YtklpdpdjblakgaaGr4
import Derived.Deep.RegionHeldLaw
/- OkS5 -/
namespace Go.Proofs.Ytklpdpdjblakgaa
open Go.RowKit
set_option linter.unusedVariables false
set_option linter.unusedSimpArgs false

theorem BoxA.cells {W : World} {g : Nat} {a : Option Addr} {n cap : Nat} {t f l : Int} (h : BoxA W g a n cap t f l) : W.cell? ⟨g, 0, none⟩ = some (.slice a n cap) ∧ W.cell? ⟨g, 1, none⟩ = some (.int .i64 t) ∧ W.cell? ⟨g, 2, none⟩ = some (.int .i64 f) ∧ W.cell? ⟨g, 3, none⟩ = some (.int .i64 l) := ⟨h.c0, h.c1, h.c2, h.c3⟩
theorem below_from {B g : Nat} {w w1 w2 : World} (h : Below B w w1) (k : Below g w1 w2) (hg : B ≤ g) : Below B w w2 :=
  h.trans (k.mono hg)

set_option maxRecDepth 20000 in
set_option maxHeartbeats 4000000 in
theorem specArnOk_ok (b off cap : Nat) (ns : List Nd) (t f l : Int) (w : World) (hs : SNodes w (some ⟨b, off, none⟩) 10 ns) (hsh : shapeB ns t f l = true) (C S Q : List Int) (eC : pathOf begC ns t f l = C) (eS : pathOf begS ns t f l = S) (eQ : pathOf begQ ns t f l = Q) :
    Calls Try.prog 51 #[.agg #[.slice (some ⟨b, off, none⟩) 10 cap, .int .i64 t, .int .i64 f, .int .i64 l]] w fun e w' => e = .returned (.bool (okL3 ns l C S Q)) ∧ Below w.heap.size w w' := by
  obtain ⟨_, _, _, h4, h5, _⟩ := shapeB_parts hsh
  have HP : Hid ((placesB C ∧ C.length ≤ 9) ∧ (placesB S ∧ S.length ≤ 9) ∧ (placesB Q ∧ Q.length ≤ 9)) := ⟨eC ▸ path_places (begC_in ns t f l), eS ▸ path_places (p := begS) h4, eQ ▸ path_places (p := begQ) (inP_inB h5)⟩
  have hc := specArnChain_any (some ⟨b, off, none⟩) 10 cap ns t f l
  have hst := specArnStacked_any (some ⟨b, off, none⟩) 10 cap ns t f l
  have hq := specArnQueued_any (some ⟨b, off, none⟩) 10 cap ns t f l
  rw [eC] at hc
  rw [eS] at hst
  rw [eQ] at hq
  clear h4 h5 eC eS eQ
  obtain ⟨nC, lC⟩ : ∃ n, C.length = n := ⟨_, rfl⟩
  obtain ⟨nS, lS⟩ : ∃ n, S.length = n := ⟨_, rfl⟩
  obtain ⟨nQ, lQ⟩ : ∃ n, Q.length = n := ⟨_, rfl⟩
  have HL : Hid ((C.length = nC ∧ S.length = nS ∧ Q.length = nQ) ∧ nC ≤ 9 ∧ nS ≤ 9 ∧ nQ ≤ 9) := ⟨⟨lC, lS, lQ⟩, lC ▸ HP.out.1.2, lS ▸ HP.out.2.1.2, lQ ▸ HP.out.2.2.2⟩
  have A := al1 w (.cells #[.slice (some ⟨b, off, none⟩) 10 cap, .int .i64 t, .int .i64 f, .int .i64 l] 43)
  have bx := boxA_new w (some ⟨b, off, none⟩) 10 cap t f l 43 rfl
  go_enter Try.func51, Try.ntmps51
  go_wp2_with fail
  refine (l2Shape_any _ _ _ ns t f l _ (hs.below A) (by omega)).mono ?_
  rintro e w1 ⟨rfl, hb1⟩
  have hA1 := below_trans' A hb1
  have bx1 := bx.below hb1
  have p0 := bx1.c0
  have p1 := bx1.c1
  have p2 := bx1.c2
  have p3 := bx1.c3
  rw [hsh]
  clear hb1 bx A hsh
  go_wp2_with fail
  refine (hc _ (hs.below hA1) (by omega)).mono ?_
  rintro e w2 ⟨aC, cC, rfl, ho2, hb2⟩
  rw [lC] at ho2 ⊢
  have hA2 := below_trans' hA1 hb2
  have bx2 := bx1.below hb2
  have sC := own_sints ho2
  clear p0 p1 p2 p3 bx1 hb2 ho2 hc
  have p0 := bx2.c0
  have p1 := bx2.c1
  have p2 := bx2.c2
  have p3 := bx2.c3
  go_wp2_with fail
  refine (hst _ (hs.below hA2) (by omega)).mono ?_
  rintro e w3 ⟨aS, cS, rfl, ho3, hb3⟩
  rw [lS] at ho3 ⊢
  have hA3 := below_trans' hA2 hb3
  have bx3 := bx2.below hb3
  have sS := own_sints ho3
  have sC3 := sC.below hb3
  clear p0 p1 p2 p3 bx2 hb3 ho3 hst sC
  have p0 := bx3.c0
  have p1 := bx3.c1
  have p2 := bx3.c2
  have p3 := bx3.c3
  go_wp2_with fail
  refine (hq _ (hs.below hA3) (by omega)).mono ?_
  rintro e W ⟨aQ, cQ, rfl, ho4, hb4⟩
  rw [lQ] at ho4 ⊢
  have hA4 := below_trans' hA3 hb4
  have HX : Hid (BoxA W w.heap.size (some ⟨b, off, none⟩) 10 cap t f l ∧ SNodes W (some ⟨b, off, none⟩) 10 ns ∧ SInts W aC nC C ∧ SInts W aS nS S ∧ SInts W aQ nQ Q ∧ Below w.heap.size w W) := ⟨bx3.below hb4, hs.below hA4, sC3.below hb4, sS.below hb4, own_sints ho4, hA4⟩
  clear p0 p1 p2 p3 bx3 hb4 ho4 hq sC3 sS hA1 hA2 hA3 hA4 hs lC lS lQ
  have p0 := HX.out.1.c0
  have p1 := HX.out.1.c1
  have p2 := HX.out.1.c2
  have p3 := HX.out.1.c3
  go_wp2
  have HB0 : Below W.heap.size W (W.drew.alloc (.cells #[] 3)) := below_trans' (Below.refl _ _).drew (al1 _ _)
  refine wp_region_held_drew (S := (fun w' => w'.cell? ⟨w.heap.size, 0, none⟩ = some (.slice (some ⟨b, off, none⟩) 10 cap) ∧ w'.cell? ⟨w.heap.size, 1, none⟩ = some (.int .i64 t) ∧ w'.cell? ⟨w.heap.size, 2, none⟩ = some (.int .i64 f) ∧ w'.cell? ⟨w.heap.size, 3, none⟩ = some (.int .i64 l))) (by kernel_rfl) ?_ (fun hHeld => ?_)
  · exact ⟨p0, p1, p2, p3⟩
  clear p0 p1 p2 p3
  refine wpAnyH_take (i := 0) (oi := ({ dst := some 16, op := Op.load 43 (Operand.tmp 1), type := 43, pos := "l2_arena.go:135", after := #[], guard := none } : Oper)) (v := ?_) rfl (by kernel_rfl) (by kernel_rfl) (by kernel_rfl) (fun _ _ _ h => h) (Or.inl ⟨by rfl, ?_⟩) (by assumption) ?_
  rotate_left
  · (intro wz hSw; (try dsimp only at hSw); go_simp; first | done | with_reducible rfl)
  (try simp only [Act.put, List.setIfInBounds_toArray, List.set_cons_zero, List.set_cons_succ])
  refine wpAnyH_take (i := 1) (oi := ({ dst := some 17, op := Op.move (Operand.tmp 3), type := 37, pos := "l2_arena.go:135", after := #[], guard := none } : Oper)) (v := ?_) rfl (by kernel_rfl) (by kernel_rfl) (by kernel_rfl) (fun _ _ _ h => h) (Or.inl ⟨by rfl, ?_⟩) (by assumption) ?_
  rotate_left
  · (intro wz hSw; (try dsimp only at hSw); go_simp; first | done | with_reducible rfl)
  (try simp only [Act.put, List.setIfInBounds_toArray, List.set_cons_zero, List.set_cons_succ])
  have KP0 := (HX.out.1.below HB0).cells
  refine wpAnyH_ready (rs := [2]) (by kernel_rfl) (by simp) ?_
  refine AllReadyH.cons (o := ({ dst := some 18, op := Op.buildSlice 37 0 #[], type := 37, pos := "l2_arena.go:135", after := #[], guard := none } : Oper)) rfl (fun K hK => ?_) AllReadyH.nil
  clear hHeld
  go_simp
  refine hK.out _ _ KP0 (fun hHeld => ?_)
  clear hK K KP0
  (try simp only [Act.put, List.setIfInBounds_toArray, List.set_cons_zero, List.set_cons_succ])
  refine wpAnyH_ready (rs := [3]) (by kernel_rfl) (by simp) ?_
  refine AllReadyH.cons (o := ({ dst := some 19, op := Op.call { callee := Callee.value (Operand.func 72), args := #[Operand.tmp 16, Operand.tmp 17, Operand.tmp 18], argTypes := #[43, 37, 37] }, type := 4, pos := "l2_arena.go:135", after := #[{ on := 0, ground := Ground.data }, { on := 1, ground := Ground.data }, { on := 2, ground := Ground.data }], guard := none } : Oper)) rfl (fun K hK => ?_) AllReadyH.nil
  clear hHeld
  go_simp
  go_wp2_with (go_at_call 72; refine (l2Ends_any b off cap ns t f l aC nC cC C _ 0 0 [] _ (HX.out.2.1.below HB0) (HX.out.2.2.1.below HB0) ⟨rfl, .inl rfl⟩ (by have := HL.out; omega) (by omega) HP.out.1.1).mono ?_; rintro e w1 ⟨rfl, hb1⟩; rw [show (usedB ns C [] && endB ns C) = endsB ns C [] from rfl]; have HB : Hid (Below W.heap.size W w1) := below_trans' HB0 hb1; have KP : Hid (w1.cell? ⟨w.heap.size, 0, none⟩ = some (.slice (some ⟨b, off, none⟩) 10 cap) ∧ w1.cell? ⟨w.heap.size, 1, none⟩ = some (.int .i64 t) ∧ w1.cell? ⟨w.heap.size, 2, none⟩ = some (.int .i64 f) ∧ w1.cell? ⟨w.heap.size, 3, none⟩ = some (.int .i64 l)) := (HX.out.1.below HB.out).cells; clear hb1 HB0)
  refine hK.out _ _ ?_ (fun hHeld => ?_)
  · exact KP.out
  clear hK K
  (try simp only [Act.put, List.setIfInBounds_toArray, List.set_cons_zero, List.set_cons_succ])
  cases hE1 : endsB ns C []
  · have E1 : Hid (endsB ns C [] = false) := hE1
    clear hE1
    refine wpAnyH_take (i := 4) (oi := ({ dst := some 20, op := Op.unOp UnOp.not 4 (Operand.tmp 19), type := 4, pos := "l2_arena.go:135", after := #[{ on := 3, ground := Ground.data }], guard := none } : Oper)) (v := ?_) rfl (by kernel_rfl) (by kernel_rfl) (by kernel_rfl) (fun _ _ _ h => h) (Or.inl ⟨by rfl, ?_⟩) (by assumption) ?_
    rotate_left
    · (intro wz hSw; (try dsimp only at hSw); go_simp; first | done | with_reducible rfl)
    (try simp only [Act.put, List.setIfInBounds_toArray, List.set_cons_zero, List.set_cons_succ])
    refine wpAnyH_take (i := 5) (oi := ({ dst := some 21, op := Op.move (Operand.tmp 20), type := 4, pos := "l2_arena.go:135", after := #[{ on := 4, ground := Ground.data }, { on := 3, ground := Ground.chain }], guard := none } : Oper)) (v := ?_) rfl (by kernel_rfl) (by kernel_rfl) (by kernel_rfl) (fun _ _ _ h => h) (Or.inl ⟨by rfl, ?_⟩) (by assumption) ?_
    rotate_left
    · (intro wz hSw; (try dsimp only at hSw); go_simp; first | done | with_reducible rfl)
    (try simp only [Act.put, List.setIfInBounds_toArray, List.set_cons_zero, List.set_cons_succ])
    refine wpAnyH_take (i := 6) (oi := ({ dst := some 22, op := Op.load 43 (Operand.tmp 1), type := 43, pos := "l2_arena.go:135", after := #[{ on := 5, ground := Ground.guard }], guard := some (5, false) } : Oper)) (v := undef) rfl (by kernel_rfl) (by kernel_rfl) (by kernel_rfl) (fun _ _ _ h => h) (Or.inr ⟨by rfl, rfl⟩) (by assumption) ?_
    (try simp only [Act.put, List.setIfInBounds_toArray, List.set_cons_zero, List.set_cons_succ])
    refine wpAnyH_take (i := 7) (oi := ({ dst := some 23, op := Op.move (Operand.tmp 4), type := 37, pos := "l2_arena.go:135", after := #[{ on := 5, ground := Ground.guard }], guard := some (5, false) } : Oper)) (v := undef) rfl (by kernel_rfl) (by kernel_rfl) (by kernel_rfl) (fun _ _ _ h => h) (Or.inr ⟨by rfl, rfl⟩) (by assumption) ?_
    (try simp only [Act.put, List.setIfInBounds_toArray, List.set_cons_zero, List.set_cons_succ])
    refine wpAnyH_take (i := 8) (oi := ({ dst := some 24, op := Op.move (Operand.tmp 3), type := 37, pos := "l2_arena.go:135", after := #[{ on := 5, ground := Ground.guard }], guard := some (5, false) } : Oper)) (v := undef) rfl (by kernel_rfl) (by kernel_rfl) (by kernel_rfl) (fun _ _ _ h => h) (Or.inr ⟨by rfl, rfl⟩) (by assumption) ?_
    (try simp only [Act.put, List.setIfInBounds_toArray, List.set_cons_zero, List.set_cons_succ])
    refine wpAnyH_take (i := 9) (oi := ({ dst := some 25, op := Op.call { callee := Callee.value (Operand.func 72), args := #[Operand.tmp 22, Operand.tmp 23, Operand.tmp 24], argTypes := #[43, 37, 37] }, type := 4, pos := "l2_arena.go:135", after := #[{ on := 6, ground := Ground.data }, { on := 7, ground := Ground.data }, { on := 8, ground := Ground.data }, { on := 5, ground := Ground.chain }, { on := 5, ground := Ground.guard }], guard := some (5, false) } : Oper)) (v := undef) rfl (by kernel_rfl) (by kernel_rfl) (by kernel_rfl) (fun _ _ _ h => h) (Or.inr ⟨by rfl, rfl⟩) (by assumption) ?_
    (try simp only [Act.put, List.setIfInBounds_toArray, List.set_cons_zero, List.set_cons_succ])
    refine wpAnyH_take (i := 10) (oi := ({ dst := some 26, op := Op.unOp UnOp.not 4 (Operand.tmp 25), type := 4, pos := "l2_arena.go:135", after := #[{ on := 9, ground := Ground.data }, { on := 5, ground := Ground.guard }], guard := some (5, false) } : Oper)) (v := undef) rfl (by kernel_rfl) (by kernel_rfl) (by kernel_rfl) (fun _ _ _ h => h) (Or.inr ⟨by rfl, rfl⟩) (by assumption) ?_
    (try simp only [Act.put, List.setIfInBounds_toArray, List.set_cons_zero, List.set_cons_succ])
    refine wpAnyH_take (i := 11) (oi := ({ dst := some 27, op := Op.pick (Operand.tmp 21) (Operand.const (Value.bool true)) (Operand.tmp 26), type := 4, pos := "l2_arena.go:135", after := #[{ on := 5, ground := Ground.data }, { on := 10, ground := Ground.data }], guard := none } : Oper)) (v := ?_) rfl (by kernel_rfl) (by kernel_rfl) (by kernel_rfl) (fun _ _ _ h => h) (Or.inl ⟨by rfl, ?_⟩) (by assumption) ?_
    rotate_left
    · (intro wz hSw; (try dsimp only at hSw); go_simp; first | done | with_reducible rfl)
    (try simp only [Act.put, List.setIfInBounds_toArray, List.set_cons_zero, List.set_cons_succ])
    refine wpAnyH_take (i := 12) (oi := ({ dst := some 28, op := Op.move (Operand.tmp 27), type := 4, pos := "l2_arena.go:135", after := #[{ on := 11, ground := Ground.data }, { on := 9, ground := Ground.chain }], guard := none } : Oper)) (v := ?_) rfl (by kernel_rfl) (by kernel_rfl) (by kernel_rfl) (fun _ _ _ h => h) (Or.inl ⟨by rfl, ?_⟩) (by assumption) ?_
    rotate_left
    · (intro wz hSw; (try dsimp only at hSw); go_simp; first | done | with_reducible rfl)
    (try simp only [Act.put, List.setIfInBounds_toArray, List.set_cons_zero, List.set_cons_succ])
    refine wpAnyH_take (i := 13) (oi := ({ dst := some 29, op := Op.load 43 (Operand.tmp 1), type := 43, pos := "l2_arena.go:135", after := #[{ on := 12, ground := Ground.guard }], guard := some (12, false) } : Oper)) (v := undef) rfl (by kernel_rfl) (by kernel_rfl) (by kernel_rfl) (fun _ _ _ h => h) (Or.inr ⟨by rfl, rfl⟩) (by assumption) ?_
    (try simp only [Act.put, List.setIfInBounds_toArray, List.set_cons_zero, List.set_cons_succ])
    refine wpAnyH_take (i := 14) (oi := ({ dst := some 30, op := Op.move (Operand.tmp 5), type := 37, pos := "l2_arena.go:135", after := #[{ on := 12, ground := Ground.guard }], guard := some (12, false) } : Oper)) (v := undef) rfl (by kernel_rfl) (by kernel_rfl) (by kernel_rfl) (fun _ _ _ h => h) (Or.inr ⟨by rfl, rfl⟩) (by assumption) ?_
    (try simp only [Act.put, List.setIfInBounds_toArray, List.set_cons_zero, List.set_cons_succ])
    refine wpAnyH_take (i := 15) (oi := ({ dst := some 31, op := Op.buildSlice 37 0 #[], type := 37, pos := "l2_arena.go:135", after := #[{ on := 12, ground := Ground.guard }], guard := some (12, false) } : Oper)) (v := undef) rfl (by kernel_rfl) (by kernel_rfl) (by kernel_rfl) (fun _ _ _ h => h) (Or.inr ⟨by rfl, rfl⟩) (by assumption) ?_
    (try simp only [Act.put, List.setIfInBounds_toArray, List.set_cons_zero, List.set_cons_succ])
    refine wpAnyH_take (i := 16) (oi := ({ dst := some 32, op := Op.move (Operand.tmp 3), type := 37, pos := "l2_arena.go:135", after := #[{ on := 12, ground := Ground.guard }], guard := some (12, false) } : Oper)) (v := undef) rfl (by kernel_rfl) (by kernel_rfl) (by kernel_rfl) (fun _ _ _ h => h) (Or.inr ⟨by rfl, rfl⟩) (by assumption) ?_
    (try simp only [Act.put, List.setIfInBounds_toArray, List.set_cons_zero, List.set_cons_succ])
    refine wpAnyH_take (i := 17) (oi := ({ dst := some 33, op := Op.call { callee := Callee.builtin Builtin.append, args := #[Operand.tmp 31, Operand.tmp 32], argTypes := #[37, 37] }, type := 37, pos := "l2_arena.go:135", after := #[{ on := 15, ground := Ground.data }, { on := 16, ground := Ground.data }, { on := 12, ground := Ground.chain }, { on := 12, ground := Ground.guard }], guard := some (12, false) } : Oper)) (v := undef) rfl (by kernel_rfl) (by kernel_rfl) (by kernel_rfl) (fun _ _ _ h => h) (Or.inr ⟨by rfl, rfl⟩) (by assumption) ?_
    (try simp only [Act.put, List.setIfInBounds_toArray, List.set_cons_zero, List.set_cons_succ])
    refine wpAnyH_take (i := 18) (oi := ({ dst := some 34, op := Op.move (Operand.tmp 4), type := 37, pos := "l2_arena.go:135", after := #[{ on := 12, ground := Ground.guard }], guard := some (12, false) } : Oper)) (v := undef) rfl (by kernel_rfl) (by kernel_rfl) (by kernel_rfl) (fun _ _ _ h => h) (Or.inr ⟨by rfl, rfl⟩) (by assumption) ?_
    (try simp only [Act.put, List.setIfInBounds_toArray, List.set_cons_zero, List.set_cons_succ])
    refine wpAnyH_take (i := 19) (oi := ({ dst := some 35, op := Op.call { callee := Callee.builtin Builtin.append, args := #[Operand.tmp 33, Operand.tmp 34], argTypes := #[37, 37] }, type := 37, pos := "l2_arena.go:135", after := #[{ on := 17, ground := Ground.data }, { on := 18, ground := Ground.data }, { on := 17, ground := Ground.chain }, { on := 12, ground := Ground.guard }], guard := some (12, false) } : Oper)) (v := undef) rfl (by kernel_rfl) (by kernel_rfl) (by kernel_rfl) (fun _ _ _ h => h) (Or.inr ⟨by rfl, rfl⟩) (by assumption) ?_
    (try simp only [Act.put, List.setIfInBounds_toArray, List.set_cons_zero, List.set_cons_succ])
    refine wpAnyH_take (i := 20) (oi := ({ dst := some 36, op := Op.call { callee := Callee.value (Operand.func 72), args := #[Operand.tmp 29, Operand.tmp 30, Operand.tmp 35], argTypes := #[43, 37, 37] }, type := 4, pos := "l2_arena.go:135", after := #[{ on := 13, ground := Ground.data }, { on := 14, ground := Ground.data }, { on := 19, ground := Ground.data }, { on := 19, ground := Ground.chain }, { on := 12, ground := Ground.guard }], guard := some (12, false) } : Oper)) (v := undef) rfl (by kernel_rfl) (by kernel_rfl) (by kernel_rfl) (fun _ _ _ h => h) (Or.inr ⟨by rfl, rfl⟩) (by assumption) ?_
    (try simp only [Act.put, List.setIfInBounds_toArray, List.set_cons_zero, List.set_cons_succ])
    refine wpAnyH_take (i := 21) (oi := ({ dst := some 37, op := Op.unOp UnOp.not 4 (Operand.tmp 36), type := 4, pos := "l2_arena.go:135", after := #[{ on := 20, ground := Ground.data }, { on := 12, ground := Ground.guard }], guard := some (12, false) } : Oper)) (v := undef) rfl (by kernel_rfl) (by kernel_rfl) (by kernel_rfl) (fun _ _ _ h => h) (Or.inr ⟨by rfl, rfl⟩) (by assumption) ?_
    (try simp only [Act.put, List.setIfInBounds_toArray, List.set_cons_zero, List.set_cons_succ])
    refine wpAnyH_take (i := 22) (oi := ({ dst := some 38, op := Op.pick (Operand.tmp 28) (Operand.const (Value.bool true)) (Operand.tmp 37), type := 4, pos := "l2_arena.go:135", after := #[{ on := 12, ground := Ground.data }, { on := 21, ground := Ground.data }], guard := none } : Oper)) (v := ?_) rfl (by kernel_rfl) (by kernel_rfl) (by kernel_rfl) (fun _ _ _ h => h) (Or.inl ⟨by rfl, ?_⟩) (by assumption) ?_
    rotate_left
    · (intro wz hSw; (try dsimp only at hSw); go_simp; first | done | with_reducible rfl)
    (try simp only [Act.put, List.setIfInBounds_toArray, List.set_cons_zero, List.set_cons_succ])
    refine wpAnyH_take (i := 23) (oi := ({ dst := some 39, op := Op.move (Operand.tmp 38), type := 4, pos := "l2_arena.go:135", after := #[{ on := 22, ground := Ground.data }, { on := 20, ground := Ground.chain }], guard := none } : Oper)) (v := ?_) rfl (by kernel_rfl) (by kernel_rfl) (by kernel_rfl) (fun _ _ _ h => h) (Or.inl ⟨by rfl, ?_⟩) (by assumption) ?_
    rotate_left
    · (intro wz hSw; (try dsimp only at hSw); go_simp; first | done | with_reducible rfl)
    (try simp only [Act.put, List.setIfInBounds_toArray, List.set_cons_zero, List.set_cons_succ])
    refine wpAnyH_take (i := 24) (oi := ({ dst := some 40, op := Op.load 43 (Operand.tmp 1), type := 43, pos := "l2_arena.go:135", after := #[{ on := 23, ground := Ground.guard }], guard := some (23, false) } : Oper)) (v := undef) rfl (by kernel_rfl) (by kernel_rfl) (by kernel_rfl) (fun _ _ _ h => h) (Or.inr ⟨by rfl, rfl⟩) (by assumption) ?_
    (try simp only [Act.put, List.setIfInBounds_toArray, List.set_cons_zero, List.set_cons_succ])
    refine wpAnyH_take (i := 25) (oi := ({ dst := some 41, op := Op.move (Operand.tmp 4), type := 37, pos := "l2_arena.go:135", after := #[{ on := 23, ground := Ground.guard }], guard := some (23, false) } : Oper)) (v := undef) rfl (by kernel_rfl) (by kernel_rfl) (by kernel_rfl) (fun _ _ _ h => h) (Or.inr ⟨by rfl, rfl⟩) (by assumption) ?_
    (try simp only [Act.put, List.setIfInBounds_toArray, List.set_cons_zero, List.set_cons_succ])
    refine wpAnyH_take (i := 26) (oi := ({ dst := some 42, op := Op.call { callee := Callee.value (Operand.func 73), args := #[Operand.tmp 40, Operand.tmp 41], argTypes := #[43, 37] }, type := 4, pos := "l2_arena.go:135", after := #[{ on := 24, ground := Ground.data }, { on := 25, ground := Ground.data }, { on := 23, ground := Ground.chain }, { on := 23, ground := Ground.guard }], guard := some (23, false) } : Oper)) (v := undef) rfl (by kernel_rfl) (by kernel_rfl) (by kernel_rfl) (fun _ _ _ h => h) (Or.inr ⟨by rfl, rfl⟩) (by assumption) ?_
    (try simp only [Act.put, List.setIfInBounds_toArray, List.set_cons_zero, List.set_cons_succ])
    refine wpAnyH_take (i := 27) (oi := ({ dst := some 43, op := Op.unOp UnOp.not 4 (Operand.tmp 42), type := 4, pos := "l2_arena.go:135", after := #[{ on := 26, ground := Ground.data }, { on := 23, ground := Ground.guard }], guard := some (23, false) } : Oper)) (v := undef) rfl (by kernel_rfl) (by kernel_rfl) (by kernel_rfl) (fun _ _ _ h => h) (Or.inr ⟨by rfl, rfl⟩) (by assumption) ?_
    (try simp only [Act.put, List.setIfInBounds_toArray, List.set_cons_zero, List.set_cons_succ])
    refine wpAnyH_take (i := 28) (oi := ({ dst := some 44, op := Op.pick (Operand.tmp 39) (Operand.const (Value.bool true)) (Operand.tmp 43), type := 4, pos := "l2_arena.go:135", after := #[{ on := 23, ground := Ground.data }, { on := 27, ground := Ground.data }], guard := none } : Oper)) (v := ?_) rfl (by kernel_rfl) (by kernel_rfl) (by kernel_rfl) (fun _ _ _ h => h) (Or.inl ⟨by rfl, ?_⟩) (by assumption) ?_
    rotate_left
    · (intro wz hSw; (try dsimp only at hSw); go_simp; first | done | with_reducible rfl)
    (try simp only [Act.put, List.setIfInBounds_toArray, List.set_cons_zero, List.set_cons_succ])
    refine wpAnyH_take (i := 29) (oi := ({ dst := some 45, op := Op.move (Operand.tmp 44), type := 4, pos := "l2_arena.go:135", after := #[{ on := 28, ground := Ground.data }, { on := 26, ground := Ground.chain }], guard := none } : Oper)) (v := ?_) rfl (by kernel_rfl) (by kernel_rfl) (by kernel_rfl) (fun _ _ _ h => h) (Or.inl ⟨by rfl, ?_⟩) (by assumption) ?_
    rotate_left
    · (intro wz hSw; (try dsimp only at hSw); go_simp; first | done | with_reducible rfl)
    (try simp only [Act.put, List.setIfInBounds_toArray, List.set_cons_zero, List.set_cons_succ])
    refine wpAnyH_take (i := 30) (oi := ({ dst := some 46, op := Op.load 43 (Operand.tmp 1), type := 43, pos := "l2_arena.go:135", after := #[{ on := 29, ground := Ground.guard }], guard := some (29, false) } : Oper)) (v := undef) rfl (by kernel_rfl) (by kernel_rfl) (by kernel_rfl) (fun _ _ _ h => h) (Or.inr ⟨by rfl, rfl⟩) (by assumption) ?_
    (try simp only [Act.put, List.setIfInBounds_toArray, List.set_cons_zero, List.set_cons_succ])
    refine wpAnyH_take (i := 31) (oi := ({ dst := some 47, op := Op.move (Operand.tmp 5), type := 37, pos := "l2_arena.go:135", after := #[{ on := 29, ground := Ground.guard }], guard := some (29, false) } : Oper)) (v := undef) rfl (by kernel_rfl) (by kernel_rfl) (by kernel_rfl) (fun _ _ _ h => h) (Or.inr ⟨by rfl, rfl⟩) (by assumption) ?_
    (try simp only [Act.put, List.setIfInBounds_toArray, List.set_cons_zero, List.set_cons_succ])
    refine wpAnyH_take (i := 32) (oi := ({ dst := some 48, op := Op.call { callee := Callee.value (Operand.func 73), args := #[Operand.tmp 46, Operand.tmp 47], argTypes := #[43, 37] }, type := 4, pos := "l2_arena.go:135", after := #[{ on := 30, ground := Ground.data }, { on := 31, ground := Ground.data }, { on := 29, ground := Ground.chain }, { on := 29, ground := Ground.guard }], guard := some (29, false) } : Oper)) (v := undef) rfl (by kernel_rfl) (by kernel_rfl) (by kernel_rfl) (fun _ _ _ h => h) (Or.inr ⟨by rfl, rfl⟩) (by assumption) ?_
    (try simp only [Act.put, List.setIfInBounds_toArray, List.set_cons_zero, List.set_cons_succ])
    refine wpAnyH_take (i := 33) (oi := ({ dst := some 49, op := Op.unOp UnOp.not 4 (Operand.tmp 48), type := 4, pos := "l2_arena.go:135", after := #[{ on := 32, ground := Ground.data }, { on := 29, ground := Ground.guard }], guard := some (29, false) } : Oper)) (v := undef) rfl (by kernel_rfl) (by kernel_rfl) (by kernel_rfl) (fun _ _ _ h => h) (Or.inr ⟨by rfl, rfl⟩) (by assumption) ?_
    (try simp only [Act.put, List.setIfInBounds_toArray, List.set_cons_zero, List.set_cons_succ])
    refine wpAnyH_take (i := 34) (oi := ({ dst := some 50, op := Op.pick (Operand.tmp 45) (Operand.const (Value.bool true)) (Operand.tmp 49), type := 4, pos := "l2_arena.go:135", after := #[{ on := 29, ground := Ground.data }, { on := 33, ground := Ground.data }], guard := none } : Oper)) (v := ?_) rfl (by kernel_rfl) (by kernel_rfl) (by kernel_rfl) (fun _ _ _ h => h) (Or.inl ⟨by rfl, ?_⟩) (by assumption) ?_
    rotate_left
    · (intro wz hSw; (try dsimp only at hSw); go_simp; first | done | with_reducible rfl)
    (try simp only [Act.put, List.setIfInBounds_toArray, List.set_cons_zero, List.set_cons_succ])
    refine wpAnyH_take (i := 35) (oi := ({ dst := some 51, op := Op.move (Operand.tmp 50), type := 4, pos := "l2_arena.go:135", after := #[{ on := 34, ground := Ground.data }, { on := 32, ground := Ground.chain }], guard := none } : Oper)) (v := ?_) rfl (by kernel_rfl) (by kernel_rfl) (by kernel_rfl) (fun _ _ _ h => h) (Or.inl ⟨by rfl, ?_⟩) (by assumption) ?_
    rotate_left
    · (intro wz hSw; (try dsimp only at hSw); go_simp; first | done | with_reducible rfl)
    (try simp only [Act.put, List.setIfInBounds_toArray, List.set_cons_zero, List.set_cons_succ])
    refine wpAnyH_take (i := 36) (oi := ({ dst := some 52, op := Op.load 43 (Operand.tmp 1), type := 43, pos := "l2_arena.go:135", after := #[{ on := 35, ground := Ground.guard }], guard := some (35, false) } : Oper)) (v := undef) rfl (by kernel_rfl) (by kernel_rfl) (by kernel_rfl) (fun _ _ _ h => h) (Or.inr ⟨by rfl, rfl⟩) (by assumption) ?_
    (try simp only [Act.put, List.setIfInBounds_toArray, List.set_cons_zero, List.set_cons_succ])
    refine wpAnyH_take (i := 37) (oi := ({ dst := some 53, op := Op.move (Operand.tmp 5), type := 37, pos := "l2_arena.go:135", after := #[{ on := 35, ground := Ground.guard }], guard := some (35, false) } : Oper)) (v := undef) rfl (by kernel_rfl) (by kernel_rfl) (by kernel_rfl) (fun _ _ _ h => h) (Or.inr ⟨by rfl, rfl⟩) (by assumption) ?_
    (try simp only [Act.put, List.setIfInBounds_toArray, List.set_cons_zero, List.set_cons_succ])
    refine wpAnyH_take (i := 38) (oi := ({ dst := some 54, op := Op.call { callee := Callee.value (Operand.func 74), args := #[Operand.tmp 52, Operand.tmp 53], argTypes := #[43, 37] }, type := 4, pos := "l2_arena.go:135", after := #[{ on := 36, ground := Ground.data }, { on := 37, ground := Ground.data }, { on := 35, ground := Ground.chain }, { on := 35, ground := Ground.guard }], guard := some (35, false) } : Oper)) (v := undef) rfl (by kernel_rfl) (by kernel_rfl) (by kernel_rfl) (fun _ _ _ h => h) (Or.inr ⟨by rfl, rfl⟩) (by assumption) ?_
    (try simp only [Act.put, List.setIfInBounds_toArray, List.set_cons_zero, List.set_cons_succ])
    refine wpAnyH_take (i := 39) (oi := ({ dst := some 55, op := Op.unOp UnOp.not 4 (Operand.tmp 54), type := 4, pos := "l2_arena.go:135", after := #[{ on := 38, ground := Ground.data }, { on := 35, ground := Ground.guard }], guard := some (35, false) } : Oper)) (v := undef) rfl (by kernel_rfl) (by kernel_rfl) (by kernel_rfl) (fun _ _ _ h => h) (Or.inr ⟨by rfl, rfl⟩) (by assumption) ?_
    (try simp only [Act.put, List.setIfInBounds_toArray, List.set_cons_zero, List.set_cons_succ])
    refine wpAnyH_take (i := 40) (oi := ({ dst := some 56, op := Op.pick (Operand.tmp 51) (Operand.const (Value.bool true)) (Operand.tmp 55), type := 4, pos := "l2_arena.go:135", after := #[{ on := 35, ground := Ground.data }, { on := 39, ground := Ground.data }], guard := none } : Oper)) (v := ?_) rfl (by kernel_rfl) (by kernel_rfl) (by kernel_rfl) (fun _ _ _ h => h) (Or.inl ⟨by rfl, ?_⟩) (by assumption) ?_
    rotate_left
    · (intro wz hSw; (try dsimp only at hSw); go_simp; first | done | with_reducible rfl)
    (try simp only [Act.put, List.setIfInBounds_toArray, List.set_cons_zero, List.set_cons_succ])
    refine wpAnyH_done (by kernel_rfl) ?_ _
    go_wp2
    go_ret
    exact ⟨ret_bool (by simp [okL3, E1.out]), below_trans' HX.out.2.2.2.2.2 HB.out⟩
  have E1 : Hid (endsB ns C [] = true) := hE1
  clear hE1
  refine wpAnyH_take (i := 4) (oi := ({ dst := some 20, op := Op.unOp UnOp.not 4 (Operand.tmp 19), type := 4, pos := "l2_arena.go:135", after := #[{ on := 3, ground := Ground.data }], guard := none } : Oper)) (v := ?_) rfl (by kernel_rfl) (by kernel_rfl) (by kernel_rfl) (fun _ _ _ h => h) (Or.inl ⟨by rfl, ?_⟩) (by assumption) ?_
  rotate_left
  · (intro wz hSw; (try dsimp only at hSw); go_simp; first | done | with_reducible rfl)
  (try simp only [Act.put, List.setIfInBounds_toArray, List.set_cons_zero, List.set_cons_succ])
  refine wpAnyH_take (i := 5) (oi := ({ dst := some 21, op := Op.move (Operand.tmp 20), type := 4, pos := "l2_arena.go:135", after := #[{ on := 4, ground := Ground.data }, { on := 3, ground := Ground.chain }], guard := none } : Oper)) (v := ?_) rfl (by kernel_rfl) (by kernel_rfl) (by kernel_rfl) (fun _ _ _ h => h) (Or.inl ⟨by rfl, ?_⟩) (by assumption) ?_
  rotate_left
  · (intro wz hSw; (try dsimp only at hSw); go_simp; first | done | with_reducible rfl)
  (try simp only [Act.put, List.setIfInBounds_toArray, List.set_cons_zero, List.set_cons_succ])
  refine wpAnyH_take (i := 6) (oi := ({ dst := some 22, op := Op.load 43 (Operand.tmp 1), type := 43, pos := "l2_arena.go:135", after := #[{ on := 5, ground := Ground.guard }], guard := some (5, false) } : Oper)) (v := ?_) rfl (by kernel_rfl) (by kernel_rfl) (by kernel_rfl) (fun _ _ _ h => h) (Or.inl ⟨by rfl, ?_⟩) (by assumption) ?_
  rotate_left
  · (intro wz hSw; (try dsimp only at hSw); go_simp; first | done | with_reducible rfl)
  (try simp only [Act.put, List.setIfInBounds_toArray, List.set_cons_zero, List.set_cons_succ])
  refine wpAnyH_take (i := 7) (oi := ({ dst := some 23, op := Op.move (Operand.tmp 4), type := 37, pos := "l2_arena.go:135", after := #[{ on := 5, ground := Ground.guard }], guard := some (5, false) } : Oper)) (v := ?_) rfl (by kernel_rfl) (by kernel_rfl) (by kernel_rfl) (fun _ _ _ h => h) (Or.inl ⟨by rfl, ?_⟩) (by assumption) ?_
  rotate_left
  · (intro wz hSw; (try dsimp only at hSw); go_simp; first | done | with_reducible rfl)
  (try simp only [Act.put, List.setIfInBounds_toArray, List.set_cons_zero, List.set_cons_succ])
  refine wpAnyH_take (i := 8) (oi := ({ dst := some 24, op := Op.move (Operand.tmp 3), type := 37, pos := "l2_arena.go:135", after := #[{ on := 5, ground := Ground.guard }], guard := some (5, false) } : Oper)) (v := ?_) rfl (by kernel_rfl) (by kernel_rfl) (by kernel_rfl) (fun _ _ _ h => h) (Or.inl ⟨by rfl, ?_⟩) (by assumption) ?_
  rotate_left
  · (intro wz hSw; (try dsimp only at hSw); go_simp; first | done | with_reducible rfl)
  (try simp only [Act.put, List.setIfInBounds_toArray, List.set_cons_zero, List.set_cons_succ])
  refine wpAnyH_ready (rs := [9]) (by kernel_rfl) (by simp) ?_
  refine AllReadyH.cons (o := ({ dst := some 25, op := Op.call { callee := Callee.value (Operand.func 72), args := #[Operand.tmp 22, Operand.tmp 23, Operand.tmp 24], argTypes := #[43, 37, 37] }, type := 4, pos := "l2_arena.go:135", after := #[{ on := 6, ground := Ground.data }, { on := 7, ground := Ground.data }, { on := 8, ground := Ground.data }, { on := 5, ground := Ground.chain }, { on := 5, ground := Ground.guard }], guard := some (5, false) } : Oper)) rfl (fun K hK => ?_) AllReadyH.nil
  clear hHeld
  go_simp
  go_wp2_with (go_at_call 72; refine (l2Ends_any b off cap ns t f l aS nS cS S aC nC cC C _ (HX.out.2.1.below HB.out) (HX.out.2.2.2.1.below HB.out) (HX.out.2.2.1.below HB.out) (by have := HL.out; omega) (by have := HL.out; omega) HP.out.2.1.1).mono ?_; rintro e w2 ⟨rfl, hb2⟩; rw [show (usedB ns S C && endB ns S) = endsB ns S C from rfl]; have HB : Hid (Below W.heap.size W w2) := below_trans' HB.out hb2; have KP : Hid (w2.cell? ⟨w.heap.size, 0, none⟩ = some (.slice (some ⟨b, off, none⟩) 10 cap) ∧ w2.cell? ⟨w.heap.size, 1, none⟩ = some (.int .i64 t) ∧ w2.cell? ⟨w.heap.size, 2, none⟩ = some (.int .i64 f) ∧ w2.cell? ⟨w.heap.size, 3, none⟩ = some (.int .i64 l)) := (HX.out.1.below HB.out).cells; clear hb2)
  refine hK.out _ _ ?_ (fun hHeld => ?_)
  · exact KP.out
  clear hK K
  (try simp only [Act.put, List.setIfInBounds_toArray, List.set_cons_zero, List.set_cons_succ])
  cases hE2 : endsB ns S C
  · have E2 : Hid (endsB ns S C = false) := hE2
    clear hE2
    refine wpAnyH_take (i := 10) (oi := ({ dst := some 26, op := Op.unOp UnOp.not 4 (Operand.tmp 25), type := 4, pos := "l2_arena.go:135", after := #[{ on := 9, ground := Ground.data }, { on := 5, ground := Ground.guard }], guard := some (5, false) } : Oper)) (v := ?_) rfl (by kernel_rfl) (by kernel_rfl) (by kernel_rfl) (fun _ _ _ h => h) (Or.inl ⟨by rfl, ?_⟩) (by assumption) ?_
    rotate_left
    · (intro wz hSw; (try dsimp only at hSw); go_simp; first | done | with_reducible rfl)
    (try simp only [Act.put, List.setIfInBounds_toArray, List.set_cons_zero, List.set_cons_succ])
    refine wpAnyH_take (i := 11) (oi := ({ dst := some 27, op := Op.pick (Operand.tmp 21) (Operand.const (Value.bool true)) (Operand.tmp 26), type := 4, pos := "l2_arena.go:135", after := #[{ on := 5, ground := Ground.data }, { on := 10, ground := Ground.data }], guard := none } : Oper)) (v := ?_) rfl (by kernel_rfl) (by kernel_rfl) (by kernel_rfl) (fun _ _ _ h => h) (Or.inl ⟨by rfl, ?_⟩) (by assumption) ?_
    rotate_left
    · (intro wz hSw; (try dsimp only at hSw); go_simp; first | done | with_reducible rfl)
    (try simp only [Act.put, List.setIfInBounds_toArray, List.set_cons_zero, List.set_cons_succ])
    refine wpAnyH_take (i := 12) (oi := ({ dst := some 28, op := Op.move (Operand.tmp 27), type := 4, pos := "l2_arena.go:135", after := #[{ on := 11, ground := Ground.data }, { on := 9, ground := Ground.chain }], guard := none } : Oper)) (v := ?_) rfl (by kernel_rfl) (by kernel_rfl) (by kernel_rfl) (fun _ _ _ h => h) (Or.inl ⟨by rfl, ?_⟩) (by assumption) ?_
    rotate_left
    · (intro wz hSw; (try dsimp only at hSw); go_simp; first | done | with_reducible rfl)
    (try simp only [Act.put, List.setIfInBounds_toArray, List.set_cons_zero, List.set_cons_succ])
    refine wpAnyH_take (i := 13) (oi := ({ dst := some 29, op := Op.load 43 (Operand.tmp 1), type := 43, pos := "l2_arena.go:135", after := #[{ on := 12, ground := Ground.guard }], guard := some (12, false) } : Oper)) (v := undef) rfl (by kernel_rfl) (by kernel_rfl) (by kernel_rfl) (fun _ _ _ h => h) (Or.inr ⟨by rfl, rfl⟩) (by assumption) ?_
    (try simp only [Act.put, List.setIfInBounds_toArray, List.set_cons_zero, List.set_cons_succ])
    refine wpAnyH_take (i := 14) (oi := ({ dst := some 30, op := Op.move (Operand.tmp 5), type := 37, pos := "l2_arena.go:135", after := #[{ on := 12, ground := Ground.guard }], guard := some (12, false) } : Oper)) (v := undef) rfl (by kernel_rfl) (by kernel_rfl) (by kernel_rfl) (fun _ _ _ h => h) (Or.inr ⟨by rfl, rfl⟩) (by assumption) ?_
    (try simp only [Act.put, List.setIfInBounds_toArray, List.set_cons_zero, List.set_cons_succ])
    refine wpAnyH_take (i := 15) (oi := ({ dst := some 31, op := Op.buildSlice 37 0 #[], type := 37, pos := "l2_arena.go:135", after := #[{ on := 12, ground := Ground.guard }], guard := some (12, false) } : Oper)) (v := undef) rfl (by kernel_rfl) (by kernel_rfl) (by kernel_rfl) (fun _ _ _ h => h) (Or.inr ⟨by rfl, rfl⟩) (by assumption) ?_
    (try simp only [Act.put, List.setIfInBounds_toArray, List.set_cons_zero, List.set_cons_succ])
    refine wpAnyH_take (i := 16) (oi := ({ dst := some 32, op := Op.move (Operand.tmp 3), type := 37, pos := "l2_arena.go:135", after := #[{ on := 12, ground := Ground.guard }], guard := some (12, false) } : Oper)) (v := undef) rfl (by kernel_rfl) (by kernel_rfl) (by kernel_rfl) (fun _ _ _ h => h) (Or.inr ⟨by rfl, rfl⟩) (by assumption) ?_
    (try simp only [Act.put, List.setIfInBounds_toArray, List.set_cons_zero, List.set_cons_succ])
    refine wpAnyH_take (i := 17) (oi := ({ dst := some 33, op := Op.call { callee := Callee.builtin Builtin.append, args := #[Operand.tmp 31, Operand.tmp 32], argTypes := #[37, 37] }, type := 37, pos := "l2_arena.go:135", after := #[{ on := 15, ground := Ground.data }, { on := 16, ground := Ground.data }, { on := 12, ground := Ground.chain }, { on := 12, ground := Ground.guard }], guard := some (12, false) } : Oper)) (v := undef) rfl (by kernel_rfl) (by kernel_rfl) (by kernel_rfl) (fun _ _ _ h => h) (Or.inr ⟨by rfl, rfl⟩) (by assumption) ?_
    (try simp only [Act.put, List.setIfInBounds_toArray, List.set_cons_zero, List.set_cons_succ])
    refine wpAnyH_take (i := 18) (oi := ({ dst := some 34, op := Op.move (Operand.tmp 4), type := 37, pos := "l2_arena.go:135", after := #[{ on := 12, ground := Ground.guard }], guard := some (12, false) } : Oper)) (v := undef) rfl (by kernel_rfl) (by kernel_rfl) (by kernel_rfl) (fun _ _ _ h => h) (Or.inr ⟨by rfl, rfl⟩) (by assumption) ?_
    (try simp only [Act.put, List.setIfInBounds_toArray, List.set_cons_zero, List.set_cons_succ])
    refine wpAnyH_take (i := 19) (oi := ({ dst := some 35, op := Op.call { callee := Callee.builtin Builtin.append, args := #[Operand.tmp 33, Operand.tmp 34], argTypes := #[37, 37] }, type := 37, pos := "l2_arena.go:135", after := #[{ on := 17, ground := Ground.data }, { on := 18, ground := Ground.data }, { on := 17, ground := Ground.chain }, { on := 12, ground := Ground.guard }], guard := some (12, false) } : Oper)) (v := undef) rfl (by kernel_rfl) (by kernel_rfl) (by kernel_rfl) (fun _ _ _ h => h) (Or.inr ⟨by rfl, rfl⟩) (by assumption) ?_
    (try simp only [Act.put, List.setIfInBounds_toArray, List.set_cons_zero, List.set_cons_succ])
    refine wpAnyH_take (i := 20) (oi := ({ dst := some 36, op := Op.call { callee := Callee.value (Operand.func 72), args := #[Operand.tmp 29, Operand.tmp 30, Operand.tmp 35], argTypes := #[43, 37, 37] }, type := 4, pos := "l2_arena.go:135", after := #[{ on := 13, ground := Ground.data }, { on := 14, ground := Ground.data }, { on := 19, ground := Ground.data }, { on := 19, ground := Ground.chain }, { on := 12, ground := Ground.guard }], guard := some (12, false) } : Oper)) (v := undef) rfl (by kernel_rfl) (by kernel_rfl) (by kernel_rfl) (fun _ _ _ h => h) (Or.inr ⟨by rfl, rfl⟩) (by assumption) ?_
    (try simp only [Act.put, List.setIfInBounds_toArray, List.set_cons_zero, List.set_cons_succ])
    refine wpAnyH_take (i := 21) (oi := ({ dst := some 37, op := Op.unOp UnOp.not 4 (Operand.tmp 36), type := 4, pos := "l2_arena.go:135", after := #[{ on := 20, ground := Ground.data }, { on := 12, ground := Ground.guard }], guard := some (12, false) } : Oper)) (v := undef) rfl (by kernel_rfl) (by kernel_rfl) (by kernel_rfl) (fun _ _ _ h => h) (Or.inr ⟨by rfl, rfl⟩) (by assumption) ?_
    (try simp only [Act.put, List.setIfInBounds_toArray, List.set_cons_zero, List.set_cons_succ])
    refine wpAnyH_take (i := 22) (oi := ({ dst := some 38, op := Op.pick (Operand.tmp 28) (Operand.const (Value.bool true)) (Operand.tmp 37), type := 4, pos := "l2_arena.go:135", after := #[{ on := 12, ground := Ground.data }, { on := 21, ground := Ground.data }], guard := none } : Oper)) (v := ?_) rfl (by kernel_rfl) (by kernel_rfl) (by kernel_rfl) (fun _ _ _ h => h) (Or.inl ⟨by rfl, ?_⟩) (by assumption) ?_
    rotate_left
    · (intro wz hSw; (try dsimp only at hSw); go_simp; first | done | with_reducible rfl)
    (try simp only [Act.put, List.setIfInBounds_toArray, List.set_cons_zero, List.set_cons_succ])
    refine wpAnyH_take (i := 23) (oi := ({ dst := some 39, op := Op.move (Operand.tmp 38), type := 4, pos := "l2_arena.go:135", after := #[{ on := 22, ground := Ground.data }, { on := 20, ground := Ground.chain }], guard := none } : Oper)) (v := ?_) rfl (by kernel_rfl) (by kernel_rfl) (by kernel_rfl) (fun _ _ _ h => h) (Or.inl ⟨by rfl, ?_⟩) (by assumption) ?_
    rotate_left
    · (intro wz hSw; (try dsimp only at hSw); go_simp; first | done | with_reducible rfl)
    (try simp only [Act.put, List.setIfInBounds_toArray, List.set_cons_zero, List.set_cons_succ])
    refine wpAnyH_take (i := 24) (oi := ({ dst := some 40, op := Op.load 43 (Operand.tmp 1), type := 43, pos := "l2_arena.go:135", after := #[{ on := 23, ground := Ground.guard }], guard := some (23, false) } : Oper)) (v := undef) rfl (by kernel_rfl) (by kernel_rfl) (by kernel_rfl) (fun _ _ _ h => h) (Or.inr ⟨by rfl, rfl⟩) (by assumption) ?_
    (try simp only [Act.put, List.setIfInBounds_toArray, List.set_cons_zero, List.set_cons_succ])
    refine wpAnyH_take (i := 25) (oi := ({ dst := some 41, op := Op.move (Operand.tmp 4), type := 37, pos := "l2_arena.go:135", after := #[{ on := 23, ground := Ground.guard }], guard := some (23, false) } : Oper)) (v := undef) rfl (by kernel_rfl) (by kernel_rfl) (by kernel_rfl) (fun _ _ _ h => h) (Or.inr ⟨by rfl, rfl⟩) (by assumption) ?_
    (try simp only [Act.put, List.setIfInBounds_toArray, List.set_cons_zero, List.set_cons_succ])
    refine wpAnyH_take (i := 26) (oi := ({ dst := some 42, op := Op.call { callee := Callee.value (Operand.func 73), args := #[Operand.tmp 40, Operand.tmp 41], argTypes := #[43, 37] }, type := 4, pos := "l2_arena.go:135", after := #[{ on := 24, ground := Ground.data }, { on := 25, ground := Ground.data }, { on := 23, ground := Ground.chain }, { on := 23, ground := Ground.guard }], guard := some (23, false) } : Oper)) (v := undef) rfl (by kernel_rfl) (by kernel_rfl) (by kernel_rfl) (fun _ _ _ h => h) (Or.inr ⟨by rfl, rfl⟩) (by assumption) ?_
    (try simp only [Act.put, List.setIfInBounds_toArray, List.set_cons_zero, List.set_cons_succ])
    refine wpAnyH_take (i := 27) (oi := ({ dst := some 43, op := Op.unOp UnOp.not 4 (Operand.tmp 42), type := 4, pos := "l2_arena.go:135", after := #[{ on := 26, ground := Ground.data }, { on := 23, ground := Ground.guard }], guard := some (23, false) } : Oper)) (v := undef) rfl (by kernel_rfl) (by kernel_rfl) (by kernel_rfl) (fun _ _ _ h => h) (Or.inr ⟨by rfl, rfl⟩) (by assumption) ?_
    (try simp only [Act.put, List.setIfInBounds_toArray, List.set_cons_zero, List.set_cons_succ])
    refine wpAnyH_take (i := 28) (oi := ({ dst := some 44, op := Op.pick (Operand.tmp 39) (Operand.const (Value.bool true)) (Operand.tmp 43), type := 4, pos := "l2_arena.go:135", after := #[{ on := 23, ground := Ground.data }, { on := 27, ground := Ground.data }], guard := none } : Oper)) (v := ?_) rfl (by kernel_rfl) (by kernel_rfl) (by kernel_rfl) (fun _ _ _ h => h) (Or.inl ⟨by rfl, ?_⟩) (by assumption) ?_
    rotate_left
    · (intro wz hSw; (try dsimp only at hSw); go_simp; first | done | with_reducible rfl)
    (try simp only [Act.put, List.setIfInBounds_toArray, List.set_cons_zero, List.set_cons_succ])
    refine wpAnyH_take (i := 29) (oi := ({ dst := some 45, op := Op.move (Operand.tmp 44), type := 4, pos := "l2_arena.go:135", after := #[{ on := 28, ground := Ground.data }, { on := 26, ground := Ground.chain }], guard := none } : Oper)) (v := ?_) rfl (by kernel_rfl) (by kernel_rfl) (by kernel_rfl) (fun _ _ _ h => h) (Or.inl ⟨by rfl, ?_⟩) (by assumption) ?_
    rotate_left
    · (intro wz hSw; (try dsimp only at hSw); go_simp; first | done | with_reducible rfl)
    (try simp only [Act.put, List.setIfInBounds_toArray, List.set_cons_zero, List.set_cons_succ])
    refine wpAnyH_take (i := 30) (oi := ({ dst := some 46, op := Op.load 43 (Operand.tmp 1), type := 43, pos := "l2_arena.go:135", after := #[{ on := 29, ground := Ground.guard }], guard := some (29, false) } : Oper)) (v := undef) rfl (by kernel_rfl) (by kernel_rfl) (by kernel_rfl) (fun _ _ _ h => h) (Or.inr ⟨by rfl, rfl⟩) (by assumption) ?_
    (try simp only [Act.put, List.setIfInBounds_toArray, List.set_cons_zero, List.set_cons_succ])
    refine wpAnyH_take (i := 31) (oi := ({ dst := some 47, op := Op.move (Operand.tmp 5), type := 37, pos := "l2_arena.go:135", after := #[{ on := 29, ground := Ground.guard }], guard := some (29, false) } : Oper)) (v := undef) rfl (by kernel_rfl) (by kernel_rfl) (by kernel_rfl) (fun _ _ _ h => h) (Or.inr ⟨by rfl, rfl⟩) (by assumption) ?_
    (try simp only [Act.put, List.setIfInBounds_toArray, List.set_cons_zero, List.set_cons_succ])
    refine wpAnyH_take (i := 32) (oi := ({ dst := some 48, op := Op.call { callee := Callee.value (Operand.func 73), args := #[Operand.tmp 46, Operand.tmp 47], argTypes := #[43, 37] }, type := 4, pos := "l2_arena.go:135", after := #[{ on := 30, ground := Ground.data }, { on := 31, ground := Ground.data }, { on := 29, ground := Ground.chain }, { on := 29, ground := Ground.guard }], guard := some (29, false) } : Oper)) (v := undef) rfl (by kernel_rfl) (by kernel_rfl) (by kernel_rfl) (fun _ _ _ h => h) (Or.inr ⟨by rfl, rfl⟩) (by assumption) ?_
    (try simp only [Act.put, List.setIfInBounds_toArray, List.set_cons_zero, List.set_cons_succ])
    refine wpAnyH_take (i := 33) (oi := ({ dst := some 49, op := Op.unOp UnOp.not 4 (Operand.tmp 48), type := 4, pos := "l2_arena.go:135", after := #[{ on := 32, ground := Ground.data }, { on := 29, ground := Ground.guard }], guard := some (29, false) } : Oper)) (v := undef) rfl (by kernel_rfl) (by kernel_rfl) (by kernel_rfl) (fun _ _ _ h => h) (Or.inr ⟨by rfl, rfl⟩) (by assumption) ?_
    (try simp only [Act.put, List.setIfInBounds_toArray, List.set_cons_zero, List.set_cons_succ])
    refine wpAnyH_take (i := 34) (oi := ({ dst := some 50, op := Op.pick (Operand.tmp 45) (Operand.const (Value.bool true)) (Operand.tmp 49), type := 4, pos := "l2_arena.go:135", after := #[{ on := 29, ground := Ground.data }, { on := 33, ground := Ground.data }], guard := none } : Oper)) (v := ?_) rfl (by kernel_rfl) (by kernel_rfl) (by kernel_rfl) (fun _ _ _ h => h) (Or.inl ⟨by rfl, ?_⟩) (by assumption) ?_
    rotate_left
    · (intro wz hSw; (try dsimp only at hSw); go_simp; first | done | with_reducible rfl)
    (try simp only [Act.put, List.setIfInBounds_toArray, List.set_cons_zero, List.set_cons_succ])
    refine wpAnyH_take (i := 35) (oi := ({ dst := some 51, op := Op.move (Operand.tmp 50), type := 4, pos := "l2_arena.go:135", after := #[{ on := 34, ground := Ground.data }, { on := 32, ground := Ground.chain }], guard := none } : Oper)) (v := ?_) rfl (by kernel_rfl) (by kernel_rfl) (by kernel_rfl) (fun _ _ _ h => h) (Or.inl ⟨by rfl, ?_⟩) (by assumption) ?_
    rotate_left
    · (intro wz hSw; (try dsimp only at hSw); go_simp; first | done | with_reducible rfl)
    (try simp only [Act.put, List.setIfInBounds_toArray, List.set_cons_zero, List.set_cons_succ])
    refine wpAnyH_take (i := 36) (oi := ({ dst := some 52, op := Op.load 43 (Operand.tmp 1), type := 43, pos := "l2_arena.go:135", after := #[{ on := 35, ground := Ground.guard }], guard := some (35, false) } : Oper)) (v := undef) rfl (by kernel_rfl) (by kernel_rfl) (by kernel_rfl) (fun _ _ _ h => h) (Or.inr ⟨by rfl, rfl⟩) (by assumption) ?_
    (try simp only [Act.put, List.setIfInBounds_toArray, List.set_cons_zero, List.set_cons_succ])
    refine wpAnyH_take (i := 37) (oi := ({ dst := some 53, op := Op.move (Operand.tmp 5), type := 37, pos := "l2_arena.go:135", after := #[{ on := 35, ground := Ground.guard }], guard := some (35, false) } : Oper)) (v := undef) rfl (by kernel_rfl) (by kernel_rfl) (by kernel_rfl) (fun _ _ _ h => h) (Or.inr ⟨by rfl, rfl⟩) (by assumption) ?_
    (try simp only [Act.put, List.setIfInBounds_toArray, List.set_cons_zero, List.set_cons_succ])
    refine wpAnyH_take (i := 38) (oi := ({ dst := some 54, op := Op.call { callee := Callee.value (Operand.func 74), args := #[Operand.tmp 52, Operand.tmp 53], argTypes := #[43, 37] }, type := 4, pos := "l2_arena.go:135", after := #[{ on := 36, ground := Ground.data }, { on := 37, ground := Ground.data }, { on := 35, ground := Ground.chain }, { on := 35, ground := Ground.guard }], guard := some (35, false) } : Oper)) (v := undef) rfl (by kernel_rfl) (by kernel_rfl) (by kernel_rfl) (fun _ _ _ h => h) (Or.inr ⟨by rfl, rfl⟩) (by assumption) ?_
    (try simp only [Act.put, List.setIfInBounds_toArray, List.set_cons_zero, List.set_cons_succ])
    refine wpAnyH_take (i := 39) (oi := ({ dst := some 55, op := Op.unOp UnOp.not 4 (Operand.tmp 54), type := 4, pos := "l2_arena.go:135", after := #[{ on := 38, ground := Ground.data }, { on := 35, ground := Ground.guard }], guard := some (35, false) } : Oper)) (v := undef) rfl (by kernel_rfl) (by kernel_rfl) (by kernel_rfl) (fun _ _ _ h => h) (Or.inr ⟨by rfl, rfl⟩) (by assumption) ?_
    (try simp only [Act.put, List.setIfInBounds_toArray, List.set_cons_zero, List.set_cons_succ])
    refine wpAnyH_take (i := 40) (oi := ({ dst := some 56, op := Op.pick (Operand.tmp 51) (Operand.const (Value.bool true)) (Operand.tmp 55), type := 4, pos := "l2_arena.go:135", after := #[{ on := 35, ground := Ground.data }, { on := 39, ground := Ground.data }], guard := none } : Oper)) (v := ?_) rfl (by kernel_rfl) (by kernel_rfl) (by kernel_rfl) (fun _ _ _ h => h) (Or.inl ⟨by rfl, ?_⟩) (by assumption) ?_
    rotate_left
    · (intro wz hSw; (try dsimp only at hSw); go_simp; first | done | with_reducible rfl)
    (try simp only [Act.put, List.setIfInBounds_toArray, List.set_cons_zero, List.set_cons_succ])
    refine wpAnyH_done (by kernel_rfl) ?_ _
    go_wp2
    go_ret
    exact ⟨ret_bool (by simp [okL3, E1.out, E2.out]), below_trans' HX.out.2.2.2.2.2 HB.out⟩
  have E2 : Hid (endsB ns S C = true) := hE2
  clear hE2
  refine wpAnyH_take (i := 10) (oi := ({ dst := some 26, op := Op.unOp UnOp.not 4 (Operand.tmp 25), type := 4, pos := "l2_arena.go:135", after := #[{ on := 9, ground := Ground.data }, { on := 5, ground := Ground.guard }], guard := some (5, false) } : Oper)) (v := ?_) rfl (by kernel_rfl) (by kernel_rfl) (by kernel_rfl) (fun _ _ _ h => h) (Or.inl ⟨by rfl, ?_⟩) (by assumption) ?_
  rotate_left
  · (intro wz hSw; (try dsimp only at hSw); go_simp; first | done | with_reducible rfl)
  (try simp only [Act.put, List.setIfInBounds_toArray, List.set_cons_zero, List.set_cons_succ])
  refine wpAnyH_take (i := 11) (oi := ({ dst := some 27, op := Op.pick (Operand.tmp 21) (Operand.const (Value.bool true)) (Operand.tmp 26), type := 4, pos := "l2_arena.go:135", after := #[{ on := 5, ground := Ground.data }, { on := 10, ground := Ground.data }], guard := none } : Oper)) (v := ?_) rfl (by kernel_rfl) (by kernel_rfl) (by kernel_rfl) (fun _ _ _ h => h) (Or.inl ⟨by rfl, ?_⟩) (by assumption) ?_
  rotate_left
  · (intro wz hSw; (try dsimp only at hSw); go_simp; first | done | with_reducible rfl)
  (try simp only [Act.put, List.setIfInBounds_toArray, List.set_cons_zero, List.set_cons_succ])
  refine wpAnyH_take (i := 12) (oi := ({ dst := some 28, op := Op.move (Operand.tmp 27), type := 4, pos := "l2_arena.go:135", after := #[{ on := 11, ground := Ground.data }, { on := 9, ground := Ground.chain }], guard := none } : Oper)) (v := ?_) rfl (by kernel_rfl) (by kernel_rfl) (by kernel_rfl) (fun _ _ _ h => h) (Or.inl ⟨by rfl, ?_⟩) (by assumption) ?_
  rotate_left
  · (intro wz hSw; (try dsimp only at hSw); go_simp; first | done | with_reducible rfl)
  (try simp only [Act.put, List.setIfInBounds_toArray, List.set_cons_zero, List.set_cons_succ])
  refine wpAnyH_take (i := 13) (oi := ({ dst := some 29, op := Op.load 43 (Operand.tmp 1), type := 43, pos := "l2_arena.go:135", after := #[{ on := 12, ground := Ground.guard }], guard := some (12, false) } : Oper)) (v := ?_) rfl (by kernel_rfl) (by kernel_rfl) (by kernel_rfl) (fun _ _ _ h => h) (Or.inl ⟨by rfl, ?_⟩) (by assumption) ?_
  rotate_left
  · (intro wz hSw; (try dsimp only at hSw); go_simp; first | done | with_reducible rfl)
  (try simp only [Act.put, List.setIfInBounds_toArray, List.set_cons_zero, List.set_cons_succ])
  refine wpAnyH_take (i := 14) (oi := ({ dst := some 30, op := Op.move (Operand.tmp 5), type := 37, pos := "l2_arena.go:135", after := #[{ on := 12, ground := Ground.guard }], guard := some (12, false) } : Oper)) (v := ?_) rfl (by kernel_rfl) (by kernel_rfl) (by kernel_rfl) (fun _ _ _ h => h) (Or.inl ⟨by rfl, ?_⟩) (by assumption) ?_
  rotate_left
  · (intro wz hSw; (try dsimp only at hSw); go_simp; first | done | with_reducible rfl)
  (try simp only [Act.put, List.setIfInBounds_toArray, List.set_cons_zero, List.set_cons_succ])
  refine wpAnyH_take (i := 16) (oi := ({ dst := some 32, op := Op.move (Operand.tmp 3), type := 37, pos := "l2_arena.go:135", after := #[{ on := 12, ground := Ground.guard }], guard := some (12, false) } : Oper)) (v := ?_) rfl (by kernel_rfl) (by kernel_rfl) (by kernel_rfl) (fun _ _ _ h => h) (Or.inl ⟨by rfl, ?_⟩) (by assumption) ?_
  rotate_left
  · (intro wz hSw; (try dsimp only at hSw); go_simp; first | done | with_reducible rfl)
  (try simp only [Act.put, List.setIfInBounds_toArray, List.set_cons_zero, List.set_cons_succ])
  refine wpAnyH_take (i := 18) (oi := ({ dst := some 34, op := Op.move (Operand.tmp 4), type := 37, pos := "l2_arena.go:135", after := #[{ on := 12, ground := Ground.guard }], guard := some (12, false) } : Oper)) (v := ?_) rfl (by kernel_rfl) (by kernel_rfl) (by kernel_rfl) (fun _ _ _ h => h) (Or.inl ⟨by rfl, ?_⟩) (by assumption) ?_
  rotate_left
  · (intro wz hSw; (try dsimp only at hSw); go_simp; first | done | with_reducible rfl)
  (try simp only [Act.put, List.setIfInBounds_toArray, List.set_cons_zero, List.set_cons_succ])
  have KP0 := (HX.out.1.below (below_trans' HB.out (al1 w2 (.cells #[] 3)))).cells
  refine wpAnyH_ready (rs := [15]) (by kernel_rfl) (by simp) ?_
  refine AllReadyH.cons (o := ({ dst := some 31, op := Op.buildSlice 37 0 #[], type := 37, pos := "l2_arena.go:135", after := #[{ on := 12, ground := Ground.guard }], guard := some (12, false) } : Oper)) rfl (fun K hK => ?_) AllReadyH.nil
  clear hHeld
  go_simp
  refine hK.out _ _ KP0 (fun hHeld => ?_)
  clear hK K KP0
  (try simp only [Act.put, List.setIfInBounds_toArray, List.set_cons_zero, List.set_cons_succ])
  refine wpAnyH_ready (rs := [17]) (by kernel_rfl) (by simp) ?_
  refine AllReadyH.cons (o := ({ dst := some 33, op := Op.call { callee := Callee.builtin Builtin.append, args := #[Operand.tmp 31, Operand.tmp 32], argTypes := #[37, 37] }, type := 37, pos := "l2_arena.go:135", after := #[{ on := 15, ground := Ground.data }, { on := 16, ground := Ground.data }, { on := 12, ground := Ground.chain }, { on := 12, ground := Ground.guard }], guard := some (12, false) } : Oper)) rfl (fun K hK => ?_) AllReadyH.nil
  clear hHeld
  refine step_append_ints (by rfl) (.tmp 31) (.tmp 32) rfl w2.heap.size _ 0 0 [] rfl (own_int_lit1 _) _ _ _ C rfl (HX.out.2.2.1.below (below_trans' HB.out (al1 _ _))) (by omega) (by have := HL.out; omega) (by simp) ?_
  intro a5 c5 w5 hown5 hb5
  rw [Nat.zero_add, List.nil_append] at hown5
  simp only [Nat.zero_add]
  have HB5 : Hid (Below W.heap.size W w5) := below_from (HB.out.alloc HB.out.size _) hb5 HB.out.size
  have HO : Hid (w5.ownsRow w2.heap.size 3 1 (.slice a5 nC c5) nC (C.map (Value.int .i64)) ∧ w2.heap.size ≤ w5.heap.size ∧ W.heap.size ≤ w2.heap.size) := ⟨hown5, Nat.le_trans (by simp) hb5.size, HB.out.size⟩
  clear HB KP hb5 hown5
  have HB : Hid (Below W.heap.size W w5) := HB5.out
  clear HB5
  have KP : Hid (w5.cell? ⟨w.heap.size, 0, none⟩ = some (.slice (some ⟨b, off, none⟩) 10 cap) ∧ w5.cell? ⟨w.heap.size, 1, none⟩ = some (.int .i64 t) ∧ w5.cell? ⟨w.heap.size, 2, none⟩ = some (.int .i64 f) ∧ w5.cell? ⟨w.heap.size, 3, none⟩ = some (.int .i64 l)) := (HX.out.1.below HB.out).cells
  refine hK.out _ _ ?_ (fun hHeld => ?_)
  · exact KP.out
  clear hK K
  (try simp only [Act.put, List.setIfInBounds_toArray, List.set_cons_zero, List.set_cons_succ])
  refine wpAnyH_ready (rs := [19]) (by kernel_rfl) (by simp) ?_
  refine AllReadyH.cons (o := ({ dst := some 35, op := Op.call { callee := Callee.builtin Builtin.append, args := #[Operand.tmp 33, Operand.tmp 34], argTypes := #[37, 37] }, type := 37, pos := "l2_arena.go:135", after := #[{ on := 17, ground := Ground.data }, { on := 18, ground := Ground.data }, { on := 17, ground := Ground.chain }, { on := 12, ground := Ground.guard }], guard := some (12, false) } : Oper)) rfl (fun K hK => ?_) AllReadyH.nil
  clear hHeld
  refine step_append_ints (by rfl) (.tmp 33) (.tmp 34) rfl w2.heap.size _ nC _ C rfl HO.out.1 _ _ _ S rfl (HX.out.2.2.2.1.below HB.out) (by have := HL.out; omega) (by have := HL.out; omega) HO.out.2.1 ?_
  intro a6 c6 w6 hown6 hb6
  have HB6 : Hid (Below W.heap.size W w6) := below_from HB.out hb6 HO.out.2.2
  clear HO HB KP hb6
  have HO : Hid (w6.ownsRow w2.heap.size 3 1 (.slice a6 (nC + nS) c6) (nC + nS) ((C ++ S).map (Value.int .i64))) := hown6
  have HB : Hid (Below W.heap.size W w6) := HB6.out
  clear HB6 hown6
  have KP : Hid (w6.cell? ⟨w.heap.size, 0, none⟩ = some (.slice (some ⟨b, off, none⟩) 10 cap) ∧ w6.cell? ⟨w.heap.size, 1, none⟩ = some (.int .i64 t) ∧ w6.cell? ⟨w.heap.size, 2, none⟩ = some (.int .i64 f) ∧ w6.cell? ⟨w.heap.size, 3, none⟩ = some (.int .i64 l)) := (HX.out.1.below HB.out).cells
  refine hK.out _ _ ?_ (fun hHeld => ?_)
  · exact KP.out
  clear hK K
  (try simp only [Act.put, List.setIfInBounds_toArray, List.set_cons_zero, List.set_cons_succ])
  refine wpAnyH_ready (rs := [20]) (by kernel_rfl) (by simp) ?_
  refine AllReadyH.cons (o := ({ dst := some 36, op := Op.call { callee := Callee.value (Operand.func 72), args := #[Operand.tmp 29, Operand.tmp 30, Operand.tmp 35], argTypes := #[43, 37, 37] }, type := 4, pos := "l2_arena.go:135", after := #[{ on := 13, ground := Ground.data }, { on := 14, ground := Ground.data }, { on := 19, ground := Ground.data }, { on := 19, ground := Ground.chain }, { on := 12, ground := Ground.guard }], guard := some (12, false) } : Oper)) rfl (fun K hK => ?_) AllReadyH.nil
  clear hHeld
  go_simp
  go_wp2_with (go_at_call 72; refine (l2Ends_any b off cap ns t f l aQ nQ cQ Q _ _ _ (C ++ S) _ (HX.out.2.1.below HB.out) (HX.out.2.2.2.2.1.below HB.out) (own_sints HO.out) (by have := HL.out; omega) (by have := HL.out; omega) HP.out.2.2.1).mono ?_; rintro e w7 ⟨rfl, hb7⟩; rw [show (usedB ns Q (C ++ S) && endB ns Q) = endsB ns Q (C ++ S) from rfl]; have HB : Hid (Below W.heap.size W w7) := below_trans' HB.out hb7; have KP : Hid (w7.cell? ⟨w.heap.size, 0, none⟩ = some (.slice (some ⟨b, off, none⟩) 10 cap) ∧ w7.cell? ⟨w.heap.size, 1, none⟩ = some (.int .i64 t) ∧ w7.cell? ⟨w.heap.size, 2, none⟩ = some (.int .i64 f) ∧ w7.cell? ⟨w.heap.size, 3, none⟩ = some (.int .i64 l)) := (HX.out.1.below HB.out).cells; clear hb7 HO)
  refine hK.out _ _ ?_ (fun hHeld => ?_)
  · exact KP.out
  clear hK K
  (try simp only [Act.put, List.setIfInBounds_toArray, List.set_cons_zero, List.set_cons_succ])
  cases hE3 : endsB ns Q (C ++ S)
  · have E3 : Hid (endsB ns Q (C ++ S) = false) := hE3
    clear hE3
    refine wpAnyH_take (i := 21) (oi := ({ dst := some 37, op := Op.unOp UnOp.not 4 (Operand.tmp 36), type := 4, pos := "l2_arena.go:135", after := #[{ on := 20, ground := Ground.data }, { on := 12, ground := Ground.guard }], guard := some (12, false) } : Oper)) (v := ?_) rfl (by kernel_rfl) (by kernel_rfl) (by kernel_rfl) (fun _ _ _ h => h) (Or.inl ⟨by rfl, ?_⟩) (by assumption) ?_
    rotate_left
    · (intro wz hSw; (try dsimp only at hSw); go_simp; first | done | with_reducible rfl)
    (try simp only [Act.put, List.setIfInBounds_toArray, List.set_cons_zero, List.set_cons_succ])
    refine wpAnyH_take (i := 22) (oi := ({ dst := some 38, op := Op.pick (Operand.tmp 28) (Operand.const (Value.bool true)) (Operand.tmp 37), type := 4, pos := "l2_arena.go:135", after := #[{ on := 12, ground := Ground.data }, { on := 21, ground := Ground.data }], guard := none } : Oper)) (v := ?_) rfl (by kernel_rfl) (by kernel_rfl) (by kernel_rfl) (fun _ _ _ h => h) (Or.inl ⟨by rfl, ?_⟩) (by assumption) ?_
    rotate_left
    · (intro wz hSw; (try dsimp only at hSw); go_simp; first | done | with_reducible rfl)
    (try simp only [Act.put, List.setIfInBounds_toArray, List.set_cons_zero, List.set_cons_succ])
    refine wpAnyH_take (i := 23) (oi := ({ dst := some 39, op := Op.move (Operand.tmp 38), type := 4, pos := "l2_arena.go:135", after := #[{ on := 22, ground := Ground.data }, { on := 20, ground := Ground.chain }], guard := none } : Oper)) (v := ?_) rfl (by kernel_rfl) (by kernel_rfl) (by kernel_rfl) (fun _ _ _ h => h) (Or.inl ⟨by rfl, ?_⟩) (by assumption) ?_
    rotate_left
    · (intro wz hSw; (try dsimp only at hSw); go_simp; first | done | with_reducible rfl)
    (try simp only [Act.put, List.setIfInBounds_toArray, List.set_cons_zero, List.set_cons_succ])
    refine wpAnyH_take (i := 24) (oi := ({ dst := some 40, op := Op.load 43 (Operand.tmp 1), type := 43, pos := "l2_arena.go:135", after := #[{ on := 23, ground := Ground.guard }], guard := some (23, false) } : Oper)) (v := undef) rfl (by kernel_rfl) (by kernel_rfl) (by kernel_rfl) (fun _ _ _ h => h) (Or.inr ⟨by rfl, rfl⟩) (by assumption) ?_
    (try simp only [Act.put, List.setIfInBounds_toArray, List.set_cons_zero, List.set_cons_succ])
    refine wpAnyH_take (i := 25) (oi := ({ dst := some 41, op := Op.move (Operand.tmp 4), type := 37, pos := "l2_arena.go:135", after := #[{ on := 23, ground := Ground.guard }], guard := some (23, false) } : Oper)) (v := undef) rfl (by kernel_rfl) (by kernel_rfl) (by kernel_rfl) (fun _ _ _ h => h) (Or.inr ⟨by rfl, rfl⟩) (by assumption) ?_
    (try simp only [Act.put, List.setIfInBounds_toArray, List.set_cons_zero, List.set_cons_succ])
    refine wpAnyH_take (i := 26) (oi := ({ dst := some 42, op := Op.call { callee := Callee.value (Operand.func 73), args := #[Operand.tmp 40, Operand.tmp 41], argTypes := #[43, 37] }, type := 4, pos := "l2_arena.go:135", after := #[{ on := 24, ground := Ground.data }, { on := 25, ground := Ground.data }, { on := 23, ground := Ground.chain }, { on := 23, ground := Ground.guard }], guard := some (23, false) } : Oper)) (v := undef) rfl (by kernel_rfl) (by kernel_rfl) (by kernel_rfl) (fun _ _ _ h => h) (Or.inr ⟨by rfl, rfl⟩) (by assumption) ?_
    (try simp only [Act.put, List.setIfInBounds_toArray, List.set_cons_zero, List.set_cons_succ])
    refine wpAnyH_take (i := 27) (oi := ({ dst := some 43, op := Op.unOp UnOp.not 4 (Operand.tmp 42), type := 4, pos := "l2_arena.go:135", after := #[{ on := 26, ground := Ground.data }, { on := 23, ground := Ground.guard }], guard := some (23, false) } : Oper)) (v := undef) rfl (by kernel_rfl) (by kernel_rfl) (by kernel_rfl) (fun _ _ _ h => h) (Or.inr ⟨by rfl, rfl⟩) (by assumption) ?_
    (try simp only [Act.put, List.setIfInBounds_toArray, List.set_cons_zero, List.set_cons_succ])
    refine wpAnyH_take (i := 28) (oi := ({ dst := some 44, op := Op.pick (Operand.tmp 39) (Operand.const (Value.bool true)) (Operand.tmp 43), type := 4, pos := "l2_arena.go:135", after := #[{ on := 23, ground := Ground.data }, { on := 27, ground := Ground.data }], guard := none } : Oper)) (v := ?_) rfl (by kernel_rfl) (by kernel_rfl) (by kernel_rfl) (fun _ _ _ h => h) (Or.inl ⟨by rfl, ?_⟩) (by assumption) ?_
    rotate_left
    · (intro wz hSw; (try dsimp only at hSw); go_simp; first | done | with_reducible rfl)
    (try simp only [Act.put, List.setIfInBounds_toArray, List.set_cons_zero, List.set_cons_succ])
    refine wpAnyH_take (i := 29) (oi := ({ dst := some 45, op := Op.move (Operand.tmp 44), type := 4, pos := "l2_arena.go:135", after := #[{ on := 28, ground := Ground.data }, { on := 26, ground := Ground.chain }], guard := none } : Oper)) (v := ?_) rfl (by kernel_rfl) (by kernel_rfl) (by kernel_rfl) (fun _ _ _ h => h) (Or.inl ⟨by rfl, ?_⟩) (by assumption) ?_
    rotate_left
    · (intro wz hSw; (try dsimp only at hSw); go_simp; first | done | with_reducible rfl)
    (try simp only [Act.put, List.setIfInBounds_toArray, List.set_cons_zero, List.set_cons_succ])
    refine wpAnyH_take (i := 30) (oi := ({ dst := some 46, op := Op.load 43 (Operand.tmp 1), type := 43, pos := "l2_arena.go:135", after := #[{ on := 29, ground := Ground.guard }], guard := some (29, false) } : Oper)) (v := undef) rfl (by kernel_rfl) (by kernel_rfl) (by kernel_rfl) (fun _ _ _ h => h) (Or.inr ⟨by rfl, rfl⟩) (by assumption) ?_
    (try simp only [Act.put, List.setIfInBounds_toArray, List.set_cons_zero, List.set_cons_succ])
    refine wpAnyH_take (i := 31) (oi := ({ dst := some 47, op := Op.move (Operand.tmp 5), type := 37, pos := "l2_arena.go:135", after := #[{ on := 29, ground := Ground.guard }], guard := some (29, false) } : Oper)) (v := undef) rfl (by kernel_rfl) (by kernel_rfl) (by kernel_rfl) (fun _ _ _ h => h) (Or.inr ⟨by rfl, rfl⟩) (by assumption) ?_
    (try simp only [Act.put, List.setIfInBounds_toArray, List.set_cons_zero, List.set_cons_succ])
    refine wpAnyH_take (i := 32) (oi := ({ dst := some 48, op := Op.call { callee := Callee.value (Operand.func 73), args := #[Operand.tmp 46, Operand.tmp 47], argTypes := #[43, 37] }, type := 4, pos := "l2_arena.go:135", after := #[{ on := 30, ground := Ground.data }, { on := 31, ground := Ground.data }, { on := 29, ground := Ground.chain }, { on := 29, ground := Ground.guard }], guard := some (29, false) } : Oper)) (v := undef) rfl (by kernel_rfl) (by kernel_rfl) (by kernel_rfl) (fun _ _ _ h => h) (Or.inr ⟨by rfl, rfl⟩) (by assumption) ?_
    (try simp only [Act.put, List.setIfInBounds_toArray, List.set_cons_zero, List.set_cons_succ])
    refine wpAnyH_take (i := 33) (oi := ({ dst := some 49, op := Op.unOp UnOp.not 4 (Operand.tmp 48), type := 4, pos := "l2_arena.go:135", after := #[{ on := 32, ground := Ground.data }, { on := 29, ground := Ground.guard }], guard := some (29, false) } : Oper)) (v := undef) rfl (by kernel_rfl) (by kernel_rfl) (by kernel_rfl) (fun _ _ _ h => h) (Or.inr ⟨by rfl, rfl⟩) (by assumption) ?_
    (try simp only [Act.put, List.setIfInBounds_toArray, List.set_cons_zero, List.set_cons_succ])
    refine wpAnyH_take (i := 34) (oi := ({ dst := some 50, op := Op.pick (Operand.tmp 45) (Operand.const (Value.bool true)) (Operand.tmp 49), type := 4, pos := "l2_arena.go:135", after := #[{ on := 29, ground := Ground.data }, { on := 33, ground := Ground.data }], guard := none } : Oper)) (v := ?_) rfl (by kernel_rfl) (by kernel_rfl) (by kernel_rfl) (fun _ _ _ h => h) (Or.inl ⟨by rfl, ?_⟩) (by assumption) ?_
    rotate_left
    · (intro wz hSw; (try dsimp only at hSw); go_simp; first | done | with_reducible rfl)
    (try simp only [Act.put, List.setIfInBounds_toArray, List.set_cons_zero, List.set_cons_succ])
    refine wpAnyH_take (i := 35) (oi := ({ dst := some 51, op := Op.move (Operand.tmp 50), type := 4, pos := "l2_arena.go:135", after := #[{ on := 34, ground := Ground.data }, { on := 32, ground := Ground.chain }], guard := none } : Oper)) (v := ?_) rfl (by kernel_rfl) (by kernel_rfl) (by kernel_rfl) (fun _ _ _ h => h) (Or.inl ⟨by rfl, ?_⟩) (by assumption) ?_
    rotate_left
    · (intro wz hSw; (try dsimp only at hSw); go_simp; first | done | with_reducible rfl)
    (try simp only [Act.put, List.setIfInBounds_toArray, List.set_cons_zero, List.set_cons_succ])
    refine wpAnyH_take (i := 36) (oi := ({ dst := some 52, op := Op.load 43 (Operand.tmp 1), type := 43, pos := "l2_arena.go:135", after := #[{ on := 35, ground := Ground.guard }], guard := some (35, false) } : Oper)) (v := undef) rfl (by kernel_rfl) (by kernel_rfl) (by kernel_rfl) (fun _ _ _ h => h) (Or.inr ⟨by rfl, rfl⟩) (by assumption) ?_
    (try simp only [Act.put, List.setIfInBounds_toArray, List.set_cons_zero, List.set_cons_succ])
    refine wpAnyH_take (i := 37) (oi := ({ dst := some 53, op := Op.move (Operand.tmp 5), type := 37, pos := "l2_arena.go:135", after := #[{ on := 35, ground := Ground.guard }], guard := some (35, false) } : Oper)) (v := undef) rfl (by kernel_rfl) (by kernel_rfl) (by kernel_rfl) (fun _ _ _ h => h) (Or.inr ⟨by rfl, rfl⟩) (by assumption) ?_
    (try simp only [Act.put, List.setIfInBounds_toArray, List.set_cons_zero, List.set_cons_succ])
    refine wpAnyH_take (i := 38) (oi := ({ dst := some 54, op := Op.call { callee := Callee.value (Operand.func 74), args := #[Operand.tmp 52, Operand.tmp 53], argTypes := #[43, 37] }, type := 4, pos := "l2_arena.go:135", after := #[{ on := 36, ground := Ground.data }, { on := 37, ground := Ground.data }, { on := 35, ground := Ground.chain }, { on := 35, ground := Ground.guard }], guard := some (35, false) } : Oper)) (v := undef) rfl (by kernel_rfl) (by kernel_rfl) (by kernel_rfl) (fun _ _ _ h => h) (Or.inr ⟨by rfl, rfl⟩) (by assumption) ?_
    (try simp only [Act.put, List.setIfInBounds_toArray, List.set_cons_zero, List.set_cons_succ])
    refine wpAnyH_take (i := 39) (oi := ({ dst := some 55, op := Op.unOp UnOp.not 4 (Operand.tmp 54), type := 4, pos := "l2_arena.go:135", after := #[{ on := 38, ground := Ground.data }, { on := 35, ground := Ground.guard }], guard := some (35, false) } : Oper)) (v := undef) rfl (by kernel_rfl) (by kernel_rfl) (by kernel_rfl) (fun _ _ _ h => h) (Or.inr ⟨by rfl, rfl⟩) (by assumption) ?_
    (try simp only [Act.put, List.setIfInBounds_toArray, List.set_cons_zero, List.set_cons_succ])
    refine wpAnyH_take (i := 40) (oi := ({ dst := some 56, op := Op.pick (Operand.tmp 51) (Operand.const (Value.bool true)) (Operand.tmp 55), type := 4, pos := "l2_arena.go:135", after := #[{ on := 35, ground := Ground.data }, { on := 39, ground := Ground.data }], guard := none } : Oper)) (v := ?_) rfl (by kernel_rfl) (by kernel_rfl) (by kernel_rfl) (fun _ _ _ h => h) (Or.inl ⟨by rfl, ?_⟩) (by assumption) ?_
    rotate_left
    · (intro wz hSw; (try dsimp only at hSw); go_simp; first | done | with_reducible rfl)
    (try simp only [Act.put, List.setIfInBounds_toArray, List.set_cons_zero, List.set_cons_succ])
    refine wpAnyH_done (by kernel_rfl) ?_ _
    go_wp2
    go_ret
    exact ⟨ret_bool (by simp [okL3, E1.out, E2.out, E3.out]), below_trans' HX.out.2.2.2.2.2 HB.out⟩
  have E3 : Hid (endsB ns Q (C ++ S) = true) := hE3
  clear hE3
  refine wpAnyH_take (i := 21) (oi := ({ dst := some 37, op := Op.unOp UnOp.not 4 (Operand.tmp 36), type := 4, pos := "l2_arena.go:135", after := #[{ on := 20, ground := Ground.data }, { on := 12, ground := Ground.guard }], guard := some (12, false) } : Oper)) (v := ?_) rfl (by kernel_rfl) (by kernel_rfl) (by kernel_rfl) (fun _ _ _ h => h) (Or.inl ⟨by rfl, ?_⟩) (by assumption) ?_
  rotate_left
  · (intro wz hSw; (try dsimp only at hSw); go_simp; first | done | with_reducible rfl)
  (try simp only [Act.put, List.setIfInBounds_toArray, List.set_cons_zero, List.set_cons_succ])
  refine wpAnyH_take (i := 22) (oi := ({ dst := some 38, op := Op.pick (Operand.tmp 28) (Operand.const (Value.bool true)) (Operand.tmp 37), type := 4, pos := "l2_arena.go:135", after := #[{ on := 12, ground := Ground.data }, { on := 21, ground := Ground.data }], guard := none } : Oper)) (v := ?_) rfl (by kernel_rfl) (by kernel_rfl) (by kernel_rfl) (fun _ _ _ h => h) (Or.inl ⟨by rfl, ?_⟩) (by assumption) ?_
  rotate_left
  · (intro wz hSw; (try dsimp only at hSw); go_simp; first | done | with_reducible rfl)
  (try simp only [Act.put, List.setIfInBounds_toArray, List.set_cons_zero, List.set_cons_succ])
  refine wpAnyH_take (i := 23) (oi := ({ dst := some 39, op := Op.move (Operand.tmp 38), type := 4, pos := "l2_arena.go:135", after := #[{ on := 22, ground := Ground.data }, { on := 20, ground := Ground.chain }], guard := none } : Oper)) (v := ?_) rfl (by kernel_rfl) (by kernel_rfl) (by kernel_rfl) (fun _ _ _ h => h) (Or.inl ⟨by rfl, ?_⟩) (by assumption) ?_
  rotate_left
  · (intro wz hSw; (try dsimp only at hSw); go_simp; first | done | with_reducible rfl)
  (try simp only [Act.put, List.setIfInBounds_toArray, List.set_cons_zero, List.set_cons_succ])
  refine wpAnyH_take (i := 24) (oi := ({ dst := some 40, op := Op.load 43 (Operand.tmp 1), type := 43, pos := "l2_arena.go:135", after := #[{ on := 23, ground := Ground.guard }], guard := some (23, false) } : Oper)) (v := ?_) rfl (by kernel_rfl) (by kernel_rfl) (by kernel_rfl) (fun _ _ _ h => h) (Or.inl ⟨by rfl, ?_⟩) (by assumption) ?_
  rotate_left
  · (intro wz hSw; (try dsimp only at hSw); go_simp; first | done | with_reducible rfl)
  (try simp only [Act.put, List.setIfInBounds_toArray, List.set_cons_zero, List.set_cons_succ])
  refine wpAnyH_take (i := 25) (oi := ({ dst := some 41, op := Op.move (Operand.tmp 4), type := 37, pos := "l2_arena.go:135", after := #[{ on := 23, ground := Ground.guard }], guard := some (23, false) } : Oper)) (v := ?_) rfl (by kernel_rfl) (by kernel_rfl) (by kernel_rfl) (fun _ _ _ h => h) (Or.inl ⟨by rfl, ?_⟩) (by assumption) ?_
  rotate_left
  · (intro wz hSw; (try dsimp only at hSw); go_simp; first | done | with_reducible rfl)
  (try simp only [Act.put, List.setIfInBounds_toArray, List.set_cons_zero, List.set_cons_succ])
  refine wpAnyH_ready (rs := [26]) (by kernel_rfl) (by simp) ?_
  refine AllReadyH.cons (o := ({ dst := some 42, op := Op.call { callee := Callee.value (Operand.func 73), args := #[Operand.tmp 40, Operand.tmp 41], argTypes := #[43, 37] }, type := 4, pos := "l2_arena.go:135", after := #[{ on := 24, ground := Ground.data }, { on := 25, ground := Ground.data }, { on := 23, ground := Ground.chain }, { on := 23, ground := Ground.guard }], guard := some (23, false) } : Oper)) rfl (fun K hK => ?_) AllReadyH.nil
  clear hHeld
  go_simp
  go_wp2_with (go_at_call 73; refine (l2Bare_any b off cap ns t f l aS nS cS S _ (HX.out.2.1.below HB.out) (HX.out.2.2.2.1.below HB.out) (by have := HL.out; omega) HP.out.2.1.1).mono ?_; rintro e w8 ⟨rfl, hb8⟩; have HB : Hid (Below W.heap.size W w8) := below_trans' HB.out hb8; have KP : Hid (w8.cell? ⟨w.heap.size, 0, none⟩ = some (.slice (some ⟨b, off, none⟩) 10 cap) ∧ w8.cell? ⟨w.heap.size, 1, none⟩ = some (.int .i64 t) ∧ w8.cell? ⟨w.heap.size, 2, none⟩ = some (.int .i64 f) ∧ w8.cell? ⟨w.heap.size, 3, none⟩ = some (.int .i64 l)) := (HX.out.1.below HB.out).cells; clear hb8)
  refine hK.out _ _ ?_ (fun hHeld => ?_)
  · exact KP.out
  clear hK K
  (try simp only [Act.put, List.setIfInBounds_toArray, List.set_cons_zero, List.set_cons_succ])
  cases hE4 : bareB ns S
  · have E4 : Hid (bareB ns S = false) := hE4
    clear hE4
    refine wpAnyH_take (i := 27) (oi := ({ dst := some 43, op := Op.unOp UnOp.not 4 (Operand.tmp 42), type := 4, pos := "l2_arena.go:135", after := #[{ on := 26, ground := Ground.data }, { on := 23, ground := Ground.guard }], guard := some (23, false) } : Oper)) (v := ?_) rfl (by kernel_rfl) (by kernel_rfl) (by kernel_rfl) (fun _ _ _ h => h) (Or.inl ⟨by rfl, ?_⟩) (by assumption) ?_
    rotate_left
    · (intro wz hSw; (try dsimp only at hSw); go_simp; first | done | with_reducible rfl)
    (try simp only [Act.put, List.setIfInBounds_toArray, List.set_cons_zero, List.set_cons_succ])
    refine wpAnyH_take (i := 28) (oi := ({ dst := some 44, op := Op.pick (Operand.tmp 39) (Operand.const (Value.bool true)) (Operand.tmp 43), type := 4, pos := "l2_arena.go:135", after := #[{ on := 23, ground := Ground.data }, { on := 27, ground := Ground.data }], guard := none } : Oper)) (v := ?_) rfl (by kernel_rfl) (by kernel_rfl) (by kernel_rfl) (fun _ _ _ h => h) (Or.inl ⟨by rfl, ?_⟩) (by assumption) ?_
    rotate_left
    · (intro wz hSw; (try dsimp only at hSw); go_simp; first | done | with_reducible rfl)
    (try simp only [Act.put, List.setIfInBounds_toArray, List.set_cons_zero, List.set_cons_succ])
    refine wpAnyH_take (i := 29) (oi := ({ dst := some 45, op := Op.move (Operand.tmp 44), type := 4, pos := "l2_arena.go:135", after := #[{ on := 28, ground := Ground.data }, { on := 26, ground := Ground.chain }], guard := none } : Oper)) (v := ?_) rfl (by kernel_rfl) (by kernel_rfl) (by kernel_rfl) (fun _ _ _ h => h) (Or.inl ⟨by rfl, ?_⟩) (by assumption) ?_
    rotate_left
    · (intro wz hSw; (try dsimp only at hSw); go_simp; first | done | with_reducible rfl)
    (try simp only [Act.put, List.setIfInBounds_toArray, List.set_cons_zero, List.set_cons_succ])
    refine wpAnyH_take (i := 30) (oi := ({ dst := some 46, op := Op.load 43 (Operand.tmp 1), type := 43, pos := "l2_arena.go:135", after := #[{ on := 29, ground := Ground.guard }], guard := some (29, false) } : Oper)) (v := undef) rfl (by kernel_rfl) (by kernel_rfl) (by kernel_rfl) (fun _ _ _ h => h) (Or.inr ⟨by rfl, rfl⟩) (by assumption) ?_
    (try simp only [Act.put, List.setIfInBounds_toArray, List.set_cons_zero, List.set_cons_succ])
    refine wpAnyH_take (i := 31) (oi := ({ dst := some 47, op := Op.move (Operand.tmp 5), type := 37, pos := "l2_arena.go:135", after := #[{ on := 29, ground := Ground.guard }], guard := some (29, false) } : Oper)) (v := undef) rfl (by kernel_rfl) (by kernel_rfl) (by kernel_rfl) (fun _ _ _ h => h) (Or.inr ⟨by rfl, rfl⟩) (by assumption) ?_
    (try simp only [Act.put, List.setIfInBounds_toArray, List.set_cons_zero, List.set_cons_succ])
    refine wpAnyH_take (i := 32) (oi := ({ dst := some 48, op := Op.call { callee := Callee.value (Operand.func 73), args := #[Operand.tmp 46, Operand.tmp 47], argTypes := #[43, 37] }, type := 4, pos := "l2_arena.go:135", after := #[{ on := 30, ground := Ground.data }, { on := 31, ground := Ground.data }, { on := 29, ground := Ground.chain }, { on := 29, ground := Ground.guard }], guard := some (29, false) } : Oper)) (v := undef) rfl (by kernel_rfl) (by kernel_rfl) (by kernel_rfl) (fun _ _ _ h => h) (Or.inr ⟨by rfl, rfl⟩) (by assumption) ?_
    (try simp only [Act.put, List.setIfInBounds_toArray, List.set_cons_zero, List.set_cons_succ])
    refine wpAnyH_take (i := 33) (oi := ({ dst := some 49, op := Op.unOp UnOp.not 4 (Operand.tmp 48), type := 4, pos := "l2_arena.go:135", after := #[{ on := 32, ground := Ground.data }, { on := 29, ground := Ground.guard }], guard := some (29, false) } : Oper)) (v := undef) rfl (by kernel_rfl) (by kernel_rfl) (by kernel_rfl) (fun _ _ _ h => h) (Or.inr ⟨by rfl, rfl⟩) (by assumption) ?_
    (try simp only [Act.put, List.setIfInBounds_toArray, List.set_cons_zero, List.set_cons_succ])
    refine wpAnyH_take (i := 34) (oi := ({ dst := some 50, op := Op.pick (Operand.tmp 45) (Operand.const (Value.bool true)) (Operand.tmp 49), type := 4, pos := "l2_arena.go:135", after := #[{ on := 29, ground := Ground.data }, { on := 33, ground := Ground.data }], guard := none } : Oper)) (v := ?_) rfl (by kernel_rfl) (by kernel_rfl) (by kernel_rfl) (fun _ _ _ h => h) (Or.inl ⟨by rfl, ?_⟩) (by assumption) ?_
    rotate_left
    · (intro wz hSw; (try dsimp only at hSw); go_simp; first | done | with_reducible rfl)
    (try simp only [Act.put, List.setIfInBounds_toArray, List.set_cons_zero, List.set_cons_succ])
    refine wpAnyH_take (i := 35) (oi := ({ dst := some 51, op := Op.move (Operand.tmp 50), type := 4, pos := "l2_arena.go:135", after := #[{ on := 34, ground := Ground.data }, { on := 32, ground := Ground.chain }], guard := none } : Oper)) (v := ?_) rfl (by kernel_rfl) (by kernel_rfl) (by kernel_rfl) (fun _ _ _ h => h) (Or.inl ⟨by rfl, ?_⟩) (by assumption) ?_
    rotate_left
    · (intro wz hSw; (try dsimp only at hSw); go_simp; first | done | with_reducible rfl)
    (try simp only [Act.put, List.setIfInBounds_toArray, List.set_cons_zero, List.set_cons_succ])
    refine wpAnyH_take (i := 36) (oi := ({ dst := some 52, op := Op.load 43 (Operand.tmp 1), type := 43, pos := "l2_arena.go:135", after := #[{ on := 35, ground := Ground.guard }], guard := some (35, false) } : Oper)) (v := undef) rfl (by kernel_rfl) (by kernel_rfl) (by kernel_rfl) (fun _ _ _ h => h) (Or.inr ⟨by rfl, rfl⟩) (by assumption) ?_
    (try simp only [Act.put, List.setIfInBounds_toArray, List.set_cons_zero, List.set_cons_succ])
    refine wpAnyH_take (i := 37) (oi := ({ dst := some 53, op := Op.move (Operand.tmp 5), type := 37, pos := "l2_arena.go:135", after := #[{ on := 35, ground := Ground.guard }], guard := some (35, false) } : Oper)) (v := undef) rfl (by kernel_rfl) (by kernel_rfl) (by kernel_rfl) (fun _ _ _ h => h) (Or.inr ⟨by rfl, rfl⟩) (by assumption) ?_
    (try simp only [Act.put, List.setIfInBounds_toArray, List.set_cons_zero, List.set_cons_succ])
    refine wpAnyH_take (i := 38) (oi := ({ dst := some 54, op := Op.call { callee := Callee.value (Operand.func 74), args := #[Operand.tmp 52, Operand.tmp 53], argTypes := #[43, 37] }, type := 4, pos := "l2_arena.go:135", after := #[{ on := 36, ground := Ground.data }, { on := 37, ground := Ground.data }, { on := 35, ground := Ground.chain }, { on := 35, ground := Ground.guard }], guard := some (35, false) } : Oper)) (v := undef) rfl (by kernel_rfl) (by kernel_rfl) (by kernel_rfl) (fun _ _ _ h => h) (Or.inr ⟨by rfl, rfl⟩) (by assumption) ?_
    (try simp only [Act.put, List.setIfInBounds_toArray, List.set_cons_zero, List.set_cons_succ])
    refine wpAnyH_take (i := 39) (oi := ({ dst := some 55, op := Op.unOp UnOp.not 4 (Operand.tmp 54), type := 4, pos := "l2_arena.go:135", after := #[{ on := 38, ground := Ground.data }, { on := 35, ground := Ground.guard }], guard := some (35, false) } : Oper)) (v := undef) rfl (by kernel_rfl) (by kernel_rfl) (by kernel_rfl) (fun _ _ _ h => h) (Or.inr ⟨by rfl, rfl⟩) (by assumption) ?_
    (try simp only [Act.put, List.setIfInBounds_toArray, List.set_cons_zero, List.set_cons_succ])
    refine wpAnyH_take (i := 40) (oi := ({ dst := some 56, op := Op.pick (Operand.tmp 51) (Operand.const (Value.bool true)) (Operand.tmp 55), type := 4, pos := "l2_arena.go:135", after := #[{ on := 35, ground := Ground.data }, { on := 39, ground := Ground.data }], guard := none } : Oper)) (v := ?_) rfl (by kernel_rfl) (by kernel_rfl) (by kernel_rfl) (fun _ _ _ h => h) (Or.inl ⟨by rfl, ?_⟩) (by assumption) ?_
    rotate_left
    · (intro wz hSw; (try dsimp only at hSw); go_simp; first | done | with_reducible rfl)
    (try simp only [Act.put, List.setIfInBounds_toArray, List.set_cons_zero, List.set_cons_succ])
    refine wpAnyH_done (by kernel_rfl) ?_ _
    go_wp2
    go_ret
    exact ⟨ret_bool (by simp [okL3, E1.out, E2.out, E3.out, E4.out]), below_trans' HX.out.2.2.2.2.2 HB.out⟩
  have E4 : Hid (bareB ns S = true) := hE4
  clear hE4
  refine wpAnyH_take (i := 27) (oi := ({ dst := some 43, op := Op.unOp UnOp.not 4 (Operand.tmp 42), type := 4, pos := "l2_arena.go:135", after := #[{ on := 26, ground := Ground.data }, { on := 23, ground := Ground.guard }], guard := some (23, false) } : Oper)) (v := ?_) rfl (by kernel_rfl) (by kernel_rfl) (by kernel_rfl) (fun _ _ _ h => h) (Or.inl ⟨by rfl, ?_⟩) (by assumption) ?_
  rotate_left
  · (intro wz hSw; (try dsimp only at hSw); go_simp; first | done | with_reducible rfl)
  (try simp only [Act.put, List.setIfInBounds_toArray, List.set_cons_zero, List.set_cons_succ])
  refine wpAnyH_take (i := 28) (oi := ({ dst := some 44, op := Op.pick (Operand.tmp 39) (Operand.const (Value.bool true)) (Operand.tmp 43), type := 4, pos := "l2_arena.go:135", after := #[{ on := 23, ground := Ground.data }, { on := 27, ground := Ground.data }], guard := none } : Oper)) (v := ?_) rfl (by kernel_rfl) (by kernel_rfl) (by kernel_rfl) (fun _ _ _ h => h) (Or.inl ⟨by rfl, ?_⟩) (by assumption) ?_
  rotate_left
  · (intro wz hSw; (try dsimp only at hSw); go_simp; first | done | with_reducible rfl)
  (try simp only [Act.put, List.setIfInBounds_toArray, List.set_cons_zero, List.set_cons_succ])
  refine wpAnyH_take (i := 29) (oi := ({ dst := some 45, op := Op.move (Operand.tmp 44), type := 4, pos := "l2_arena.go:135", after := #[{ on := 28, ground := Ground.data }, { on := 26, ground := Ground.chain }], guard := none } : Oper)) (v := ?_) rfl (by kernel_rfl) (by kernel_rfl) (by kernel_rfl) (fun _ _ _ h => h) (Or.inl ⟨by rfl, ?_⟩) (by assumption) ?_
  rotate_left
  · (intro wz hSw; (try dsimp only at hSw); go_simp; first | done | with_reducible rfl)
  (try simp only [Act.put, List.setIfInBounds_toArray, List.set_cons_zero, List.set_cons_succ])
  refine wpAnyH_take (i := 30) (oi := ({ dst := some 46, op := Op.load 43 (Operand.tmp 1), type := 43, pos := "l2_arena.go:135", after := #[{ on := 29, ground := Ground.guard }], guard := some (29, false) } : Oper)) (v := ?_) rfl (by kernel_rfl) (by kernel_rfl) (by kernel_rfl) (fun _ _ _ h => h) (Or.inl ⟨by rfl, ?_⟩) (by assumption) ?_
  rotate_left
  · (intro wz hSw; (try dsimp only at hSw); go_simp; first | done | with_reducible rfl)
  (try simp only [Act.put, List.setIfInBounds_toArray, List.set_cons_zero, List.set_cons_succ])
  refine wpAnyH_take (i := 31) (oi := ({ dst := some 47, op := Op.move (Operand.tmp 5), type := 37, pos := "l2_arena.go:135", after := #[{ on := 29, ground := Ground.guard }], guard := some (29, false) } : Oper)) (v := ?_) rfl (by kernel_rfl) (by kernel_rfl) (by kernel_rfl) (fun _ _ _ h => h) (Or.inl ⟨by rfl, ?_⟩) (by assumption) ?_
  rotate_left
  · (intro wz hSw; (try dsimp only at hSw); go_simp; first | done | with_reducible rfl)
  (try simp only [Act.put, List.setIfInBounds_toArray, List.set_cons_zero, List.set_cons_succ])
  refine wpAnyH_ready (rs := [32]) (by kernel_rfl) (by simp) ?_
  refine AllReadyH.cons (o := ({ dst := some 48, op := Op.call { callee := Callee.value (Operand.func 73), args := #[Operand.tmp 46, Operand.tmp 47], argTypes := #[43, 37] }, type := 4, pos := "l2_arena.go:135", after := #[{ on := 30, ground := Ground.data }, { on := 31, ground := Ground.data }, { on := 29, ground := Ground.chain }, { on := 29, ground := Ground.guard }], guard := some (29, false) } : Oper)) rfl (fun K hK => ?_) AllReadyH.nil
  clear hHeld
  go_simp
  go_wp2_with (go_at_call 73; refine (l2Bare_any b off cap ns t f l aQ nQ cQ Q _ (HX.out.2.1.below HB.out) (HX.out.2.2.2.2.1.below HB.out) (by have := HL.out; omega) HP.out.2.2.1).mono ?_; rintro e w9 ⟨rfl, hb9⟩; have HB : Hid (Below W.heap.size W w9) := below_trans' HB.out hb9; have KP : Hid (w9.cell? ⟨w.heap.size, 0, none⟩ = some (.slice (some ⟨b, off, none⟩) 10 cap) ∧ w9.cell? ⟨w.heap.size, 1, none⟩ = some (.int .i64 t) ∧ w9.cell? ⟨w.heap.size, 2, none⟩ = some (.int .i64 f) ∧ w9.cell? ⟨w.heap.size, 3, none⟩ = some (.int .i64 l)) := (HX.out.1.below HB.out).cells; clear hb9)
  refine hK.out _ _ ?_ (fun hHeld => ?_)
  · exact KP.out
  clear hK K
  (try simp only [Act.put, List.setIfInBounds_toArray, List.set_cons_zero, List.set_cons_succ])
  cases hE5 : bareB ns Q
  · have E5 : Hid (bareB ns Q = false) := hE5
    clear hE5
    refine wpAnyH_take (i := 33) (oi := ({ dst := some 49, op := Op.unOp UnOp.not 4 (Operand.tmp 48), type := 4, pos := "l2_arena.go:135", after := #[{ on := 32, ground := Ground.data }, { on := 29, ground := Ground.guard }], guard := some (29, false) } : Oper)) (v := ?_) rfl (by kernel_rfl) (by kernel_rfl) (by kernel_rfl) (fun _ _ _ h => h) (Or.inl ⟨by rfl, ?_⟩) (by assumption) ?_
    rotate_left
    · (intro wz hSw; (try dsimp only at hSw); go_simp; first | done | with_reducible rfl)
    (try simp only [Act.put, List.setIfInBounds_toArray, List.set_cons_zero, List.set_cons_succ])
    refine wpAnyH_take (i := 34) (oi := ({ dst := some 50, op := Op.pick (Operand.tmp 45) (Operand.const (Value.bool true)) (Operand.tmp 49), type := 4, pos := "l2_arena.go:135", after := #[{ on := 29, ground := Ground.data }, { on := 33, ground := Ground.data }], guard := none } : Oper)) (v := ?_) rfl (by kernel_rfl) (by kernel_rfl) (by kernel_rfl) (fun _ _ _ h => h) (Or.inl ⟨by rfl, ?_⟩) (by assumption) ?_
    rotate_left
    · (intro wz hSw; (try dsimp only at hSw); go_simp; first | done | with_reducible rfl)
    (try simp only [Act.put, List.setIfInBounds_toArray, List.set_cons_zero, List.set_cons_succ])
    refine wpAnyH_take (i := 35) (oi := ({ dst := some 51, op := Op.move (Operand.tmp 50), type := 4, pos := "l2_arena.go:135", after := #[{ on := 34, ground := Ground.data }, { on := 32, ground := Ground.chain }], guard := none } : Oper)) (v := ?_) rfl (by kernel_rfl) (by kernel_rfl) (by kernel_rfl) (fun _ _ _ h => h) (Or.inl ⟨by rfl, ?_⟩) (by assumption) ?_
    rotate_left
    · (intro wz hSw; (try dsimp only at hSw); go_simp; first | done | with_reducible rfl)
    (try simp only [Act.put, List.setIfInBounds_toArray, List.set_cons_zero, List.set_cons_succ])
    refine wpAnyH_take (i := 36) (oi := ({ dst := some 52, op := Op.load 43 (Operand.tmp 1), type := 43, pos := "l2_arena.go:135", after := #[{ on := 35, ground := Ground.guard }], guard := some (35, false) } : Oper)) (v := undef) rfl (by kernel_rfl) (by kernel_rfl) (by kernel_rfl) (fun _ _ _ h => h) (Or.inr ⟨by rfl, rfl⟩) (by assumption) ?_
    (try simp only [Act.put, List.setIfInBounds_toArray, List.set_cons_zero, List.set_cons_succ])
    refine wpAnyH_take (i := 37) (oi := ({ dst := some 53, op := Op.move (Operand.tmp 5), type := 37, pos := "l2_arena.go:135", after := #[{ on := 35, ground := Ground.guard }], guard := some (35, false) } : Oper)) (v := undef) rfl (by kernel_rfl) (by kernel_rfl) (by kernel_rfl) (fun _ _ _ h => h) (Or.inr ⟨by rfl, rfl⟩) (by assumption) ?_
    (try simp only [Act.put, List.setIfInBounds_toArray, List.set_cons_zero, List.set_cons_succ])
    refine wpAnyH_take (i := 38) (oi := ({ dst := some 54, op := Op.call { callee := Callee.value (Operand.func 74), args := #[Operand.tmp 52, Operand.tmp 53], argTypes := #[43, 37] }, type := 4, pos := "l2_arena.go:135", after := #[{ on := 36, ground := Ground.data }, { on := 37, ground := Ground.data }, { on := 35, ground := Ground.chain }, { on := 35, ground := Ground.guard }], guard := some (35, false) } : Oper)) (v := undef) rfl (by kernel_rfl) (by kernel_rfl) (by kernel_rfl) (fun _ _ _ h => h) (Or.inr ⟨by rfl, rfl⟩) (by assumption) ?_
    (try simp only [Act.put, List.setIfInBounds_toArray, List.set_cons_zero, List.set_cons_succ])
    refine wpAnyH_take (i := 39) (oi := ({ dst := some 55, op := Op.unOp UnOp.not 4 (Operand.tmp 54), type := 4, pos := "l2_arena.go:135", after := #[{ on := 38, ground := Ground.data }, { on := 35, ground := Ground.guard }], guard := some (35, false) } : Oper)) (v := undef) rfl (by kernel_rfl) (by kernel_rfl) (by kernel_rfl) (fun _ _ _ h => h) (Or.inr ⟨by rfl, rfl⟩) (by assumption) ?_
    (try simp only [Act.put, List.setIfInBounds_toArray, List.set_cons_zero, List.set_cons_succ])
    refine wpAnyH_take (i := 40) (oi := ({ dst := some 56, op := Op.pick (Operand.tmp 51) (Operand.const (Value.bool true)) (Operand.tmp 55), type := 4, pos := "l2_arena.go:135", after := #[{ on := 35, ground := Ground.data }, { on := 39, ground := Ground.data }], guard := none } : Oper)) (v := ?_) rfl (by kernel_rfl) (by kernel_rfl) (by kernel_rfl) (fun _ _ _ h => h) (Or.inl ⟨by rfl, ?_⟩) (by assumption) ?_
    rotate_left
    · (intro wz hSw; (try dsimp only at hSw); go_simp; first | done | with_reducible rfl)
    (try simp only [Act.put, List.setIfInBounds_toArray, List.set_cons_zero, List.set_cons_succ])
    refine wpAnyH_done (by kernel_rfl) ?_ _
    go_wp2
    go_ret
    exact ⟨ret_bool (by simp [okL3, E1.out, E2.out, E3.out, E4.out, E5.out]), below_trans' HX.out.2.2.2.2.2 HB.out⟩
  have E5 : Hid (bareB ns Q = true) := hE5
  clear hE5
  refine wpAnyH_take (i := 33) (oi := ({ dst := some 49, op := Op.unOp UnOp.not 4 (Operand.tmp 48), type := 4, pos := "l2_arena.go:135", after := #[{ on := 32, ground := Ground.data }, { on := 29, ground := Ground.guard }], guard := some (29, false) } : Oper)) (v := ?_) rfl (by kernel_rfl) (by kernel_rfl) (by kernel_rfl) (fun _ _ _ h => h) (Or.inl ⟨by rfl, ?_⟩) (by assumption) ?_
  rotate_left
  · (intro wz hSw; (try dsimp only at hSw); go_simp; first | done | with_reducible rfl)
  (try simp only [Act.put, List.setIfInBounds_toArray, List.set_cons_zero, List.set_cons_succ])
  refine wpAnyH_take (i := 34) (oi := ({ dst := some 50, op := Op.pick (Operand.tmp 45) (Operand.const (Value.bool true)) (Operand.tmp 49), type := 4, pos := "l2_arena.go:135", after := #[{ on := 29, ground := Ground.data }, { on := 33, ground := Ground.data }], guard := none } : Oper)) (v := ?_) rfl (by kernel_rfl) (by kernel_rfl) (by kernel_rfl) (fun _ _ _ h => h) (Or.inl ⟨by rfl, ?_⟩) (by assumption) ?_
  rotate_left
  · (intro wz hSw; (try dsimp only at hSw); go_simp; first | done | with_reducible rfl)
  (try simp only [Act.put, List.setIfInBounds_toArray, List.set_cons_zero, List.set_cons_succ])
  refine wpAnyH_take (i := 35) (oi := ({ dst := some 51, op := Op.move (Operand.tmp 50), type := 4, pos := "l2_arena.go:135", after := #[{ on := 34, ground := Ground.data }, { on := 32, ground := Ground.chain }], guard := none } : Oper)) (v := ?_) rfl (by kernel_rfl) (by kernel_rfl) (by kernel_rfl) (fun _ _ _ h => h) (Or.inl ⟨by rfl, ?_⟩) (by assumption) ?_
  rotate_left
  · (intro wz hSw; (try dsimp only at hSw); go_simp; first | done | with_reducible rfl)
  (try simp only [Act.put, List.setIfInBounds_toArray, List.set_cons_zero, List.set_cons_succ])
  refine wpAnyH_take (i := 36) (oi := ({ dst := some 52, op := Op.load 43 (Operand.tmp 1), type := 43, pos := "l2_arena.go:135", after := #[{ on := 35, ground := Ground.guard }], guard := some (35, false) } : Oper)) (v := ?_) rfl (by kernel_rfl) (by kernel_rfl) (by kernel_rfl) (fun _ _ _ h => h) (Or.inl ⟨by rfl, ?_⟩) (by assumption) ?_
  rotate_left
  · (intro wz hSw; (try dsimp only at hSw); go_simp; first | done | with_reducible rfl)
  (try simp only [Act.put, List.setIfInBounds_toArray, List.set_cons_zero, List.set_cons_succ])
  refine wpAnyH_take (i := 37) (oi := ({ dst := some 53, op := Op.move (Operand.tmp 5), type := 37, pos := "l2_arena.go:135", after := #[{ on := 35, ground := Ground.guard }], guard := some (35, false) } : Oper)) (v := ?_) rfl (by kernel_rfl) (by kernel_rfl) (by kernel_rfl) (fun _ _ _ h => h) (Or.inl ⟨by rfl, ?_⟩) (by assumption) ?_
  rotate_left
  · (intro wz hSw; (try dsimp only at hSw); go_simp; first | done | with_reducible rfl)
  (try simp only [Act.put, List.setIfInBounds_toArray, List.set_cons_zero, List.set_cons_succ])
  refine wpAnyH_ready (rs := [38]) (by kernel_rfl) (by simp) ?_
  refine AllReadyH.cons (o := ({ dst := some 54, op := Op.call { callee := Callee.value (Operand.func 74), args := #[Operand.tmp 52, Operand.tmp 53], argTypes := #[43, 37] }, type := 4, pos := "l2_arena.go:135", after := #[{ on := 36, ground := Ground.data }, { on := 37, ground := Ground.data }, { on := 35, ground := Ground.chain }, { on := 35, ground := Ground.guard }], guard := some (35, false) } : Oper)) rfl (fun K hK => ?_) AllReadyH.nil
  clear hHeld
  go_simp
  go_wp2_with (go_at_call 74; refine (l2Last_any b off cap ns t f l aQ nQ cQ Q _ (HX.out.2.2.2.2.1.below HB.out) (by have := HL.out; omega)).mono ?_; rintro e w10 ⟨rfl, hb10⟩; have HB : Hid (Below W.heap.size W w10) := below_trans' HB.out hb10; have KP : Hid (w10.cell? ⟨w.heap.size, 0, none⟩ = some (.slice (some ⟨b, off, none⟩) 10 cap) ∧ w10.cell? ⟨w.heap.size, 1, none⟩ = some (.int .i64 t) ∧ w10.cell? ⟨w.heap.size, 2, none⟩ = some (.int .i64 f) ∧ w10.cell? ⟨w.heap.size, 3, none⟩ = some (.int .i64 l)) := (HX.out.1.below HB.out).cells; clear hb10)
  refine hK.out _ _ ?_ (fun hHeld => ?_)
  · exact KP.out
  clear hK K
  (try simp only [Act.put, List.setIfInBounds_toArray, List.set_cons_zero, List.set_cons_succ])
  cases hE6 : lastB Q l
  · have E6 : Hid (lastB Q l = false) := hE6
    clear hE6
    refine wpAnyH_take (i := 39) (oi := ({ dst := some 55, op := Op.unOp UnOp.not 4 (Operand.tmp 54), type := 4, pos := "l2_arena.go:135", after := #[{ on := 38, ground := Ground.data }, { on := 35, ground := Ground.guard }], guard := some (35, false) } : Oper)) (v := ?_) rfl (by kernel_rfl) (by kernel_rfl) (by kernel_rfl) (fun _ _ _ h => h) (Or.inl ⟨by rfl, ?_⟩) (by assumption) ?_
    rotate_left
    · (intro wz hSw; (try dsimp only at hSw); go_simp; first | done | with_reducible rfl)
    (try simp only [Act.put, List.setIfInBounds_toArray, List.set_cons_zero, List.set_cons_succ])
    refine wpAnyH_take (i := 40) (oi := ({ dst := some 56, op := Op.pick (Operand.tmp 51) (Operand.const (Value.bool true)) (Operand.tmp 55), type := 4, pos := "l2_arena.go:135", after := #[{ on := 35, ground := Ground.data }, { on := 39, ground := Ground.data }], guard := none } : Oper)) (v := ?_) rfl (by kernel_rfl) (by kernel_rfl) (by kernel_rfl) (fun _ _ _ h => h) (Or.inl ⟨by rfl, ?_⟩) (by assumption) ?_
    rotate_left
    · (intro wz hSw; (try dsimp only at hSw); go_simp; first | done | with_reducible rfl)
    (try simp only [Act.put, List.setIfInBounds_toArray, List.set_cons_zero, List.set_cons_succ])
    refine wpAnyH_done (by kernel_rfl) ?_ _
    go_wp2
    go_ret
    exact ⟨ret_bool (by simp [okL3, E1.out, E2.out, E3.out, E4.out, E5.out, E6.out]), below_trans' HX.out.2.2.2.2.2 HB.out⟩
  have E6 : Hid (lastB Q l = true) := hE6
  clear hE6
  refine wpAnyH_take (i := 39) (oi := ({ dst := some 55, op := Op.unOp UnOp.not 4 (Operand.tmp 54), type := 4, pos := "l2_arena.go:135", after := #[{ on := 38, ground := Ground.data }, { on := 35, ground := Ground.guard }], guard := some (35, false) } : Oper)) (v := ?_) rfl (by kernel_rfl) (by kernel_rfl) (by kernel_rfl) (fun _ _ _ h => h) (Or.inl ⟨by rfl, ?_⟩) (by assumption) ?_
  rotate_left
  · (intro wz hSw; (try dsimp only at hSw); go_simp; first | done | with_reducible rfl)
  (try simp only [Act.put, List.setIfInBounds_toArray, List.set_cons_zero, List.set_cons_succ])
  refine wpAnyH_take (i := 40) (oi := ({ dst := some 56, op := Op.pick (Operand.tmp 51) (Operand.const (Value.bool true)) (Operand.tmp 55), type := 4, pos := "l2_arena.go:135", after := #[{ on := 35, ground := Ground.data }, { on := 39, ground := Ground.data }], guard := none } : Oper)) (v := ?_) rfl (by kernel_rfl) (by kernel_rfl) (by kernel_rfl) (fun _ _ _ h => h) (Or.inl ⟨by rfl, ?_⟩) (by assumption) ?_
  rotate_left
  · (intro wz hSw; (try dsimp only at hSw); go_simp; first | done | with_reducible rfl)
  (try simp only [Act.put, List.setIfInBounds_toArray, List.set_cons_zero, List.set_cons_succ])
  refine wpAnyH_done (by kernel_rfl) ?_ _
  go_wp2
  have HR : Hid (okL3 ns l C S Q = riseB ns C) := by show _ = _; simp [okL3, E1.out, E2.out, E3.out, E4.out, E5.out, E6.out]
  clear E1 E2 E3 E4 E5 E6
  go_loopw [6] (fun i wr => ∃ k : Nat, 1 ≤ k ∧ (k ≤ nC ∨ k = 1) ∧ i = .int .i64 k ∧ Below W.heap.size W wr ∧ ∀ j, j + 1 < k → (ndAt ns (C.getD j 0)).key < (ndAt ns (C.getD (j + 1) 0)).key) (fun i _ => nC - (intOf i).toNat)
  case atStart => exact ⟨1, Nat.le_refl _, .inr rfl, rfl, HB.out, fun j hj => by omega⟩
  case round =>
    obtain ⟨k, hk1, hk, rfl, hbel, hall0⟩ := hrel
    have hall : Hid (∀ j, j + 1 < k → (ndAt ns (C.getD j 0)).key < (ndAt ns (C.getD (j + 1) 0)).key) := hall0
    have hn9 := HL.out.2.1
    have HLC : Hid (C.length = nC) := HL.out.1.1
    clear hall0 KP HB
    by_cases hlt : k < nC
    · have c0 := (HX.out.1.below hbel).c0
      obtain ⟨_, h0 | ⟨b', off', rfl, hc⟩⟩ := HX.out.2.2.1.below hbel
      · omega
      · obtain ⟨m, hm⟩ : ∃ m : Nat, k - 1 = m := ⟨_, rfl⟩
        obtain ⟨y, hy⟩ : ∃ y, C.getD m 0 = y := ⟨_, rfl⟩
        obtain ⟨z, hz⟩ : ∃ z, C.getD k 0 = z := ⟨_, rfl⟩
        have h1 : wr.cell? ⟨b', off' + m, none⟩ = some (.int .i64 y) := by rw [← hy]; exact hc m (by omega)
        have h2 : wr.cell? ⟨b', off' + k, none⟩ = some (.int .i64 z) := by rw [← hz]; exact hc k (by omega)
        have hyb := HP.out.1.1 m (by rw [HLC.out]; omega)
        have hzb := HP.out.1.1 k (by rw [HLC.out]; omega)
        rw [hy] at hyb
        rw [hz] at hzb
        obtain ⟨i, rfl⟩ : ∃ i : Nat, y = i := ⟨y.toNat, by omega⟩
        obtain ⟨j, rfl⟩ : ∃ j : Nat, z = j := ⟨z.toNat, by omega⟩
        have hi : i < 10 := by omega
        have hj : j < 10 := by omega
        obtain ⟨b2, off2, ⟨x0, x1, x2, x3, x4, x5⟩, eab, hx, hN⟩ := (HX.out.2.1.below hbel).at hi
        cases eab
        obtain ⟨b2, off2, ⟨y0, y1, y2, y3, y4, y5⟩, eab, hx2, hN2⟩ := (HX.out.2.1.below hbel).at hj
        cases eab
        have n0 := hN.c0
        have m0 := hN2.c0
        dsimp only at n0 m0
        have HM : Hid ((ndAt ns (C.getD m 0)).key = x0 ∧ (ndAt ns (C.getD k 0)).key = y0) := ⟨by rw [hy]; simp [ndAt, List.getD, hx], by rw [hz]; simp [ndAt, List.getD, hx2]⟩
        have wm : IntKind.i64.wrap ((k : Int) - 1) = (m : Int) := by rw [wrap_in64 (by omega) (by omega)]; omega
        have hmn : (m : Int) < (nC : Int) := by omega
        have hkn : (k : Int) < (nC : Int) := by omega
        have HB : Hid (Below W.heap.size W wr) := hbel
        have hmk : Hid (m + 1 = k) := by show _ = _; omega
        clear hc hy hz hN hN2 hx hx2 hyb hzb hbel hk hm
        by_cases hle : y0 ≤ x0
        · go_wp2
          go_quiet (fail)
          go_wp2
          go_ret
          exact ⟨ret_bool (by rw [HR.out, riseB_no (k := m) (by rw [HLC.out]; have := hmk.out; omega) (by rw [hmk.out, HM.out.1, HM.out.2]; omega)]), below_trans' HX.out.2.2.2.2.2 (below_trans' HB.out (below_drewN _ _ _))⟩
        · go_wp2
          go_quiet (fail)
          go_wp2
          go_roundw
          case rel => exact ⟨k + 1, by omega, .inl (by omega), by go_num, below_trans' HB.out (below_drewN _ _ _), fun j2 hj2 => by
            by_cases e : j2 = m
            · subst e; rw [hmk.out, HM.out.1, HM.out.2]; omega
            · exact hall.out j2 (by have := hmk.out; omega)⟩
          case measure => simp [intOf]; omega
    · have hge : (nC : Int) ≤ (k : Int) := by omega
      have HB : Hid (Below W.heap.size W wr) := hbel
      clear hbel
      go_wp2
      go_ret
      exact ⟨ret_bool (by rw [HR.out, riseB_yes (fun j hj => hall.out j (by rw [HLC.out] at hj; omega))]), below_trans' HX.out.2.2.2.2.2 HB.out⟩

end Go.Proofs.Ytklpdpdjblakgaa

/- OkS6 -/
namespace Go.Proofs.Ytklpdpdjblakgaa
open Go.RowKit
set_option linter.unusedVariables false

set_option maxHeartbeats 1000000 in
theorem specArnOk_bad (a : Option Addr) (n cap : Nat) (ns : List Nd) (t f l : Int) (w : World) (hs : SNodes w a n ns) (hn : n ≤ 9223372036854775807) (hsh : shapeB ns t f l = false) :
    Calls Try.prog 51 #[.agg #[.slice a n cap, .int .i64 t, .int .i64 f, .int .i64 l]] w fun e w' => e = .returned (.bool false) ∧ Below w.heap.size w w' := by
  go_enter Try.func51, Try.ntmps51
  go_wp2_with fail
  refine (l2Shape_any _ _ _ ns t f l _ (hs.below (al1 w (.cells #[.slice a n cap, .int .i64 t, .int .i64 f, .int .i64 l] 43))) hn).mono ?_
  rintro e w1 ⟨rfl, hb1⟩
  have hbel := below_trans' (al1 w (.cells #[.slice a n cap, .int .i64 t, .int .i64 f, .int .i64 l] 43)) hb1
  rw [hsh]
  clear hs hb1
  go_wp2
  go_ret
  exact ⟨rfl, hbel⟩

theorem specArnOk_any (a : Option Addr) (n cap : Nat) (ns : List Nd) (t f l : Int) (w : World) (hs : SNodes w a n ns) (hn : n ≤ 1048576) :
    Calls Try.prog 51 #[.agg #[.slice a n cap, .int .i64 t, .int .i64 f, .int .i64 l]] w fun e w' => e = .returned (.bool (okA ns t f l)) ∧ Below w.heap.size w w' := by
  cases hsh : shapeB ns t f l
  · have e : okA ns t f l = false := by simp [okA, hsh]
    rw [e]
    exact specArnOk_bad a n cap ns t f l w hs (by omega) hsh
  · obtain ⟨hl, _⟩ := shapeB_parts hsh
    obtain ⟨rfl, b, off, rfl⟩ := snodes_some hs hl
    have e : okA ns t f l = okL3 ns l (pathOf begC ns t f l) (pathOf begS ns t f l) (pathOf begQ ns t f l) := by simp [okA, hsh]
    rw [e]
    exact specArnOk_ok b off cap ns t f l w hs hsh _ _ _ rfl rfl rfl

end Go.Proofs.Ytklpdpdjblakgaa

/- OkI -/
namespace Go.Proofs.Ytklpdpdjblakgaa
open Go.RowKit
set_option linter.unusedVariables false

/-- All of some are in use. -/
def inUseB (ns : List Nd) (zs : List Int) : Bool := zs.all (fun z => (ndAt ns z).used)

theorem markedN_any (k v o r : Int) (u : Bool) (g : Int) (w : World) :
    Calls Try.prog 60 #[.agg #[.int .i64 k, .int .i64 v, .int .i64 o, .int .i64 r, .bool u, .int .i64 g]] w fun e w' => e = .returned (.bool (wMark o)) ∧ Below w.heap.size w w' := by
  go_enter Try.func60, Try.ntmps60
  go_wp2_with (go_at_call 89; refine (marked_any _ _).mono ?_; rintro e w' ⟨rfl, rfl⟩)
  go_ret
  exact ⟨rfl, al1 _ _⟩

set_option maxHeartbeats 1600000 in
theorem allUsed_any (b off cap : Nat) (ns : List Nd) (t f l : Int) (a : Option Addr) (n c : Nat) (zs : List Int) (w : World) (hs : SNodes w (some ⟨b, off, none⟩) 10 ns) (hz : SInts w a n zs) (hn : n ≤ 1048576) (hp : placesB zs) :
    Calls Try.prog 81 #[.agg #[.slice (some ⟨b, off, none⟩) 10 cap, .int .i64 t, .int .i64 f, .int .i64 l], .slice a n c] w fun e w' => e = .returned (.bool (inUseB ns zs)) ∧ Below w.heap.size w w' := by
  have HZ : Hid (zs.length = n) := hz.1
  have HP : Hid (placesB zs) := hp
  have A := al1 w (.cells #[.slice (some ⟨b, off, none⟩) 10 cap, .int .i64 t, .int .i64 f, .int .i64 l] 43)
  have I0 : Hid (Below w.heap.size w (w.alloc (.cells #[.slice (some ⟨b, off, none⟩) 10 cap, .int .i64 t, .int .i64 f, .int .i64 l] 43)) ∧ BoxA (w.alloc (.cells #[.slice (some ⟨b, off, none⟩) 10 cap, .int .i64 t, .int .i64 f, .int .i64 l] 43)) w.heap.size (some ⟨b, off, none⟩) 10 cap t f l) := ⟨A, boxA_new w _ _ _ _ _ _ 43 rfl⟩
  have HS : Hid (SNodes w (some ⟨b, off, none⟩) 10 ns ∧ SInts w a n zs) := ⟨hs, hz⟩
  clear A hs hz hp
  go_enter Try.func81, Try.ntmps81
  go_wp2
  go_loopw [6, 9] (fun _ i wr => ∃ k : Nat, k ≤ n ∧ i = .int .i64 k ∧ Below w.heap.size w wr ∧ BoxA wr w.heap.size (some ⟨b, off, none⟩) 10 cap t f l ∧ ∀ j, j < k → (Nd.used (ndAt ns (zs.getD j 0))) = true) (fun _ i _ => n - (intOf i).toNat)
  case atStart => exact ⟨0, Nat.zero_le _, rfl, I0.out.1, I0.out.2, fun j hj => by omega⟩
  case round =>
    obtain ⟨k, hk, rfl, hbel, hbox, hall0⟩ := hrel
    have hall : Hid (∀ j, j < k → (Nd.used (ndAt ns (zs.getD j 0))) = true) := hall0
    clear hall0 I0
    by_cases hlt : k < n
    · obtain ⟨_, h0 | ⟨b', off', rfl, hc⟩⟩ := HS.out.2.below hbel
      · omega
      · obtain ⟨y, hy⟩ : ∃ y, zs.getD k 0 = y := ⟨_, rfl⟩
        have h1 : wr.cell? ⟨b', off' + k, none⟩ = some (.int .i64 y) := by rw [← hy]; exact hc k hlt
        have hyb := HP.out k (by rw [HZ.out]; exact hlt)
        rw [hy] at hyb
        obtain ⟨j, rfl⟩ : ∃ j : Nat, y = j := ⟨y.toNat, by omega⟩
        have hj : j < 10 := by omega
        obtain ⟨b2, off2, ⟨x0, x1, x2, x3, x4, x5⟩, eab, hx, hN⟩ := (HS.out.1.below hbel).at hj
        cases eab
        have n4 := hN.c4
        dsimp only at n4
        have c0 := hbox.c0
        have HM : Hid (ndAt ns (zs.getD k 0) = ⟨x0, x1, x2, x3, x4, x5⟩) := by show _ = _; rw [hy]; simp [ndAt, List.getD, hx]
        have HB : Hid (Below w.heap.size w wr ∧ BoxA wr w.heap.size (some ⟨b, off, none⟩) 10 cap t f l) := ⟨hbel, hbox⟩
        clear hc hy hN hx hyb hbox hbel
        cases x4
        · go_wp2
          go_ret
          exact ⟨ret_bool (all_no (i := k) (by rw [HZ.out]; exact hlt) (by rw [HM.out])).symm, HB.out.1⟩
        · go_wp2
          go_roundw
          case rel => exact ⟨k + 1, by omega, by go_num, HB.out.1, HB.out.2, fun j2 hj2 => by
            by_cases e : j2 = k
            · subst e; rw [HM.out]
            · exact hall.out j2 (by omega)⟩
          case measure => simp [intOf]; omega
    · obtain rfl : k = n := by omega
      clear hbox
      go_wp2
      go_ret
      exact ⟨ret_bool (all_yes (fun i hi => hall.out i (by rw [HZ.out] at hi; exact hi))).symm, hbel⟩

set_option maxHeartbeats 1600000 in
theorem noneMarked_any (b off cap : Nat) (ns : List Nd) (t f l : Int) (a : Option Addr) (n c : Nat) (zs : List Int) (w : World) (hs : SNodes w (some ⟨b, off, none⟩) 10 ns) (hz : SInts w a n zs) (hn : n ≤ 1048576) (hp : placesB zs) :
    Calls Try.prog 84 #[.agg #[.slice (some ⟨b, off, none⟩) 10 cap, .int .i64 t, .int .i64 f, .int .i64 l], .slice a n c] w fun e w' => e = .returned (.bool (bareB ns zs)) ∧ Below w.heap.size w w' := by
  have HZ : Hid (zs.length = n) := hz.1
  have HP : Hid (placesB zs) := hp
  have A := al1 w (.cells #[.slice (some ⟨b, off, none⟩) 10 cap, .int .i64 t, .int .i64 f, .int .i64 l] 43)
  have I0 : Hid (Below w.heap.size w (w.alloc (.cells #[.slice (some ⟨b, off, none⟩) 10 cap, .int .i64 t, .int .i64 f, .int .i64 l] 43)) ∧ BoxA (w.alloc (.cells #[.slice (some ⟨b, off, none⟩) 10 cap, .int .i64 t, .int .i64 f, .int .i64 l] 43)) w.heap.size (some ⟨b, off, none⟩) 10 cap t f l) := ⟨A, boxA_new w _ _ _ _ _ _ 43 rfl⟩
  have HS : Hid (SNodes w (some ⟨b, off, none⟩) 10 ns ∧ SInts w a n zs) := ⟨hs, hz⟩
  clear A hs hz hp
  go_enter Try.func84, Try.ntmps84
  go_wp2
  go_loopw [6, 9] (fun _ i wr => ∃ k : Nat, k ≤ n ∧ i = .int .i64 k ∧ Below w.heap.size w wr ∧ BoxA wr w.heap.size (some ⟨b, off, none⟩) 10 cap t f l ∧ ∀ j, j < k → ((fun x : Nd => !wMark x.word) (ndAt ns (zs.getD j 0))) = true) (fun _ i _ => n - (intOf i).toNat)
  case atStart => exact ⟨0, Nat.zero_le _, rfl, I0.out.1, I0.out.2, fun j hj => by omega⟩
  case round =>
    obtain ⟨k, hk, rfl, hbel, hbox, hall0⟩ := hrel
    have hall : Hid (∀ j, j < k → ((fun x : Nd => !wMark x.word) (ndAt ns (zs.getD j 0))) = true) := hall0
    clear hall0 I0
    by_cases hlt : k < n
    · obtain ⟨_, h0 | ⟨b', off', rfl, hc⟩⟩ := HS.out.2.below hbel
      · omega
      · obtain ⟨y, hy⟩ : ∃ y, zs.getD k 0 = y := ⟨_, rfl⟩
        have h1 : wr.cell? ⟨b', off' + k, none⟩ = some (.int .i64 y) := by rw [← hy]; exact hc k hlt
        have hyb := HP.out k (by rw [HZ.out]; exact hlt)
        rw [hy] at hyb
        obtain ⟨j, rfl⟩ : ∃ j : Nat, y = j := ⟨y.toNat, by omega⟩
        have hj : j < 10 := by omega
        obtain ⟨b2, off2, ⟨x0, x1, x2, x3, x4, x5⟩, eab, hx, hN⟩ := (HS.out.1.below hbel).at hj
        cases eab
        have n0 := hN.c0
        have n1 := hN.c1
        have n2 := hN.c2
        have n3 := hN.c3
        have n4 := hN.c4
        have n5 := hN.c5
        dsimp only at n0 n1 n2 n3 n4 n5
        have c0 := hbox.c0
        have HM : Hid (ndAt ns (zs.getD k 0) = ⟨x0, x1, x2, x3, x4, x5⟩) := by show _ = _; rw [hy]; simp [ndAt, List.getD, hx]
        have HB : Hid (Below w.heap.size w wr ∧ BoxA wr w.heap.size (some ⟨b, off, none⟩) 10 cap t f l) := ⟨hbel, hbox⟩
        clear hc hy hN hx hyb hbox hbel
        go_wp2_with (go_at_call 60; refine (markedN_any _ _ _ _ _ _ _).mono ?_; rintro e w5 ⟨rfl, hb5⟩; have HB5 : Hid (Below w.heap.size w w5 ∧ BoxA w5 w.heap.size (some ⟨b, off, none⟩) 10 cap t f l) := ⟨below_trans' HB.out.1 hb5, HB.out.2.below hb5⟩; clear hb5; cases hm : wMark x2)
        · go_wp2
          go_roundw
          case rel => exact ⟨k + 1, by omega, by go_num, HB5.out.1, HB5.out.2, fun j2 hj2 => by
            by_cases e : j2 = k
            · subst e; rw [HM.out]; dsimp only; rw [hm]; rfl
            · exact hall.out j2 (by omega)⟩
          case measure => simp [intOf]; omega
        · go_wp2
          go_ret
          exact ⟨ret_bool (all_no (i := k) (by rw [HZ.out]; exact hlt) (by rw [HM.out]; dsimp only; rw [hm]; rfl)).symm, HB5.out.1⟩
    · obtain rfl : k = n := by omega
      clear hbox
      go_wp2
      go_ret
      exact ⟨ret_bool (all_yes (fun i hi => hall.out i (by rw [HZ.out] at hi; exact hi))).symm, hbel⟩

set_option maxRecDepth 20000 in
set_option maxHeartbeats 2000000 in
theorem endI_any (b off cap : Nat) (ns : List Nd) (t f l : Int) (a : Option Addr) (n c : Nat) (zs : List Int) (w : World) (hs : SNodes w (some ⟨b, off, none⟩) 10 ns) (hz : SInts w a n zs) (hn : n ≤ 1048576) (hp : placesB zs) :
    Calls Try.prog 79 #[.agg #[.slice (some ⟨b, off, none⟩) 10 cap, .int .i64 t, .int .i64 f, .int .i64 l], .slice a n c] w fun e w' => e = .returned (.bool (endB ns zs)) ∧ Below w.heap.size w w' := by
  have HZ : Hid (zs.length = n) := hz.1
  have A := al1 w (.cells #[.slice (some ⟨b, off, none⟩) 10 cap, .int .i64 t, .int .i64 f, .int .i64 l] 43)
  have bx := boxA_new w (some ⟨b, off, none⟩) 10 cap t f l 43 rfl
  by_cases hk0 : n = 0
  · subst hk0
    clear hz hs hp bx
    have HA : Hid (Below w.heap.size w (w.alloc (.cells #[.slice (some ⟨b, off, none⟩) 10 cap, .int .i64 t, .int .i64 f, .int .i64 l] 43))) := A
    clear A
    go_enter Try.func79, Try.ntmps79
    go_wp2
    go_quiet (fail)
    go_wp2
    go_ret
    exact ⟨ret_bool (by simp [endB, HZ.out]), below_trans' HA.out (below_drewN _ _ _)⟩
  · obtain ⟨_, h0 | ⟨b', off', rfl, hc⟩⟩ := hz.below A
    · omega
    · obtain ⟨m, hm⟩ : ∃ m : Nat, n - 1 = m := ⟨_, rfl⟩
      obtain ⟨y, hy⟩ : ∃ y, zs.getD m 0 = y := ⟨_, rfl⟩
      have h1 := hc m (by omega)
      rw [hy] at h1
      have hyb := hp m (by rw [HZ.out]; omega)
      rw [hy] at hyb
      obtain ⟨j, rfl⟩ : ∃ j : Nat, y = j := ⟨y.toNat, by omega⟩
      have hj : j < 10 := by omega
      obtain ⟨b2, off2, ⟨x0, x1, x2, x3, x4, x5⟩, eab, hx, hN⟩ := (hs.below A).at hj
      cases eab
      have n0 := hN.c0
      have n1 := hN.c1
      have n2 := hN.c2
      have n3 := hN.c3
      have n4 := hN.c4
      have n5 := hN.c5
      dsimp only at n0 n1 n2 n3 n4 n5
      have c0 := bx.c0
      have HE : Hid (endB ns zs = (wTo x2 == 0)) := by
        show _ = _
        unfold endB
        rw [HZ.out, hm, hy, decide_eq_false hk0]
        simp [nextN, List.getD, hx]
      have wm : IntKind.i64.wrap ((n : Int) - 1) = (m : Int) := by rw [wrap_in64 (by omega) (by omega)]; omega
      have hmk : (m : Int) < (n : Int) := by omega
      have hz0 : ((n : Int) == 0) = false := by simp; omega
      have HA : Hid (Below w.heap.size w (w.alloc (.cells #[.slice (some ⟨b, off, none⟩) 10 cap, .int .i64 t, .int .i64 f, .int .i64 l] 43))) := A
      clear A bx hN hc hx hyb hs hz hp hy hm hk0
      go_enter Try.func79, Try.ntmps79
      go_wp2
      go_region_held (fun w' => w'.cell? ⟨w.heap.size, 0, none⟩ = some (.slice (some ⟨b, off, none⟩) 10 cap) ∧ w'.cell? ⟨b', off' + m, none⟩ = some (.int .i64 (j : Int)) ∧ w'.cell? ⟨b, off + j * 6, none⟩ = some (.int .i64 x0) ∧ w'.cell? ⟨b, off + j * 6 + 1, none⟩ = some (.int .i64 x1) ∧ w'.cell? ⟨b, off + j * 6 + 2, none⟩ = some (.int .i64 x2) ∧ w'.cell? ⟨b, off + j * 6 + 3, none⟩ = some (.int .i64 x3) ∧ w'.cell? ⟨b, off + j * 6 + 4, none⟩ = some (.bool x4) ∧ w'.cell? ⟨b, off + j * 6 + 5, none⟩ = some (.int .i64 x5)) (first | (go_keep; done) | exact KP.out) (first | (go_at_call 88; refine (leads_any _ _ _ _ _ _ _).mono ?_; rintro e w5 ⟨rfl, hb5⟩; have HB5 : Hid (Below w.heap.size w w5) := below_trans' (below_trans' HA.out (Below.refl _ _).drew) hb5; have KP : Hid (w5.cell? ⟨w.heap.size, 0, none⟩ = some (.slice (some ⟨b, off, none⟩) 10 cap) ∧ w5.cell? ⟨b', off' + m, none⟩ = some (.int .i64 (j : Int)) ∧ w5.cell? ⟨b, off + j * 6, none⟩ = some (.int .i64 x0) ∧ w5.cell? ⟨b, off + j * 6 + 1, none⟩ = some (.int .i64 x1) ∧ w5.cell? ⟨b, off + j * 6 + 2, none⟩ = some (.int .i64 x2) ∧ w5.cell? ⟨b, off + j * 6 + 3, none⟩ = some (.int .i64 x3) ∧ w5.cell? ⟨b, off + j * 6 + 4, none⟩ = some (.bool x4) ∧ w5.cell? ⟨b, off + j * 6 + 5, none⟩ = some (.int .i64 x5)) := ⟨(hb5.cell (p := ⟨w.heap.size, 0, none⟩) (World.block_lt_of_cell? (w.alloc (.cells #[.slice (some ⟨b, off, none⟩) 10 cap, .int .i64 t, .int .i64 f, .int .i64 l] 43)) ⟨w.heap.size, 0, none⟩ c0)).trans c0, (hb5.cell (p := ⟨b', off' + m, none⟩) (World.block_lt_of_cell? (w.alloc (.cells #[.slice (some ⟨b, off, none⟩) 10 cap, .int .i64 t, .int .i64 f, .int .i64 l] 43)) ⟨b', off' + m, none⟩ h1)).trans h1, (hb5.cell (p := ⟨b, off + j * 6, none⟩) (World.block_lt_of_cell? (w.alloc (.cells #[.slice (some ⟨b, off, none⟩) 10 cap, .int .i64 t, .int .i64 f, .int .i64 l] 43)) ⟨b, off + j * 6, none⟩ n0)).trans n0, (hb5.cell (p := ⟨b, off + j * 6 + 1, none⟩) (World.block_lt_of_cell? (w.alloc (.cells #[.slice (some ⟨b, off, none⟩) 10 cap, .int .i64 t, .int .i64 f, .int .i64 l] 43)) ⟨b, off + j * 6 + 1, none⟩ n1)).trans n1, (hb5.cell (p := ⟨b, off + j * 6 + 2, none⟩) (World.block_lt_of_cell? (w.alloc (.cells #[.slice (some ⟨b, off, none⟩) 10 cap, .int .i64 t, .int .i64 f, .int .i64 l] 43)) ⟨b, off + j * 6 + 2, none⟩ n2)).trans n2, (hb5.cell (p := ⟨b, off + j * 6 + 3, none⟩) (World.block_lt_of_cell? (w.alloc (.cells #[.slice (some ⟨b, off, none⟩) 10 cap, .int .i64 t, .int .i64 f, .int .i64 l] 43)) ⟨b, off + j * 6 + 3, none⟩ n3)).trans n3, (hb5.cell (p := ⟨b, off + j * 6 + 4, none⟩) (World.block_lt_of_cell? (w.alloc (.cells #[.slice (some ⟨b, off, none⟩) 10 cap, .int .i64 t, .int .i64 f, .int .i64 l] 43)) ⟨b, off + j * 6 + 4, none⟩ n4)).trans n4, (hb5.cell (p := ⟨b, off + j * 6 + 5, none⟩) (World.block_lt_of_cell? (w.alloc (.cells #[.slice (some ⟨b, off, none⟩) 10 cap, .int .i64 t, .int .i64 f, .int .i64 l] 43)) ⟨b, off + j * 6 + 5, none⟩ n5)).trans n5⟩; clear hb5))
      go_wp2
      go_ret
      exact ⟨ret_bool (by rw [HE.out]), HB5.out⟩

end Go.Proofs.Ytklpdpdjblakgaa
