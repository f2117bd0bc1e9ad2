/- l20Op: what a draw of what is asked answers, and the draw DrawOpOk. -/
import Derived.Test.YtafhlflddndgjaaDoorKB
import Derived.Deep.DeepCutAuto
import Derived.Laws.Rows
namespace Go.Proofs.YtafhlflddndgjaaDoor
open Go.RowKit
set_option linter.unusedVariables false

/-- What a draw of what is asked answers. -/
def DrawnO (R p : Nat) (w : World) (e : Ending) (w' : World) : Prop := ∃ (k x y : Int) (q : Nat), e = .returned (.agg #[.int .i64 k, .int .i64 x, .int .i64 y]) ∧ Rd w' R q ∧ q ≤ p + 20 ∧ KB R w w'

/-- What is asked, under way, in a block of its own, and the block of the answer. -/
structure OI (R b g p n : Nat) (w W : World) : Prop where
  op : ∃ k x y : Int, W.heap[g]? = some (.cells #[.int .i64 k, .int .i64 x, .int .i64 y] 24)
  res : W.heap[b]? = some (.cells #[.int .i64 0, .int .i64 0, .int .i64 0] 24)
  rd : ∃ q, Rd W R q ∧ q ≤ p + n
  kb : KB R w W
  lo : R < w.heap.size ∧ w.heap.size ≤ b ∧ b < g

theorem OI.more {R b g p n m : Nat} {w W : World} (h : OI R b g p n w W) (hm : n ≤ m) : OI R b g p m w W :=
  ⟨h.op, h.res, by obtain ⟨q, hr, hq⟩ := h.rd; exact ⟨q, hr, by omega⟩, h.kb, h.lo⟩

theorem OI.pick {R b g p n q : Nat} {w W W' : World} (h : OI R b g p n w W) (hp : Picked R (q + 1) W W') (hr : Rd W R q) (hq : q ≤ p + n) : OI R b g p (n + 1) w W' :=
  have hlo := h.lo
  ⟨by obtain ⟨k, x, y, e⟩ := h.op; exact ⟨k, x, y, (heap_picked hp (by omega)).trans e⟩, (heap_picked hp (by omega)).trans h.res, ⟨q + 1, rd_picked hr hp, by omega⟩, h.kb.trans (KB.of_picked hp), hlo⟩

theorem block_lt {W : World} {g : Nat} {o : Obj} (h : W.heap[g]? = some o) : g < W.heap.size := (Array.getElem?_eq_some_iff.1 h).1

theorem OI.alloc {R b g p n : Nat} {w W : World} (h : OI R b g p n w W) (o : Obj) : OI R b g p n w (W.alloc o) :=
  have hlo := h.lo
  have A := al1 W o
  ⟨by obtain ⟨k, x, y, e⟩ := h.op; exact ⟨k, x, y, (A.block g (block_lt e)).trans e⟩, (A.block b (block_lt h.res)).trans h.res, by obtain ⟨q, hr, hq⟩ := h.rd; exact ⟨q, rd_below hr A, hq⟩, h.kb.trans (KB.of_below A (by have := h.kb.size; omega)), hlo⟩

theorem OI.store {R b g p n : Nat} {w W : World} (h : OI R b g p n w W) (i : Nat) (v : Int) : OI R b g p n w (W.setCell ⟨g, i, none⟩ (.int .i64 v)) := by
  have hlo := h.lo
  refine ⟨?_, ?_, ?_, ?_, hlo⟩
  · obtain ⟨k, x, y, e⟩ := h.op
    have e2 := Joins.block_setCell (i := i) e (.int .i64 v)
    rcases i with _ | _ | _ | i
    · exact ⟨v, x, y, by simpa using e2⟩
    · exact ⟨k, v, y, by simpa using e2⟩
    · exact ⟨k, x, v, by simpa using e2⟩
    · exact ⟨k, x, y, by simpa using e2⟩
  · have : (W.setCell ⟨g, i, none⟩ (.int .i64 v)).heap[b]? = W.heap[b]? := ((Below.refl (b + 1) W).setCell (p := ⟨g, i, none⟩) (by show b + 1 ≤ g; omega) (.int .i64 v)).block b (by omega)
    exact this.trans h.res
  · obtain ⟨q, hr, hq⟩ := h.rd
    exact ⟨q, rd_setCell hr (by omega) _, hq⟩
  · exact kb_setCell h.kb (Nat.le_refl _) (by omega) (by omega) _

theorem cell_block2 {W : World} {g : Nat} {x y z : Value} {xs : List Value} {t : TypeId} (h : W.heap[g]? = some (.cells ⟨x :: y :: z :: xs⟩ t)) : W.cell? ⟨g, 2, none⟩ = some z := by simp [World.cell?, h]

theorem Tryd.info24 : (Tryd.prog.info? 24).map (·.size) = some 3 := by kernel_rfl

set_option maxRecDepth 20000 in
set_option maxHeartbeats 2000000 in
theorem op_any (R p : Nat) (n : Int) (w : World) (hr : Rd w R p) (hRw : R < w.heap.size) (hp : p ≤ 900000) (hn : 1 ≤ n) (hn2 : n ≤ 1000) :
    Calls Tryd.prog 21 #[.pointer (some ⟨R, 0, none⟩), .int .i64 n] w (DrawnO R p w) := by
  go_enter Tryd.func21, Tryd.ntmps21
  go_wp2_with fail
  obtain ⟨W0, hW0⟩ : ∃ W0, W0 = (w.alloc (.cells #[.int .i64 0, .int .i64 0, .int .i64 0] 24)).alloc (.cells #[.int .i64 1, .int .i64 2, .int .i64 2, .int .i64 2, .int .i64 3, .int .i64 3, .int .i64 4, .int .i64 5, .int .i64 5, .int .i64 6, .int .i64 7, .int .i64 7, .int .i64 8, .int .i64 9, .int .i64 10, .int .i64 10, .int .i64 11, .int .i64 12] 3) := ⟨_, rfl⟩
  rw [← hW0]
  have A1 := al1 w (.cells #[.int .i64 0, .int .i64 0, .int .i64 0] 24)
  have A2 := al1 (w.alloc (.cells #[.int .i64 0, .int .i64 0, .int .i64 0] 24)) (.cells #[.int .i64 1, .int .i64 2, .int .i64 2, .int .i64 2, .int .i64 3, .int .i64 3, .int .i64 4, .int .i64 5, .int .i64 5, .int .i64 6, .int .i64 7, .int .i64 7, .int .i64 8, .int .i64 9, .int .i64 10, .int .i64 10, .int .i64 11, .int .i64 12] 3)
  have hr0 : Rd W0 R p := by rw [hW0]; exact rd_below (rd_below hr A1) A2
  have hK0 : KB R w W0 := by rw [hW0]; exact (KB.of_below A1 (by omega)).trans (KB.of_below A2 (by simp; omega))
  have hz0 : W0.heap.size = w.heap.size + 2 := by rw [hW0]; simp
  have hres : W0.heap[w.heap.size]? = some (.cells #[.int .i64 0, .int .i64 0, .int .i64 0] 24) := by
    rw [hW0, A2.block _ (by simp)]; exact new_block w _
  have hlit : ∀ k, k < 18 → ∃ x : Int, W0.cell? ⟨w.heap.size + 1, k, none⟩ = some (.int .i64 x) := by
    intro k hk
    rw [hW0]
    have := lit_new (w.alloc (.cells #[.int .i64 0, .int .i64 0, .int .i64 0] 24)) [1, 2, 2, 2, 3, 3, 4, 5, 5, 6, 7, 7, 8, 9, 10, 10, 11, 12] (k := k) (by simpa using hk)
    simpa using this
  clear hW0 A1 A2
  refine (pick_any R p 18 _ hr0 (by omega) (by omega) (by omega)).mono ?_
  rintro e w1 ⟨k0, ⟨hk0, hk1⟩, rfl, hpk⟩
  obtain ⟨k0, rfl⟩ := Int.eq_ofNat_of_zero_le hk0
  obtain ⟨kind, hkind⟩ := hlit k0 (by omega)
  have hk18 : k0 < 18 := by omega
  have hx1 : w1.cell? ⟨w.heap.size + 1, k0, none⟩ = some (.int .i64 kind) := (KB.of_picked hpk).cell hkind (by omega)
  have hsz1 : w1.heap.size = w.heap.size + 2 := (picked_size' hpk).trans hz0
  have O1 : Hid (OI R w.heap.size (w.heap.size + 2) p 1 w (w1.alloc (.cells #[.int .i64 kind, .int .i64 0, .int .i64 0] 24))) := by
    have B := al1 w1 (.cells #[.int .i64 kind, .int .i64 0, .int .i64 0] 24)
    have hres1 := (heap_picked hpk (g := w.heap.size) (by omega)).trans hres
    refine ⟨⟨kind, 0, 0, by have := new_block w1 (.cells #[.int .i64 kind, .int .i64 0, .int .i64 0] 24); rwa [hsz1] at this⟩, (B.block _ (by omega)).trans hres1, ⟨p + 1, rd_below (rd_picked hr0 hpk) B, by omega⟩, (hK0.trans (KB.of_picked hpk)).trans (KB.of_below B (by omega)), by omega⟩
  clear hpk hkind hlit hr0 hK0 hres hk0 hk1 hr
  go_upto_region 2 with fail
  generalize w1.alloc (.cells #[.int .i64 kind, .int .i64 0, .int .i64 0] 24) = W1 at O1 ⊢
  clear hx1
  go_cut [19] (fun s19 wx => (∃ b, s19 = .bool b) ∧ wx = W1)
  case first =>
    obtain ⟨k, x, y, e⟩ := O1.out.op
    have c0 : W1.cell? ⟨w.heap.size + 2, 0, none⟩ = some (.int .i64 k) := cell_block0 e
    cases h5 : (k == 5)
    · cases h7 : (k == 7)
      · go_wp2_with fail
        go_meet
        exact ⟨⟨_, rfl⟩, rfl⟩
      · go_wp2_with fail
        go_meet
        exact ⟨⟨_, rfl⟩, rfl⟩
    · go_wp2_with fail
      go_meet
      exact ⟨⟨_, rfl⟩, rfl⟩
  case rest =>
  obtain ⟨⟨b1, rfl⟩, rfl⟩ := hcut
  go_upto_if 19 with fail
  go_cut [] (fun wx => Hid (OI R w.heap.size (w.heap.size + 2) p 2 w wx))
  case first =>
    cases b1
    · go_wp2_with fail
      go_meet
      exact O1.out.more (by omega)
    · obtain ⟨q, hrq, hq⟩ := O1.out.rd
      go_wp2_with fail
      refine (pick_any R q 20 _ hrq (by omega) (by omega) (by omega)).mono ?_
      rintro e w2 ⟨v, hv, rfl, hpk⟩
      have O2 := O1.out.pick hpk hrq hq
      obtain ⟨k, x, y, e⟩ := O2.op
      have c2 := cell_block2 e
      have f2 := frozen_block e 2
      go_wp2_with fail
      go_meet
      exact O2.store 2 v
  case rest =>
  go_upto_region 4 with fail
  go_cut [35] (fun s35 wx => (∃ b, s35 = .bool b) ∧ Hid (OI R w.heap.size (w.heap.size + 2) p 2 w wx))
  case first =>
    obtain ⟨k, x, y, e⟩ := hcut.out.op
    have c0 := cell_block0 e
    by_cases h4 : k < 4
    · go_wp2_with fail
      go_meet
      exact ⟨⟨_, rfl⟩, hcut⟩
    · cases h9 : (k == 9)
      · cases h10 : (k == 10)
        · go_wp2_with fail
          go_meet
          exact ⟨⟨_, rfl⟩, hcut⟩
        · go_wp2_with fail
          go_meet
          exact ⟨⟨_, rfl⟩, hcut⟩
      · go_wp2_with fail
        go_meet
        exact ⟨⟨_, rfl⟩, hcut⟩
  case rest =>
  obtain ⟨⟨b2, rfl⟩, O2⟩ := hcut
  go_upto_if 35 with fail
  go_cut [] (fun wx => Hid (OI R w.heap.size (w.heap.size + 2) p 7 w wx))
  case first =>
    cases b2
    · go_wp2_with fail
      go_meet
      exact O2.out.more (by omega)
    · skip
      obtain ⟨qw3, hrw3, hqw3⟩ := O2.out.rd
      go_wp2_with fail
      refine (pick_any R qw3 4 _ hrw3 (by omega) (by omega) (by omega)).mono ?_
      rintro e w3 ⟨v1, hv1, rfl, hpkw3⟩
      have O3 : Hid (OI R w.heap.size (w.heap.size + 2) p _ w w3) := O2.out.pick hpkw3 hrw3 hqw3
      obtain ⟨qw4, hrw4, hqw4⟩ := O3.out.rd
      go_wp2_with fail
      refine (pick_any R qw4 4 _ hrw4 (by omega) (by omega) (by omega)).mono ?_
      rintro e w4 ⟨v2, hv2, rfl, hpkw4⟩
      have O4 : Hid (OI R w.heap.size (w.heap.size + 2) p _ w w4) := O3.out.pick hpkw4 hrw4 hqw4
      obtain ⟨qw5, hrw5, hqw5⟩ := O4.out.rd
      go_wp2_with fail
      refine (pick_any R qw5 8 _ hrw5 (by omega) (by omega) (by omega)).mono ?_
      rintro e w5 ⟨v3, hv3, rfl, hpkw5⟩
      have O5 : Hid (OI R w.heap.size (w.heap.size + 2) p _ w w5) := O4.out.pick hpkw5 hrw5 hqw5
      obtain ⟨qw6, hrw6, hqw6⟩ := O5.out.rd
      go_wp2_with fail
      refine (pick_any R qw6 100 _ hrw6 (by omega) (by omega) (by omega)).mono ?_
      rintro e w6 ⟨v4, hv4, rfl, hpkw6⟩
      have O6 : Hid (OI R w.heap.size (w.heap.size + 2) p _ w w6) := O5.out.pick hpkw6 hrw6 hqw6
      have OL : Hid (OI R w.heap.size (w.heap.size + 2) p _ w (w6.alloc (.cells #[.int .i64 v1, .int .i64 v2, .int .i64 v3, .int .i64 v4] 3))) := O6.out.alloc _
      obtain ⟨ql, hrl, hql⟩ := OL.out.rd
      have hlt := block_lt O6.out.res
      have hlo := O6.out.lo
      go_wp2_with fail
      refine (pick_any R ql 4 _ hrl (by omega) (by omega) (by omega)).mono ?_
      rintro e wl ⟨j, ⟨hj0, hj1⟩, rfl, hpkl⟩
      obtain ⟨j, rfl⟩ := Int.eq_ofNat_of_zero_le hj0
      have hj : j < 4 := by omega
      obtain ⟨z, hz⟩ := lit_new w6 [v1, v2, v3, v4] (k := j) (by simp; omega)
      have hzl : wl.cell? ⟨w6.heap.size, j, none⟩ = some (.int .i64 z) := (KB.of_picked hpkl).cell hz (by omega)
      have OM := OL.out.pick hpkl hrl hql
      obtain ⟨kk, xx, yy, ee⟩ := OM.op
      have c := cell_block1 ee
      have f := frozen_block ee 1
      clear hz hpkl hrl hql OL
      go_wp2_with fail
      go_meet
      exact (OM.store 1 z).more (by omega)
  case rest =>
  have O7 := hcut
  clear hcut
  go_upto_region 6 with fail
  go_cut [52] (fun s52 wx => (∃ b, s52 = .bool b) ∧ Hid (OI R w.heap.size (w.heap.size + 2) p 7 w wx))
  case first =>
    obtain ⟨k, x, y, e⟩ := O7.out.op
    have c0 := cell_block0 e
    go_wp2_with fail
    go_meet
    exact ⟨⟨_, rfl⟩, O7⟩
  case rest =>
  obtain ⟨⟨b3, rfl⟩, O8⟩ := hcut
  go_upto_if 52 with fail
  go_cut [] (fun wx => Hid (OI R w.heap.size (w.heap.size + 2) p 8 w wx))
  case first =>
    cases b3
    · go_wp2_with fail
      go_meet
      exact O8.out.more (by omega)
    · skip
      obtain ⟨qw9, hrw9, hqw9⟩ := O8.out.rd
      go_wp2_with fail
      refine (pick_any R qw9 20 _ hrw9 (by omega) (by omega) (by omega)).mono ?_
      rintro e w9 ⟨v1, hv1, rfl, hpkw9⟩
      have O9 : Hid (OI R w.heap.size (w.heap.size + 2) p _ w w9) := O8.out.pick hpkw9 hrw9 hqw9
      obtain ⟨kk, xx, yy, ee⟩ := O9.out.op
      have c := cell_block2 ee
      have f := frozen_block ee 2
      go_wp2_with fail
      go_meet
      exact O9.out.store 2 v1
  case rest =>
  have O10 := hcut
  clear hcut
  obtain ⟨qo, hro, hqo⟩ := O10.out.rd
  go_wp2_with fail
  refine (odd_any R qo n _ hro (by omega) (by omega) (by omega)).mono ?_
  rintro e wo ⟨od, rfl, hpko⟩
  have O11 : Hid (OI R w.heap.size (w.heap.size + 2) p _ w wo) := O10.out.pick hpko hro hqo
  clear hpko hro hqo O10
  go_upto_if 58 with fail
  go_cut [] (fun wx => Hid (OI R w.heap.size (w.heap.size + 2) p 12 w wx))
  case first =>
    cases od
    · go_wp2_with fail
      go_meet
      exact O11.out.more (by omega)
    · skip
      obtain ⟨qw12, hrw12, hqw12⟩ := O11.out.rd
      go_wp2_with fail
      refine (pick_any R qw12 3 _ hrw12 (by omega) (by omega) (by omega)).mono ?_
      rintro e w12 ⟨v3, hv3, rfl, hpkw12⟩
      have O12 : Hid (OI R w.heap.size (w.heap.size + 2) p _ w w12) := O11.out.pick hpkw12 hrw12 hqw12
      have h3 : v3 = 0 ∨ v3 = 1 ∨ v3 = 2 := by omega
      rcases h3 with rfl | rfl | rfl
      · skip
        obtain ⟨qw13, hrw13, hqw13⟩ := O12.out.rd
        go_wp2_with fail
        refine (pick_any R qw13 12 _ hrw13 (by omega) (by omega) (by omega)).mono ?_
        rintro e w13 ⟨v4, hv4, rfl, hpkw13⟩
        have O13 : Hid (OI R w.heap.size (w.heap.size + 2) p _ w w13) := O12.out.pick hpkw13 hrw13 hqw13
        have h13 : IntKind.i64.wrap (1 + v4) = 1 + v4 := wrap_i64_small _ (by omega) (by omega)
        have OL : Hid (OI R w.heap.size (w.heap.size + 2) p _ w (w13.alloc (.cells #[.int .i64 0, .int .i64 13, .int .i64 (-1), .int .i64 (1 + v4)] 3))) := O13.out.alloc _
        obtain ⟨ql, hrl, hql⟩ := OL.out.rd
        have hlt := block_lt O13.out.res
        have hlo := O13.out.lo
        go_wp2_with fail
        refine (pick_any R ql 4 _ hrl (by omega) (by omega) (by omega)).mono ?_
        rintro e wl ⟨j, ⟨hj0, hj1⟩, rfl, hpkl⟩
        obtain ⟨j, rfl⟩ := Int.eq_ofNat_of_zero_le hj0
        have hj : j < 4 := by omega
        obtain ⟨z, hz⟩ := lit_new w13 [0, 13, -1, 1 + v4] (k := j) (by simp; omega)
        have hzl : wl.cell? ⟨w13.heap.size, j, none⟩ = some (.int .i64 z) := (KB.of_picked hpkl).cell hz (by omega)
        have OM := OL.out.pick hpkl hrl hql
        obtain ⟨kk, xx, yy, ee⟩ := OM.op
        have c := cell_block0 ee
        have f := frozen_block ee 0
        clear hz hpkl hrl hql OL
        go_wp2_with fail
        go_meet
        exact (OM.store 0 z).more (by omega)
      · skip
        have OL : Hid (OI R w.heap.size (w.heap.size + 2) p _ w (w12.alloc (.cells #[.int .i64 (-1), .int .i64 100, .int .i64 3] 3))) := O12.out.alloc _
        obtain ⟨ql, hrl, hql⟩ := OL.out.rd
        have hlt := block_lt O12.out.res
        have hlo := O12.out.lo
        go_wp2_with fail
        refine (pick_any R ql 3 _ hrl (by omega) (by omega) (by omega)).mono ?_
        rintro e wl ⟨j, ⟨hj0, hj1⟩, rfl, hpkl⟩
        obtain ⟨j, rfl⟩ := Int.eq_ofNat_of_zero_le hj0
        have hj : j < 3 := by omega
        obtain ⟨z, hz⟩ := lit_new w12 [-1, 100, 3] (k := j) (by simp; omega)
        have hzl : wl.cell? ⟨w12.heap.size, j, none⟩ = some (.int .i64 z) := (KB.of_picked hpkl).cell hz (by omega)
        have OM := OL.out.pick hpkl hrl hql
        obtain ⟨kk, xx, yy, ee⟩ := OM.op
        have c := cell_block1 ee
        have f := frozen_block ee 1
        clear hz hpkl hrl hql OL
        go_wp2_with fail
        go_meet
        exact (OM.store 1 z).more (by omega)
      · skip
        have OL : Hid (OI R w.heap.size (w.heap.size + 2) p _ w (w12.alloc (.cells #[.int .i64 (-1), .int .i64 1000, .int .i64 3] 3))) := O12.out.alloc _
        obtain ⟨ql, hrl, hql⟩ := OL.out.rd
        have hlt := block_lt O12.out.res
        have hlo := O12.out.lo
        go_wp2_with fail
        refine (pick_any R ql 3 _ hrl (by omega) (by omega) (by omega)).mono ?_
        rintro e wl ⟨j, ⟨hj0, hj1⟩, rfl, hpkl⟩
        obtain ⟨j, rfl⟩ := Int.eq_ofNat_of_zero_le hj0
        have hj : j < 3 := by omega
        obtain ⟨z, hz⟩ := lit_new w12 [-1, 1000, 3] (k := j) (by simp; omega)
        have hzl : wl.cell? ⟨w12.heap.size, j, none⟩ = some (.int .i64 z) := (KB.of_picked hpkl).cell hz (by omega)
        have OM := OL.out.pick hpkl hrl hql
        obtain ⟨kk, xx, yy, ee⟩ := OM.op
        have c := cell_block2 ee
        have f := frozen_block ee 2
        clear hz hpkl hrl hql OL
        go_wp2_with fail
        go_meet
        exact (OM.store 2 z).more (by omega)
  case rest =>
  have O14 := hcut
  obtain ⟨k, x, y, e⟩ := O14.out.op
  have c0 := cell_block0 e
  have c1 := cell_block1 e
  have c2 := cell_block2 e
  have d0 := cell_block0 O14.out.res
  have d1 := cell_block1 O14.out.res
  have d2 := cell_block2 O14.out.res
  have f0 := frozen_block O14.out.res 0
  have f1 := frozen_block O14.out.res 1
  have f2 := frozen_block O14.out.res 2
  clear hcut
  go_wp2_with fail
  have hlo := O14.out.lo
  obtain ⟨q, hrq, hqq⟩ := O14.out.rd
  have b1 := Joins.block_setCell (i := 0) O14.out.res (.int .i64 k)
  have b2 := Joins.block_setCell (i := 1) b1 (.int .i64 x)
  have b3 := Joins.block_setCell (i := 2) b2 (.int .i64 y)
  refine bodyPost_ret (results_cell_row Tryd.results21 _ _ _ _ _ _ _ rfl b3 Tryd.underlying24 rfl Tryd.info24) rfl ?_
  exact ⟨k, x, y, q, by simp, rd_setCell (rd_setCell (rd_setCell hrq (by omega) _) (by omega) _) (by omega) _, by omega,
    kb_setCell (kb_setCell (kb_setCell O14.out.kb (Nat.le_refl _) (by omega) (by omega) _) (Nat.le_refl _) (by omega) (by omega) _) (Nat.le_refl _) (by omega) (by omega) _⟩

end Go.Proofs.YtafhlflddndgjaaDoor
