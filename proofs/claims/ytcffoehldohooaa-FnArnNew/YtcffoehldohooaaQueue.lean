/- ArnQueue, of the specification and of the program. -/
import Derived.Test.YtcffoehldohooaaValsS
namespace Go.Proofs.Ytcffoehldohooaa
open Go.RowKit
set_option linter.unusedVariables false

/-- The queue's values, of places that are ok: all but the first place's. -/
def queueL (ns : List Nd) (t f l : Int) : List Int := if okA ns t f l then valsOf ns (pathOf begQ ns t f l).tail else []

theorem placesB_tail {S : List Int} (h : placesB S) : placesB S.tail := by
  intro i hi
  have hi' : i + 1 < S.length := by simp at hi; omega
  have := h (i + 1) hi'
  cases S with
  | nil => simp at hi
  | cons x S => simpa [List.getD] using this

theorem own_some {w : World} {base : Nat} {a : Option Addr} {n c : Nat} {xs : List Value} (h : w.ownsRow base 3 1 (.slice a n c) n xs) (hn : 1 ≤ n) : ∃ g, a = some ⟨g, 0, none⟩ ∧ n ≤ c := by
  rcases h.2 with ⟨e, rfl⟩ | ⟨g, cap, cur, e, hg, hh, hc, r⟩
  · omega
  · cases e; exact ⟨g, rfl, hc⟩

theorem sints_tail {w : World} {g n o : Nat} {S : List Int} (h : SInts w (some ⟨g, 0, none⟩) n S) (ho : o = 1 ∨ n = 1) : SInts w (some ⟨g, o, none⟩) (n - 1) S.tail := by
  obtain ⟨hz, h0⟩ := h
  refine ⟨by simp [hz], ?_⟩
  by_cases h1 : n - 1 = 0
  · exact .inl h1
  · obtain rfl : o = 1 := by omega
    rcases h0 with h0 | ⟨b, off, e, hc⟩
    · omega
    · cases e
      refine .inr ⟨g, 1, rfl, fun i hi => ?_⟩
      have := hc (i + 1) (by omega)
      rw [show 0 + (i + 1) = 1 + i by omega] at this
      rw [this]
      cases S with
      | nil => simp at hz; omega
      | cons x S => simp [List.getD]

theorem fromTo_some (ns : List Nd) {p : Int} (h : p ≠ 0) (k : Nat) : 1 ≤ (fromTo ns p (k + 1)).length := by
  induction k with
  | zero => simp [fromTo, stepK, h]
  | succ k ih =>
    unfold fromTo
    split
    · exact ih
    · simp

theorem queue_some (ns : List Nd) {f : Int} (t l : Int) (hsh : shapeB ns t f l = true) (h : inP f = true) : 1 ≤ (pathOf begQ ns t f l).length := by
  have e : pathOf begQ ns t f l = fromTo ns f 9 := by simp [pathOf, hsh, begQ]
  rw [e]
  exact fromTo_some ns (by intro e; subst e; simp [inP] at h) 8

set_option maxHeartbeats 1000000 in
theorem implArnQueue_bad (a : Option Addr) (n cap : Nat) (ns : List Nd) (t f l : Int) (w : World) (hs : SNodes w a n ns) (hn : n ≤ 1048576) (hok : okA ns t f l = false) :
    Calls Try.prog 23 #[.agg #[.slice a n cap, .int .i64 t, .int .i64 f, .int .i64 l]] w fun e w' => ListI [] e w w' := by
  go_enter Try.func23, Try.ntmps23
  go_wp2_with fail
  refine (implArnOk_any _ _ _ ns t f l _ (hs.below (al1 w (.cells #[.slice a n cap, .int .i64 t, .int .i64 f, .int .i64 l] 33))) hn).mono ?_
  rintro e w1 ⟨rfl, hb1⟩
  have hbel := below_trans' (al1 w (.cells #[.slice a n cap, .int .i64 t, .int .i64 f, .int .i64 l] 33)) hb1
  rw [hok]
  clear hs hb1
  go_wp2
  go_ret
  exact ⟨none, 0, rfl, ⟨rfl, .inl ⟨rfl, rfl⟩⟩, hbel⟩

set_option maxRecDepth 20000 in
set_option maxHeartbeats 2000000 in
theorem implArnQueue_ok (b off cap : Nat) (ns : List Nd) (t f l : Int) (w : World) (hs : SNodes w (some ⟨b, off, none⟩) 10 ns) (hok : okA ns t f l = true) (hin : inB f 9 = true) (h1 : 1 ≤ (pathOf begQ ns t f l).length) :
    Calls Try.prog 23 #[.agg #[.slice (some ⟨b, off, none⟩) 10 cap, .int .i64 t, .int .i64 f, .int .i64 l]] w fun e w' => ListI (valsOf ns (pathOf begQ ns t f l).tail) e w w' := by
  obtain ⟨S, eS⟩ : ∃ S, pathOf begQ ns t f l = S := ⟨_, rfl⟩
  have HP : Hid (placesB S.tail ∧ S.length ≤ 9) := eS ▸ ⟨placesB_tail (path_places (p := begQ) hin).1, (path_places (p := begQ) hin).2⟩
  have hst0 := implArnQueued_any (some ⟨b, off, none⟩) 10 cap ns t f l
  rw [eS] at hst0 h1 ⊢
  obtain ⟨nS, lS⟩ : ∃ n, S.length = n := ⟨_, rfl⟩
  have HL : Hid (nS ≤ 9) := by show _ ≤ _; rw [← lS]; exact HP.out.2
  have hst : Hid (∀ W, SNodes W (some ⟨b, off, none⟩) 10 ns → Calls Try.prog 37 #[.agg #[.slice (some ⟨b, off, none⟩) 10 cap, .int .i64 t, .int .i64 f, .int .i64 l]] W fun e w' => ∃ g c, e = .returned (.slice (some ⟨g, 0, none⟩) nS c) ∧ nS ≤ c ∧ SInts w' (some ⟨g, 0, none⟩) nS S ∧ Below W.heap.size W w') := fun W h => (hst0 W h (by omega)).mono (by rintro e w' ⟨a, c, rfl, ho, hb⟩; rw [lS] at ho ⊢; obtain ⟨g, rfl, hc⟩ := own_some ho (by omega); exact ⟨g, c, rfl, hc, own_sints ho, hb⟩)
  have HN : Hid (1 ≤ nS) := by show _ ≤ _; omega
  obtain ⟨m, hm⟩ : ∃ m, (valsOf ns S.tail).length = m := ⟨_, rfl⟩
  have HMV : Hid ((valsOf ns S.tail).length = m) := hm
  have A := al1 w (.cells #[.slice (some ⟨b, off, none⟩) 10 cap, .int .i64 t, .int .i64 f, .int .i64 l] 33)
  have bx := boxA_new w (some ⟨b, off, none⟩) 10 cap t f l 33 rfl
  have hn1 : 1 ≤ nS := by omega
  have hn1i : (1 : Int) ≤ (nS : Int) := by omega
  clear hst0 eS lS hm hin h1
  go_enter Try.func23, Try.ntmps23
  go_wp2_with fail
  refine (implArnOk_any _ _ _ ns t f l _ (hs.below A) (by omega)).mono ?_
  rintro e w1 ⟨rfl, hb1⟩
  rw [hok]
  have HX : Hid (BoxA w1 w.heap.size (some ⟨b, off, none⟩) 10 cap t f l ∧ SNodes w1 (some ⟨b, off, none⟩) 10 ns ∧ Below w.heap.size w w1) := ⟨bx.below hb1, hs.below (below_trans' A hb1), below_trans' A hb1⟩
  clear hb1 bx A hok hs
  obtain ⟨p0, p1, p2, p3⟩ := HX.out.1.cells
  go_wp2
  have HB0 : Hid (Below w1.heap.size w1 w1.drew) := (Below.refl _ _).drew
  refine wp_region_held_drew (S := (fun w' => w'.cell? ⟨w.heap.size, 0, none⟩ = some (.slice (some ⟨b, off, none⟩) 10 cap) ∧ w'.cell? ⟨w.heap.size, 1, none⟩ = some (.int .i64 t) ∧ w'.cell? ⟨w.heap.size, 2, none⟩ = some (.int .i64 f) ∧ w'.cell? ⟨w.heap.size, 3, none⟩ = some (.int .i64 l))) (by kernel_rfl) ?_ (fun hHeld => ?_)
  · exact ⟨p0, p1, p2, p3⟩
  clear p0 p1 p2 p3
  refine wpAnyH_take (i := 0) (oi := ({ dst := some 6, op := Op.load 33 (Operand.tmp 1), type := 33, pos := "l2_arena.go:269", after := #[], guard := none } : Oper)) (v := ?_) rfl (by kernel_rfl) (by kernel_rfl) (by kernel_rfl) (fun _ _ _ h => h) (Or.inl ⟨by rfl, ?_⟩) (by assumption) ?_
  rotate_left
  · (intro wz hSw; (try dsimp only at hSw); go_simp; first | done | with_reducible rfl)
  (try simp only [Act.put, List.setIfInBounds_toArray, List.set_cons_zero, List.set_cons_succ])
  refine wpAnyH_take (i := 1) (oi := ({ dst := some 7, op := Op.load 33 (Operand.tmp 1), type := 33, pos := "l2_arena.go:269", after := #[], guard := none } : Oper)) (v := ?_) rfl (by kernel_rfl) (by kernel_rfl) (by kernel_rfl) (fun _ _ _ h => h) (Or.inl ⟨by rfl, ?_⟩) (by assumption) ?_
  rotate_left
  · (intro wz hSw; (try dsimp only at hSw); go_simp; first | done | with_reducible rfl)
  (try simp only [Act.put, List.setIfInBounds_toArray, List.set_cons_zero, List.set_cons_succ])
  refine wpAnyH_ready (rs := [2]) (by kernel_rfl) (by simp) ?_
  refine AllReadyH.cons (o := ({ dst := some 8, op := Op.call { callee := Callee.value (Operand.func 37), args := #[Operand.tmp 7], argTypes := #[33] }, type := 35, pos := "l2_arena.go:269", after := #[{ on := 1, ground := Ground.data }], guard := none } : Oper)) rfl (fun K hK => ?_) AllReadyH.nil
  clear hHeld
  go_simp
  go_wp2_with (go_at_call 37; refine (hst.out _ (HX.out.2.1.below HB0.out)).mono ?_; rintro e w2 ⟨gS, cS, rfl, hcS, sS, hb2⟩; have HC : Hid (∀ o, o = 1 ∨ nS = 1 → SInts w2 (some ⟨gS, o, none⟩) (nS - 1) S.tail) := fun o ho => sints_tail sS ho; have HB2 : Hid (Below w1.heap.size w1 w2) := below_trans' HB0.out hb2; have KP : Hid (w2.cell? ⟨w.heap.size, 0, none⟩ = some (.slice (some ⟨b, off, none⟩) 10 cap) ∧ w2.cell? ⟨w.heap.size, 1, none⟩ = some (.int .i64 t) ∧ w2.cell? ⟨w.heap.size, 2, none⟩ = some (.int .i64 f) ∧ w2.cell? ⟨w.heap.size, 3, none⟩ = some (.int .i64 l)) := (HX.out.1.below HB2.out).cells; clear sS hb2)
  refine hK.out _ _ ?_ (fun hHeld => ?_)
  · exact KP.out
  clear hK K KP
  (try simp only [Act.put, List.setIfInBounds_toArray, List.set_cons_zero, List.set_cons_succ])
  obtain ⟨aT, haT⟩ : ∃ aT : Option Addr, (if cS = 1 then some ⟨gS, 0, none⟩ else some ⟨gS, 1, none⟩) = aT := ⟨_, rfl⟩
  have HC2 : Hid (SInts w2 aT (nS - 1) S.tail) := by
    show SInts _ _ _ _
    rw [← haT]
    split
    · exact HC.out _ (.inr (by omega))
    · exact HC.out _ (.inl rfl)
  refine wpAnyH_take (i := 3) (oi := ({ dst := some 9, op := Op.slice 35 (Operand.tmp 8) (some (Operand.const (Value.int IntKind.i64 1))) none none, type := 35, pos := "l2_arena.go:269", after := #[{ on := 2, ground := Ground.data }], guard := none } : Oper)) (v := .slice aT (nS - 1) (cS - 1)) rfl (by kernel_rfl) (by kernel_rfl) (by kernel_rfl) (fun _ _ _ h => h) (Or.inl ⟨by rfl, ?_⟩) (by assumption) ?_
  · (intro wz hSw; (try dsimp only at hSw); go_simp; first | done | (rw [if_pos hn1i, haT]))
  (try simp only [Act.put, List.setIfInBounds_toArray, List.set_cons_zero, List.set_cons_succ])
  clear haT hcS
  refine wpAnyH_ready (rs := [4]) (by kernel_rfl) (by simp) ?_
  refine AllReadyH.cons (o := ({ dst := some 10, op := Op.call { callee := Callee.value (Operand.func 49), args := #[Operand.tmp 6, Operand.tmp 9], argTypes := #[33, 35] }, type := 35, pos := "l2_arena.go:269", after := #[{ on := 0, ground := Ground.data }, { on := 3, ground := Ground.data }, { on := 2, ground := Ground.chain }], guard := none } : Oper)) rfl (fun K hK => ?_) AllReadyH.nil
  clear hHeld
  go_simp
  go_wp2_with (go_at_call 49; refine (values_any b off cap ns t f l _ _ _ S.tail _ (HX.out.2.1.below HB2.out) HC2.out (by have := HL.out; omega) HP.out.1).mono ?_; rintro e w3 ⟨aV, cV, rfl, oV, hb3⟩; rw [HMV.out] at oV ⊢; have HV : Hid (w3.ownsRow w.heap.size 3 1 (.slice aV m cV) m ((valsOf ns S.tail).map (Value.int .i64)) ∧ Below w.heap.size w w3) := ⟨own_mono oV (Nat.le_trans HX.out.2.2.size HB2.out.size), below_trans' HX.out.2.2 (below_trans' HB2.out hb3)⟩; have KP : Hid (w3.cell? ⟨w.heap.size, 0, none⟩ = some (.slice (some ⟨b, off, none⟩) 10 cap) ∧ w3.cell? ⟨w.heap.size, 1, none⟩ = some (.int .i64 t) ∧ w3.cell? ⟨w.heap.size, 2, none⟩ = some (.int .i64 f) ∧ w3.cell? ⟨w.heap.size, 3, none⟩ = some (.int .i64 l)) := (HX.out.1.below (below_trans' HB2.out hb3)).cells; clear oV hb3)
  refine hK.out _ _ ?_ (fun hHeld => ?_)
  · exact KP.out
  clear hK K KP
  (try simp only [Act.put, List.setIfInBounds_toArray, List.set_cons_zero, List.set_cons_succ])
  refine wpAnyH_take (i := 5) (oi := ({ dst := some 2, op := Op.assign (Operand.tmp 10), type := 35, pos := "l2_arena.go:269", after := #[{ on := 4, ground := Ground.data }, { on := 4, ground := Ground.chain }, { on := 0, ground := Ground.phase }, { on := 1, ground := Ground.phase }, { on := 2, ground := Ground.phase }, { on := 3, ground := Ground.phase }, { on := 4, ground := Ground.phase }], guard := none } : Oper)) (v := ?_) rfl (by kernel_rfl) (by kernel_rfl) (by kernel_rfl) (fun _ _ _ h => h) (Or.inl ⟨by rfl, ?_⟩) (by assumption) ?_
  rotate_left
  · (intro wz hSw; (try dsimp only at hSw); go_simp; first | done | with_reducible rfl)
  (try simp only [Act.put, List.setIfInBounds_toArray, List.set_cons_zero, List.set_cons_succ])
  refine wpAnyH_done (by kernel_rfl) ?_ _
  go_wp2
  go_ret
  refine ⟨aV, cV, ?_⟩
  rw [HMV.out]
  exact ⟨rfl, HV.out.1, HV.out.2⟩

theorem implArnQueue_any (a : Option Addr) (n cap : Nat) (ns : List Nd) (t f l : Int) (w : World) (hs : SNodes w a n ns) (hn : n ≤ 1048576) :
    Calls Try.prog 23 #[.agg #[.slice a n cap, .int .i64 t, .int .i64 f, .int .i64 l]] w fun e w' => ListI (queueL ns t f l) e w w' := by
  cases hok : okA ns t f l
  · have e : queueL ns t f l = [] := by simp [queueL, hok]
    rw [e]
    exact implArnQueue_bad a n cap ns t f l w hs hn hok
  · have hsh : shapeB ns t f l = true := by
      unfold okA at hok
      exact (Bool.and_eq_true _ _ ▸ hok).1
    obtain ⟨hl, _, _, _, h5, _⟩ := shapeB_parts hsh
    obtain ⟨rfl, b, off, rfl⟩ := snodes_some hs hl
    have e : queueL ns t f l = valsOf ns (pathOf begQ ns t f l).tail := by simp [queueL, hok]
    rw [e]
    exact implArnQueue_ok b off cap ns t f l w hs hok (inP_inB h5) (queue_some ns t l hsh h5)

end Go.Proofs.Ytcffoehldohooaa
