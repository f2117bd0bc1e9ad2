/- Several texts in one: Queue, Stack, LinOfC, LinOfG, Frame3. -/
import Derived.Test.YtklpdpdjblakgaaGr6
import Derived.Test.YtklpdpdjblakgaaGr7
import Derived.Deep.RegionHeld
import Derived.Deep.RegionHeldLaw
import Derived.Maps.AppendAt
import Derived.Test.YtklpdpdjblakgaaGr3
import Derived.Lib.SmallJoins
import Derived.Deep.Slices
/- Queue -/
namespace Go.Proofs.Ytklpdpdjblakgaa
open Go.RowKit
set_option linter.unusedVariables false
set_option maxRecDepth 20000

/-- The queue's values, of places that are ok: all but the first place's. -/
def queueL (ns : List Nd) (t f l : Int) : List Int := if okA ns t f l then valsOf ns (pathOf begQ ns t f l).tail else []

theorem placesB_tail {S : List Int} (h : placesB S) : placesB S.tail := by
  intro i hi
  have hi' : i + 1 < S.length := by simp at hi; omega
  have := h (i + 1) hi'
  cases S with
  | nil => simp at hi
  | cons x S => simpa [List.getD] using this

theorem own_some {w : World} {base : Nat} {a : Option Addr} {n c : Nat} {xs : List Value} (h : w.ownsRow base 3 1 (.slice a n c) n xs) (hn : 1 ≤ n) : ∃ g, a = some ⟨g, 0, none⟩ ∧ n ≤ c := by
  rcases h.2 with ⟨e, rfl⟩ | ⟨g, cap, cur, e, hg, hh, hc, r⟩
  · omega
  · cases e; exact ⟨g, rfl, hc⟩

theorem sints_tail {w : World} {g n o : Nat} {S : List Int} (h : SInts w (some ⟨g, 0, none⟩) n S) (ho : o = 1 ∨ n = 1) : SInts w (some ⟨g, o, none⟩) (n - 1) S.tail := by
  obtain ⟨hz, h0⟩ := h
  refine ⟨by simp [hz], ?_⟩
  by_cases h1 : n - 1 = 0
  · exact .inl h1
  · obtain rfl : o = 1 := by omega
    rcases h0 with h0 | ⟨b, off, e, hc⟩
    · omega
    · cases e
      refine .inr ⟨g, 1, rfl, fun i hi => ?_⟩
      have := hc (i + 1) (by omega)
      rw [show 0 + (i + 1) = 1 + i by omega] at this
      rw [this]
      cases S with
      | nil => simp at hz; omega
      | cons x S => simp [List.getD]

theorem fromTo_some (ns : List Nd) {p : Int} (h : p ≠ 0) (k : Nat) : 1 ≤ (fromTo ns p (k + 1)).length := by
  induction k with
  | zero => simp [fromTo, stepK, h]
  | succ k ih =>
    unfold fromTo
    split
    · exact ih
    · simp

theorem queue_some (ns : List Nd) {f : Int} (t l : Int) (hsh : shapeB ns t f l = true) (h : inP f = true) : 1 ≤ (pathOf begQ ns t f l).length := by
  have e : pathOf begQ ns t f l = fromTo ns f 9 := by simp [pathOf, hsh, begQ]
  rw [e]
  exact fromTo_some ns (by intro e; subst e; simp [inP] at h) 8

set_option maxHeartbeats 1000000 in
theorem specArnQueue_bad (a : Option Addr) (n cap : Nat) (ns : List Nd) (t f l : Int) (w : World) (hs : SNodes w a n ns) (hn : n ≤ 1048576) (hok : okA ns t f l = false) :
    Calls Try.prog 31 #[.agg #[.slice a n cap, .int .i64 t, .int .i64 f, .int .i64 l]] w fun e w' => ListI [] e w w' := by
  go_enter Try.func31, Try.ntmps31
  go_wp2_with fail
  refine (specArnOk_any _ _ _ ns t f l _ (hs.below (al1 w (.cells #[.slice a n cap, .int .i64 t, .int .i64 f, .int .i64 l] 43))) hn).mono ?_
  rintro e w1 ⟨rfl, hb1⟩
  have hbel := below_trans' (al1 w (.cells #[.slice a n cap, .int .i64 t, .int .i64 f, .int .i64 l] 43)) hb1
  rw [hok]
  clear hs hb1
  go_wp2
  go_ret
  exact ⟨_, 0, rfl, own_mono (own_int_lit1 _) hbel.size, below_trans' hbel (al1 _ _)⟩

set_option maxRecDepth 20000 in
set_option maxHeartbeats 2000000 in
theorem specArnQueue_ok (b off cap : Nat) (ns : List Nd) (t f l : Int) (w : World) (hs : SNodes w (some ⟨b, off, none⟩) 10 ns) (hok : okA ns t f l = true) (hin : inB f 9 = true) (h1 : 1 ≤ (pathOf begQ ns t f l).length) :
    Calls Try.prog 31 #[.agg #[.slice (some ⟨b, off, none⟩) 10 cap, .int .i64 t, .int .i64 f, .int .i64 l]] w fun e w' => ListI (valsOf ns (pathOf begQ ns t f l).tail) e w w' := by
  obtain ⟨S, eS⟩ : ∃ S, pathOf begQ ns t f l = S := ⟨_, rfl⟩
  have HP : Hid (placesB S.tail ∧ S.length ≤ 9) := eS ▸ ⟨placesB_tail (path_places (p := begQ) hin).1, (path_places (p := begQ) hin).2⟩
  have hst0 := specArnQueued_any (some ⟨b, off, none⟩) 10 cap ns t f l
  rw [eS] at hst0 h1 ⊢
  obtain ⟨nS, lS⟩ : ∃ n, S.length = n := ⟨_, rfl⟩
  have HL : Hid (nS ≤ 9) := by show _ ≤ _; rw [← lS]; exact HP.out.2
  have hst : Hid (∀ W, SNodes W (some ⟨b, off, none⟩) 10 ns → Calls Try.prog 56 #[.agg #[.slice (some ⟨b, off, none⟩) 10 cap, .int .i64 t, .int .i64 f, .int .i64 l]] W fun e w' => ∃ g c, e = .returned (.slice (some ⟨g, 0, none⟩) nS c) ∧ nS ≤ c ∧ SInts w' (some ⟨g, 0, none⟩) nS S ∧ Below W.heap.size W w') := fun W h => (hst0 W h (by omega)).mono (by rintro e w' ⟨a, c, rfl, ho, hb⟩; rw [lS] at ho ⊢; obtain ⟨g, rfl, hc⟩ := own_some ho (by omega); exact ⟨g, c, rfl, hc, own_sints ho, hb⟩)
  have HN : Hid (1 ≤ nS) := by show _ ≤ _; omega
  obtain ⟨m, hm⟩ : ∃ m, (valsOf ns S.tail).length = m := ⟨_, rfl⟩
  have HMV : Hid ((valsOf ns S.tail).length = m) := hm
  have A := al1 w (.cells #[.slice (some ⟨b, off, none⟩) 10 cap, .int .i64 t, .int .i64 f, .int .i64 l] 43)
  have bx := boxA_new w (some ⟨b, off, none⟩) 10 cap t f l 43 rfl
  have hn1 : 1 ≤ nS := by omega
  have hn1i : (1 : Int) ≤ (nS : Int) := by omega
  clear hst0 eS lS hm hin h1
  go_enter Try.func31, Try.ntmps31
  go_wp2_with fail
  refine (specArnOk_any _ _ _ ns t f l _ (hs.below A) (by omega)).mono ?_
  rintro e w1 ⟨rfl, hb1⟩
  rw [hok]
  have HX : Hid (BoxA w1 w.heap.size (some ⟨b, off, none⟩) 10 cap t f l ∧ SNodes w1 (some ⟨b, off, none⟩) 10 ns ∧ Below w.heap.size w w1) := ⟨bx.below hb1, hs.below (below_trans' A hb1), below_trans' A hb1⟩
  clear hb1 bx A hok hs
  obtain ⟨p0, p1, p2, p3⟩ := HX.out.1.cells
  go_wp2
  have HB0 : Hid (Below w1.heap.size w1 w1.drew) := (Below.refl _ _).drew
  refine wp_region_held_drew (S := (fun w' => w'.cell? ⟨w.heap.size, 0, none⟩ = some (.slice (some ⟨b, off, none⟩) 10 cap) ∧ w'.cell? ⟨w.heap.size, 1, none⟩ = some (.int .i64 t) ∧ w'.cell? ⟨w.heap.size, 2, none⟩ = some (.int .i64 f) ∧ w'.cell? ⟨w.heap.size, 3, none⟩ = some (.int .i64 l))) (by kernel_rfl) ?_ (fun hHeld => ?_)
  · exact ⟨p0, p1, p2, p3⟩
  clear p0 p1 p2 p3
  refine wpAnyH_take (i := 0) (oi := ({ dst := some 7, op := Op.load 43 (Operand.tmp 1), type := 43, pos := "l2_arena.go:184", after := #[], guard := none } : Oper)) (v := ?_) rfl (by kernel_rfl) (by kernel_rfl) (by kernel_rfl) (fun _ _ _ h => h) (Or.inl ⟨by rfl, ?_⟩) (by assumption) ?_
  rotate_left
  · (intro wz hSw; (try dsimp only at hSw); go_simp; first | done | with_reducible rfl)
  (try simp only [Act.put, List.setIfInBounds_toArray, List.set_cons_zero, List.set_cons_succ])
  refine wpAnyH_take (i := 1) (oi := ({ dst := some 8, op := Op.load 43 (Operand.tmp 1), type := 43, pos := "l2_arena.go:184", after := #[], guard := none } : Oper)) (v := ?_) rfl (by kernel_rfl) (by kernel_rfl) (by kernel_rfl) (fun _ _ _ h => h) (Or.inl ⟨by rfl, ?_⟩) (by assumption) ?_
  rotate_left
  · (intro wz hSw; (try dsimp only at hSw); go_simp; first | done | with_reducible rfl)
  (try simp only [Act.put, List.setIfInBounds_toArray, List.set_cons_zero, List.set_cons_succ])
  refine wpAnyH_ready (rs := [2]) (by kernel_rfl) (by simp) ?_
  refine AllReadyH.cons (o := ({ dst := some 9, op := Op.call { callee := Callee.value (Operand.func 56), args := #[Operand.tmp 8], argTypes := #[43] }, type := 37, pos := "l2_arena.go:184", after := #[{ on := 1, ground := Ground.data }], guard := none } : Oper)) rfl (fun K hK => ?_) AllReadyH.nil
  clear hHeld
  go_simp
  go_wp2_with (go_at_call 56; refine (hst.out _ (HX.out.2.1.below HB0.out)).mono ?_; rintro e w2 ⟨gS, cS, rfl, hcS, sS, hb2⟩; have HC : Hid (∀ o, o = 1 ∨ nS = 1 → SInts w2 (some ⟨gS, o, none⟩) (nS - 1) S.tail) := fun o ho => sints_tail sS ho; have HB2 : Hid (Below w1.heap.size w1 w2) := below_trans' HB0.out hb2; have KP : Hid (w2.cell? ⟨w.heap.size, 0, none⟩ = some (.slice (some ⟨b, off, none⟩) 10 cap) ∧ w2.cell? ⟨w.heap.size, 1, none⟩ = some (.int .i64 t) ∧ w2.cell? ⟨w.heap.size, 2, none⟩ = some (.int .i64 f) ∧ w2.cell? ⟨w.heap.size, 3, none⟩ = some (.int .i64 l)) := (HX.out.1.below HB2.out).cells; clear sS hb2)
  refine hK.out _ _ ?_ (fun hHeld => ?_)
  · exact KP.out
  clear hK K KP
  (try simp only [Act.put, List.setIfInBounds_toArray, List.set_cons_zero, List.set_cons_succ])
  obtain ⟨aT, haT⟩ : ∃ aT : Option Addr, (if cS = 1 then some ⟨gS, 0, none⟩ else some ⟨gS, 1, none⟩) = aT := ⟨_, rfl⟩
  have HC2 : Hid (SInts w2 aT (nS - 1) S.tail) := by
    show SInts _ _ _ _
    rw [← haT]
    split
    · exact HC.out _ (.inr (by omega))
    · exact HC.out _ (.inl rfl)
  refine wpAnyH_take (i := 3) (oi := ({ dst := some 10, op := Op.slice 37 (Operand.tmp 9) (some (Operand.const (Value.int IntKind.i64 1))) none none, type := 37, pos := "l2_arena.go:184", after := #[{ on := 2, ground := Ground.data }], guard := none } : Oper)) (v := .slice aT (nS - 1) (cS - 1)) rfl (by kernel_rfl) (by kernel_rfl) (by kernel_rfl) (fun _ _ _ h => h) (Or.inl ⟨by rfl, ?_⟩) (by assumption) ?_
  · (intro wz hSw; (try dsimp only at hSw); go_simp; first | done | (rw [if_pos hn1i, haT]))
  (try simp only [Act.put, List.setIfInBounds_toArray, List.set_cons_zero, List.set_cons_succ])
  clear haT hcS
  refine wpAnyH_ready (rs := [4]) (by kernel_rfl) (by simp) ?_
  refine AllReadyH.cons (o := ({ dst := some 11, op := Op.call { callee := Callee.value (Operand.func 54), args := #[Operand.tmp 7, Operand.tmp 10], argTypes := #[43, 37] }, type := 37, pos := "l2_arena.go:184", after := #[{ on := 0, ground := Ground.data }, { on := 3, ground := Ground.data }, { on := 2, ground := Ground.chain }], guard := none } : Oper)) rfl (fun K hK => ?_) AllReadyH.nil
  clear hHeld
  go_simp
  go_wp2_with (go_at_call 54; refine (l2Vals_any b off cap ns t f l _ _ _ S.tail _ (HX.out.2.1.below HB2.out) HC2.out (by have := HL.out; omega) HP.out.1).mono ?_; rintro e w3 ⟨aV, cV, rfl, oV, hb3⟩; rw [HMV.out] at oV ⊢; have HV : Hid (w3.ownsRow w.heap.size 3 1 (.slice aV m cV) m ((valsOf ns S.tail).map (Value.int .i64)) ∧ Below w.heap.size w w3) := ⟨own_mono oV (Nat.le_trans HX.out.2.2.size HB2.out.size), below_trans' HX.out.2.2 (below_trans' HB2.out hb3)⟩; have KP : Hid (w3.cell? ⟨w.heap.size, 0, none⟩ = some (.slice (some ⟨b, off, none⟩) 10 cap) ∧ w3.cell? ⟨w.heap.size, 1, none⟩ = some (.int .i64 t) ∧ w3.cell? ⟨w.heap.size, 2, none⟩ = some (.int .i64 f) ∧ w3.cell? ⟨w.heap.size, 3, none⟩ = some (.int .i64 l)) := (HX.out.1.below (below_trans' HB2.out hb3)).cells; clear oV hb3)
  refine hK.out _ _ ?_ (fun hHeld => ?_)
  · exact KP.out
  clear hK K KP
  (try simp only [Act.put, List.setIfInBounds_toArray, List.set_cons_zero, List.set_cons_succ])
  refine wpAnyH_take (i := 5) (oi := ({ dst := some 2, op := Op.assign (Operand.tmp 11), type := 37, pos := "l2_arena.go:184", after := #[{ on := 4, ground := Ground.data }, { on := 4, ground := Ground.chain }, { on := 0, ground := Ground.phase }, { on := 1, ground := Ground.phase }, { on := 2, ground := Ground.phase }, { on := 3, ground := Ground.phase }, { on := 4, ground := Ground.phase }], guard := none } : Oper)) (v := ?_) rfl (by kernel_rfl) (by kernel_rfl) (by kernel_rfl) (fun _ _ _ h => h) (Or.inl ⟨by rfl, ?_⟩) (by assumption) ?_
  rotate_left
  · (intro wz hSw; (try dsimp only at hSw); go_simp; first | done | with_reducible rfl)
  (try simp only [Act.put, List.setIfInBounds_toArray, List.set_cons_zero, List.set_cons_succ])
  refine wpAnyH_done (by kernel_rfl) ?_ _
  go_wp2
  go_ret
  refine ⟨aV, cV, ?_⟩
  rw [HMV.out]
  exact ⟨rfl, HV.out.1, HV.out.2⟩

theorem specArnQueue_any (a : Option Addr) (n cap : Nat) (ns : List Nd) (t f l : Int) (w : World) (hs : SNodes w a n ns) (hn : n ≤ 1048576) :
    Calls Try.prog 31 #[.agg #[.slice a n cap, .int .i64 t, .int .i64 f, .int .i64 l]] w fun e w' => ListI (queueL ns t f l) e w w' := by
  cases hok : okA ns t f l
  · have e : queueL ns t f l = [] := by simp [queueL, hok]
    rw [e]
    exact specArnQueue_bad a n cap ns t f l w hs hn hok
  · have hsh : shapeB ns t f l = true := by
      unfold okA at hok
      exact (Bool.and_eq_true _ _ ▸ hok).1
    obtain ⟨hl, _, _, _, h5, _⟩ := shapeB_parts hsh
    obtain ⟨rfl, b, off, rfl⟩ := snodes_some hs hl
    have e : queueL ns t f l = valsOf ns (pathOf begQ ns t f l).tail := by simp [queueL, hok]
    rw [e]
    exact specArnQueue_ok b off cap ns t f l w hs hok (inP_inB h5) (queue_some ns t l hsh h5)

set_option maxHeartbeats 1000000 in
theorem implArnQueue_bad (a : Option Addr) (n cap : Nat) (ns : List Nd) (t f l : Int) (w : World) (hs : SNodes w a n ns) (hn : n ≤ 1048576) (hok : okA ns t f l = false) :
    Calls Try.prog 35 #[.agg #[.slice a n cap, .int .i64 t, .int .i64 f, .int .i64 l]] w fun e w' => ListI [] e w w' := by
  go_enter Try.func35, Try.ntmps35
  go_wp2_with fail
  refine (implArnOk_any _ _ _ ns t f l _ (hs.below (al1 w (.cells #[.slice a n cap, .int .i64 t, .int .i64 f, .int .i64 l] 43))) hn).mono ?_
  rintro e w1 ⟨rfl, hb1⟩
  have hbel := below_trans' (al1 w (.cells #[.slice a n cap, .int .i64 t, .int .i64 f, .int .i64 l] 43)) hb1
  rw [hok]
  clear hs hb1
  go_wp2
  go_ret
  exact ⟨none, 0, rfl, ⟨rfl, .inl ⟨rfl, rfl⟩⟩, hbel⟩

set_option maxRecDepth 20000 in
set_option maxHeartbeats 2000000 in
theorem implArnQueue_ok (b off cap : Nat) (ns : List Nd) (t f l : Int) (w : World) (hs : SNodes w (some ⟨b, off, none⟩) 10 ns) (hok : okA ns t f l = true) (hin : inB f 9 = true) (h1 : 1 ≤ (pathOf begQ ns t f l).length) :
    Calls Try.prog 35 #[.agg #[.slice (some ⟨b, off, none⟩) 10 cap, .int .i64 t, .int .i64 f, .int .i64 l]] w fun e w' => ListI (valsOf ns (pathOf begQ ns t f l).tail) e w w' := by
  obtain ⟨S, eS⟩ : ∃ S, pathOf begQ ns t f l = S := ⟨_, rfl⟩
  have HP : Hid (placesB S.tail ∧ S.length ≤ 9) := eS ▸ ⟨placesB_tail (path_places (p := begQ) hin).1, (path_places (p := begQ) hin).2⟩
  have hst0 := implArnQueued_any (some ⟨b, off, none⟩) 10 cap ns t f l
  rw [eS] at hst0 h1 ⊢
  obtain ⟨nS, lS⟩ : ∃ n, S.length = n := ⟨_, rfl⟩
  have HL : Hid (nS ≤ 9) := by show _ ≤ _; rw [← lS]; exact HP.out.2
  have hst : Hid (∀ W, SNodes W (some ⟨b, off, none⟩) 10 ns → Calls Try.prog 64 #[.agg #[.slice (some ⟨b, off, none⟩) 10 cap, .int .i64 t, .int .i64 f, .int .i64 l]] W fun e w' => ∃ g c, e = .returned (.slice (some ⟨g, 0, none⟩) nS c) ∧ nS ≤ c ∧ SInts w' (some ⟨g, 0, none⟩) nS S ∧ Below W.heap.size W w') := fun W h => (hst0 W h (by omega)).mono (by rintro e w' ⟨a, c, rfl, ho, hb⟩; rw [lS] at ho ⊢; obtain ⟨g, rfl, hc⟩ := own_some ho (by omega); exact ⟨g, c, rfl, hc, own_sints ho, hb⟩)
  have HN : Hid (1 ≤ nS) := by show _ ≤ _; omega
  obtain ⟨m, hm⟩ : ∃ m, (valsOf ns S.tail).length = m := ⟨_, rfl⟩
  have HMV : Hid ((valsOf ns S.tail).length = m) := hm
  have A := al1 w (.cells #[.slice (some ⟨b, off, none⟩) 10 cap, .int .i64 t, .int .i64 f, .int .i64 l] 43)
  have bx := boxA_new w (some ⟨b, off, none⟩) 10 cap t f l 43 rfl
  have hn1 : 1 ≤ nS := by omega
  have hn1i : (1 : Int) ≤ (nS : Int) := by omega
  clear hst0 eS lS hm hin h1
  go_enter Try.func35, Try.ntmps35
  go_wp2_with fail
  refine (implArnOk_any _ _ _ ns t f l _ (hs.below A) (by omega)).mono ?_
  rintro e w1 ⟨rfl, hb1⟩
  rw [hok]
  have HX : Hid (BoxA w1 w.heap.size (some ⟨b, off, none⟩) 10 cap t f l ∧ SNodes w1 (some ⟨b, off, none⟩) 10 ns ∧ Below w.heap.size w w1) := ⟨bx.below hb1, hs.below (below_trans' A hb1), below_trans' A hb1⟩
  clear hb1 bx A hok hs
  obtain ⟨p0, p1, p2, p3⟩ := HX.out.1.cells
  go_wp2
  have HB0 : Hid (Below w1.heap.size w1 w1.drew) := (Below.refl _ _).drew
  refine wp_region_held_drew (S := (fun w' => w'.cell? ⟨w.heap.size, 0, none⟩ = some (.slice (some ⟨b, off, none⟩) 10 cap) ∧ w'.cell? ⟨w.heap.size, 1, none⟩ = some (.int .i64 t) ∧ w'.cell? ⟨w.heap.size, 2, none⟩ = some (.int .i64 f) ∧ w'.cell? ⟨w.heap.size, 3, none⟩ = some (.int .i64 l))) (by kernel_rfl) ?_ (fun hHeld => ?_)
  · exact ⟨p0, p1, p2, p3⟩
  clear p0 p1 p2 p3
  refine wpAnyH_take (i := 0) (oi := ({ dst := some 6, op := Op.load 43 (Operand.tmp 1), type := 43, pos := "l2_arena.go:269", after := #[], guard := none } : Oper)) (v := ?_) rfl (by kernel_rfl) (by kernel_rfl) (by kernel_rfl) (fun _ _ _ h => h) (Or.inl ⟨by rfl, ?_⟩) (by assumption) ?_
  rotate_left
  · (intro wz hSw; (try dsimp only at hSw); go_simp; first | done | with_reducible rfl)
  (try simp only [Act.put, List.setIfInBounds_toArray, List.set_cons_zero, List.set_cons_succ])
  refine wpAnyH_take (i := 1) (oi := ({ dst := some 7, op := Op.load 43 (Operand.tmp 1), type := 43, pos := "l2_arena.go:269", after := #[], guard := none } : Oper)) (v := ?_) rfl (by kernel_rfl) (by kernel_rfl) (by kernel_rfl) (fun _ _ _ h => h) (Or.inl ⟨by rfl, ?_⟩) (by assumption) ?_
  rotate_left
  · (intro wz hSw; (try dsimp only at hSw); go_simp; first | done | with_reducible rfl)
  (try simp only [Act.put, List.setIfInBounds_toArray, List.set_cons_zero, List.set_cons_succ])
  refine wpAnyH_ready (rs := [2]) (by kernel_rfl) (by simp) ?_
  refine AllReadyH.cons (o := ({ dst := some 8, op := Op.call { callee := Callee.value (Operand.func 64), args := #[Operand.tmp 7], argTypes := #[43] }, type := 37, pos := "l2_arena.go:269", after := #[{ on := 1, ground := Ground.data }], guard := none } : Oper)) rfl (fun K hK => ?_) AllReadyH.nil
  clear hHeld
  go_simp
  go_wp2_with (go_at_call 64; refine (hst.out _ (HX.out.2.1.below HB0.out)).mono ?_; rintro e w2 ⟨gS, cS, rfl, hcS, sS, hb2⟩; have HC : Hid (∀ o, o = 1 ∨ nS = 1 → SInts w2 (some ⟨gS, o, none⟩) (nS - 1) S.tail) := fun o ho => sints_tail sS ho; have HB2 : Hid (Below w1.heap.size w1 w2) := below_trans' HB0.out hb2; have KP : Hid (w2.cell? ⟨w.heap.size, 0, none⟩ = some (.slice (some ⟨b, off, none⟩) 10 cap) ∧ w2.cell? ⟨w.heap.size, 1, none⟩ = some (.int .i64 t) ∧ w2.cell? ⟨w.heap.size, 2, none⟩ = some (.int .i64 f) ∧ w2.cell? ⟨w.heap.size, 3, none⟩ = some (.int .i64 l)) := (HX.out.1.below HB2.out).cells; clear sS hb2)
  refine hK.out _ _ ?_ (fun hHeld => ?_)
  · exact KP.out
  clear hK K KP
  (try simp only [Act.put, List.setIfInBounds_toArray, List.set_cons_zero, List.set_cons_succ])
  obtain ⟨aT, haT⟩ : ∃ aT : Option Addr, (if cS = 1 then some ⟨gS, 0, none⟩ else some ⟨gS, 1, none⟩) = aT := ⟨_, rfl⟩
  have HC2 : Hid (SInts w2 aT (nS - 1) S.tail) := by
    show SInts _ _ _ _
    rw [← haT]
    split
    · exact HC.out _ (.inr (by omega))
    · exact HC.out _ (.inl rfl)
  refine wpAnyH_take (i := 3) (oi := ({ dst := some 9, op := Op.slice 37 (Operand.tmp 8) (some (Operand.const (Value.int IntKind.i64 1))) none none, type := 37, pos := "l2_arena.go:269", after := #[{ on := 2, ground := Ground.data }], guard := none } : Oper)) (v := .slice aT (nS - 1) (cS - 1)) rfl (by kernel_rfl) (by kernel_rfl) (by kernel_rfl) (fun _ _ _ h => h) (Or.inl ⟨by rfl, ?_⟩) (by assumption) ?_
  · (intro wz hSw; (try dsimp only at hSw); go_simp; first | done | (rw [if_pos hn1i, haT]))
  (try simp only [Act.put, List.setIfInBounds_toArray, List.set_cons_zero, List.set_cons_succ])
  clear haT hcS
  refine wpAnyH_ready (rs := [4]) (by kernel_rfl) (by simp) ?_
  refine AllReadyH.cons (o := ({ dst := some 10, op := Op.call { callee := Callee.value (Operand.func 62), args := #[Operand.tmp 6, Operand.tmp 9], argTypes := #[43, 37] }, type := 37, pos := "l2_arena.go:269", after := #[{ on := 0, ground := Ground.data }, { on := 3, ground := Ground.data }, { on := 2, ground := Ground.chain }], guard := none } : Oper)) rfl (fun K hK => ?_) AllReadyH.nil
  clear hHeld
  go_simp
  go_wp2_with (go_at_call 62; refine (values_any b off cap ns t f l _ _ _ S.tail _ (HX.out.2.1.below HB2.out) HC2.out (by have := HL.out; omega) HP.out.1).mono ?_; rintro e w3 ⟨aV, cV, rfl, oV, hb3⟩; rw [HMV.out] at oV ⊢; have HV : Hid (w3.ownsRow w.heap.size 3 1 (.slice aV m cV) m ((valsOf ns S.tail).map (Value.int .i64)) ∧ Below w.heap.size w w3) := ⟨own_mono oV (Nat.le_trans HX.out.2.2.size HB2.out.size), below_trans' HX.out.2.2 (below_trans' HB2.out hb3)⟩; have KP : Hid (w3.cell? ⟨w.heap.size, 0, none⟩ = some (.slice (some ⟨b, off, none⟩) 10 cap) ∧ w3.cell? ⟨w.heap.size, 1, none⟩ = some (.int .i64 t) ∧ w3.cell? ⟨w.heap.size, 2, none⟩ = some (.int .i64 f) ∧ w3.cell? ⟨w.heap.size, 3, none⟩ = some (.int .i64 l)) := (HX.out.1.below (below_trans' HB2.out hb3)).cells; clear oV hb3)
  refine hK.out _ _ ?_ (fun hHeld => ?_)
  · exact KP.out
  clear hK K KP
  (try simp only [Act.put, List.setIfInBounds_toArray, List.set_cons_zero, List.set_cons_succ])
  refine wpAnyH_take (i := 5) (oi := ({ dst := some 2, op := Op.assign (Operand.tmp 10), type := 37, pos := "l2_arena.go:269", after := #[{ on := 4, ground := Ground.data }, { on := 4, ground := Ground.chain }, { on := 0, ground := Ground.phase }, { on := 1, ground := Ground.phase }, { on := 2, ground := Ground.phase }, { on := 3, ground := Ground.phase }, { on := 4, ground := Ground.phase }], guard := none } : Oper)) (v := ?_) rfl (by kernel_rfl) (by kernel_rfl) (by kernel_rfl) (fun _ _ _ h => h) (Or.inl ⟨by rfl, ?_⟩) (by assumption) ?_
  rotate_left
  · (intro wz hSw; (try dsimp only at hSw); go_simp; first | done | with_reducible rfl)
  (try simp only [Act.put, List.setIfInBounds_toArray, List.set_cons_zero, List.set_cons_succ])
  refine wpAnyH_done (by kernel_rfl) ?_ _
  go_wp2
  go_ret
  refine ⟨aV, cV, ?_⟩
  rw [HMV.out]
  exact ⟨rfl, HV.out.1, HV.out.2⟩

theorem implArnQueue_any (a : Option Addr) (n cap : Nat) (ns : List Nd) (t f l : Int) (w : World) (hs : SNodes w a n ns) (hn : n ≤ 1048576) :
    Calls Try.prog 35 #[.agg #[.slice a n cap, .int .i64 t, .int .i64 f, .int .i64 l]] w fun e w' => ListI (queueL ns t f l) e w w' := by
  cases hok : okA ns t f l
  · have e : queueL ns t f l = [] := by simp [queueL, hok]
    rw [e]
    exact implArnQueue_bad a n cap ns t f l w hs hn hok
  · have hsh : shapeB ns t f l = true := by
      unfold okA at hok
      exact (Bool.and_eq_true _ _ ▸ hok).1
    obtain ⟨hl, _, _, _, h5, _⟩ := shapeB_parts hsh
    obtain ⟨rfl, b, off, rfl⟩ := snodes_some hs hl
    have e : queueL ns t f l = valsOf ns (pathOf begQ ns t f l).tail := by simp [queueL, hok]
    rw [e]
    exact implArnQueue_ok b off cap ns t f l w hs hok (inP_inB h5) (queue_some ns t l hsh h5)

end Go.Proofs.Ytklpdpdjblakgaa

/- Stack -/
namespace Go.Proofs.Ytklpdpdjblakgaa
open Go.RowKit
set_option linter.unusedVariables false
set_option maxRecDepth 20000

/-- The stack's values, of places that are ok. -/
def stackL (ns : List Nd) (t f l : Int) : List Int := if okA ns t f l then valsOf ns (pathOf begS ns t f l) else []

set_option maxHeartbeats 1000000 in
theorem specArnStack_bad (a : Option Addr) (n cap : Nat) (ns : List Nd) (t f l : Int) (w : World) (hs : SNodes w a n ns) (hn : n ≤ 1048576) (hok : okA ns t f l = false) :
    Calls Try.prog 30 #[.agg #[.slice a n cap, .int .i64 t, .int .i64 f, .int .i64 l]] w fun e w' => ListI [] e w w' := by
  go_enter Try.func30, Try.ntmps30
  go_wp2_with fail
  refine (specArnOk_any _ _ _ ns t f l _ (hs.below (al1 w (.cells #[.slice a n cap, .int .i64 t, .int .i64 f, .int .i64 l] 43))) hn).mono ?_
  rintro e w1 ⟨rfl, hb1⟩
  have hbel := below_trans' (al1 w (.cells #[.slice a n cap, .int .i64 t, .int .i64 f, .int .i64 l] 43)) hb1
  rw [hok]
  clear hs hb1
  go_wp2
  go_ret
  exact ⟨_, 0, rfl, own_mono (own_int_lit1 _) hbel.size, below_trans' hbel (al1 _ _)⟩

set_option maxRecDepth 20000 in
set_option maxHeartbeats 2000000 in
theorem specArnStack_ok (b off cap : Nat) (ns : List Nd) (t f l : Int) (w : World) (hs : SNodes w (some ⟨b, off, none⟩) 10 ns) (hok : okA ns t f l = true) (hin : inB t 9 = true) :
    Calls Try.prog 30 #[.agg #[.slice (some ⟨b, off, none⟩) 10 cap, .int .i64 t, .int .i64 f, .int .i64 l]] w fun e w' => ListI (valsOf ns (pathOf begS ns t f l)) e w w' := by
  obtain ⟨S, eS⟩ : ∃ S, pathOf begS ns t f l = S := ⟨_, rfl⟩
  have HP : Hid (placesB S ∧ S.length ≤ 9) := eS ▸ path_places (p := begS) hin
  have hst0 := specArnStacked_any (some ⟨b, off, none⟩) 10 cap ns t f l
  rw [eS] at hst0 ⊢
  obtain ⟨nS, lS⟩ : ∃ n, S.length = n := ⟨_, rfl⟩
  have HL : Hid (nS ≤ 9) := by show _ ≤ _; rw [← lS]; exact HP.out.2
  have hst : Hid (∀ W, SNodes W (some ⟨b, off, none⟩) 10 ns → Calls Try.prog 55 #[.agg #[.slice (some ⟨b, off, none⟩) 10 cap, .int .i64 t, .int .i64 f, .int .i64 l]] W fun e w' => ∃ a c, e = .returned (.slice a nS c) ∧ SInts w' a nS S ∧ Below W.heap.size W w') := fun W h => (hst0 W h (by omega)).mono (by rintro e w' ⟨a, c, rfl, ho, hb⟩; rw [lS] at ho ⊢; exact ⟨a, c, rfl, own_sints ho, hb⟩)
  obtain ⟨m, hm⟩ : ∃ m, (valsOf ns S).length = m := ⟨_, rfl⟩
  have HMV : Hid ((valsOf ns S).length = m) := hm
  have A := al1 w (.cells #[.slice (some ⟨b, off, none⟩) 10 cap, .int .i64 t, .int .i64 f, .int .i64 l] 43)
  have bx := boxA_new w (some ⟨b, off, none⟩) 10 cap t f l 43 rfl
  clear hst0 eS lS hm hin
  go_enter Try.func30, Try.ntmps30
  go_wp2_with fail
  refine (specArnOk_any _ _ _ ns t f l _ (hs.below A) (by omega)).mono ?_
  rintro e w1 ⟨rfl, hb1⟩
  rw [hok]
  have HX : Hid (BoxA w1 w.heap.size (some ⟨b, off, none⟩) 10 cap t f l ∧ SNodes w1 (some ⟨b, off, none⟩) 10 ns ∧ Below w.heap.size w w1) := ⟨bx.below hb1, hs.below (below_trans' A hb1), below_trans' A hb1⟩
  clear hb1 bx A hok hs
  obtain ⟨p0, p1, p2, p3⟩ := HX.out.1.cells
  go_wp2
  have HB0 : Hid (Below w1.heap.size w1 w1.drew) := (Below.refl _ _).drew
  go_region_held_law (fun w' => w'.cell? ⟨w.heap.size, 0, none⟩ = some (.slice (some ⟨b, off, none⟩) 10 cap) ∧ w'.cell? ⟨w.heap.size, 1, none⟩ = some (.int .i64 t) ∧ w'.cell? ⟨w.heap.size, 2, none⟩ = some (.int .i64 f) ∧ w'.cell? ⟨w.heap.size, 3, none⟩ = some (.int .i64 l)) (first | (go_keep; done) | exact KP.out)
    ((first
      | (go_at_call 55; refine (hst.out _ (HX.out.2.1.below HB0.out)).mono ?_; rintro e w2 ⟨aS, cS, rfl, sS, hb2⟩; have HC : Hid (SInts w2 aS nS S) := sS; have HB2 : Hid (Below w1.heap.size w1 w2) := below_trans' HB0.out hb2; have KP : Hid (w2.cell? ⟨w.heap.size, 0, none⟩ = some (.slice (some ⟨b, off, none⟩) 10 cap) ∧ w2.cell? ⟨w.heap.size, 1, none⟩ = some (.int .i64 t) ∧ w2.cell? ⟨w.heap.size, 2, none⟩ = some (.int .i64 f) ∧ w2.cell? ⟨w.heap.size, 3, none⟩ = some (.int .i64 l)) := (HX.out.1.below HB2.out).cells; clear sS hb2)
      | (go_at_call 54; refine (l2Vals_any b off cap ns t f l aS nS cS S _ (HX.out.2.1.below HB2.out) HC.out (by have := HL.out; omega) HP.out.1).mono ?_; rintro e w3 ⟨aV, cV, rfl, oV, hb3⟩; rw [HMV.out] at oV ⊢; have HV : Hid (w3.ownsRow w.heap.size 3 1 (.slice aV m cV) m ((valsOf ns S).map (Value.int .i64)) ∧ Below w.heap.size w w3) := ⟨own_mono oV (Nat.le_trans HX.out.2.2.size HB2.out.size), below_trans' HX.out.2.2 (below_trans' HB2.out hb3)⟩; have KP : Hid (w3.cell? ⟨w.heap.size, 0, none⟩ = some (.slice (some ⟨b, off, none⟩) 10 cap) ∧ w3.cell? ⟨w.heap.size, 1, none⟩ = some (.int .i64 t) ∧ w3.cell? ⟨w.heap.size, 2, none⟩ = some (.int .i64 f) ∧ w3.cell? ⟨w.heap.size, 3, none⟩ = some (.int .i64 l)) := (HX.out.1.below (below_trans' HB2.out hb3)).cells; clear oV hb3)))
  go_wp2
  go_ret
  refine ⟨aV, cV, ?_⟩
  rw [HMV.out]
  exact ⟨rfl, HV.out.1, HV.out.2⟩

theorem specArnStack_any (a : Option Addr) (n cap : Nat) (ns : List Nd) (t f l : Int) (w : World) (hs : SNodes w a n ns) (hn : n ≤ 1048576) :
    Calls Try.prog 30 #[.agg #[.slice a n cap, .int .i64 t, .int .i64 f, .int .i64 l]] w fun e w' => ListI (stackL ns t f l) e w w' := by
  cases hok : okA ns t f l
  · have e : stackL ns t f l = [] := by simp [stackL, hok]
    rw [e]
    exact specArnStack_bad a n cap ns t f l w hs hn hok
  · have hsh : shapeB ns t f l = true := by
      unfold okA at hok
      exact (Bool.and_eq_true _ _ ▸ hok).1
    obtain ⟨hl, _, _, h4, _⟩ := shapeB_parts hsh
    obtain ⟨rfl, b, off, rfl⟩ := snodes_some hs hl
    have e : stackL ns t f l = valsOf ns (pathOf begS ns t f l) := by simp [stackL, hok]
    rw [e]
    exact specArnStack_ok b off cap ns t f l w hs hok h4

set_option maxHeartbeats 1000000 in
theorem implArnStack_bad (a : Option Addr) (n cap : Nat) (ns : List Nd) (t f l : Int) (w : World) (hs : SNodes w a n ns) (hn : n ≤ 1048576) (hok : okA ns t f l = false) :
    Calls Try.prog 34 #[.agg #[.slice a n cap, .int .i64 t, .int .i64 f, .int .i64 l]] w fun e w' => ListI [] e w w' := by
  go_enter Try.func34, Try.ntmps34
  go_wp2_with fail
  refine (implArnOk_any _ _ _ ns t f l _ (hs.below (al1 w (.cells #[.slice a n cap, .int .i64 t, .int .i64 f, .int .i64 l] 43))) hn).mono ?_
  rintro e w1 ⟨rfl, hb1⟩
  have hbel := below_trans' (al1 w (.cells #[.slice a n cap, .int .i64 t, .int .i64 f, .int .i64 l] 43)) hb1
  rw [hok]
  clear hs hb1
  go_wp2
  go_ret
  exact ⟨none, 0, rfl, ⟨rfl, .inl ⟨rfl, rfl⟩⟩, hbel⟩

set_option maxRecDepth 20000 in
set_option maxHeartbeats 2000000 in
theorem implArnStack_ok (b off cap : Nat) (ns : List Nd) (t f l : Int) (w : World) (hs : SNodes w (some ⟨b, off, none⟩) 10 ns) (hok : okA ns t f l = true) (hin : inB t 9 = true) :
    Calls Try.prog 34 #[.agg #[.slice (some ⟨b, off, none⟩) 10 cap, .int .i64 t, .int .i64 f, .int .i64 l]] w fun e w' => ListI (valsOf ns (pathOf begS ns t f l)) e w w' := by
  obtain ⟨S, eS⟩ : ∃ S, pathOf begS ns t f l = S := ⟨_, rfl⟩
  have HP : Hid (placesB S ∧ S.length ≤ 9) := eS ▸ path_places (p := begS) hin
  have hst0 := implArnStacked_any (some ⟨b, off, none⟩) 10 cap ns t f l
  rw [eS] at hst0 ⊢
  obtain ⟨nS, lS⟩ : ∃ n, S.length = n := ⟨_, rfl⟩
  have HL : Hid (nS ≤ 9) := by show _ ≤ _; rw [← lS]; exact HP.out.2
  have hst : Hid (∀ W, SNodes W (some ⟨b, off, none⟩) 10 ns → Calls Try.prog 63 #[.agg #[.slice (some ⟨b, off, none⟩) 10 cap, .int .i64 t, .int .i64 f, .int .i64 l]] W fun e w' => ∃ a c, e = .returned (.slice a nS c) ∧ SInts w' a nS S ∧ Below W.heap.size W w') := fun W h => (hst0 W h (by omega)).mono (by rintro e w' ⟨a, c, rfl, ho, hb⟩; rw [lS] at ho ⊢; exact ⟨a, c, rfl, own_sints ho, hb⟩)
  obtain ⟨m, hm⟩ : ∃ m, (valsOf ns S).length = m := ⟨_, rfl⟩
  have HMV : Hid ((valsOf ns S).length = m) := hm
  have A := al1 w (.cells #[.slice (some ⟨b, off, none⟩) 10 cap, .int .i64 t, .int .i64 f, .int .i64 l] 43)
  have bx := boxA_new w (some ⟨b, off, none⟩) 10 cap t f l 43 rfl
  clear hst0 eS lS hm hin
  go_enter Try.func34, Try.ntmps34
  go_wp2_with fail
  refine (implArnOk_any _ _ _ ns t f l _ (hs.below A) (by omega)).mono ?_
  rintro e w1 ⟨rfl, hb1⟩
  rw [hok]
  have HX : Hid (BoxA w1 w.heap.size (some ⟨b, off, none⟩) 10 cap t f l ∧ SNodes w1 (some ⟨b, off, none⟩) 10 ns ∧ Below w.heap.size w w1) := ⟨bx.below hb1, hs.below (below_trans' A hb1), below_trans' A hb1⟩
  clear hb1 bx A hok hs
  obtain ⟨p0, p1, p2, p3⟩ := HX.out.1.cells
  go_wp2
  have HB0 : Hid (Below w1.heap.size w1 w1.drew) := (Below.refl _ _).drew
  go_region_held_law (fun w' => w'.cell? ⟨w.heap.size, 0, none⟩ = some (.slice (some ⟨b, off, none⟩) 10 cap) ∧ w'.cell? ⟨w.heap.size, 1, none⟩ = some (.int .i64 t) ∧ w'.cell? ⟨w.heap.size, 2, none⟩ = some (.int .i64 f) ∧ w'.cell? ⟨w.heap.size, 3, none⟩ = some (.int .i64 l)) (first | (go_keep; done) | exact KP.out)
    ((first
      | (go_at_call 63; refine (hst.out _ (HX.out.2.1.below HB0.out)).mono ?_; rintro e w2 ⟨aS, cS, rfl, sS, hb2⟩; have HC : Hid (SInts w2 aS nS S) := sS; have HB2 : Hid (Below w1.heap.size w1 w2) := below_trans' HB0.out hb2; have KP : Hid (w2.cell? ⟨w.heap.size, 0, none⟩ = some (.slice (some ⟨b, off, none⟩) 10 cap) ∧ w2.cell? ⟨w.heap.size, 1, none⟩ = some (.int .i64 t) ∧ w2.cell? ⟨w.heap.size, 2, none⟩ = some (.int .i64 f) ∧ w2.cell? ⟨w.heap.size, 3, none⟩ = some (.int .i64 l)) := (HX.out.1.below HB2.out).cells; clear sS hb2)
      | (go_at_call 62; refine (values_any b off cap ns t f l aS nS cS S _ (HX.out.2.1.below HB2.out) HC.out (by have := HL.out; omega) HP.out.1).mono ?_; rintro e w3 ⟨aV, cV, rfl, oV, hb3⟩; rw [HMV.out] at oV ⊢; have HV : Hid (w3.ownsRow w.heap.size 3 1 (.slice aV m cV) m ((valsOf ns S).map (Value.int .i64)) ∧ Below w.heap.size w w3) := ⟨own_mono oV (Nat.le_trans HX.out.2.2.size HB2.out.size), below_trans' HX.out.2.2 (below_trans' HB2.out hb3)⟩; have KP : Hid (w3.cell? ⟨w.heap.size, 0, none⟩ = some (.slice (some ⟨b, off, none⟩) 10 cap) ∧ w3.cell? ⟨w.heap.size, 1, none⟩ = some (.int .i64 t) ∧ w3.cell? ⟨w.heap.size, 2, none⟩ = some (.int .i64 f) ∧ w3.cell? ⟨w.heap.size, 3, none⟩ = some (.int .i64 l)) := (HX.out.1.below (below_trans' HB2.out hb3)).cells; clear oV hb3)))
  go_wp2
  go_ret
  refine ⟨aV, cV, ?_⟩
  rw [HMV.out]
  exact ⟨rfl, HV.out.1, HV.out.2⟩

theorem implArnStack_any (a : Option Addr) (n cap : Nat) (ns : List Nd) (t f l : Int) (w : World) (hs : SNodes w a n ns) (hn : n ≤ 1048576) :
    Calls Try.prog 34 #[.agg #[.slice a n cap, .int .i64 t, .int .i64 f, .int .i64 l]] w fun e w' => ListI (stackL ns t f l) e w w' := by
  cases hok : okA ns t f l
  · have e : stackL ns t f l = [] := by simp [stackL, hok]
    rw [e]
    exact implArnStack_bad a n cap ns t f l w hs hn hok
  · have hsh : shapeB ns t f l = true := by
      unfold okA at hok
      exact (Bool.and_eq_true _ _ ▸ hok).1
    obtain ⟨hl, _, _, h4, _⟩ := shapeB_parts hsh
    obtain ⟨rfl, b, off, rfl⟩ := snodes_some hs hl
    have e : stackL ns t f l = valsOf ns (pathOf begS ns t f l) := by simp [stackL, hok]
    rw [e]
    exact implArnStack_ok b off cap ns t f l w hs hok h4

end Go.Proofs.Ytklpdpdjblakgaa

/- LinOfC -/
namespace Go.Proofs.Ytklpdpdjblakgaa
open Go.RowKit
set_option linter.unusedVariables false

/-- A state in memory of its own. -/
def StR (D : LD) (w : World) (e : Ending) (w' : World) : Prop :=
  ∃ u : SV, e = .returned (stV u D) ∧ St w.heap.size w'.heap.size u D w' ∧ Apart u D ∧ Below w.heap.size w w'
theorem StR.drew {D : LD} {w : World} {e : Ending} {w' : World} (h : StR D w e w') : StR D w e w'.drew := by
  obtain ⟨u, he, h1, h2, h3⟩ := h
  exact ⟨u, he, ⟨h1.m, h1.s, h1.q⟩, h2, h3.drew⟩
theorem c_drew {W : World} {p : Addr} {v : Option Value} (h : W.cell? p = v) : W.drew.cell? p = v := h
theorem c_far {W : World} {b o g i : Nat} {v u : Value} (hg : g ≠ b) (h : W.cell? ⟨b, o, none⟩ = some v) : (W.setCell ⟨g, i, none⟩ u).cell? ⟨b, o, none⟩ = some v := by
  rw [← h]
  exact World.cell?_of_block (Below.heap_setCell W ⟨g, i, none⟩ u b (fun e => hg e.symm))
abbrev put3 (W : World) (A : Nat) (x y z : Value) : World := ((W.setCell ⟨A, 0, none⟩ x).setCell ⟨A, 1, none⟩ y).setCell ⟨A, 2, none⟩ z
theorem own_put3 {W : World} {A base : Nat} {t : TypeId} {sz : Nat} {v : Value} {n : Nat} {xs : List Value} (h : W.ownsRow base t sz v n xs) (hA : A < base) (x y z : Value) : (put3 W A x y z).ownsRow base t sz v n xs := by
  have h1 : (W.setCell ⟨A, 0, none⟩ x).ownsRow base t sz v n xs := ownsRow_setCell_other h (fun k => by have : base ≤ A := (own_typed h k).1; omega) x
  have h2 : ((W.setCell ⟨A, 0, none⟩ x).setCell ⟨A, 1, none⟩ y).ownsRow base t sz v n xs := ownsRow_setCell_other h1 (fun k => by have : base ≤ A := (own_typed h1 k).1; omega) y
  exact ownsRow_setCell_other h2 (fun k => by have : base ≤ A := (own_typed h2 k).1; omega) z
theorem below_put3 {w W : World} {A B : Nat} (h : Below B w W) (hA : B ≤ A) (x y z : Value) : Below B w (put3 W A x y z) :=
  ((h.setCell (p := ⟨A, 0, none⟩) hA x).setCell (p := ⟨A, 1, none⟩) hA y).setCell (p := ⟨A, 2, none⟩) hA z
theorem linOf_st {w w0 w1 w2 w3 : World} {A : Nat} {ma sa qa : Option Addr} {mc sc qc : Nat} {D : LD} (hA : w.heap.size ≤ A) (hA0 : A < w0.heap.size) (b0 : Below w.heap.size w w0) (b1 : Below w0.heap.size w0 w1) (b2 : Below w1.heap.size w1 w2) (b3 : Below w2.heap.size w2 w3)
    (om : w1.ownsRow w0.heap.size 88 2 (.slice ma D.n mc) D.n (D.zs.map (Value.int .i64))) (os : w2.ownsRow w1.heap.size 3 1 (.slice sa D.s.length sc) D.s.length (D.s.map (Value.int .i64))) (oq : w3.ownsRow w2.heap.size 3 1 (.slice qa D.q.length qc) D.q.length (D.q.map (Value.int .i64))) (x y z : Value) :
    St w.heap.size (put3 w3 A x y z).heap.size ⟨ma, mc, sa, sc, qa, qc⟩ D (put3 w3 A x y z) ∧ Apart ⟨ma, mc, sa, sc, qa, qc⟩ D ∧ Below w.heap.size w (put3 w3 A x y z) := by
  have s1 := b1.size
  have s2 := b2.size
  have s3 := b3.size
  have s0 := b0.size
  have om3 := ownsRow_below (ownsRow_below om b2) b3
  have os3 := ownsRow_below os b3
  refine ⟨⟨rowIn_of (own_put3 (own_mono om3 (Nat.le_refl _)) hA0 x y z |> fun h => own_mono h (by omega)) (Nat.le_refl _), rowIn_of (own_put3 os3 (by omega) x y z |> fun h => own_mono h (by omega)) (Nat.le_refl _), rowIn_of (own_put3 oq (by omega) x y z |> fun h => own_mono h (by omega)) (Nat.le_refl _)⟩, ⟨fun k hk hk' => ?_, fun k hk hk' => ?_, fun k hk hk' => ?_⟩, below_put3 (below_trans' (below_trans' (below_trans' b0 b1) b2) b3) hA x y z⟩
  · have h1 := (own_typed om hk).2.1
    have h2 := (own_typed os hk').1
    omega
  · have h1 := (own_typed om hk).2.1
    have h2 := (own_typed oq hk').1
    omega
  · have h1 := (own_typed os hk).2.1
    have h2 := (own_typed oq hk').1
    omega

set_option maxRecDepth 20000 in
set_option maxHeartbeats 4000000 in
theorem specLinOf_core (a : Option Addr) (n cap : Nat) (ns : List Nd) (t f l : Int) (w : World) (hs : SNodes w a n ns) (D : LD)
    (hm : Hid (∀ W, SNodes W a n ns → Calls Try.prog 29 #[.agg #[.slice a n cap, .int .i64 t, .int .i64 f, .int .i64 l]] W fun e w' => MapR D.n D.zs e W w'))
    (hk : Hid (∀ W, SNodes W a n ns → Calls Try.prog 30 #[.agg #[.slice a n cap, .int .i64 t, .int .i64 f, .int .i64 l]] W fun e w' => ListI D.s e W w'))
    (hq : Hid (∀ W, SNodes W a n ns → Calls Try.prog 31 #[.agg #[.slice a n cap, .int .i64 t, .int .i64 f, .int .i64 l]] W fun e w' => ListI D.q e W w')) :
    Calls Try.prog 13 #[.agg #[.slice a n cap, .int .i64 t, .int .i64 f, .int .i64 l]] w (StR D w) := by
  have A := below_trans' (al1 w (.cells #[.slice a n cap, .int .i64 t, .int .i64 f, .int .i64 l] 43)) (al1 _ (.cells #[.slice none 0 0, .slice none 0 0, .slice none 0 0] 39))
  have bx := (boxA_new w a n cap t f l 43 rfl).below (al1 _ (.cells #[.slice none 0 0, .slice none 0 0, .slice none 0 0] 39))
  have bl := b3_new (w.alloc (.cells #[.slice a n cap, .int .i64 t, .int .i64 f, .int .i64 l] 43)) (.slice none 0 0) (.slice none 0 0) (.slice none 0 0) 39 (b := w.heap.size + 1) (by simp)
  have hz : w.heap.size + 1 < ((w.alloc (.cells #[.slice a n cap, .int .i64 t, .int .i64 f, .int .i64 l] 43)).alloc (.cells #[.slice none 0 0, .slice none 0 0, .slice none 0 0] 39)).heap.size := by simp
  go_enter Try.func13, Try.ntmps13
  go_wp2
  generalize (w.alloc (.cells #[.slice a n cap, .int .i64 t, .int .i64 f, .int .i64 l] 43)).alloc (.cells #[.slice none 0 0, .slice none 0 0, .slice none 0 0] 39) = w0 at A bx bl hz ⊢
  have HZ : Hid (w.heap.size + 1 < w0.heap.size) := hz
  have B0 : Hid (BoxA w0 w.heap.size a n cap t f l ∧ B3 w0 (w.heap.size + 1) (.slice none 0 0) (.slice none 0 0) (.slice none 0 0) ∧ Below w.heap.size w w0 ∧ True) := ⟨bx, bl, A, trivial⟩
  clear A hz bl
  obtain ⟨p0, p1, p2, p3⟩ := bx
  go_region_held (fun w' => w'.cell? ⟨w.heap.size, 0, none⟩ = some (.slice a n cap) ∧ w'.cell? ⟨w.heap.size, 1, none⟩ = some (.int .i64 t) ∧ w'.cell? ⟨w.heap.size, 2, none⟩ = some (.int .i64 f) ∧ w'.cell? ⟨w.heap.size, 3, none⟩ = some (.int .i64 l)) ((refine ⟨?_, ?_, ?_, ?_⟩ <;> (try (with_reducible (refine c_drew ?_))) <;> (repeat (with_reducible (refine c_far (by omega) ?_))) <;> (with_reducible assumption))) (first | (go_at_call 29; refine (hm.out _ (hs.below (below_trans' B0.out.2.2.1 (Below.refl w0.heap.size w0).drew))).mono ?_; rintro e w1 ⟨ma, mc, rfl, ho, hb⟩; have hc : Below w0.heap.size w0 w1 := below_trans' (Below.refl w0.heap.size w0).drew hb; have B1 : Hid (BoxA w1 w.heap.size a n cap t f l ∧ B3 w1 (w.heap.size + 1) (.slice none 0 0) (.slice none 0 0) (.slice none 0 0) ∧ Below w.heap.size w w1 ∧ Below w0.heap.size w0 w1 ∧ w1.ownsRow w0.heap.size 88 2 (.slice ma D.n mc) D.n (D.zs.map (Value.int .i64))) := ⟨B0.out.1.below hc, B0.out.2.1.below hc, below_trans' B0.out.2.2.1 hc, hc, ho⟩; obtain ⟨p10, p11, p12, p13⟩ := B1.out.1; obtain ⟨m10, m11, m12⟩ := B1.out.2.1.cells; obtain ⟨f10, f11, f12⟩ := B1.out.2.1.frees; clear ho hb hc) | (go_at_call 30; refine (hk.out _ (hs.below (B1.out.2.2.1))).mono ?_; rintro e w2 ⟨sa, sc, rfl, ho, hb⟩; have hc : Below w1.heap.size w1 w2 := hb; have B2 : Hid (BoxA w2 w.heap.size a n cap t f l ∧ B3 w2 (w.heap.size + 1) (.slice none 0 0) (.slice none 0 0) (.slice none 0 0) ∧ Below w.heap.size w w2 ∧ Below w1.heap.size w1 w2 ∧ w2.ownsRow w1.heap.size 3 1 (.slice sa D.s.length sc) D.s.length (D.s.map (Value.int .i64))) := ⟨B1.out.1.below hc, B1.out.2.1.below hc, below_trans' B1.out.2.2.1 hc, hc, ho⟩; obtain ⟨p20, p21, p22, p23⟩ := B2.out.1; obtain ⟨m20, m21, m22⟩ := B2.out.2.1.cells; obtain ⟨f20, f21, f22⟩ := B2.out.2.1.frees; clear ho hb hc) | (go_at_call 31; refine (hq.out _ (hs.below (B2.out.2.2.1))).mono ?_; rintro e w3 ⟨qa, qc, rfl, ho, hb⟩; have hc : Below w2.heap.size w2 w3 := hb; have B3 : Hid (BoxA w3 w.heap.size a n cap t f l ∧ B3 w3 (w.heap.size + 1) (.slice none 0 0) (.slice none 0 0) (.slice none 0 0) ∧ Below w.heap.size w w3 ∧ Below w2.heap.size w2 w3 ∧ w3.ownsRow w2.heap.size 3 1 (.slice qa D.q.length qc) D.q.length (D.q.map (Value.int .i64))) := ⟨B2.out.1.below hc, B2.out.2.1.below hc, below_trans' B2.out.2.2.1 hc, hc, ho⟩; obtain ⟨p30, p31, p32, p33⟩ := B3.out.1; obtain ⟨m30, m31, m32⟩ := B3.out.2.1.cells; obtain ⟨f30, f31, f32⟩ := B3.out.2.1.frees; clear ho hb hc))
  all_goals
    go_wp2
    refine bodyPost_ret (v := .agg #[.slice ma D.n mc, .slice sa D.s.length sc, .slice qa D.q.length qc]) (by simp [results, Try.results13, go_sem, m30, m31, m32]) rfl ?_
    have hF := linOf_st (A := w.heap.size + 1) (by omega) HZ.out B0.out.2.2.1 B1.out.2.2.2.1 B2.out.2.2.2.1 B3.out.2.2.2.1 B1.out.2.2.2.2 B2.out.2.2.2.2 B3.out.2.2.2.2 (.slice ma D.n mc) (.slice sa D.s.length sc) (.slice qa D.q.length qc)
    exact ⟨_, rfl, hF.1, hF.2.1, hF.2.2⟩

set_option maxRecDepth 20000 in
set_option maxHeartbeats 4000000 in
theorem implLinOf_core (a : Option Addr) (n cap : Nat) (ns : List Nd) (t f l : Int) (w : World) (hs : SNodes w a n ns) (D : LD)
    (hm : Hid (∀ W, SNodes W a n ns → Calls Try.prog 33 #[.agg #[.slice a n cap, .int .i64 t, .int .i64 f, .int .i64 l]] W fun e w' => MapR D.n D.zs e W w'))
    (hk : Hid (∀ W, SNodes W a n ns → Calls Try.prog 34 #[.agg #[.slice a n cap, .int .i64 t, .int .i64 f, .int .i64 l]] W fun e w' => ListI D.s e W w'))
    (hq : Hid (∀ W, SNodes W a n ns → Calls Try.prog 35 #[.agg #[.slice a n cap, .int .i64 t, .int .i64 f, .int .i64 l]] W fun e w' => ListI D.q e W w')) :
    Calls Try.prog 15 #[.agg #[.slice a n cap, .int .i64 t, .int .i64 f, .int .i64 l]] w (StR D w) := by
  have A := below_trans' (al1 w (.cells #[.slice a n cap, .int .i64 t, .int .i64 f, .int .i64 l] 43)) (al1 _ (.cells #[.slice none 0 0, .slice none 0 0, .slice none 0 0] 39))
  have bx := (boxA_new w a n cap t f l 43 rfl).below (al1 _ (.cells #[.slice none 0 0, .slice none 0 0, .slice none 0 0] 39))
  have bl := b3_new (w.alloc (.cells #[.slice a n cap, .int .i64 t, .int .i64 f, .int .i64 l] 43)) (.slice none 0 0) (.slice none 0 0) (.slice none 0 0) 39 (b := w.heap.size + 1) (by simp)
  have hz : w.heap.size + 1 < ((w.alloc (.cells #[.slice a n cap, .int .i64 t, .int .i64 f, .int .i64 l] 43)).alloc (.cells #[.slice none 0 0, .slice none 0 0, .slice none 0 0] 39)).heap.size := by simp
  go_enter Try.func15, Try.ntmps15
  go_wp2
  generalize (w.alloc (.cells #[.slice a n cap, .int .i64 t, .int .i64 f, .int .i64 l] 43)).alloc (.cells #[.slice none 0 0, .slice none 0 0, .slice none 0 0] 39) = w0 at A bx bl hz ⊢
  have HZ : Hid (w.heap.size + 1 < w0.heap.size) := hz
  have B0 : Hid (BoxA w0 w.heap.size a n cap t f l ∧ B3 w0 (w.heap.size + 1) (.slice none 0 0) (.slice none 0 0) (.slice none 0 0) ∧ Below w.heap.size w w0 ∧ True) := ⟨bx, bl, A, trivial⟩
  clear A hz bl
  obtain ⟨p0, p1, p2, p3⟩ := bx
  go_region_held (fun w' => w'.cell? ⟨w.heap.size, 0, none⟩ = some (.slice a n cap) ∧ w'.cell? ⟨w.heap.size, 1, none⟩ = some (.int .i64 t) ∧ w'.cell? ⟨w.heap.size, 2, none⟩ = some (.int .i64 f) ∧ w'.cell? ⟨w.heap.size, 3, none⟩ = some (.int .i64 l)) ((refine ⟨?_, ?_, ?_, ?_⟩ <;> (try (with_reducible (refine c_drew ?_))) <;> (repeat (with_reducible (refine c_far (by omega) ?_))) <;> (with_reducible assumption))) (first | (go_at_call 33; refine (hm.out _ (hs.below (below_trans' B0.out.2.2.1 (Below.refl w0.heap.size w0).drew))).mono ?_; rintro e w1 ⟨ma, mc, rfl, ho, hb⟩; have hc : Below w0.heap.size w0 w1 := below_trans' (Below.refl w0.heap.size w0).drew hb; have B1 : Hid (BoxA w1 w.heap.size a n cap t f l ∧ B3 w1 (w.heap.size + 1) (.slice none 0 0) (.slice none 0 0) (.slice none 0 0) ∧ Below w.heap.size w w1 ∧ Below w0.heap.size w0 w1 ∧ w1.ownsRow w0.heap.size 88 2 (.slice ma D.n mc) D.n (D.zs.map (Value.int .i64))) := ⟨B0.out.1.below hc, B0.out.2.1.below hc, below_trans' B0.out.2.2.1 hc, hc, ho⟩; obtain ⟨p10, p11, p12, p13⟩ := B1.out.1; obtain ⟨m10, m11, m12⟩ := B1.out.2.1.cells; obtain ⟨f10, f11, f12⟩ := B1.out.2.1.frees; clear ho hb hc) | (go_at_call 34; refine (hk.out _ (hs.below (B1.out.2.2.1))).mono ?_; rintro e w2 ⟨sa, sc, rfl, ho, hb⟩; have hc : Below w1.heap.size w1 w2 := hb; have B2 : Hid (BoxA w2 w.heap.size a n cap t f l ∧ B3 w2 (w.heap.size + 1) (.slice none 0 0) (.slice none 0 0) (.slice none 0 0) ∧ Below w.heap.size w w2 ∧ Below w1.heap.size w1 w2 ∧ w2.ownsRow w1.heap.size 3 1 (.slice sa D.s.length sc) D.s.length (D.s.map (Value.int .i64))) := ⟨B1.out.1.below hc, B1.out.2.1.below hc, below_trans' B1.out.2.2.1 hc, hc, ho⟩; obtain ⟨p20, p21, p22, p23⟩ := B2.out.1; obtain ⟨m20, m21, m22⟩ := B2.out.2.1.cells; obtain ⟨f20, f21, f22⟩ := B2.out.2.1.frees; clear ho hb hc) | (go_at_call 35; refine (hq.out _ (hs.below (B2.out.2.2.1))).mono ?_; rintro e w3 ⟨qa, qc, rfl, ho, hb⟩; have hc : Below w2.heap.size w2 w3 := hb; have B3 : Hid (BoxA w3 w.heap.size a n cap t f l ∧ B3 w3 (w.heap.size + 1) (.slice none 0 0) (.slice none 0 0) (.slice none 0 0) ∧ Below w.heap.size w w3 ∧ Below w2.heap.size w2 w3 ∧ w3.ownsRow w2.heap.size 3 1 (.slice qa D.q.length qc) D.q.length (D.q.map (Value.int .i64))) := ⟨B2.out.1.below hc, B2.out.2.1.below hc, below_trans' B2.out.2.2.1 hc, hc, ho⟩; obtain ⟨p30, p31, p32, p33⟩ := B3.out.1; obtain ⟨m30, m31, m32⟩ := B3.out.2.1.cells; obtain ⟨f30, f31, f32⟩ := B3.out.2.1.frees; clear ho hb hc))
  all_goals
    go_wp2
    refine bodyPost_ret (v := .agg #[.slice ma D.n mc, .slice sa D.s.length sc, .slice qa D.q.length qc]) (by simp [results, Try.results15, go_sem, m30, m31, m32]) rfl ?_
    have hF := linOf_st (A := w.heap.size + 1) (by omega) HZ.out B0.out.2.2.1 B1.out.2.2.2.1 B2.out.2.2.2.1 B3.out.2.2.2.1 B1.out.2.2.2.2 B2.out.2.2.2.2 B3.out.2.2.2.2 (.slice ma D.n mc) (.slice sa D.s.length sc) (.slice qa D.q.length qc)
    exact ⟨_, rfl, hF.1, hF.2.1, hF.2.2⟩

/-- What there is at places, as a state by itself. -/
def ofD (ns : List Nd) (t f l : Int) : LD := ⟨(mapP ns t f l).length, entsOf ns (mapP ns t f l), stackL ns t f l, queueL ns t f l⟩
theorem pathOf_nine (p : List Nd → Int → Int → Int → Int) (ns : List Nd) (t f l : Int) : (pathOf p ns t f l).length ≤ 9 := by
  unfold pathOf
  split
  · exact fromTo_len _ _ _
  · simp
theorem ofD_few (ns : List Nd) (t f l : Int) : Few (ofD ns t f l) := by
  refine ⟨?_, ?_, ?_⟩
  · show (mapP ns t f l).length ≤ 1048576
    unfold mapP
    split
    · have h1 := unm_len ns (pathOf begC ns t f l)
      have h2 := pathOf_nine begC ns t f l
      omega
    · simp
  · show (stackL ns t f l).length ≤ 1048576
    unfold stackL
    split
    · have h2 := pathOf_nine begS ns t f l
      simp [valsOf]
      omega
    · simp
  · show (queueL ns t f l).length ≤ 1048576
    unfold queueL
    split
    · have h2 := pathOf_nine begQ ns t f l
      simp [valsOf]
      omega
    · simp
theorem specLinOf_any (a : Option Addr) (n cap : Nat) (ns : List Nd) (t f l : Int) (w : World) (hs : SNodes w a n ns) (hn : n ≤ 1048576) : Calls Try.prog 13 #[.agg #[.slice a n cap, .int .i64 t, .int .i64 f, .int .i64 l]] w (StR (ofD ns t f l) w) :=
  specLinOf_core a n cap ns t f l w hs (ofD ns t f l) (fun W h => specArnMap_any a n cap ns t f l W h hn) (fun W h => specArnStack_any a n cap ns t f l W h hn) (fun W h => specArnQueue_any a n cap ns t f l W h hn)
theorem implLinOf_any (a : Option Addr) (n cap : Nat) (ns : List Nd) (t f l : Int) (w : World) (hs : SNodes w a n ns) (hn : n ≤ 1048576) : Calls Try.prog 15 #[.agg #[.slice a n cap, .int .i64 t, .int .i64 f, .int .i64 l]] w (StR (ofD ns t f l) w) :=
  implLinOf_core a n cap ns t f l w hs (ofD ns t f l) (fun W h => implArnMap_any a n cap ns t f l W h hn) (fun W h => implArnStack_any a n cap ns t f l W h hn) (fun W h => implArnQueue_any a n cap ns t f l W h hn)

end Go.Proofs.Ytklpdpdjblakgaa

/- LinOfG -/
namespace Go.Proofs.Ytklpdpdjblakgaa
open Go.RowKit
set_option linter.unusedVariables false

/-- Just some blocks have turned. -/
structure TurnP (P : Nat → Prop) (w w' : World) : Prop where
  os : w'.os = w.os
  tape : w'.tape = w.tape
  output : w'.output = w.output
  size : w.heap.size ≤ w'.heap.size
  block : ∀ k, k < w.heap.size → ¬ P k → w'.heap[k]? = w.heap[k]?
theorem TurnP.trans {P : Nat → Prop} {w w1 w2 : World} (h : TurnP P w w1) (k : TurnP P w1 w2) : TurnP P w w2 :=
  ⟨k.os.trans h.os, k.tape.trans h.tape, k.output.trans h.output, Nat.le_trans h.size k.size, fun i hi ho => (k.block i (Nat.lt_of_lt_of_le hi h.size) ho).trans (h.block i hi ho)⟩
theorem turnP_grown {P : Nat → Prop} {w w' : World} {row : Option Nat} (h : w.grownBy w' row) (hr : ∀ k, row = some k → P k) : TurnP P w w' :=
  ⟨h.os, h.tape, h.output, h.size, fun k hk ho => h.block k hk (fun e => ho (hr k e.symm))⟩
theorem turnP_below {P : Nat → Prop} {w w' : World} (h : Below w.heap.size w w') : TurnP P w w' :=
  ⟨h.os, h.tape, h.output, h.size, fun k hk _ => h.block k hk⟩
theorem TurnP.below {P : Nat → Prop} {B : Nat} {w w' : World} (h : TurnP P w w') (hB : ∀ k, P k → B ≤ k) (hw : B ≤ w.heap.size) : Below B w w' :=
  ⟨h.os, h.tape, h.output, h.size, fun k hk => h.block k (by omega) (fun hp => by have := hB k hp; omega)⟩
theorem St.turn {lo hi : Nat} {v : SV} {d : LD} {W W' : World} (h : St lo hi v d W) (hh : hi ≤ W.heap.size) {P : Nat → Prop} (ht : TurnP P W W') (hP : ∀ k, P k → k < lo ∨ hi ≤ k) : St lo hi v d W' :=
  St.only W W' h (fun k h1 h2 => ht.block k (by omega) (fun hp => by have := hP k hp; omega))

theorem lt_of_some {W : World} {g : Nat} {o : Obj} (h : W.heap[g]? = some o) : g < W.heap.size := (Array.getElem?_eq_some_iff.1 h).1
theorem cell_of3 {W : World} {g : Nat} {x y z : Value} {t : TypeId} (h : W.heap[g]? = some (.cells #[x, y, z] t)) : B3 W g x y z :=
  ⟨by simp [World.cell?, h], by simp [World.cell?, h], by simp [World.cell?, h], fun j => frozen_block h j⟩
theorem cell_of4 {W : World} {g : Nat} {x y z v : Value} {t : TypeId} (h : W.heap[g]? = some (.cells #[x, y, z, v] t)) : W.cell? ⟨g, 0, none⟩ = some x ∧ W.cell? ⟨g, 1, none⟩ = some y ∧ W.cell? ⟨g, 2, none⟩ = some z ∧ W.cell? ⟨g, 3, none⟩ = some v := by
  simp [World.cell?, h]
/-- Boxes below a world's end, and what was there. -/
structure GX (w W : World) (l : List (Nat × Array Value × TypeId)) : Prop where
  bel : Below w.heap.size w W
  bx : ∀ p ∈ l, W.heap[p.1]? = some (.cells p.2.1 p.2.2)
theorem GX.below {w W W' : World} {l : List (Nat × Array Value × TypeId)} (h : GX w W l) (hb : Below W.heap.size W W') : GX w W' l :=
  ⟨below_trans' h.bel hb, fun p hp => (hb.block p.1 (lt_of_some (h.bx p hp))).trans (h.bx p hp)⟩
theorem GX.turn {w W W' : World} {l : List (Nat × Array Value × TypeId)} (h : GX w W l) {P : Nat → Prop} (ht : TurnP P W W') (hw : ∀ k, P k → w.heap.size ≤ k) (hl : ∀ p ∈ l, ¬ P p.1) : GX w W' l :=
  ⟨h.bel.trans (ht.below hw h.bel.size), fun p hp => (ht.block p.1 (lt_of_some (h.bx p hp)) (hl p hp)).trans (h.bx p hp)⟩
theorem GX.add {w W : World} {l : List (Nat × Array Value × TypeId)} (h : GX w W l) (cs : Array Value) (t : TypeId) {b : Nat} (hb : b = W.heap.size) : GX w (W.alloc (.cells cs t)) ((b, cs, t) :: l) := by
  have A := al1 W (.cells cs t)
  refine ⟨below_trans' h.bel A, fun p hp => ?_⟩
  rcases List.mem_cons.1 hp with rfl | hp
  · subst hb
    exact heap_alloc_new W (.cells cs t)
  · exact (h.below A).bx p hp
theorem GX.start (w : World) : GX w w [] := ⟨Below.refl _ _, fun p hp => (by cases hp)⟩
theorem turnP_in {lo hi : Nat} {w w' : World} (h : TurnIn lo hi w w') : TurnP (fun k => lo ≤ k ∧ k < hi) w w' :=
  ⟨h.os, h.tape, h.output, h.size, fun k hk hp => h.block k hk (by have : ¬ (lo ≤ k ∧ k < hi) := hp; omega)⟩
/-- The boxes, and both answers' lists. -/
structure OG (w W : World) (l : List (Nat × Array Value × TypeId)) (lo1 hi1 : Nat) (uw : SV) (D : LD) (lo2 hi2 : Nat) (ug : SV) (E : LD) : Prop where
  g : GX w W l
  x : St lo1 hi1 uw D W
  xh : hi1 ≤ W.heap.size
  y : St lo2 hi2 ug E W
  yh : hi2 ≤ W.heap.size
section
variable {w W W' : World} {l : List (Nat × Array Value × TypeId)} {lo1 hi1 lo2 hi2 : Nat} {uw ug : SV} {D E : LD}
theorem OG.below (h : OG w W l lo1 hi1 uw D lo2 hi2 ug E) (hb : Below W.heap.size W W') : OG w W' l lo1 hi1 uw D lo2 hi2 ug E :=
  ⟨h.g.below hb, h.x.below h.xh hb, Nat.le_trans h.xh hb.size, h.y.below h.yh hb, Nat.le_trans h.yh hb.size⟩
theorem OG.turn (h : OG w W l lo1 hi1 uw D lo2 hi2 ug E) {P : Nat → Prop} (ht : TurnP P W W') (hw : ∀ k, P k → w.heap.size ≤ k) (hl : ∀ p ∈ l, ¬ P p.1) (hx : ∀ k, P k → k < lo1 ∨ hi1 ≤ k) (hy : ∀ k, P k → k < lo2 ∨ hi2 ≤ k) : OG w W' l lo1 hi1 uw D lo2 hi2 ug E :=
  ⟨h.g.turn ht hw hl, h.x.turn h.xh ht hx, Nat.le_trans h.xh ht.size, h.y.turn h.yh ht hy, Nat.le_trans h.yh ht.size⟩
theorem OG.mark (h : OG w W l lo1 hi1 uw D lo2 hi2 ug E) {F : LD} (ht : TurnP (fun k => lo2 ≤ k ∧ k < hi2) W W') (hs : St lo2 hi2 ug F W') (hw : w.heap.size ≤ lo2) (hl : ∀ p ∈ l, ¬ (lo2 ≤ p.1 ∧ p.1 < hi2)) (hx : hi1 ≤ lo2) : OG w W' l lo1 hi1 uw D lo2 hi2 ug F :=
  ⟨h.g.turn ht (fun k hk => by omega) hl, h.x.turn h.xh ht (fun k hk => by omega), Nat.le_trans h.xh ht.size, hs, Nat.le_trans h.yh ht.size⟩
end

end Go.Proofs.Ytklpdpdjblakgaa

/- Frame3 -/
namespace Go.Proofs.Ytklpdpdjblakgaa
open Go.ChangeShapes Go.WideShapes Go.ChangeAt Go.RowKit Go.Joins Go.Deep
set_option linter.unusedVariables false
set_option maxRecDepth 20000

theorem Try.cells32 : Try.prog.cellsOf 32 = 4 := by kernel_rfl
theorem Try.cells30 : Try.prog.cellsOf 30 = 1 := by kernel_rfl
theorem Try.cells91 : Try.prog.cellsOf 91 = 6 := by kernel_rfl
theorem Try.cells3 : Try.prog.cellsOf 3 = 1 := by kernel_rfl
theorem Try.cells4 : Try.prog.cellsOf 4 = 1 := by kernel_rfl

def boolOf : Value → Bool
  | .bool b => b
  | _ => false

/-- The place of six cells. -/
def ndOf (cs : List Value) : Nd := ⟨intOf (cs.getD 0 undef), intOf (cs.getD 1 undef), intOf (cs.getD 2 undef), intOf (cs.getD 3 undef), boolOf (cs.getD 4 undef), intOf (cs.getD 5 undef)⟩

theorem list6 {α : Type} {l : List α} (h : l.length = 6) : ∃ a b c d e f, l = [a, b, c, d, e, f] := by
  match l, h with
  | [a, b, c, d, e, f], _ => exact ⟨a, b, c, d, e, f, rfl⟩

theorem node_of_trod {H : Type} {enc : TypeId × Value → H} {W : World} {fuel : Nat} {cs : List Value} {x : DataW H × List MemPlace} (hl : cs.length = 6)
    (h : DataW.trod enc Try.prog W 0 (fun _ => true) true fuel 91 cs = some x) : cs = (ndOf cs).cells := by
  obtain ⟨xs, k, hk, hxy, _, hxl, hf⟩ := DataW.trod_struct Try.underlying91 h
  obtain ⟨c0, c1, c2, c3, c4, c5, rfl⟩ := list6 hl
  obtain ⟨y0, y1, y2, y3, y4, y5, rfl⟩ := list6 (l := xs) (by simpa using hxl)
  have g0 := hf 0 _ rfl
  have g1 := hf 1 _ rfl
  have g2 := hf 2 _ rfl
  have g3 := hf 3 _ rfl
  have g4 := hf 4 _ rfl
  have g5 := hf 5 _ rfl
  simp [Try.cells3, Try.cells4] at g0 g1 g2 g3 g4 g5
  obtain ⟨u0, e0, _, _⟩ := DataW.trod_int Try.underlying3 g0
  obtain ⟨u1, e1, _, _⟩ := DataW.trod_int Try.underlying3 g1
  obtain ⟨u2, e2, _, _⟩ := DataW.trod_int Try.underlying3 g2
  obtain ⟨u3, e3, _, _⟩ := DataW.trod_int Try.underlying3 g3
  obtain ⟨u5, e5, _, _⟩ := DataW.trod_int Try.underlying3 g5
  obtain ⟨u4, e4, _⟩ := DataW.trod_bool Try.underlying4 g4
  simp at e0 e1 e2 e3 e4 e5
  subst e0 e1 e2 e3 e4 e5
  rfl

theorem arena_of_open {H : Type} {enc : TypeId × Value → H} {W : World} {base : Nat} {v0 : Value} {d0 : DataW H} {p0 : List MemPlace} (hv : Value.okWide Try.prog W .any base 32 v0)
    (h0 : DataW.Trod enc Try.prog W 0 (fun _ => true) true 32 v0 d0 p0) : ∃ a n cap t f l ns, v0 = .agg #[.slice a n cap, .int .i64 t, .int .i64 f, .int .i64 l] ∧ SNodes W a n ns ∧ n ≤ 9223372036854775807 := by
  obtain ⟨cs, rfl, hsz⟩ := okWide_struct Try.underlying32 hv
  obtain ⟨c0, c1, c2, c3, rfl⟩ := array4 (hsz.trans Try.cells32)
  obtain ⟨fuel, hf⟩ := h0
  obtain ⟨y0, y1, y2, y3, m, hx, _, g0, g1, g2, g3⟩ := trod_struct4 Try.underlying32 hf
  simp [Value.cells, Try.cells30, Try.cells3] at g0 g1 g2 g3
  obtain ⟨t, e1, _, _⟩ := DataW.trod_int Try.underlying3 g1
  obtain ⟨f, e2, _, _⟩ := DataW.trod_int Try.underlying3 g2
  obtain ⟨l, e3, _, _⟩ := DataW.trod_int Try.underlying3 g3
  simp at e1 e2 e3
  subst e1 e2 e3
  rcases open_slice Try.underlying30 g0 with ⟨hcs, _⟩ | ⟨x, len, cap, mm, nn, D, Pl, hcs, hb, hl, hm, hmm, _, hcell⟩
  · simp at hcs
    subst hcs
    exact ⟨none, 0, 0, t, f, l, [], rfl, ⟨rfl, .inl rfl⟩, by omega⟩
  · simp at hcs
    subst hcs
    unfold maxLen at hm
    have hmm' : mm = cap := by simpa using hmm
    have each : ∀ i, i < len → ∃ y : Nd, ∀ j v, y.cells[j]? = some v → W.cell? (x.add (i * 6 + j)) = some v := by
      intro i hi
      obtain ⟨cs', h1, h2⟩ := hcell i (by omega)
      rw [Try.cells91] at h1
      obtain ⟨_, hlen, hc⟩ := World.cells?_some h1
      have e := node_of_trod (by simpa using hlen) h2
      refine ⟨ndOf cs', fun j v hj => ?_⟩
      rw [← e] at hj
      have hj6 : j < 6 := by have := (List.getElem?_eq_some_iff.1 hj).1; omega
      have := (hc j hj6).trans hj
      rw [Go.Deep.add_add] at this
      exact this
    obtain ⟨F, hF⟩ : ∃ F : Nat → Nd, ∀ i, i < len → ∀ j v, (F i).cells[j]? = some v → W.cell? (x.add (i * 6 + j)) = some v := by
      classical
      refine ⟨fun i => if h : i < len then Classical.choose (each i h) else Nd.zero, fun i hi => ?_⟩
      simp only [hi, dif_pos]
      exact Classical.choose_spec (each i hi)
    refine ⟨_, len, cap, t, f, l, (List.range len).map F, rfl, ⟨by simp, ?_⟩, by omega⟩
    by_cases hl0 : len = 0
    · exact .inl hl0
    · obtain ⟨b, off, spot⟩ := x
      have hz := hF 0 (by omega) 0 _ rfl
      have hspot : spot = none := by simpa [Addr.add] using World.cell?_spot hz
      subst hspot
      refine .inr ⟨b, off, rfl, fun i y hy => ?_⟩
      have hi : i < len := by have := (List.getElem?_eq_some_iff.1 hy).1; simpa using this
      obtain rfl : F i = y := by simpa [hi] using hy
      have key : ∀ j v, (F i).cells[j]? = some v → W.cell? ⟨b, off + i * 6 + j, none⟩ = some v := fun j v hj => by
        have := hF i hi j v hj
        rw [Addr.add_lit] at this
        rw [show off + i * 6 + j = off + (i * 6 + j) by omega]
        exact this
      exact ⟨key 0 _ rfl, key 1 _ rfl, key 2 _ rfl, key 3 _ rfl, key 4 _ rfl, key 5 _ rfl⟩

end Go.Proofs.Ytklpdpdjblakgaa
