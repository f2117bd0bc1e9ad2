/- ArnStack, of the specification and of the program. -/
import Derived.Test.YtcffoehldohooaaValsS
namespace Go.Proofs.Ytcffoehldohooaa
open Go.RowKit
set_option linter.unusedVariables false

/-- The stack's values, of places that are ok. -/
def stackL (ns : List Nd) (t f l : Int) : List Int := if okA ns t f l then valsOf ns (pathOf begS ns t f l) else []

set_option maxHeartbeats 1000000 in
theorem implArnStack_bad (a : Option Addr) (n cap : Nat) (ns : List Nd) (t f l : Int) (w : World) (hs : SNodes w a n ns) (hn : n ≤ 1048576) (hok : okA ns t f l = false) :
    Calls Try.prog 22 #[.agg #[.slice a n cap, .int .i64 t, .int .i64 f, .int .i64 l]] w fun e w' => ListI [] e w w' := by
  go_enter Try.func22, Try.ntmps22
  go_wp2_with fail
  refine (implArnOk_any _ _ _ ns t f l _ (hs.below (al1 w (.cells #[.slice a n cap, .int .i64 t, .int .i64 f, .int .i64 l] 33))) hn).mono ?_
  rintro e w1 ⟨rfl, hb1⟩
  have hbel := below_trans' (al1 w (.cells #[.slice a n cap, .int .i64 t, .int .i64 f, .int .i64 l] 33)) hb1
  rw [hok]
  clear hs hb1
  go_wp2
  go_ret
  exact ⟨none, 0, rfl, ⟨rfl, .inl ⟨rfl, rfl⟩⟩, hbel⟩

set_option maxRecDepth 20000 in
set_option maxHeartbeats 2000000 in
theorem implArnStack_ok (b off cap : Nat) (ns : List Nd) (t f l : Int) (w : World) (hs : SNodes w (some ⟨b, off, none⟩) 10 ns) (hok : okA ns t f l = true) (hin : inB t 9 = true) :
    Calls Try.prog 22 #[.agg #[.slice (some ⟨b, off, none⟩) 10 cap, .int .i64 t, .int .i64 f, .int .i64 l]] w fun e w' => ListI (valsOf ns (pathOf begS ns t f l)) e w w' := by
  obtain ⟨S, eS⟩ : ∃ S, pathOf begS ns t f l = S := ⟨_, rfl⟩
  have HP : Hid (placesB S ∧ S.length ≤ 9) := eS ▸ path_places (p := begS) hin
  have hst0 := implArnStacked_any (some ⟨b, off, none⟩) 10 cap ns t f l
  rw [eS] at hst0 ⊢
  obtain ⟨nS, lS⟩ : ∃ n, S.length = n := ⟨_, rfl⟩
  have HL : Hid (nS ≤ 9) := by show _ ≤ _; rw [← lS]; exact HP.out.2
  have hst : Hid (∀ W, SNodes W (some ⟨b, off, none⟩) 10 ns → Calls Try.prog 36 #[.agg #[.slice (some ⟨b, off, none⟩) 10 cap, .int .i64 t, .int .i64 f, .int .i64 l]] W fun e w' => ∃ a c, e = .returned (.slice a nS c) ∧ SInts w' a nS S ∧ Below W.heap.size W w') := fun W h => (hst0 W h (by omega)).mono (by rintro e w' ⟨a, c, rfl, ho, hb⟩; rw [lS] at ho ⊢; exact ⟨a, c, rfl, own_sints ho, hb⟩)
  obtain ⟨m, hm⟩ : ∃ m, (valsOf ns S).length = m := ⟨_, rfl⟩
  have HMV : Hid ((valsOf ns S).length = m) := hm
  have A := al1 w (.cells #[.slice (some ⟨b, off, none⟩) 10 cap, .int .i64 t, .int .i64 f, .int .i64 l] 33)
  have bx := boxA_new w (some ⟨b, off, none⟩) 10 cap t f l 33 rfl
  clear hst0 eS lS hm hin
  go_enter Try.func22, Try.ntmps22
  go_wp2_with fail
  refine (implArnOk_any _ _ _ ns t f l _ (hs.below A) (by omega)).mono ?_
  rintro e w1 ⟨rfl, hb1⟩
  rw [hok]
  have HX : Hid (BoxA w1 w.heap.size (some ⟨b, off, none⟩) 10 cap t f l ∧ SNodes w1 (some ⟨b, off, none⟩) 10 ns ∧ Below w.heap.size w w1) := ⟨bx.below hb1, hs.below (below_trans' A hb1), below_trans' A hb1⟩
  clear hb1 bx A hok hs
  obtain ⟨p0, p1, p2, p3⟩ := HX.out.1.cells
  go_wp2
  have HB0 : Hid (Below w1.heap.size w1 w1.drew) := (Below.refl _ _).drew
  go_region_held_law (fun w' => w'.cell? ⟨w.heap.size, 0, none⟩ = some (.slice (some ⟨b, off, none⟩) 10 cap) ∧ w'.cell? ⟨w.heap.size, 1, none⟩ = some (.int .i64 t) ∧ w'.cell? ⟨w.heap.size, 2, none⟩ = some (.int .i64 f) ∧ w'.cell? ⟨w.heap.size, 3, none⟩ = some (.int .i64 l)) (first | (go_keep; done) | exact KP.out)
    ((first
      | (go_at_call 36; refine (hst.out _ (HX.out.2.1.below HB0.out)).mono ?_; rintro e w2 ⟨aS, cS, rfl, sS, hb2⟩; have HC : Hid (SInts w2 aS nS S) := sS; have HB2 : Hid (Below w1.heap.size w1 w2) := below_trans' HB0.out hb2; have KP : Hid (w2.cell? ⟨w.heap.size, 0, none⟩ = some (.slice (some ⟨b, off, none⟩) 10 cap) ∧ w2.cell? ⟨w.heap.size, 1, none⟩ = some (.int .i64 t) ∧ w2.cell? ⟨w.heap.size, 2, none⟩ = some (.int .i64 f) ∧ w2.cell? ⟨w.heap.size, 3, none⟩ = some (.int .i64 l)) := (HX.out.1.below HB2.out).cells; clear sS hb2)
      | (go_at_call 49; refine (values_any b off cap ns t f l aS nS cS S _ (HX.out.2.1.below HB2.out) HC.out (by have := HL.out; omega) HP.out.1).mono ?_; rintro e w3 ⟨aV, cV, rfl, oV, hb3⟩; rw [HMV.out] at oV ⊢; have HV : Hid (w3.ownsRow w.heap.size 3 1 (.slice aV m cV) m ((valsOf ns S).map (Value.int .i64)) ∧ Below w.heap.size w w3) := ⟨own_mono oV (Nat.le_trans HX.out.2.2.size HB2.out.size), below_trans' HX.out.2.2 (below_trans' HB2.out hb3)⟩; have KP : Hid (w3.cell? ⟨w.heap.size, 0, none⟩ = some (.slice (some ⟨b, off, none⟩) 10 cap) ∧ w3.cell? ⟨w.heap.size, 1, none⟩ = some (.int .i64 t) ∧ w3.cell? ⟨w.heap.size, 2, none⟩ = some (.int .i64 f) ∧ w3.cell? ⟨w.heap.size, 3, none⟩ = some (.int .i64 l)) := (HX.out.1.below (below_trans' HB2.out hb3)).cells; clear oV hb3)))
  go_wp2
  go_ret
  refine ⟨aV, cV, ?_⟩
  rw [HMV.out]
  exact ⟨rfl, HV.out.1, HV.out.2⟩

theorem implArnStack_any (a : Option Addr) (n cap : Nat) (ns : List Nd) (t f l : Int) (w : World) (hs : SNodes w a n ns) (hn : n ≤ 1048576) :
    Calls Try.prog 22 #[.agg #[.slice a n cap, .int .i64 t, .int .i64 f, .int .i64 l]] w fun e w' => ListI (stackL ns t f l) e w w' := by
  cases hok : okA ns t f l
  · have e : stackL ns t f l = [] := by simp [stackL, hok]
    rw [e]
    exact implArnStack_bad a n cap ns t f l w hs hn hok
  · have hsh : shapeB ns t f l = true := by
      unfold okA at hok
      exact (Bool.and_eq_true _ _ ▸ hok).1
    obtain ⟨hl, _, _, h4, _⟩ := shapeB_parts hsh
    obtain ⟨rfl, b, off, rfl⟩ := snodes_some hs hl
    have e : stackL ns t f l = valsOf ns (pathOf begS ns t f l) := by simp [stackL, hok]
    rw [e]
    exact implArnStack_ok b off cap ns t f l w hs hok h4

end Go.Proofs.Ytcffoehldohooaa
