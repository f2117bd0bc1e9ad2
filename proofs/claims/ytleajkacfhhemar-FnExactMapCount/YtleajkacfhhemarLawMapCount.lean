/- For every map and every key the law FnExactMapCount answers true and leaves its arguments as they were: MapCount of the program answers as that of the specification and writes into no argument. No condition. -/
import Derived.Test.YtleajkacfhhemarFrame2
import Derived.Test.YtleajkacfhhemarCount
namespace Go.Proofs.Ytleajkacfhhemar
open Go.ChangeShapes Go.WideShapes Go.ChangeAt Go.RowKit
set_option linter.unusedVariables false

set_option maxHeartbeats 2000000 in
theorem mapCount_core (a : Option Addr) (n cap : Nat) (zs : List Int) (x : Int) (w : World) (hs : SInts w a (n * 2) zs) (hn : n ≤ 1048576) (C V : Int)
    (hspec : Hid (∀ (W : World) (a : Option Addr), SInts W a (n * 2) zs → Calls Try.prog 6 #[.agg #[.slice a n n], .int .i64 x] W fun e w' => e = .returned (.agg #[.int .i64 C, .int .i64 V]) ∧ Below W.heap.size W w'))
    (himpl : Hid (∀ (W : World) (a : Option Addr), SInts W a (n * 2) zs → Calls Try.prog 8 #[.agg #[.slice a n n], .int .i64 x] W fun e w' => e = .returned (.agg #[.int .i64 C, .int .i64 V]) ∧ Below W.heap.size W w')) :
    Calls Try.prog 3 #[.agg #[.slice a n cap], .int .i64 x] w fun e w' => e = .returned (.bool true) ∧ Below w.heap.size w w' := by
  have al : Hid (∀ (W : World) (o : Obj), Below W.heap.size W (W.alloc o)) := fun W o => (Below.refl _ _).alloc (Nat.le_refl _) o
  have hsz : Hid ((n : Int) ≤ 1048576) := by show _ ≤ _; omega
  have B0 := al.out w (.cells #[.slice a n cap] 24)
  have p0 : (w.alloc (.cells #[.slice a n cap] 24)).cell? ⟨w.heap.size, 0, none⟩ = some (.slice a n cap) := by simp
  go_enter Try.func3, Try.ntmps3
  go_wp2_with fail
  refine (szMapMap_any _ _ _ _ _ (by omega) (by omega) (by omega)).mono ?_
  rintro e w0 ⟨rfl, hb0⟩
  rw [if_pos hsz.out]
  have hA0 := below_trans' B0 hb0
  have q0 := cell_kept hb0 p0
  clear p0 B0 hb0
  go_wp2_with fail
  refine (toMapMap_any _ _ _ zs _ (hs.below hA0) hn).mono ?_
  rintro e w1 ⟨g1, hg1, rfl, ho1, hb1⟩
  have hA1 := below_trans' hA0 hb1
  have q1 := cell_kept hb1 q0
  clear q0 hb1 hA0
  go_wp2_with fail
  refine (hspec.out _ _ (own2_sints ho1)).mono ?_
  rintro e w2 ⟨rfl, hb2⟩
  have hA2 := below_trans' (below_trans' hA1 hb2) (al.out w2 (.cells #[.int .i64 C, .int .i64 V] 27))
  have q2 := cell_kept (below_trans' hb2 (al.out w2 (.cells #[.int .i64 C, .int .i64 V] 27))) q1
  have r0 : (w2.alloc (.cells #[.int .i64 C, .int .i64 V] 27)).cell? ⟨w2.heap.size, 0, none⟩ = some (.int .i64 C) := by simp
  have r1 : (w2.alloc (.cells #[.int .i64 C, .int .i64 V] 27)).cell? ⟨w2.heap.size, 1, none⟩ = some (.int .i64 V) := by simp
  clear q1 hb2 hA1 ho1
  go_wp2_with fail
  refine (toMapMap_any _ _ _ zs _ (hs.below hA2) hn).mono ?_
  rintro e w4 ⟨g4, hg4, rfl, ho4, hb4⟩
  have B5 := below_trans' hb4 (al.out w4 (.cells #[.slice (some ⟨g4, 0, none⟩) n n] 31))
  have hA5 := below_trans' hA2 B5
  have q5 := cell_kept B5 q2
  have r50 := cell_kept B5 r0
  have r51 := cell_kept B5 r1
  have x5 : (w4.alloc (.cells #[.slice (some ⟨g4, 0, none⟩) n n] 31)).cell? ⟨w4.heap.size, 0, none⟩ = some (.slice (some ⟨g4, 0, none⟩) n n) := by simp
  have s5 := own2_sints (ownsRow_below ho4 (al.out w4 (.cells #[.slice (some ⟨g4, 0, none⟩) n n] 31)))
  clear B5 hA2 q2 r0 r1 ho4 hb4
  go_wp2_with fail
  refine (himpl.out _ _ s5).mono ?_
  rintro e w6 ⟨rfl, hb6⟩
  have B7 := below_trans' hb6 (al.out w6 (.cells #[.int .i64 C, .int .i64 V] 27))
  have hA7 := below_trans' hA5 B7
  have q7 := cell_kept B7 q5
  have r70 := cell_kept B7 r50
  have r71 := cell_kept B7 r51
  have x7 := cell_kept B7 x5
  have s7 := s5.below B7
  clear B7 hA5 q5 r50 r51 x5 s5 hb6
  go_wp2_with fail
  refine (eqResRes_yes _ _ _).mono ?_
  rintro e w8 ⟨rfl, hb8⟩
  have hA8 := below_trans' hA7 hb8
  have q8 := cell_kept hb8 q7
  have x8 := cell_kept hb8 x7
  have s8 := s7.below hb8
  clear hA7 q7 x7 s7 r70 r71 hb8
  have HB8 : Hid (Below w.heap.size w w8) := hA8
  have HS8 : Hid (SInts w8 (some ⟨g4, 0, none⟩) (n * 2) zs) := s8
  clear hA8 s8
  go_wp2
  go_region_with (first | (go_at_call 7; refine (toMapMap_any _ _ _ zs _ (hs.below HB8.out.drew) hn).mono ?_; rintro e w9 ⟨g9, hg9, rfl, ho9, hb9⟩; have x9 := cell_kept hb9 x8; have HB9 : Hid (Below w.heap.size w w9) := below_trans' HB8.out.drew hb9; have HS9 : Hid (SInts w9 (some ⟨g4, 0, none⟩) (n * 2) zs) := (show SInts w8.drew (some ⟨g4, 0, none⟩) (n * 2) zs from HS8.out).below hb9; have HO9 : Hid (SInts w9 (some ⟨g9, 0, none⟩) (n * 2) zs) := own2_sints ho9; clear ho9 hb9) | (go_at_call 10; refine (eqMapMap_yes _ _ _ _ _ zs _ HS9.out HO9.out (by omega)).mono ?_; rintro e w10 ⟨rfl, hb10⟩))
  all_goals
    have hB := below_trans' HB9.out hb10
    clear hb10
    go_wp2
    go_ret
    exact ⟨rfl, hB⟩

set_option maxHeartbeats 400000 in
theorem mapCount_walk (a : Option Addr) (n cap : Nat) (zs : List Int) (x : Int) (w : World) (hs : SInts w a (n * 2) zs) (hm : n ≤ 9223372036854775807) :
    Calls Try.prog 3 #[.agg #[.slice a n cap], .int .i64 x] w fun e w' => e = .returned (.bool true) ∧ Below w.heap.size w w' := by
  by_cases hn : n ≤ 1048576
  · exact mapCount_core a n cap zs x w hs hn 2 (cntV zs n x) (fun W a' h => specMapCount_any a' n n zs x W h hn) (fun W a' h => implMapCount_any a' n n zs x W h hn)
  · clear hs
    go_enter Try.func3, Try.ntmps3
    go_wp2_with fail
    refine (szMapMap_any _ _ _ _ _ hm (by omega) (by omega)).mono ?_
    rintro e w0 ⟨rfl, hb0⟩
    rw [if_neg (show ¬ (n : Int) ≤ 1048576 by omega)]
    have hB := below_trans' ((Below.refl w.heap.size w).alloc (Nat.le_refl _) _) hb0
    clear hb0
    go_wp2
    go_ret
    exact ⟨rfl, hB⟩

set_option maxRecDepth 100000 in
theorem mapCount_lifted (os : Os) (started : os.Started) (H : Type) (enc : TypeId × Value → H) :
    ReturnsInHanded {} Try.checked os 3 .any (Rows.fnExactMapCountSpec.pre6 enc Try.prog Try.f3 Rows.fnExactMapCountRow.domain false) (Rows.fnExactMapCountSpec.post enc Try.prog Try.f3 false true false false) := by
  refine returnsInHanded_of_change (C := Try.checked) own started (by kernel_rfl) Try.func3
    (ChangeSpec.witness6 (enc := enc) (C := Try.checked) false ⟨#[], #[.agg #[.slice none 0 0], .int .i64 0], []⟩ 8 (by kernel_rfl) (by kernel_rfl) (by kernel_rfl) (by kernel_rfl)) ?_
  intro W base args ds gs before hval0 hW hcnd _
  have hval : ∀ (j : Nat) t v, Try.f3.params[j]? = some t → args[j]? = some v → Value.okWide Try.prog W .any base t v := hval0
  have hW' := hW
  obtain ⟨p, q, hA0, hV, rfl, hfz, hnd⟩ := hW
  have hA : DataW.TrodAll enc Try.prog W 0 (fun _ => true) true Try.f3.params.toList args.toList ds p := hA0
  rw [Try.params3] at hA hval
  obtain ⟨v0, vs0, d0, ds0, p0, q0, hargs, rfl, rfl, h0, r0⟩ := trodAll_cons hA
  obtain ⟨v1, vs1, d1, ds1, p1, q1, rfl, rfl, rfl, h1, r1⟩ := trodAll_cons r0
  obtain ⟨rfl, rfl, rfl⟩ := trodAll_nil r1
  obtain rfl : args = #[v0, v1] := by cases args; simp_all
  obtain ⟨rfl, rfl⟩ := trodVars_none hV
  have k0 := h0
  have lt0 : ∀ x ∈ p0, x.block < W.heap.size := by obtain ⟨m, hm⟩ := k0; exact DataW.trod_lt m _ _ _ hm
  obtain ⟨a0, len0, cap0, zs, rfl, hs, hm⟩ := ents_of_open (hval 0 24 v0 rfl rfl) h0
  obtain ⟨x, rfl, rfl, rfl, wx⟩ := open_int Try.underlying3 (hval 1 3 v1 rfl rfl) h1
  clear hA0 hval0
  refine (mapCount_walk a0 len0 cap0 zs x W hs hm).mono fun e W' ⟨he, bel⟩ => ?_
  subst he
  exact ⟨_, rfl, _, _, _, [], _, [], hW', trodAll_mk1 (shut_bool Try.underlying4 _), (trodAll_cons_mk (Below.trod laidOut (by kernel_rfl) (of_decide_eq_true (by kernel_rfl)) k0 bel lt0) (trodAll_cons_mk (shut_int Try.underlying3 wx) trodAll_mk0)), rfl, bel.frame _, fun h => by cases h⟩

theorem mapCount_holds : Rows.FnExactMapCountSaid :=
  OpenClaim.holds_of_wide 3 Try.f3 rfl rfl rfl rfl rfl rfl rfl ⟨rfl, rfl, rfl, rfl, rfl⟩ rfl rfl rfl rfl rfl (by kernel_rfl) Try.func3 (by kernel_rfl)
    (of_decide_eq_true (by kernel_rfl)) (by unfold Func.isWrapper; first | (rw [if_pos (by decide +kernel)]; kernel_rfl) | (rw [if_neg (by decide +kernel)]; exact ⟨rfl, rfl⟩))
    (fun os started H enc _ => mapCount_lifted os started H enc)

#print axioms mapCount_holds
end Go.Proofs.Ytleajkacfhhemar
