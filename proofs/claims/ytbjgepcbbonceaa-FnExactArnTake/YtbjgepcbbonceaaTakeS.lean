/- ArnTake of the specification, at all places. -/
import Derived.Test.YtbjgepcbbonceaaTakeA
namespace Go.Proofs.Ytbjgepcbbonceaa
open Go.RowKit
set_option linter.unusedVariables false

set_option maxHeartbeats 2000000 in
theorem specArnTake_bad (a : Option Addr) (n cap : Nat) (ns : List Nd) (t f l : Int) (w : World) (hs : SNodes w a n ns) (hn : n ≤ 9223372036854775807) (hsh : shapeB ns t f l = false) :
    Calls Try.prog 13 #[.agg #[.slice a n cap, .int .i64 t, .int .i64 f, .int .i64 l]] w fun e w' => ArenaRes2 (.int .i64 0) [] 0 0 0 0 e w w' := by
  have I0 := locA_start w a n cap t f l
  go_enter Try.func13, Try.ntmps13
  go_wp2_with fail
  refine (l2Shape_any _ _ _ ns t f l _ (hs.below I0.bel) hn).mono ?_
  rintro e w1 ⟨rfl, hb1⟩
  have I1 := I0.below hb1
  have q0 := I1.res.c0
  have q1 := I1.res.c1
  have q2 := I1.res.c2
  have q3 := I1.res.c3
  have f0 := I1.fz 0
  have f1 := I1.fz 1
  have f2 := I1.fz 2
  have f3 := I1.fz 3
  have hbel := I1.bel
  rw [hsh]
  clear hs I0 I1 hb1
  go_wp2
  exact bodyPost_ret (v := .tuple #[.agg #[.slice none 0 0, .int .i64 0, .int .i64 0, .int .i64 0], .int .i64 0]) (by simp [results, Try.results13, go_sem, q0, q1, q2, q3]) rfl ⟨none, 0, rfl, World.ownsRow_nil _ _ _ _, below_putA hbel (by omega) _ _ _ _ _ _⟩

theorem head_used {ns : List Nd} {t f l : Int} (h : shapeB ns t f l = true) : ∀ x, ns[0]? = some x → x.used = true := by
  intro x hx
  obtain ⟨_, h2, _⟩ := shapeB_parts h
  simp only [List.getD, hx, Option.getD_some, headN, Bool.and_eq_true] at h2
  exact h2.1

set_option maxHeartbeats 2000000 in
theorem specArnTake_ok (b off cap : Nat) (ns : List Nd) (t f l : Int) (w : World) (hs : SNodes w (some ⟨b, off, none⟩) 10 ns) (hsh : shapeB ns t f l = true) :
    Calls Try.prog 13 #[.agg #[.slice (some ⟨b, off, none⟩) 10 cap, .int .i64 t, .int .i64 f, .int .i64 l]] w fun e w' => ArenaRes2 (.int .i64 (takeK ns : Nat)) (takeL ns) 10 t f l e w w' := by
  have I0 := locA_start w (some ⟨b, off, none⟩) 10 cap t f l
  have HU : Hid (∀ x, ns[0]? = some x → x.used = true) := head_used hsh
  go_enter Try.func13, Try.ntmps13
  go_wp2_with fail
  refine (l2Shape_any _ _ _ ns t f l _ (hs.below I0.bel) (by omega)).mono ?_
  rintro e w1 ⟨rfl, hb1⟩
  have I1 := I0.below hb1
  have p0 := I1.box.c0
  have p1 := I1.box.c1
  have p2 := I1.box.c2
  have p3 := I1.box.c3
  have s1 := hs.below I1.bel
  rw [hsh]
  clear hs I0 hb1
  go_wp2_with fail
  refine (l2Copy_any b off cap ns t f l _ s1).mono ?_
  rintro e w2 ⟨a2, c2, rfl, ho2, hb2⟩
  have I2 := I1.below hb2
  obtain ⟨g, rfl⟩ : ∃ g, a2 = some ⟨g, 0, none⟩ := by
    obtain ⟨a', c', e, _, h0 | ⟨g, rfl⟩⟩ := own6_shape ho2
    · omega
    · cases e; exact ⟨g, rfl⟩
  have hlt := ho2.lt g rfl
  have hsz := I1.sz
  clear p0 p1 p2 p3 s1 hb2
  go_wp2_with fail
  refine (l2Take_any g c2 _ ns t f l _ ho2 HU.out).mono ?_
  rintro e w3 ⟨rfl, ho3, hg3⟩
  have I3 := I2.grown hg3 (by omega)
  have q0 := I3.res.c0
  have q1 := I3.res.c1
  have q2 := I3.res.c2
  have q3 := I3.res.c3
  have f0 := I3.fz 0
  have f1 := I3.fz 1
  have f2 := I3.fz 2
  have f3 := I3.fz 3
  have R : Hid (w3.ownsRow w1.heap.size 46 6 (.slice (some ⟨g, 0, none⟩) 10 c2) 10 (flatN (takeL ns)) ∧ Below w.heap.size w w3 ∧ w.heap.size + 1 < w1.heap.size) := ⟨ho3, I3.bel, hsz⟩
  clear ho3 I3 I2 I1 ho2 hg3 hlt hsz
  go_wp2
  refine bodyPost_ret (v := .tuple #[.agg #[.slice (some ⟨g, 0, none⟩) 10 c2, .int .i64 t, .int .i64 f, .int .i64 l], .int .i64 (takeK ns : Nat)]) (by simp [results, Try.results13, go_sem, q0, q1, q2, q3]) rfl ⟨_, c2, rfl, own_mono (own_putA R.out.1 R.out.2.2 _ _ _ _ _ _) (by have := R.out.2.2; omega), below_putA R.out.2.1 (by omega) _ _ _ _ _ _⟩

theorem specArnTake_any (a : Option Addr) (n cap : Nat) (ns : List Nd) (t f l : Int) (w : World) (hs : SNodes w a n ns) (hn : n ≤ 1048576) :
    Calls Try.prog 13 #[.agg #[.slice a n cap, .int .i64 t, .int .i64 f, .int .i64 l]] w fun e w' => ArenaRes2 (.int .i64 (if shapeB ns t f l then (takeK ns : Nat) else 0)) (if shapeB ns t f l then takeL ns else []) (if shapeB ns t f l then 10 else 0) (if shapeB ns t f l then t else 0) (if shapeB ns t f l then f else 0) (if shapeB ns t f l then l else 0) e w w' := by
  cases hsh : shapeB ns t f l
  · exact specArnTake_bad a n cap ns t f l w hs (by omega) hsh
  · obtain ⟨hl, _⟩ := shapeB_parts hsh
    obtain ⟨rfl, b, off, rfl⟩ := snodes_some hs hl
    exact specArnTake_ok b off cap ns t f l w hs hsh

end Go.Proofs.Ytbjgepcbbonceaa
