/- ArnTake of the program, at all places. -/
import Derived.Test.YtbjgepcbbonceaaTakeI
namespace Go.Proofs.Ytbjgepcbbonceaa
open Go.RowKit
set_option linter.unusedVariables false

set_option maxHeartbeats 2000000 in
theorem implArnTake_bad (a : Option Addr) (n cap : Nat) (ns : List Nd) (t f l : Int) (w : World) (hs : SNodes w a n ns) (hn : n ≤ 9223372036854775807) (hsh : shapeB ns t f l = false) :
    Calls Try.prog 14 #[.agg #[.slice a n cap, .int .i64 t, .int .i64 f, .int .i64 l]] w fun e w' => ArenaRes2 (.int .i64 0) [] 0 0 0 0 e w w' := by
  have I0 := locA_start w a n cap t f l
  go_enter Try.func14, Try.ntmps14
  go_wp2_with fail
  refine (shaped_any _ _ _ ns t f l _ (hs.below I0.bel) hn).mono ?_
  rintro e w1 ⟨rfl, hb1⟩
  have I1 := I0.below hb1
  have q0 := I1.res.c0
  have q1 := I1.res.c1
  have q2 := I1.res.c2
  have q3 := I1.res.c3
  have f0 := I1.fz 0
  have f1 := I1.fz 1
  have f2 := I1.fz 2
  have f3 := I1.fz 3
  have hbel := I1.bel
  rw [hsh]
  clear hs I0 I1 hb1
  go_wp2
  exact bodyPost_ret (v := .tuple #[.agg #[.slice none 0 0, .int .i64 0, .int .i64 0, .int .i64 0], .int .i64 0]) (by simp [results, Try.results14, go_sem, q0, q1, q2, q3]) rfl ⟨none, 0, rfl, World.ownsRow_nil _ _ _ _, below_putA hbel (by omega) _ _ _ _ _ _⟩

set_option maxHeartbeats 1000000 in
theorem implArnTake_ok (b off cap : Nat) (ns : List Nd) (t f l : Int) (w : World) (hs : SNodes w (some ⟨b, off, none⟩) 10 ns) (hnc : 10 ≤ cap) (hcap : cap ≤ 9223372036854775807) (hsh : shapeB ns t f l = true) :
    Calls Try.prog 14 #[.agg #[.slice (some ⟨b, off, none⟩) 10 cap, .int .i64 t, .int .i64 f, .int .i64 l]] w fun e w' => ArenaRes2 (.int .i64 (takeK ns : Nat)) (takeL ns) 10 t f l e w w' := by
  have I0 := locA_start w (some ⟨b, off, none⟩) 10 cap t f l
  go_enter Try.func14, Try.ntmps14
  go_wp2_with fail
  refine (shaped_any _ _ _ ns t f l _ (hs.below I0.bel) (by omega)).mono ?_
  rintro e w1 ⟨rfl, hb1⟩
  have I1 := I0.below hb1
  have p0 := I1.box.c0
  have p1 := I1.box.c1
  have p2 := I1.box.c2
  have p3 := I1.box.c3
  rw [hsh]
  have s1 := hs.below I1.bel
  clear hb1 I0
  go_wp2_with fail
  refine (callsIn_wide.1 (taken_ok b off cap ns t f l _ s1 hnc hcap)).mono ?_
  rintro e w2 ⟨a2, c2, rfl, ho2, hb2⟩
  have I2 := I1.below hb2
  have hz := I1.sz
  have q0 := I2.res.c0
  have q1 := I2.res.c1
  have q2 := I2.res.c2
  have q3 := I2.res.c3
  have f0 := I2.fz 0
  have f1 := I2.fz 1
  have f2 := I2.fz 2
  have f3 := I2.fz 3
  have B2 : Hid (Below w.heap.size w w2) := I2.bel
  clear I1 I2 hb2 p0 p1 p2 p3 s1
  go_wp2
  refine bodyPost_ret (v := .tuple #[.agg #[.slice a2 10 c2, .int .i64 t, .int .i64 f, .int .i64 l], .int .i64 (takeK ns : Nat)]) (by simp [results, Try.results14, go_sem, q0, q1, q2, q3]) rfl ⟨a2, c2, rfl, own_mono (own_putA (own_mono ho2 (show w.heap.size + 1 + 1 ≤ _ by omega)) (by omega) _ _ _ _ _ _) (by omega), below_putA B2.out (by omega) _ _ _ _ _ _⟩

theorem implArnTake_any (a : Option Addr) (n cap : Nat) (ns : List Nd) (t f l : Int) (w : World) (hs : SNodes w a n ns) (hn : n ≤ 1048576) (hnc : n ≤ cap) (hcap : cap ≤ 9223372036854775807) :
    Calls Try.prog 14 #[.agg #[.slice a n cap, .int .i64 t, .int .i64 f, .int .i64 l]] w fun e w' => ArenaRes2 (.int .i64 (if shapeB ns t f l then (takeK ns : Nat) else 0)) (if shapeB ns t f l then takeL ns else []) (if shapeB ns t f l then 10 else 0) (if shapeB ns t f l then t else 0) (if shapeB ns t f l then f else 0) (if shapeB ns t f l then l else 0) e w w' := by
  cases hsh : shapeB ns t f l
  · exact implArnTake_bad a n cap ns t f l w hs (by omega) hsh
  · obtain ⟨hl, _⟩ := shapeB_parts hsh
    obtain ⟨rfl, b, off, rfl⟩ := snodes_some hs hl
    exact implArnTake_ok b off cap ns t f l w hs hnc hcap hsh

end Go.Proofs.Ytbjgepcbbonceaa
