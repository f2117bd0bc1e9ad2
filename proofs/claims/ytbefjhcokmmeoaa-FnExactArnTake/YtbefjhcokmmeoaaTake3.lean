/- ArnTake of the program, at all places. -/
import Derived.Test.YtbefjhcokmmeoaaTakeI
namespace Go.Proofs.Ytbefjhcokmmeoaa
open Go.RowKit
set_option linter.unusedVariables false

set_option maxHeartbeats 2000000 in
theorem implArnTake_bad (a : Option Addr) (n cap : Nat) (ns : List Nd) (t f l : Int) (w : World) (hs : SNodes w a n ns) (hn : n ≤ 9223372036854775807) (hsh : shapeB ns t f l = false) :
    Calls Try.prog 21 #[.agg #[.slice a n cap, .int .i64 t, .int .i64 f, .int .i64 l]] w fun e w' => ArenaRes2 (.int .i64 0) [] 0 0 0 0 e w w' := by
  have I0 := locA_start w a n cap t f l
  have bR0 := Boxed.new ((w.alloc (.cells #[.slice a n cap, .int .i64 t, .int .i64 f, .int .i64 l] 32)).alloc (.cells #[.slice none 0 0, .int .i64 0, .int .i64 0, .int .i64 0] 32)) 3 (.int .i64 0)
  have I1 := I0.below (al1 _ (.cells #[.int .i64 0] 3))
  rw [World.size_alloc, World.size_alloc] at bR0
  clear I0
  go_enter Try.func21, Try.ntmps21
  go_wp2_with fail
  refine (shaped_any _ _ _ ns t f l _ (hs.below I1.bel) hn).mono ?_
  rintro e w1 ⟨rfl, hb1⟩
  have I2 := I1.below hb1
  have bR1 : Boxed w1 (w.heap.size + 1 + 1) 3 (.int .i64 0) := (hb1.block _ bR0.lt).trans bR0
  have q0 := I2.res.c0
  have q1 := I2.res.c1
  have q2 := I2.res.c2
  have q3 := I2.res.c3
  have f0 := I2.fz 0
  have f1 := I2.fz 1
  have f2 := I2.fz 2
  have f3 := I2.fz 3
  have rc := bR1.cell
  have rf := bR1.frozen
  have hbel := I2.bel
  rw [hsh]
  clear hs I1 I2 hb1 bR0 bR1
  go_wp2
  exact bodyPost_ret (v := .tuple #[.agg #[.slice none 0 0, .int .i64 0, .int .i64 0, .int .i64 0], .int .i64 0]) (by simp [results, Try.results21, go_sem, q0, q1, q2, q3, rc]) rfl ⟨none, 0, rfl, World.ownsRow_nil _ _ _ _, (below_putA hbel (by omega) _ _ _ _ _ _).setCell (p := ⟨w.heap.size + 1 + 1, 0, none⟩) (by show w.heap.size ≤ w.heap.size + 1 + 1; omega) _⟩

theorem implArnTake_any (a : Option Addr) (n cap : Nat) (ns : List Nd) (t f l : Int) (w : World) (hs : SNodes w a n ns) (hn : n ≤ 1048576) (hnc : n ≤ cap) (hcap : cap ≤ 9223372036854775807) :
    Calls Try.prog 21 #[.agg #[.slice a n cap, .int .i64 t, .int .i64 f, .int .i64 l]] w fun e w' => ArenaRes2 (.int .i64 (if shapeB ns t f l then (takeK ns : Nat) else 0)) (if shapeB ns t f l then takeL ns else []) (if shapeB ns t f l then 10 else 0) (if shapeB ns t f l then t else 0) (if shapeB ns t f l then f else 0) (if shapeB ns t f l then l else 0) e w w' := by
  cases hsh : shapeB ns t f l
  · exact implArnTake_bad a n cap ns t f l w hs (by omega) hsh
  · obtain ⟨hl, _⟩ := shapeB_parts hsh
    obtain ⟨rfl, b, off, rfl⟩ := snodes_some hs hl
    exact callsIn_wide.1 (implArnTake_ok b off cap ns t f l w hs hnc hcap hsh)

end Go.Proofs.Ytbefjhcokmmeoaa
