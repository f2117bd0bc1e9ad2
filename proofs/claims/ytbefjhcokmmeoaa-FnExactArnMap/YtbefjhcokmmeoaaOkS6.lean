/- The specification's ArnOk, of any places. -/
import Derived.Test.YtbefjhcokmmeoaaOkS5
namespace Go.Proofs.Ytbefjhcokmmeoaa
open Go.RowKit
set_option linter.unusedVariables false

set_option maxHeartbeats 1000000 in
theorem specArnOk_bad (a : Option Addr) (n cap : Nat) (ns : List Nd) (t f l : Int) (w : World) (hs : SNodes w a n ns) (hn : n ≤ 9223372036854775807) (hsh : shapeB ns t f l = false) :
    Calls Try.prog 24 #[.agg #[.slice a n cap, .int .i64 t, .int .i64 f, .int .i64 l]] w fun e w' => e = .returned (.bool false) ∧ Below w.heap.size w w' := by
  go_enter Try.func24, Try.ntmps24
  go_wp2_with fail
  refine (l2Shape_any _ _ _ ns t f l _ (hs.below (al1 w (.cells #[.slice a n cap, .int .i64 t, .int .i64 f, .int .i64 l] 32))) hn).mono ?_
  rintro e w1 ⟨rfl, hb1⟩
  have hbel := below_trans' (al1 w (.cells #[.slice a n cap, .int .i64 t, .int .i64 f, .int .i64 l] 32)) hb1
  rw [hsh]
  clear hs hb1
  go_wp2
  go_ret
  exact ⟨rfl, hbel⟩

theorem specArnOk_any (a : Option Addr) (n cap : Nat) (ns : List Nd) (t f l : Int) (w : World) (hs : SNodes w a n ns) (hn : n ≤ 1048576) :
    Calls Try.prog 24 #[.agg #[.slice a n cap, .int .i64 t, .int .i64 f, .int .i64 l]] w fun e w' => e = .returned (.bool (okA ns t f l)) ∧ Below w.heap.size w w' := by
  cases hsh : shapeB ns t f l
  · have e : okA ns t f l = false := by simp [okA, hsh]
    rw [e]
    exact specArnOk_bad a n cap ns t f l w hs (by omega) hsh
  · obtain ⟨hl, _⟩ := shapeB_parts hsh
    obtain ⟨rfl, b, off, rfl⟩ := snodes_some hs hl
    have e : okA ns t f l = okL3 ns l (pathOf begC ns t f l) (pathOf begS ns t f l) (pathOf begQ ns t f l) := by simp [okA, hsh]
    rw [e]
    exact specArnOk_ok b off cap ns t f l w hs hsh _ _ _ rfl rfl rfl

end Go.Proofs.Ytbefjhcokmmeoaa
