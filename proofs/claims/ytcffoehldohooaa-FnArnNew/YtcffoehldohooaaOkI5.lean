/- The program's ArnOk, of any places. -/
import Derived.Test.YtcffoehldohooaaOkI4
namespace Go.Proofs.Ytcffoehldohooaa
open Go.RowKit
set_option linter.unusedVariables false

set_option maxHeartbeats 1000000 in
theorem implArnOk_bad (a : Option Addr) (n cap : Nat) (ns : List Nd) (t f l : Int) (w : World) (hs : SNodes w a n ns) (hn : n ≤ 9223372036854775807) (hsh : shapeB ns t f l = false) :
    Calls Try.prog 20 #[.agg #[.slice a n cap, .int .i64 t, .int .i64 f, .int .i64 l]] w fun e w' => e = .returned (.bool false) ∧ Below w.heap.size w w' := by
  go_enter Try.func20, Try.ntmps20
  go_wp2_with fail
  refine (shaped_any _ _ _ ns t f l _ (hs.below (al1 w (.cells #[.slice a n cap, .int .i64 t, .int .i64 f, .int .i64 l] 33))) hn).mono ?_
  rintro e w1 ⟨rfl, hb1⟩
  have hbel := below_trans' (al1 w (.cells #[.slice a n cap, .int .i64 t, .int .i64 f, .int .i64 l] 33)) hb1
  rw [hsh]
  clear hs hb1
  go_wp2
  go_ret
  exact ⟨rfl, hbel⟩

theorem path_once' {p : List Nd → Int → Int → Int → Int} {ns : List Nd} {t f l : Int} (h : endB ns (pathOf p ns t f l) = true) : (pathOf p ns t f l).Nodup := by
  unfold pathOf at h ⊢
  split
  · rename_i hs
    rw [if_pos hs] at h
    exact path_once h
  · simp

theorem implArnOk_any (a : Option Addr) (n cap : Nat) (ns : List Nd) (t f l : Int) (w : World) (hs : SNodes w a n ns) (hn : n ≤ 1048576) :
    Calls Try.prog 20 #[.agg #[.slice a n cap, .int .i64 t, .int .i64 f, .int .i64 l]] w fun e w' => e = .returned (.bool (okA ns t f l)) ∧ Below w.heap.size w w' := by
  cases hsh : shapeB ns t f l
  · have e : okA ns t f l = false := by simp [okA, hsh]
    rw [e]
    exact implArnOk_bad a n cap ns t f l w hs (by omega) hsh
  · obtain ⟨hl, _⟩ := shapeB_parts hsh
    obtain ⟨rfl, b, off, rfl⟩ := snodes_some hs hl
    have e : okA ns t f l = okI3 ns l (pathOf begC ns t f l) (pathOf begS ns t f l) (pathOf begQ ns t f l) := by
      rw [okI3_eq _ _ _ _ _ path_once' path_once' path_once']
      simp [okA, hsh]
    rw [e]
    exact implArnOk_ok b off cap ns t f l w hs hsh _ _ _ rfl rfl rfl

end Go.Proofs.Ytcffoehldohooaa
