/- ArnFree at all places. -/
import Derived.Test.YtbdikgpmbaodnaaFree
namespace Go.Proofs.Ytbdikgpmbaodnaa
open Go.RowKit
set_option linter.unusedVariables false

set_option maxHeartbeats 800000 in
theorem specArnFree_any (a : Option Addr) (n cap : Nat) (ns : List Nd) (t f l : Int) (w : World) (hs : SNodes w a n ns) (hn : n ≤ 1048576) :
    Calls Try.prog 42 #[.agg #[.slice a n cap, .int .i64 t, .int .i64 f, .int .i64 l]] w fun e w' => e = .returned (.int .i64 ((freeTo ns n).length : Nat)) ∧ Below w.heap.size w w' := by
  have A := al1 w (.cells #[.slice a n cap, .int .i64 t, .int .i64 f, .int .i64 l] 24)
  have hs2 := hs.below A
  go_enter Try.func42, Try.ntmps42
  go_wp2
  go_loop [3, 4] (fun c i => ∃ k m : Nat, k ≤ n ∧ i = .int .i64 k ∧ c = .int .i64 m ∧ m = (freeTo ns k).length) (fun _ i => n - (intOf i).toNat)
  case atStart => exact ⟨0, 0, Nat.zero_le _, rfl, rfl, rfl⟩
  case round =>
    obtain ⟨k, m, hk, rfl, rfl, hm0⟩ := hrel
    have HM : Hid (m = (freeTo ns k).length ∧ m ≤ 1048576) := ⟨hm0, by have := freeTo_len ns k; omega⟩
    have hmb : m ≤ 1048576 := HM.out.2
    clear hm0
    by_cases hlt : k < n
    · obtain ⟨b, off, ⟨x0, x1, x2, x3, u, x5⟩, rfl, hx, hN⟩ := hs2.at hlt
      have n4 := hN.c4
      dsimp only at n4
      have HX : Hid (ns[k]? = some ⟨x0, x1, x2, x3, u, x5⟩) := hx
      clear hx hN hs hs2
      cases u
      · go_wp2
        go_round
        case rel => exact ⟨k + 1, m + 1, by omega, by go_num, by go_num, by rw [freeTo_hit HX.out rfl, List.length_append, ← HM.out.1]; rfl⟩
        case measure => simp [intOf]; omega
      · go_wp2
        go_round
        case rel => exact ⟨k + 1, m, by omega, by go_num, rfl, by rw [freeTo_miss HX.out rfl]; exact HM.out.1⟩
        case measure => simp [intOf]; omega
    · obtain rfl : k = n := by omega
      clear hs hs2
      go_wp2
      go_ret
      have hm := HM.out.1
      subst hm
      exact ⟨rfl, A⟩

theorem implArnFree_any (b off n cap : Nat) (ns : List Nd) (t f l : Int) (w : World) (hs : SNodes w (some ⟨b, off, none⟩) n ns) (hb : b < w.heap.size) (hn : n ≤ 1048576) :
    Calls Try.prog 43 #[.agg #[.slice (some ⟨b, off, none⟩) n cap, .int .i64 t, .int .i64 f, .int .i64 l]] w fun e w' => e = .returned (.int .i64 ((freeTo ns n).length : Nat)) ∧ Below w.heap.size w w' :=
  callsIn_wide.1 (implArnFree_some b off n cap ns t f l w hs hb hn)

end Go.Proofs.Ytbdikgpmbaodnaa
