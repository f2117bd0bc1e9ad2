/- Several texts in one: Ints, Marks, Ok, Append, Lists, Push, Inv. -/
import Derived.Test.YtklpdpdjblakgaaRows
import Derived.WalkKit
import Derived.WalkSpells
import Derived.WalkLawsBesides
import Derived.Deep.QuietTactic
import Derived.BigQuiet
import Derived.Deep.OwnRows
/- Ints -/
namespace Go.Proofs.Ytklpdpdjblakgaa
open Go.RowKit

theorem Try.info3 : (Try.prog.info? 3).map (fun i => (i.zero, i.size, i.bytes)) = some (some (.int .i64 0), 1, 8) := by kernel_rfl

/-- The slice of length n at a reads as the numbers zs. -/
def SInts (w : World) (a : Option Addr) (n : Nat) (zs : List Int) : Prop :=
  zs.length = n ∧ (n = 0 ∨ ∃ b off, a = some ⟨b, off, none⟩ ∧ ∀ i, i < n → w.cell? ⟨b, off + i, none⟩ = some (.int .i64 (zs.getD i 0)))

theorem SInts.below {w w' : World} {a : Option Addr} {n : Nat} {zs : List Int} (h : SInts w a n zs) (hb : Below w.heap.size w w') : SInts w' a n zs := by
  obtain ⟨hz, h0 | ⟨b, off, rfl, hc⟩⟩ := h
  · exact ⟨hz, .inl h0⟩
  · refine ⟨hz, .inr ⟨b, off, rfl, fun i hi => ?_⟩⟩
    have hl := World.block_lt_of_cell? w ⟨b, off + i, none⟩ (hc i hi)
    exact (hb.cell hl).trans (hc i hi)

theorem ownsRow_below {w w' : World} {base : Nat} {e : TypeId} {size : Nat} {v : Value} {n : Nat} {xs : List Value} (h : w.ownsRow base e size v n xs) (hb : Below w.heap.size w w') : w'.ownsRow base e size v n xs := by
  obtain ⟨h1, h2⟩ := h
  refine ⟨h1, ?_⟩
  rcases h2 with h2 | ⟨g, cap, cur, hv, hg, hh, r⟩
  · exact .inl h2
  · exact .inr ⟨g, cap, cur, hv, hg, (hb.block g (Array.getElem?_eq_some_iff.1 hh).1).trans hh, r⟩

/-- What the numbers zs of an own row are. -/
theorem own_shape {w : World} {base : Nat} {v : Value} {n : Nat} {zs : List Int} (h : w.ownsRow base 3 1 v n (zs.map (Value.int .i64))) :
    ∃ a cap, v = .slice a n cap ∧ SInts w a n zs := by
  have hl : zs.length = n := by simpa using h.1
  rcases h.2 with ⟨rfl, rfl⟩ | ⟨g, cap, cur, rfl, hg, hh, hc, hm, hs, ht⟩
  · exact ⟨none, 0, rfl, hl, .inl rfl⟩
  · refine ⟨_, cap, rfl, hl, .inr ⟨g, 0, rfl, fun i hi => ?_⟩⟩
    have := h.cellAt i (by omega)
    rw [Nat.zero_add, this]
    simp [List.getD, show i < zs.length by omega]

theorem below_trans' {w w1 w2 : World} (h : Below w.heap.size w w1) (k : Below w1.heap.size w1 w2) : Below w.heap.size w w2 :=
  h.trans (k.mono h.size)

/-- An own row out of a row. -/
theorem own_of_rowIs {w : World} {b n : Nat} {zs : List Int} (h : w.rowIs b 3 n (fun i => .int .i64 (zs.getD i 0))) (hz : zs.length = n) (hn : n ≤ maxLen) {base : Nat} (hb : base ≤ b) :
    w.ownsRow base 3 1 (.slice (some ⟨b, 0, none⟩) n n) n (zs.map (Value.int .i64)) := by
  obtain ⟨c, hh, hs, hc⟩ := h
  refine ⟨by simpa using hz, .inr ⟨b, n, c, rfl, hb, hh, Nat.le_refl _, hn, by simpa using hs, ?_⟩⟩
  apply List.ext_getElem?
  intro i
  by_cases hi : i < n
  · have := hc i hi
    simp only [Nat.mul_one, List.getElem?_take, hi, if_true, List.getElem?_map, Array.getElem?_toList, this]
    simp [List.getD, show i < zs.length by omega]
  · simp [hi, hz, hs]

set_option maxHeartbeats 400000 in
/-- eqIntS of two slices with the same numbers says yes. -/
theorem eqIntS_yes (a a' : Option Addr) (n cap cap' : Nat) (zs : List Int) (w : World) (hs : SInts w a n zs) (hs' : SInts w a' n zs) (hn : n ≤ 9223372036854775807) :
    Calls Try.prog 37 #[.slice a n cap, .slice a' n cap'] w fun e w' => e = .returned (.bool true) ∧ Below w.heap.size w w' := by
  go_enter Try.func37, Try.ntmps37
  go_wp2
  go_loopw [5] (fun i wr => ∃ k : Nat, k ≤ n ∧ i = .int .i64 k ∧ Below w.heap.size w wr) (fun i _ => n - (intOf i).toNat)
  case atStart => exact ⟨0, Nat.zero_le _, rfl, Below.refl _ _⟩
  case round =>
    obtain ⟨k, hk, rfl, hbel⟩ := hrel
    by_cases hlt : k < n
    · obtain ⟨hz, h0 | ⟨b, off, rfl, hc⟩⟩ := hs
      · omega
      · obtain ⟨_, h0 | ⟨b', off', rfl, hc'⟩⟩ := hs'
        · omega
        · obtain ⟨x, hx⟩ : ∃ x, zs.getD k 0 = x := ⟨_, rfl⟩
          have h1 : wr.cell? ⟨b, off + k, none⟩ = some (.int .i64 x) := by rw [← hx]; exact (hbel.cell (World.block_lt_of_cell? w ⟨b, off + k, none⟩ (hc k hlt))).trans (hc k hlt)
          have h2 : wr.cell? ⟨b', off' + k, none⟩ = some (.int .i64 x) := by rw [← hx]; exact (hbel.cell (World.block_lt_of_cell? w ⟨b', off' + k, none⟩ (hc' k hlt))).trans (hc' k hlt)
          clear hc hc' hx
          go_wp2
          go_region
          all_goals go_wp2
          all_goals
            go_roundw
            case rel => exact ⟨k + 1, by omega, by go_num, hbel.drew⟩
            case measure => simp [intOf]; omega
    · have : k = n := by omega
      subst this
      go_wp2
      go_ret
      exact ⟨rfl, hbel⟩

end Go.Proofs.Ytklpdpdjblakgaa

/- Marks -/
namespace Go.Proofs.Ytklpdpdjblakgaa
open Go.RowKit

theorem own_sints {w : World} {base : Nat} {a : Option Addr} {n cap : Nat} {zs : List Int} (h : w.ownsRow base 3 1 (.slice a n cap) n (zs.map (Value.int .i64))) : SInts w a n zs := by
  obtain ⟨a', cap', e, hs⟩ := own_shape h
  cases e
  exact hs

/-- The marks that are written from k on. -/
def marks (k : Int) (n : Nat) : List Int := (List.range n).map (fun i : Nat => k + (i : Int))
theorem marks_len (k : Int) (n : Nat) : (marks k n).length = n := by simp [marks]
theorem marks_get (k : Int) {n i : Nat} (h : i < n) : (marks k n).getD i 0 = k + i := by simp [marks, List.getD, h]

set_option maxHeartbeats 400000 in
theorem markIntS_any (a : Option Addr) (n cap base : Nat) (zs : List Int) (k : Int) (w : World) (ho : w.ownsRow base 3 1 (.slice a n cap) n (zs.map (Value.int .i64))) (hk0 : 0 ≤ k) (hk : k + n ≤ 4611686018427387904) :
    Calls Try.prog 41 #[.slice a n cap, .int .i64 k] w fun e w' => e = .returned (.int .i64 (k + n)) ∧ w'.ownsRow base 3 1 (.slice a n cap) n ((marks k n).map (Value.int .i64)) ∧ w.grownBy w' (Value.ownBlock (.slice a n cap)) ∧ w'.heap.size = w.heap.size := by
  have hz : zs.length = n := by simpa using ho.1
  by_cases hn : n = 0
  · subst hn
    obtain rfl : zs = [] := List.eq_nil_of_length_eq_zero hz
    go_enter Try.func41, Try.ntmps41
    go_wp2
    go_loop [1, 5] (fun s i => s = .int .i64 k ∧ i = .int .i64 0) (fun _ _ => 0)
    case atStart => exact ⟨rfl, rfl⟩
    case round =>
      obtain ⟨rfl, rfl⟩ := hrel
      go_wp2
      go_ret
      exact ⟨by simp, by simpa [marks] using ho, World.grownBy.refl _ _, rfl⟩
  · obtain ⟨g, rfl⟩ : ∃ g, a = some ⟨g, 0, none⟩ := by
      rcases ho.2 with ⟨h, h0⟩ | ⟨g, c, cur, h, _⟩
      · exact absurd h0 hn
      · cases h; exact ⟨g, rfl⟩
    go_enter Try.func41, Try.ntmps41
    go_wp2
    go_loopw [1, 5] (fun s i wr => ∃ (j : Nat) (ys : List Int), j ≤ n ∧ i = .int .i64 j ∧ s = .int .i64 (k + j) ∧ wr.ownsRow base 3 1 (.slice (some ⟨g, 0, none⟩) n cap) n (ys.map (Value.int .i64)) ∧ ys.take j = (marks k n).take j ∧ w.grownBy wr (some g) ∧ wr.heap.size = w.heap.size)
      (fun _ i _ => n - (intOf i).toNat)
    case atStart => exact ⟨0, zs, Nat.zero_le _, rfl, by go_num, ho, by simp, World.grownBy.refl _ _, rfl⟩
    case round =>
      obtain ⟨j, ys, hj, rfl, rfl, hown, htake, hg, hsz⟩ := hrel
      by_cases hlt : j < n
      · have hyl : ys.length = n := by simpa using hown.1
        have hc : wr.cell? ⟨g, j, none⟩ = some (.int .i64 (ys.getD j 0)) := by
          rw [hown.cellAt j (by omega)]
          simp [List.getD, show j < ys.length by omega]
        have hf := hown.frozenAt j
        have hst := hown.stored j (.int .i64 (k + j))
        have R : Hid ((wr.setCell ⟨g, j, none⟩ (.int .i64 (k + j))).ownsRow base 3 1 (.slice (some ⟨g, 0, none⟩) n cap) n ((ys.set j (k + j)).map (Value.int .i64)) ∧ (ys.set j (k + j)).take (j + 1) = (marks k n).take (j + 1) ∧ w.grownBy (wr.setCell ⟨g, j, none⟩ (.int .i64 (k + j))) (some g) ∧ (wr.setCell ⟨g, j, none⟩ (.int .i64 (k + j))).heap.size = w.heap.size) := by
          refine ⟨by simpa using hst.1, ?_, ⟨hst.2.os.trans hg.os, hst.2.tape.trans hg.tape, hst.2.output.trans hg.output, Nat.le_trans hg.size hst.2.size, fun c hc hne => ?_⟩, by simpa using hsz⟩
          · rw [List.take_succ_eq_append_getElem (by simp; omega), List.take_succ_eq_append_getElem (by rw [marks_len]; omega), ← htake]
            rw [List.take_set, List.set_eq_of_length_le (by simp; omega)]
            simp [marks]
          · exact (hst.2.block c (by omega) hne).trans (hg.block c hc hne)
        clear hown htake hg hst hsz hyl
        go_wp2
        go_roundw
        case rel => exact ⟨j + 1, _, by omega, by go_num, by go_num, R.out⟩
        case measure => simp [intOf]; omega
      · obtain rfl : j = n := by omega
        have hyl : ys.length = j := by simpa using hown.1
        have e : ys = marks k j := by
          rw [List.take_of_length_le (by omega), List.take_of_length_le (by rw [marks_len]; omega)] at htake
          exact htake
        subst e
        have HO : Hid (wr.ownsRow base 3 1 (.slice (some ⟨g, 0, none⟩) j cap) j ((marks k j).map (Value.int .i64))) := hown
        clear hown htake hyl
        go_wp2
        go_ret
        exact ⟨rfl, HO.out, hg, hsz⟩

set_option maxHeartbeats 400000 in
theorem heldIntS_any (a : Option Addr) (n cap : Nat) (k : Int) (w : World) (hs : SInts w a n (marks k n)) (hk0 : 0 ≤ k) (hk : k + n ≤ 4611686018427387904) :
    Calls Try.prog 43 #[.slice a n cap, .int .i64 k] w fun e w' => e = .returned (.int .i64 (k + n)) ∧ w' = w := by
  go_enter Try.func43, Try.ntmps43
  go_wp2
  go_loop [1, 5] (fun s i => ∃ j : Nat, j ≤ n ∧ i = .int .i64 j ∧ s = .int .i64 (k + j)) (fun _ i => n - (intOf i).toNat)
  case atStart => exact ⟨0, Nat.zero_le _, rfl, by go_num⟩
  case round =>
    obtain ⟨j, hj, rfl, rfl⟩ := hrel
    by_cases hlt : j < n
    · obtain ⟨hz, h0 | ⟨b, off, rfl, hc⟩⟩ := hs
      · omega
      · have h1 : w.cell? ⟨b, off + j, none⟩ = some (.int .i64 (k + j)) := by rw [hc j hlt, marks_get k hlt]
        clear hc hz
        go_wp2
        go_round
        case rel => exact ⟨j + 1, by omega, by go_num, by go_num⟩
        case measure => simp [intOf]; omega
    · obtain rfl : j = n := by omega
      clear hs
      go_wp2
      go_ret
      exact ⟨rfl, rfl⟩

set_option maxHeartbeats 400000 in
theorem eqResRes_yes (c v : Int) (w : World) :
    Calls Try.prog 50 #[.agg #[.int .i64 c, .int .i64 v], .agg #[.int .i64 c, .int .i64 v]] w fun e w' => e = .returned (.bool true) ∧ Below w.heap.size w w' := by
  go_enter Try.func50, Try.ntmps50
  go_wp2
  go_ret
  exact ⟨rfl, ((Below.refl _ _).alloc (Nat.le_refl _) _).alloc (by simp) _⟩

end Go.Proofs.Ytklpdpdjblakgaa

/- Ok -/
namespace Go.Proofs.Ytklpdpdjblakgaa
open Go.RowKit

/-- The number is in bounds. -/
def inB (x hi : Int) : Bool := decide (0 ≤ x) && decide (x ≤ hi)
/-- The values are ok. -/
def okL (zs : List Int) : Bool := decide (zs.length ≤ 8) && zs.all (fun x => inB x 999)

theorem inB_yes {x hi : Int} (h0 : 0 ≤ x) (h1 : x ≤ hi) : inB x hi = true := by simp [inB, h0, h1]
theorem inB_low {x hi : Int} (h0 : ¬ 0 ≤ x) : inB x hi = false := by simp [inB, h0]
theorem inB_high {x hi : Int} (h1 : ¬ x ≤ hi) : inB x hi = false := by simp [inB, h1]
theorem ret_bool {a b : Bool} (h : a = b) : Ending.returned (.bool a) = .returned (.bool b) := by rw [h]

set_option maxHeartbeats 400000 in
theorem l1In_any (x hi : Int) (w : World) :
    Calls Try.prog 77 #[.int .i64 x, .int .i64 0, .int .i64 hi] w fun e w' => e = .returned (.bool (inB x hi)) ∧ w' = w := by
  by_cases h0 : 0 ≤ x
  · by_cases h1 : x ≤ hi
    · go_enter Try.func77, Try.ntmps77
      go_wp2
      go_ret
      exact ⟨ret_bool (inB_yes h0 h1).symm, rfl⟩
    · go_enter Try.func77, Try.ntmps77
      go_wp2
      go_ret
      exact ⟨ret_bool (inB_high (by omega)).symm, rfl⟩
  · go_enter Try.func77, Try.ntmps77
    go_wp2
    go_ret
    exact ⟨ret_bool (inB_low (by omega)).symm, rfl⟩

set_option maxHeartbeats 400000 in
theorem within_any (x hi : Int) (w : World) :
    Calls Try.prog 95 #[.int .i64 x, .int .i64 hi] w fun e w' => e = .returned (.bool (inB x hi)) ∧ w' = w := by
  by_cases h0 : 0 ≤ x
  · by_cases h1 : x ≤ hi
    · go_enter Try.func95, Try.ntmps95
      go_wp2
      go_ret
      exact ⟨ret_bool (inB_yes h0 h1).symm, rfl⟩
    · go_enter Try.func95, Try.ntmps95
      go_wp2
      go_ret
      exact ⟨ret_bool (inB_high (by omega)).symm, rfl⟩
  · go_enter Try.func95, Try.ntmps95
    go_wp2
    go_ret
    exact ⟨ret_bool (inB_low (by omega)).symm, rfl⟩

theorem okL_long {zs : List Int} (h : 8 < zs.length) : okL zs = false := by simp [okL]; omega
theorem okL_no {zs : List Int} {k : Nat} (hk : k < zs.length) (h : inB (zs.getD k 0) 999 = false) : okL zs = false := by
  have : zs.all (fun x => inB x 999) = false := by
    rw [List.all_eq_false]
    refine ⟨zs[k], List.getElem_mem hk, ?_⟩
    simpa [List.getD, hk] using h
  simp [okL, this]
theorem okL_yes {zs : List Int} (h8 : zs.length ≤ 8) (h : ∀ i, i < zs.length → inB (zs.getD i 0) 999 = true) : okL zs = true := by
  have : zs.all (fun x => inB x 999) = true := by
    rw [List.all_eq_true]
    intro x hx
    obtain ⟨i, hi, rfl⟩ := List.mem_iff_getElem.1 hx
    simpa [List.getD, hi] using h i hi
  simp [okL, this, h8]

end Go.Proofs.Ytklpdpdjblakgaa

/- Append -/
namespace Go.Proofs.Ytklpdpdjblakgaa
open Go.RowKit

theorem append_types {P : Program} (w : World) (t u ty e e' : TypeId) (ht : P.underlying t = some (.slice e)) (hu : P.underlying u = some (.slice e')) (p q : Option Addr) (n c m d : Nat) :
    (Builtin.append_ #[t, u] ty #[.slice p n c, .slice q m d]).run P w = (Builtin.append_ #[t, t] ty #[.slice p n c, .slice q m d]).run P w := by
  simp only [Builtin.append_, List.getElem?_toArray, List.getElem?_cons_zero, List.getElem?_cons_succ, Sem.run_bind, run_underlying ht, run_underlying hu, Result.andThen_ok, Sem.run_pure]

theorem run_append_none {P : Program} (w : World) (base : Nat) (t ty e : TypeId) (i : TypeInfo) (size : Nat) (ht : P.underlying t = some (.slice e)) (hi : P.info? e = some i)
    (v : Value) (n c : Nat) (xs : List Value) (hown : w.ownsRow base e size v n xs) :
    (Builtin.append_ #[t, t] ty #[v, .slice none 0 c]).run P w = .ok v w := by
  rcases hown.2 with ⟨rfl, rfl⟩ | ⟨g, cap, cur, rfl, _, _, hnc, _⟩
  · simp [Builtin.append_, run_underlying ht, sizeOf, typeInfo, hi, Builtin.lenOf, Builtin.firstCells]
  · simp [Builtin.append_, run_underlying ht, sizeOf, typeInfo, hi, Builtin.lenOf, Builtin.firstCells, hnc, storeCells]

/-- 'append' within the capacity, whatever the shape of what is appended, of another slice type. -/
theorem wpList_append_fits_two {P : Program} (w : World) {ops : Array Oper} {rest : List Oper} {o : Oper} {a : Act} {Q : Exit → Act → World → Prop}
    (hg : o.guard = none) (s x : Operand) (t t' : TypeId) (hop : o.op = Op.call { callee := Callee.builtin Builtin.append, args := #[s, x], argTypes := #[t, t'] })
    (base : Nat) (e e' : TypeId) (i : TypeInfo) (size : Nat) (h1 : P.underlying t = some (.slice e)) (h1' : P.underlying t' = some (.slice e')) (h2 : P.info? e = some i) (h4 : i.size = size)
    (g k cap : Nat) (xs : List Value) (hs : a.eval s = .slice (some ⟨g, 0, none⟩) k cap) (hown : w.ownsRow base e size (.slice (some ⟨g, 0, none⟩) k cap) k xs) (ao : Option Addr) (m c : Nat) (news : List Value) (hx : a.eval x = .slice ao m c) (hn : news.length = m * size)
    (hnone : m = 0 ∨ ∃ ad, ao = some ad ∧ ∀ j u, news[j]? = some u → w.cell? (ad.add j) = some u) (h1c : ∀ u ∈ news, u.oneCell' = true) (b1 : k + m ≤ cap)
    (hK : ∀ w', w'.ownsRow base e size (.slice (some ⟨g, 0, none⟩) (k + m) cap) (k + m) (xs ++ news) → w.grownBy w' (some g) → wpList P ops Q rest (a.put o.dst (.slice (some ⟨g, 0, none⟩) (k + m) cap)) w') :
    wpList P ops Q (o :: rest) a w := by
  refine wpList_plain hg fun K hK' => ?_
  cases ao with
  | some ad =>
    have hc : ∀ j u, news[j]? = some u → w.cell? (ad.add j) = some u := by
      rcases hnone with rfl | ⟨ad', e1, h⟩
      · intro j u hj
        rw [List.eq_nil_of_length_eq_zero (l := news) (by simpa using hn)] at hj
        simp at hj
      · cases e1; exact h
    obtain ⟨w', hrun, r1, r2⟩ := run_append_fits (P := P) w base t o.type e i size h1 h2 h4 g k cap xs hown ad m c news hn hc h1c b1
    rw [← append_types w t t' o.type e e' h1 h1'] at hrun
    unfold Oper.wp
    simp [execOp, hop, resolve, invoke, builtin, hs, hx, hrun, Result.andThen]
    exact hK' _ _ (hK w' r1 r2)
  | none =>
    obtain rfl : m = 0 := by
      rcases hnone with h | ⟨ad', e1, _⟩
      · exact h
      · cases e1
    have hnews : news = [] := List.eq_nil_of_length_eq_zero (by simpa using hn)
    subst hnews
    have hrun := run_append_none (P := P) w base t o.type e i size h1 h2 _ k c xs hown
    rw [← append_types w t t' o.type e e' h1 h1'] at hrun
    unfold Oper.wp
    simp [execOp, hop, resolve, invoke, builtin, hs, hx, hrun, Result.andThen]
    exact hK' _ _ (by simpa using hK w (by simpa using hown) (World.grownBy.refl _ _))

end Go.Proofs.Ytklpdpdjblakgaa

/- Lists -/
namespace Go.Proofs.Ytklpdpdjblakgaa
open Go.RowKit
set_option linter.unusedVariables false

/-- The cells of the first f numbers, for an append. -/
theorem SInts.src_take {w : World} {a : Option Addr} {n : Nat} {zs : List Int} (hs : SInts w a n zs) {f : Nat} (hf : f ≤ n) :
    f = 0 ∨ ∃ ad, a = some ad ∧ ∀ j u, ((zs.take f).map (Value.int .i64))[j]? = some u → w.cell? (ad.add j) = some u := by
  obtain ⟨hz, h0 | ⟨b, off, rfl, hc⟩⟩ := hs
  · exact .inl (by omega)
  · refine .inr ⟨_, rfl, fun j u hj => ?_⟩
    have hjf : j < f := by
      have := (List.getElem?_eq_some_iff.1 hj).1
      simp at this
      omega
    rw [Addr.add_lit, hc j (by omega)]
    simpa [List.getD, List.getElem?_take, hjf, show j < zs.length by omega] using hj

/-- The cells of the numbers from t on, for an append. -/
theorem SInts.src_drop {w : World} {b off : Nat} {n cap : Nat} {zs : List Int} (hz : zs.length = n) (hc : ∀ i, i < n → w.cell? ⟨b, off + i, none⟩ = some (.int .i64 (zs.getD i 0))) {t : Nat} (hnc : n ≤ cap) {ao : Option Addr} (hao : ¬ cap = t → ao = some ⟨b, off + t, none⟩) :
    n - t = 0 ∨ ∃ ad, ao = some ad ∧ ∀ j u, ((zs.drop t).map (Value.int .i64))[j]? = some u → w.cell? (ad.add j) = some u := by
  by_cases h : n - t = 0
  · exact .inl h
  · refine .inr ⟨_, hao (by omega), fun j u hj => ?_⟩
    have hjf : j < n - t := by
      have := (List.getElem?_eq_some_iff.1 hj).1
      simp at this
      omega
    rw [Addr.add_lit, Nat.add_assoc, hc (t + j) (by omega)]
    simpa [List.getD, show t + j < zs.length by omega] using hj

end Go.Proofs.Ytklpdpdjblakgaa

/- Push -/
namespace Go.Proofs.Ytklpdpdjblakgaa
open Go.RowKit
set_option linter.unusedVariables false

/-- The answer's code of a put at a place. -/
def putC (zs : List Int) (x : Int) : Int := if okL zs && inB x 999 then (if zs.length = 8 then 3 else 2) else 0
/-- The values behind it. -/
def putL (zs : List Int) (i : Nat) (x : Int) : List Int := if okL zs && inB x 999 then (if zs.length = 8 then zs else zs.take i ++ [x] ++ zs.drop i) else []

/-- A list and an answer come back, in new memory. -/
def ListRes (zs : List Int) (c v : Int) (e : Ending) (w w' : World) : Prop :=
  ∃ N a' c', e = .returned (.tuple #[.slice a' N c', .agg #[.int .i64 c, .int .i64 v]]) ∧ w'.ownsRow w.heap.size 3 1 (.slice a' N c') N (zs.map (Value.int .i64)) ∧ Below w.heap.size w w'

theorem own_mono {w : World} {base base' : Nat} {e : TypeId} {size : Nat} {v : Value} {n : Nat} {xs : List Value} (h : w.ownsRow base e size v n xs) (hb : base' ≤ base) : w.ownsRow base' e size v n xs := by
  obtain ⟨h1, h2⟩ := h
  refine ⟨h1, ?_⟩
  rcases h2 with h2 | ⟨g, cap, cur, hv, hg, r⟩
  · exact .inl h2
  · exact .inr ⟨g, cap, cur, hv, by omega, r⟩

theorem own_setCell {w : World} {base : Nat} {e : TypeId} {size : Nat} {v : Value} {n : Nat} {xs : List Value} (h : w.ownsRow base e size v n xs) {b o : Nat} (hb : b < base) (u : Value) : (w.setCell ⟨b, o, none⟩ u).ownsRow base e size v n xs :=
  ownsRow_setCell_below h hb u

end Go.Proofs.Ytklpdpdjblakgaa

/- Inv -/
namespace Go.Proofs.Ytklpdpdjblakgaa
open Go.RowKit
set_option linter.unusedVariables false

structure LawInv (w : World) (aw : Option Addr) (Nw cw : Nat) (L : List Int) (c1 : Nat) (C V : Int) (bx n : Nat) (X : List Int) (ag : Option Addr) (Ng cg : Nat) (G : List Int) (c2 : Nat) (W : World) : Prop where
  bel : Below w.heap.size w W
  ow : W.ownsRow w.heap.size 3 1 (.slice aw Nw cw) Nw (L.map (Value.int .i64))
  owlt : ∀ k, (Value.slice aw Nw cw).ownBlock = some k → k < c1
  c10 : W.cell? ⟨c1, 0, none⟩ = some (.int .i64 C)
  c11 : W.cell? ⟨c1, 1, none⟩ = some (.int .i64 V)
  lt0 : w.heap.size ≤ c1
  lt1 : c1 < bx
  ox : W.ownsRow w.heap.size 3 1 (.slice (some ⟨bx, 0, none⟩) n n) n (X.map (Value.int .i64))
  og : W.ownsRow (bx + 1) 3 1 (.slice ag Ng cg) Ng (G.map (Value.int .i64))
  oglt : ∀ k, (Value.slice ag Ng cg).ownBlock = some k → k < c2
  lt2 : bx < c2
  c20 : W.cell? ⟨c2, 0, none⟩ = some (.int .i64 C)
  c21 : W.cell? ⟨c2, 1, none⟩ = some (.int .i64 V)

theorem cell_kept {W W' : World} {b o : Nat} {v : Value} (hb : Below W.heap.size W W') (h : W.cell? ⟨b, o, none⟩ = some v) : W'.cell? ⟨b, o, none⟩ = some v :=
  (hb.cell (World.block_lt_of_cell? W ⟨b, o, none⟩ h)).trans h

section
variable {w : World} {aw : Option Addr} {Nw cw : Nat} {L : List Int} {c1 : Nat} {C V : Int} {bx n : Nat} {X : List Int} {ag : Option Addr} {Ng cg : Nat} {G : List Int} {c2 : Nat} {W W' : World}

theorem LawInv.below (h : LawInv w aw Nw cw L c1 C V bx n X ag Ng cg G c2 W) (hb : Below W.heap.size W W') : LawInv w aw Nw cw L c1 C V bx n X ag Ng cg G c2 W' :=
  { bel := below_trans' h.bel hb, ow := ownsRow_below h.ow hb, owlt := h.owlt, c10 := cell_kept hb h.c10, c11 := cell_kept hb h.c11, lt0 := h.lt0, lt1 := h.lt1,
    ox := ownsRow_below h.ox hb, og := ownsRow_below h.og hb, oglt := h.oglt, lt2 := h.lt2, c20 := cell_kept hb h.c20, c21 := cell_kept hb h.c21 }

theorem LawInv.markX (h : LawInv w aw Nw cw L c1 C V bx n X ag Ng cg G c2 W) {X' : List Int} (hg : W.grownBy W' (some bx)) (ho : W'.ownsRow w.heap.size 3 1 (.slice (some ⟨bx, 0, none⟩) n n) n (X'.map (Value.int .i64))) :
    LawInv w aw Nw cw L c1 C V bx n X' ag Ng cg G c2 W' :=
  { bel := h.bel.grown hg h.bel.size (fun k e => by cases e; have := h.lt0; have := h.lt1; omega),
    ow := h.ow.kept hg (by cases e : (Value.slice aw Nw cw).ownBlock with | none => exact .inl rfl | some k => exact .inr (fun e' => by cases e'; have := h.owlt _ e; have := h.lt1; omega)),
    owlt := h.owlt, c10 := hg.cell h.c10 (fun e => by cases e; exact Nat.lt_irrefl _ h.lt1), c11 := hg.cell h.c11 (fun e => by cases e; exact Nat.lt_irrefl _ h.lt1), lt0 := h.lt0, lt1 := h.lt1, ox := ho,
    og := h.og.kept hg (by cases e : (Value.slice ag Ng cg).ownBlock with | none => exact .inl rfl | some k => exact .inr (fun e' => by cases e'; have := (h.og.lt _ e).1; omega)),
    oglt := h.oglt, lt2 := h.lt2, c20 := hg.cell h.c20 (fun e => by cases e; exact Nat.lt_irrefl _ h.lt2), c21 := hg.cell h.c21 (fun e => by cases e; exact Nat.lt_irrefl _ h.lt2) }

theorem LawInv.markG (h : LawInv w aw Nw cw L c1 C V bx n X ag Ng cg G c2 W) {G' : List Int} (hg : W.grownBy W' (Value.slice ag Ng cg).ownBlock) (ho : W'.ownsRow (bx + 1) 3 1 (.slice ag Ng cg) Ng (G'.map (Value.int .i64))) :
    LawInv w aw Nw cw L c1 C V bx n X ag Ng cg G' c2 W' :=
  { bel := h.bel.grown hg h.bel.size (fun k e => by have := (h.og.lt _ e).1; have := h.lt0; have := h.lt1; omega),
    ow := h.ow.kept hg (by cases e : (Value.slice aw Nw cw).ownBlock with | none => exact .inl rfl | some k => exact .inr (fun e' => by have := h.owlt _ e; have := (h.og.lt _ e'.symm).1; have := h.lt1; omega)),
    owlt := h.owlt, c10 := hg.cell h.c10 (fun e => by have h2 : bx + 1 ≤ c1 := (h.og.lt _ e.symm).1; have := h.lt1; omega), c11 := hg.cell h.c11 (fun e => by have h2 : bx + 1 ≤ c1 := (h.og.lt _ e.symm).1; have := h.lt1; omega), lt0 := h.lt0, lt1 := h.lt1,
    ox := h.ox.kept hg (.inr (fun e' => by have h2 : bx + 1 ≤ bx := (h.og.lt _ e'.symm).1; omega)), og := ho, oglt := h.oglt, lt2 := h.lt2,
    c20 := hg.cell h.c20 (fun e => Nat.lt_irrefl c2 (h.oglt _ e.symm)), c21 := hg.cell h.c21 (fun e => Nat.lt_irrefl c2 (h.oglt _ e.symm)) }

end

/-- The facts behind the program's first call: all stands. -/
theorem law_inv {w w2 w4 w5 : World} {aw : Option Addr} {Nw cw : Nat} {L : List Int} {C V : Int} {n : Nat} {X : List Int} {ag : Option Addr} {Ng cg : Nat} {b : Nat}
    (hb2 : Below w.heap.size w w2) (hb : w.heap.size ≤ b) (ow : w2.ownsRow b 3 1 (.slice aw Nw cw) Nw (L.map (Value.int .i64)))
    (hb4 : Below (w2.heap.size + 1) (w2.alloc (.cells #[.int .i64 C, .int .i64 V] 54)) w4)
    (ox : w4.ownsRow (w2.heap.size + 1) 3 1 (.slice (some ⟨w2.heap.size + 1, 0, none⟩) n n) n (X.map (Value.int .i64)))
    (og : w5.ownsRow w4.heap.size 3 1 (.slice ag Ng cg) Ng (L.map (Value.int .i64))) (hb5 : Below w4.heap.size w4 w5) :
    LawInv w aw Nw cw L w2.heap.size C V (w2.heap.size + 1) n X ag Ng cg L w5.heap.size (w5.alloc (.cells #[.int .i64 C, .int .i64 V] 54)) := by
  have hA : Below w2.heap.size w2 (w2.alloc (.cells #[.int .i64 C, .int .i64 V] 54)) := (Below.refl _ _).alloc (Nat.le_refl _) _
  have hsz : (w2.alloc (.cells #[.int .i64 C, .int .i64 V] 54)).heap.size = w2.heap.size + 1 := by simp
  have hb4' : Below (w2.alloc (.cells #[.int .i64 C, .int .i64 V] 54)).heap.size (w2.alloc (.cells #[.int .i64 C, .int .i64 V] 54)) w4 := by rw [hsz]; exact hb4
  have hB : Below w5.heap.size w5 (w5.alloc (.cells #[.int .i64 C, .int .i64 V] 54)) := (Below.refl _ _).alloc (Nat.le_refl _) _
  have hall := below_trans' (below_trans' (below_trans' hA hb4') hb5) hB
  have h4s := hb4'.size
  have h5s := hb5.size
  have hx := ox.lt _ rfl
  have h2s := hb2.size
  exact
    { bel := below_trans' hb2 hall, ow := own_mono (ownsRow_below ow hall) hb, owlt := fun k e => (ow.lt k e).2,
      c10 := cell_kept (below_trans' (below_trans' hb4' hb5) hB) (by simp), c11 := cell_kept (below_trans' (below_trans' hb4' hb5) hB) (by simp),
      lt0 := h2s, lt1 := Nat.lt_succ_self _, ox := own_mono (ownsRow_below ox (below_trans' hb5 hB)) (by omega),
      og := own_mono (ownsRow_below og hB) (by omega), oglt := fun k e => (og.lt k e).2, lt2 := by omega, c20 := by simp, c21 := by simp }

end Go.Proofs.Ytklpdpdjblakgaa
