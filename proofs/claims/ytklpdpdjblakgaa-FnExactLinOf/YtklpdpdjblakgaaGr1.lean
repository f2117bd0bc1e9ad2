/- Several texts in one: Ints, Marks, Ok, Append, Lists, Push, Inv, Nodes, Nodes2, Inv3, Arena, Word, Shape, Shape2, Copy, Give, Give2, Path. -/
import Derived.Test.YtklpdpdjblakgaaRows
import Derived.WalkKit
import Derived.WalkSpells
import Derived.WalkLawsBesides
import Derived.Deep.QuietTactic
import Derived.BigQuiet
import Derived.Deep.OwnRows
import Derived.Deep.RegionWith
import Derived.Deep.RegionHeldLaw
/- Ints -/
namespace Go.Proofs.Ytklpdpdjblakgaa
open Go.RowKit

theorem Try.info3 : (Try.prog.info? 3).map (fun i => (i.zero, i.size, i.bytes)) = some (some (.int .i64 0), 1, 8) := by kernel_rfl

/-- The slice of length n at a reads as the numbers zs. -/
def SInts (w : World) (a : Option Addr) (n : Nat) (zs : List Int) : Prop :=
  zs.length = n ∧ (n = 0 ∨ ∃ b off, a = some ⟨b, off, none⟩ ∧ ∀ i, i < n → w.cell? ⟨b, off + i, none⟩ = some (.int .i64 (zs.getD i 0)))

theorem SInts.below {w w' : World} {a : Option Addr} {n : Nat} {zs : List Int} (h : SInts w a n zs) (hb : Below w.heap.size w w') : SInts w' a n zs := by
  obtain ⟨hz, h0 | ⟨b, off, rfl, hc⟩⟩ := h
  · exact ⟨hz, .inl h0⟩
  · refine ⟨hz, .inr ⟨b, off, rfl, fun i hi => ?_⟩⟩
    have hl := World.block_lt_of_cell? w ⟨b, off + i, none⟩ (hc i hi)
    exact (hb.cell hl).trans (hc i hi)

theorem ownsRow_below {w w' : World} {base : Nat} {e : TypeId} {size : Nat} {v : Value} {n : Nat} {xs : List Value} (h : w.ownsRow base e size v n xs) (hb : Below w.heap.size w w') : w'.ownsRow base e size v n xs := by
  obtain ⟨h1, h2⟩ := h
  refine ⟨h1, ?_⟩
  rcases h2 with h2 | ⟨g, cap, cur, hv, hg, hh, r⟩
  · exact .inl h2
  · exact .inr ⟨g, cap, cur, hv, hg, (hb.block g (Array.getElem?_eq_some_iff.1 hh).1).trans hh, r⟩

/-- What the numbers zs of an own row are. -/
theorem own_shape {w : World} {base : Nat} {v : Value} {n : Nat} {zs : List Int} (h : w.ownsRow base 3 1 v n (zs.map (Value.int .i64))) :
    ∃ a cap, v = .slice a n cap ∧ SInts w a n zs := by
  have hl : zs.length = n := by simpa using h.1
  rcases h.2 with ⟨rfl, rfl⟩ | ⟨g, cap, cur, rfl, hg, hh, hc, hm, hs, ht⟩
  · exact ⟨none, 0, rfl, hl, .inl rfl⟩
  · refine ⟨_, cap, rfl, hl, .inr ⟨g, 0, rfl, fun i hi => ?_⟩⟩
    have := h.cellAt i (by omega)
    rw [Nat.zero_add, this]
    simp [List.getD, show i < zs.length by omega]

theorem below_trans' {w w1 w2 : World} (h : Below w.heap.size w w1) (k : Below w1.heap.size w1 w2) : Below w.heap.size w w2 :=
  h.trans (k.mono h.size)

/-- An own row out of a row. -/
theorem own_of_rowIs {w : World} {b n : Nat} {zs : List Int} (h : w.rowIs b 3 n (fun i => .int .i64 (zs.getD i 0))) (hz : zs.length = n) (hn : n ≤ maxLen) {base : Nat} (hb : base ≤ b) :
    w.ownsRow base 3 1 (.slice (some ⟨b, 0, none⟩) n n) n (zs.map (Value.int .i64)) := by
  obtain ⟨c, hh, hs, hc⟩ := h
  refine ⟨by simpa using hz, .inr ⟨b, n, c, rfl, hb, hh, Nat.le_refl _, hn, by simpa using hs, ?_⟩⟩
  apply List.ext_getElem?
  intro i
  by_cases hi : i < n
  · have := hc i hi
    simp only [Nat.mul_one, List.getElem?_take, hi, if_true, List.getElem?_map, Array.getElem?_toList, this]
    simp [List.getD, show i < zs.length by omega]
  · simp [hi, hz, hs]

set_option maxHeartbeats 400000 in
/-- eqIntS of two slices with the same numbers says yes. -/
theorem eqIntS_yes (a a' : Option Addr) (n cap cap' : Nat) (zs : List Int) (w : World) (hs : SInts w a n zs) (hs' : SInts w a' n zs) (hn : n ≤ 9223372036854775807) :
    Calls Try.prog 37 #[.slice a n cap, .slice a' n cap'] w fun e w' => e = .returned (.bool true) ∧ Below w.heap.size w w' := by
  go_enter Try.func37, Try.ntmps37
  go_wp2
  go_loopw [5] (fun i wr => ∃ k : Nat, k ≤ n ∧ i = .int .i64 k ∧ Below w.heap.size w wr) (fun i _ => n - (intOf i).toNat)
  case atStart => exact ⟨0, Nat.zero_le _, rfl, Below.refl _ _⟩
  case round =>
    obtain ⟨k, hk, rfl, hbel⟩ := hrel
    by_cases hlt : k < n
    · obtain ⟨hz, h0 | ⟨b, off, rfl, hc⟩⟩ := hs
      · omega
      · obtain ⟨_, h0 | ⟨b', off', rfl, hc'⟩⟩ := hs'
        · omega
        · obtain ⟨x, hx⟩ : ∃ x, zs.getD k 0 = x := ⟨_, rfl⟩
          have h1 : wr.cell? ⟨b, off + k, none⟩ = some (.int .i64 x) := by rw [← hx]; exact (hbel.cell (World.block_lt_of_cell? w ⟨b, off + k, none⟩ (hc k hlt))).trans (hc k hlt)
          have h2 : wr.cell? ⟨b', off' + k, none⟩ = some (.int .i64 x) := by rw [← hx]; exact (hbel.cell (World.block_lt_of_cell? w ⟨b', off' + k, none⟩ (hc' k hlt))).trans (hc' k hlt)
          clear hc hc' hx
          go_wp2
          go_region
          all_goals go_wp2
          all_goals
            go_roundw
            case rel => exact ⟨k + 1, by omega, by go_num, hbel.drew⟩
            case measure => simp [intOf]; omega
    · have : k = n := by omega
      subst this
      go_wp2
      go_ret
      exact ⟨rfl, hbel⟩

end Go.Proofs.Ytklpdpdjblakgaa

/- Marks -/
namespace Go.Proofs.Ytklpdpdjblakgaa
open Go.RowKit

theorem own_sints {w : World} {base : Nat} {a : Option Addr} {n cap : Nat} {zs : List Int} (h : w.ownsRow base 3 1 (.slice a n cap) n (zs.map (Value.int .i64))) : SInts w a n zs := by
  obtain ⟨a', cap', e, hs⟩ := own_shape h
  cases e
  exact hs

/-- The marks that are written from k on. -/
def marks (k : Int) (n : Nat) : List Int := (List.range n).map (fun i : Nat => k + (i : Int))
theorem marks_len (k : Int) (n : Nat) : (marks k n).length = n := by simp [marks]
theorem marks_get (k : Int) {n i : Nat} (h : i < n) : (marks k n).getD i 0 = k + i := by simp [marks, List.getD, h]

set_option maxHeartbeats 400000 in
theorem markIntS_any (a : Option Addr) (n cap base : Nat) (zs : List Int) (k : Int) (w : World) (ho : w.ownsRow base 3 1 (.slice a n cap) n (zs.map (Value.int .i64))) (hk0 : 0 ≤ k) (hk : k + n ≤ 4611686018427387904) :
    Calls Try.prog 41 #[.slice a n cap, .int .i64 k] w fun e w' => e = .returned (.int .i64 (k + n)) ∧ w'.ownsRow base 3 1 (.slice a n cap) n ((marks k n).map (Value.int .i64)) ∧ w.grownBy w' (Value.ownBlock (.slice a n cap)) ∧ w'.heap.size = w.heap.size := by
  have hz : zs.length = n := by simpa using ho.1
  by_cases hn : n = 0
  · subst hn
    obtain rfl : zs = [] := List.eq_nil_of_length_eq_zero hz
    go_enter Try.func41, Try.ntmps41
    go_wp2
    go_loop [1, 5] (fun s i => s = .int .i64 k ∧ i = .int .i64 0) (fun _ _ => 0)
    case atStart => exact ⟨rfl, rfl⟩
    case round =>
      obtain ⟨rfl, rfl⟩ := hrel
      go_wp2
      go_ret
      exact ⟨by simp, by simpa [marks] using ho, World.grownBy.refl _ _, rfl⟩
  · obtain ⟨g, rfl⟩ : ∃ g, a = some ⟨g, 0, none⟩ := by
      rcases ho.2 with ⟨h, h0⟩ | ⟨g, c, cur, h, _⟩
      · exact absurd h0 hn
      · cases h; exact ⟨g, rfl⟩
    go_enter Try.func41, Try.ntmps41
    go_wp2
    go_loopw [1, 5] (fun s i wr => ∃ (j : Nat) (ys : List Int), j ≤ n ∧ i = .int .i64 j ∧ s = .int .i64 (k + j) ∧ wr.ownsRow base 3 1 (.slice (some ⟨g, 0, none⟩) n cap) n (ys.map (Value.int .i64)) ∧ ys.take j = (marks k n).take j ∧ w.grownBy wr (some g) ∧ wr.heap.size = w.heap.size)
      (fun _ i _ => n - (intOf i).toNat)
    case atStart => exact ⟨0, zs, Nat.zero_le _, rfl, by go_num, ho, by simp, World.grownBy.refl _ _, rfl⟩
    case round =>
      obtain ⟨j, ys, hj, rfl, rfl, hown, htake, hg, hsz⟩ := hrel
      by_cases hlt : j < n
      · have hyl : ys.length = n := by simpa using hown.1
        have hc : wr.cell? ⟨g, j, none⟩ = some (.int .i64 (ys.getD j 0)) := by
          rw [hown.cellAt j (by omega)]
          simp [List.getD, show j < ys.length by omega]
        have hf := hown.frozenAt j
        have hst := hown.stored j (.int .i64 (k + j))
        have R : Hid ((wr.setCell ⟨g, j, none⟩ (.int .i64 (k + j))).ownsRow base 3 1 (.slice (some ⟨g, 0, none⟩) n cap) n ((ys.set j (k + j)).map (Value.int .i64)) ∧ (ys.set j (k + j)).take (j + 1) = (marks k n).take (j + 1) ∧ w.grownBy (wr.setCell ⟨g, j, none⟩ (.int .i64 (k + j))) (some g) ∧ (wr.setCell ⟨g, j, none⟩ (.int .i64 (k + j))).heap.size = w.heap.size) := by
          refine ⟨by simpa using hst.1, ?_, ⟨hst.2.os.trans hg.os, hst.2.tape.trans hg.tape, hst.2.output.trans hg.output, Nat.le_trans hg.size hst.2.size, fun c hc hne => ?_⟩, by simpa using hsz⟩
          · rw [List.take_succ_eq_append_getElem (by simp; omega), List.take_succ_eq_append_getElem (by rw [marks_len]; omega), ← htake]
            rw [List.take_set, List.set_eq_of_length_le (by simp; omega)]
            simp [marks]
          · exact (hst.2.block c (by omega) hne).trans (hg.block c hc hne)
        clear hown htake hg hst hsz hyl
        go_wp2
        go_roundw
        case rel => exact ⟨j + 1, _, by omega, by go_num, by go_num, R.out⟩
        case measure => simp [intOf]; omega
      · obtain rfl : j = n := by omega
        have hyl : ys.length = j := by simpa using hown.1
        have e : ys = marks k j := by
          rw [List.take_of_length_le (by omega), List.take_of_length_le (by rw [marks_len]; omega)] at htake
          exact htake
        subst e
        have HO : Hid (wr.ownsRow base 3 1 (.slice (some ⟨g, 0, none⟩) j cap) j ((marks k j).map (Value.int .i64))) := hown
        clear hown htake hyl
        go_wp2
        go_ret
        exact ⟨rfl, HO.out, hg, hsz⟩

set_option maxHeartbeats 400000 in
theorem heldIntS_any (a : Option Addr) (n cap : Nat) (k : Int) (w : World) (hs : SInts w a n (marks k n)) (hk0 : 0 ≤ k) (hk : k + n ≤ 4611686018427387904) :
    Calls Try.prog 43 #[.slice a n cap, .int .i64 k] w fun e w' => e = .returned (.int .i64 (k + n)) ∧ w' = w := by
  go_enter Try.func43, Try.ntmps43
  go_wp2
  go_loop [1, 5] (fun s i => ∃ j : Nat, j ≤ n ∧ i = .int .i64 j ∧ s = .int .i64 (k + j)) (fun _ i => n - (intOf i).toNat)
  case atStart => exact ⟨0, Nat.zero_le _, rfl, by go_num⟩
  case round =>
    obtain ⟨j, hj, rfl, rfl⟩ := hrel
    by_cases hlt : j < n
    · obtain ⟨hz, h0 | ⟨b, off, rfl, hc⟩⟩ := hs
      · omega
      · have h1 : w.cell? ⟨b, off + j, none⟩ = some (.int .i64 (k + j)) := by rw [hc j hlt, marks_get k hlt]
        clear hc hz
        go_wp2
        go_round
        case rel => exact ⟨j + 1, by omega, by go_num, by go_num⟩
        case measure => simp [intOf]; omega
    · obtain rfl : j = n := by omega
      clear hs
      go_wp2
      go_ret
      exact ⟨rfl, rfl⟩

set_option maxHeartbeats 400000 in
theorem eqResRes_yes (c v : Int) (w : World) :
    Calls Try.prog 50 #[.agg #[.int .i64 c, .int .i64 v], .agg #[.int .i64 c, .int .i64 v]] w fun e w' => e = .returned (.bool true) ∧ Below w.heap.size w w' := by
  go_enter Try.func50, Try.ntmps50
  go_wp2
  go_ret
  exact ⟨rfl, ((Below.refl _ _).alloc (Nat.le_refl _) _).alloc (by simp) _⟩

end Go.Proofs.Ytklpdpdjblakgaa

/- Ok -/
namespace Go.Proofs.Ytklpdpdjblakgaa
open Go.RowKit

/-- The number is in bounds. -/
def inB (x hi : Int) : Bool := decide (0 ≤ x) && decide (x ≤ hi)
/-- The values are ok. -/
def okL (zs : List Int) : Bool := decide (zs.length ≤ 8) && zs.all (fun x => inB x 999)

theorem inB_yes {x hi : Int} (h0 : 0 ≤ x) (h1 : x ≤ hi) : inB x hi = true := by simp [inB, h0, h1]
theorem inB_low {x hi : Int} (h0 : ¬ 0 ≤ x) : inB x hi = false := by simp [inB, h0]
theorem inB_high {x hi : Int} (h1 : ¬ x ≤ hi) : inB x hi = false := by simp [inB, h1]
theorem ret_bool {a b : Bool} (h : a = b) : Ending.returned (.bool a) = .returned (.bool b) := by rw [h]

set_option maxHeartbeats 400000 in
theorem l1In_any (x hi : Int) (w : World) :
    Calls Try.prog 77 #[.int .i64 x, .int .i64 0, .int .i64 hi] w fun e w' => e = .returned (.bool (inB x hi)) ∧ w' = w := by
  by_cases h0 : 0 ≤ x
  · by_cases h1 : x ≤ hi
    · go_enter Try.func77, Try.ntmps77
      go_wp2
      go_ret
      exact ⟨ret_bool (inB_yes h0 h1).symm, rfl⟩
    · go_enter Try.func77, Try.ntmps77
      go_wp2
      go_ret
      exact ⟨ret_bool (inB_high (by omega)).symm, rfl⟩
  · go_enter Try.func77, Try.ntmps77
    go_wp2
    go_ret
    exact ⟨ret_bool (inB_low (by omega)).symm, rfl⟩

set_option maxHeartbeats 400000 in
theorem within_any (x hi : Int) (w : World) :
    Calls Try.prog 95 #[.int .i64 x, .int .i64 hi] w fun e w' => e = .returned (.bool (inB x hi)) ∧ w' = w := by
  by_cases h0 : 0 ≤ x
  · by_cases h1 : x ≤ hi
    · go_enter Try.func95, Try.ntmps95
      go_wp2
      go_ret
      exact ⟨ret_bool (inB_yes h0 h1).symm, rfl⟩
    · go_enter Try.func95, Try.ntmps95
      go_wp2
      go_ret
      exact ⟨ret_bool (inB_high (by omega)).symm, rfl⟩
  · go_enter Try.func95, Try.ntmps95
    go_wp2
    go_ret
    exact ⟨ret_bool (inB_low (by omega)).symm, rfl⟩

theorem okL_long {zs : List Int} (h : 8 < zs.length) : okL zs = false := by simp [okL]; omega
theorem okL_no {zs : List Int} {k : Nat} (hk : k < zs.length) (h : inB (zs.getD k 0) 999 = false) : okL zs = false := by
  have : zs.all (fun x => inB x 999) = false := by
    rw [List.all_eq_false]
    refine ⟨zs[k], List.getElem_mem hk, ?_⟩
    simpa [List.getD, hk] using h
  simp [okL, this]
theorem okL_yes {zs : List Int} (h8 : zs.length ≤ 8) (h : ∀ i, i < zs.length → inB (zs.getD i 0) 999 = true) : okL zs = true := by
  have : zs.all (fun x => inB x 999) = true := by
    rw [List.all_eq_true]
    intro x hx
    obtain ⟨i, hi, rfl⟩ := List.mem_iff_getElem.1 hx
    simpa [List.getD, hi] using h i hi
  simp [okL, this, h8]

end Go.Proofs.Ytklpdpdjblakgaa

/- Append -/
namespace Go.Proofs.Ytklpdpdjblakgaa
open Go.RowKit

theorem append_types {P : Program} (w : World) (t u ty e e' : TypeId) (ht : P.underlying t = some (.slice e)) (hu : P.underlying u = some (.slice e')) (p q : Option Addr) (n c m d : Nat) :
    (Builtin.append_ #[t, u] ty #[.slice p n c, .slice q m d]).run P w = (Builtin.append_ #[t, t] ty #[.slice p n c, .slice q m d]).run P w := by
  simp only [Builtin.append_, List.getElem?_toArray, List.getElem?_cons_zero, List.getElem?_cons_succ, Sem.run_bind, run_underlying ht, run_underlying hu, Result.andThen_ok, Sem.run_pure]

theorem run_append_none {P : Program} (w : World) (base : Nat) (t ty e : TypeId) (i : TypeInfo) (size : Nat) (ht : P.underlying t = some (.slice e)) (hi : P.info? e = some i)
    (v : Value) (n c : Nat) (xs : List Value) (hown : w.ownsRow base e size v n xs) :
    (Builtin.append_ #[t, t] ty #[v, .slice none 0 c]).run P w = .ok v w := by
  rcases hown.2 with ⟨rfl, rfl⟩ | ⟨g, cap, cur, rfl, _, _, hnc, _⟩
  · simp [Builtin.append_, run_underlying ht, sizeOf, typeInfo, hi, Builtin.lenOf, Builtin.firstCells]
  · simp [Builtin.append_, run_underlying ht, sizeOf, typeInfo, hi, Builtin.lenOf, Builtin.firstCells, hnc, storeCells]

/-- 'append' within the capacity, whatever the shape of what is appended, of another slice type. -/
theorem wpList_append_fits_two {P : Program} (w : World) {ops : Array Oper} {rest : List Oper} {o : Oper} {a : Act} {Q : Exit → Act → World → Prop}
    (hg : o.guard = none) (s x : Operand) (t t' : TypeId) (hop : o.op = Op.call { callee := Callee.builtin Builtin.append, args := #[s, x], argTypes := #[t, t'] })
    (base : Nat) (e e' : TypeId) (i : TypeInfo) (size : Nat) (h1 : P.underlying t = some (.slice e)) (h1' : P.underlying t' = some (.slice e')) (h2 : P.info? e = some i) (h4 : i.size = size)
    (g k cap : Nat) (xs : List Value) (hs : a.eval s = .slice (some ⟨g, 0, none⟩) k cap) (hown : w.ownsRow base e size (.slice (some ⟨g, 0, none⟩) k cap) k xs) (ao : Option Addr) (m c : Nat) (news : List Value) (hx : a.eval x = .slice ao m c) (hn : news.length = m * size)
    (hnone : m = 0 ∨ ∃ ad, ao = some ad ∧ ∀ j u, news[j]? = some u → w.cell? (ad.add j) = some u) (h1c : ∀ u ∈ news, u.oneCell' = true) (b1 : k + m ≤ cap)
    (hK : ∀ w', w'.ownsRow base e size (.slice (some ⟨g, 0, none⟩) (k + m) cap) (k + m) (xs ++ news) → w.grownBy w' (some g) → wpList P ops Q rest (a.put o.dst (.slice (some ⟨g, 0, none⟩) (k + m) cap)) w') :
    wpList P ops Q (o :: rest) a w := by
  refine wpList_plain hg fun K hK' => ?_
  cases ao with
  | some ad =>
    have hc : ∀ j u, news[j]? = some u → w.cell? (ad.add j) = some u := by
      rcases hnone with rfl | ⟨ad', e1, h⟩
      · intro j u hj
        rw [List.eq_nil_of_length_eq_zero (l := news) (by simpa using hn)] at hj
        simp at hj
      · cases e1; exact h
    obtain ⟨w', hrun, r1, r2⟩ := run_append_fits (P := P) w base t o.type e i size h1 h2 h4 g k cap xs hown ad m c news hn hc h1c b1
    rw [← append_types w t t' o.type e e' h1 h1'] at hrun
    unfold Oper.wp
    simp [execOp, hop, resolve, invoke, builtin, hs, hx, hrun, Result.andThen]
    exact hK' _ _ (hK w' r1 r2)
  | none =>
    obtain rfl : m = 0 := by
      rcases hnone with h | ⟨ad', e1, _⟩
      · exact h
      · cases e1
    have hnews : news = [] := List.eq_nil_of_length_eq_zero (by simpa using hn)
    subst hnews
    have hrun := run_append_none (P := P) w base t o.type e i size h1 h2 _ k c xs hown
    rw [← append_types w t t' o.type e e' h1 h1'] at hrun
    unfold Oper.wp
    simp [execOp, hop, resolve, invoke, builtin, hs, hx, hrun, Result.andThen]
    exact hK' _ _ (by simpa using hK w (by simpa using hown) (World.grownBy.refl _ _))

end Go.Proofs.Ytklpdpdjblakgaa

/- Lists -/
namespace Go.Proofs.Ytklpdpdjblakgaa
open Go.RowKit
set_option linter.unusedVariables false

/-- The cells of the first f numbers, for an append. -/
theorem SInts.src_take {w : World} {a : Option Addr} {n : Nat} {zs : List Int} (hs : SInts w a n zs) {f : Nat} (hf : f ≤ n) :
    f = 0 ∨ ∃ ad, a = some ad ∧ ∀ j u, ((zs.take f).map (Value.int .i64))[j]? = some u → w.cell? (ad.add j) = some u := by
  obtain ⟨hz, h0 | ⟨b, off, rfl, hc⟩⟩ := hs
  · exact .inl (by omega)
  · refine .inr ⟨_, rfl, fun j u hj => ?_⟩
    have hjf : j < f := by
      have := (List.getElem?_eq_some_iff.1 hj).1
      simp at this
      omega
    rw [Addr.add_lit, hc j (by omega)]
    simpa [List.getD, List.getElem?_take, hjf, show j < zs.length by omega] using hj

/-- The cells of the numbers from t on, for an append. -/
theorem SInts.src_drop {w : World} {b off : Nat} {n cap : Nat} {zs : List Int} (hz : zs.length = n) (hc : ∀ i, i < n → w.cell? ⟨b, off + i, none⟩ = some (.int .i64 (zs.getD i 0))) {t : Nat} (hnc : n ≤ cap) {ao : Option Addr} (hao : ¬ cap = t → ao = some ⟨b, off + t, none⟩) :
    n - t = 0 ∨ ∃ ad, ao = some ad ∧ ∀ j u, ((zs.drop t).map (Value.int .i64))[j]? = some u → w.cell? (ad.add j) = some u := by
  by_cases h : n - t = 0
  · exact .inl h
  · refine .inr ⟨_, hao (by omega), fun j u hj => ?_⟩
    have hjf : j < n - t := by
      have := (List.getElem?_eq_some_iff.1 hj).1
      simp at this
      omega
    rw [Addr.add_lit, Nat.add_assoc, hc (t + j) (by omega)]
    simpa [List.getD, show t + j < zs.length by omega] using hj

end Go.Proofs.Ytklpdpdjblakgaa

/- Push -/
namespace Go.Proofs.Ytklpdpdjblakgaa
open Go.RowKit
set_option linter.unusedVariables false

/-- The answer's code of a put at a place. -/
def putC (zs : List Int) (x : Int) : Int := if okL zs && inB x 999 then (if zs.length = 8 then 3 else 2) else 0
/-- The values behind it. -/
def putL (zs : List Int) (i : Nat) (x : Int) : List Int := if okL zs && inB x 999 then (if zs.length = 8 then zs else zs.take i ++ [x] ++ zs.drop i) else []

/-- A list and an answer come back, in new memory. -/
def ListRes (zs : List Int) (c v : Int) (e : Ending) (w w' : World) : Prop :=
  ∃ N a' c', e = .returned (.tuple #[.slice a' N c', .agg #[.int .i64 c, .int .i64 v]]) ∧ w'.ownsRow w.heap.size 3 1 (.slice a' N c') N (zs.map (Value.int .i64)) ∧ Below w.heap.size w w'

theorem own_mono {w : World} {base base' : Nat} {e : TypeId} {size : Nat} {v : Value} {n : Nat} {xs : List Value} (h : w.ownsRow base e size v n xs) (hb : base' ≤ base) : w.ownsRow base' e size v n xs := by
  obtain ⟨h1, h2⟩ := h
  refine ⟨h1, ?_⟩
  rcases h2 with h2 | ⟨g, cap, cur, hv, hg, r⟩
  · exact .inl h2
  · exact .inr ⟨g, cap, cur, hv, by omega, r⟩

theorem own_setCell {w : World} {base : Nat} {e : TypeId} {size : Nat} {v : Value} {n : Nat} {xs : List Value} (h : w.ownsRow base e size v n xs) {b o : Nat} (hb : b < base) (u : Value) : (w.setCell ⟨b, o, none⟩ u).ownsRow base e size v n xs :=
  ownsRow_setCell_below h hb u

end Go.Proofs.Ytklpdpdjblakgaa

/- Inv -/
namespace Go.Proofs.Ytklpdpdjblakgaa
open Go.RowKit
set_option linter.unusedVariables false

structure LawInv (w : World) (aw : Option Addr) (Nw cw : Nat) (L : List Int) (c1 : Nat) (C V : Int) (bx n : Nat) (X : List Int) (ag : Option Addr) (Ng cg : Nat) (G : List Int) (c2 : Nat) (W : World) : Prop where
  bel : Below w.heap.size w W
  ow : W.ownsRow w.heap.size 3 1 (.slice aw Nw cw) Nw (L.map (Value.int .i64))
  owlt : ∀ k, (Value.slice aw Nw cw).ownBlock = some k → k < c1
  c10 : W.cell? ⟨c1, 0, none⟩ = some (.int .i64 C)
  c11 : W.cell? ⟨c1, 1, none⟩ = some (.int .i64 V)
  lt0 : w.heap.size ≤ c1
  lt1 : c1 < bx
  ox : W.ownsRow w.heap.size 3 1 (.slice (some ⟨bx, 0, none⟩) n n) n (X.map (Value.int .i64))
  og : W.ownsRow (bx + 1) 3 1 (.slice ag Ng cg) Ng (G.map (Value.int .i64))
  oglt : ∀ k, (Value.slice ag Ng cg).ownBlock = some k → k < c2
  lt2 : bx < c2
  c20 : W.cell? ⟨c2, 0, none⟩ = some (.int .i64 C)
  c21 : W.cell? ⟨c2, 1, none⟩ = some (.int .i64 V)

theorem cell_kept {W W' : World} {b o : Nat} {v : Value} (hb : Below W.heap.size W W') (h : W.cell? ⟨b, o, none⟩ = some v) : W'.cell? ⟨b, o, none⟩ = some v :=
  (hb.cell (World.block_lt_of_cell? W ⟨b, o, none⟩ h)).trans h

section
variable {w : World} {aw : Option Addr} {Nw cw : Nat} {L : List Int} {c1 : Nat} {C V : Int} {bx n : Nat} {X : List Int} {ag : Option Addr} {Ng cg : Nat} {G : List Int} {c2 : Nat} {W W' : World}

theorem LawInv.below (h : LawInv w aw Nw cw L c1 C V bx n X ag Ng cg G c2 W) (hb : Below W.heap.size W W') : LawInv w aw Nw cw L c1 C V bx n X ag Ng cg G c2 W' :=
  { bel := below_trans' h.bel hb, ow := ownsRow_below h.ow hb, owlt := h.owlt, c10 := cell_kept hb h.c10, c11 := cell_kept hb h.c11, lt0 := h.lt0, lt1 := h.lt1,
    ox := ownsRow_below h.ox hb, og := ownsRow_below h.og hb, oglt := h.oglt, lt2 := h.lt2, c20 := cell_kept hb h.c20, c21 := cell_kept hb h.c21 }

theorem LawInv.markX (h : LawInv w aw Nw cw L c1 C V bx n X ag Ng cg G c2 W) {X' : List Int} (hg : W.grownBy W' (some bx)) (ho : W'.ownsRow w.heap.size 3 1 (.slice (some ⟨bx, 0, none⟩) n n) n (X'.map (Value.int .i64))) :
    LawInv w aw Nw cw L c1 C V bx n X' ag Ng cg G c2 W' :=
  { bel := h.bel.grown hg h.bel.size (fun k e => by cases e; have := h.lt0; have := h.lt1; omega),
    ow := h.ow.kept hg (by cases e : (Value.slice aw Nw cw).ownBlock with | none => exact .inl rfl | some k => exact .inr (fun e' => by cases e'; have := h.owlt _ e; have := h.lt1; omega)),
    owlt := h.owlt, c10 := hg.cell h.c10 (fun e => by cases e; exact Nat.lt_irrefl _ h.lt1), c11 := hg.cell h.c11 (fun e => by cases e; exact Nat.lt_irrefl _ h.lt1), lt0 := h.lt0, lt1 := h.lt1, ox := ho,
    og := h.og.kept hg (by cases e : (Value.slice ag Ng cg).ownBlock with | none => exact .inl rfl | some k => exact .inr (fun e' => by cases e'; have := (h.og.lt _ e).1; omega)),
    oglt := h.oglt, lt2 := h.lt2, c20 := hg.cell h.c20 (fun e => by cases e; exact Nat.lt_irrefl _ h.lt2), c21 := hg.cell h.c21 (fun e => by cases e; exact Nat.lt_irrefl _ h.lt2) }

theorem LawInv.markG (h : LawInv w aw Nw cw L c1 C V bx n X ag Ng cg G c2 W) {G' : List Int} (hg : W.grownBy W' (Value.slice ag Ng cg).ownBlock) (ho : W'.ownsRow (bx + 1) 3 1 (.slice ag Ng cg) Ng (G'.map (Value.int .i64))) :
    LawInv w aw Nw cw L c1 C V bx n X ag Ng cg G' c2 W' :=
  { bel := h.bel.grown hg h.bel.size (fun k e => by have := (h.og.lt _ e).1; have := h.lt0; have := h.lt1; omega),
    ow := h.ow.kept hg (by cases e : (Value.slice aw Nw cw).ownBlock with | none => exact .inl rfl | some k => exact .inr (fun e' => by have := h.owlt _ e; have := (h.og.lt _ e'.symm).1; have := h.lt1; omega)),
    owlt := h.owlt, c10 := hg.cell h.c10 (fun e => by have h2 : bx + 1 ≤ c1 := (h.og.lt _ e.symm).1; have := h.lt1; omega), c11 := hg.cell h.c11 (fun e => by have h2 : bx + 1 ≤ c1 := (h.og.lt _ e.symm).1; have := h.lt1; omega), lt0 := h.lt0, lt1 := h.lt1,
    ox := h.ox.kept hg (.inr (fun e' => by have h2 : bx + 1 ≤ bx := (h.og.lt _ e'.symm).1; omega)), og := ho, oglt := h.oglt, lt2 := h.lt2,
    c20 := hg.cell h.c20 (fun e => Nat.lt_irrefl c2 (h.oglt _ e.symm)), c21 := hg.cell h.c21 (fun e => Nat.lt_irrefl c2 (h.oglt _ e.symm)) }

end

/-- The facts behind the program's first call: all stands. -/
theorem law_inv {w w2 w4 w5 : World} {aw : Option Addr} {Nw cw : Nat} {L : List Int} {C V : Int} {n : Nat} {X : List Int} {ag : Option Addr} {Ng cg : Nat} {b : Nat}
    (hb2 : Below w.heap.size w w2) (hb : w.heap.size ≤ b) (ow : w2.ownsRow b 3 1 (.slice aw Nw cw) Nw (L.map (Value.int .i64)))
    (hb4 : Below (w2.heap.size + 1) (w2.alloc (.cells #[.int .i64 C, .int .i64 V] 54)) w4)
    (ox : w4.ownsRow (w2.heap.size + 1) 3 1 (.slice (some ⟨w2.heap.size + 1, 0, none⟩) n n) n (X.map (Value.int .i64)))
    (og : w5.ownsRow w4.heap.size 3 1 (.slice ag Ng cg) Ng (L.map (Value.int .i64))) (hb5 : Below w4.heap.size w4 w5) :
    LawInv w aw Nw cw L w2.heap.size C V (w2.heap.size + 1) n X ag Ng cg L w5.heap.size (w5.alloc (.cells #[.int .i64 C, .int .i64 V] 54)) := by
  have hA : Below w2.heap.size w2 (w2.alloc (.cells #[.int .i64 C, .int .i64 V] 54)) := (Below.refl _ _).alloc (Nat.le_refl _) _
  have hsz : (w2.alloc (.cells #[.int .i64 C, .int .i64 V] 54)).heap.size = w2.heap.size + 1 := by simp
  have hb4' : Below (w2.alloc (.cells #[.int .i64 C, .int .i64 V] 54)).heap.size (w2.alloc (.cells #[.int .i64 C, .int .i64 V] 54)) w4 := by rw [hsz]; exact hb4
  have hB : Below w5.heap.size w5 (w5.alloc (.cells #[.int .i64 C, .int .i64 V] 54)) := (Below.refl _ _).alloc (Nat.le_refl _) _
  have hall := below_trans' (below_trans' (below_trans' hA hb4') hb5) hB
  have h4s := hb4'.size
  have h5s := hb5.size
  have hx := ox.lt _ rfl
  have h2s := hb2.size
  exact
    { bel := below_trans' hb2 hall, ow := own_mono (ownsRow_below ow hall) hb, owlt := fun k e => (ow.lt k e).2,
      c10 := cell_kept (below_trans' (below_trans' hb4' hb5) hB) (by simp), c11 := cell_kept (below_trans' (below_trans' hb4' hb5) hB) (by simp),
      lt0 := h2s, lt1 := Nat.lt_succ_self _, ox := own_mono (ownsRow_below ox (below_trans' hb5 hB)) (by omega),
      og := own_mono (ownsRow_below og hB) (by omega), oglt := fun k e => (og.lt k e).2, lt2 := by omega, c20 := by simp, c21 := by simp }

end Go.Proofs.Ytklpdpdjblakgaa

/- Nodes -/
namespace Go.Proofs.Ytklpdpdjblakgaa
open Go.RowKit
set_option linter.unusedVariables false

/-- A place. -/
structure Nd where
  key : Int
  val : Int
  word : Int
  ver : Int
  used : Bool
  gen : Int

def Nd.zero : Nd := ⟨0, 0, 0, 0, false, 0⟩
def Nd.cells (x : Nd) : List Value := [.int .i64 x.key, .int .i64 x.val, .int .i64 x.word, .int .i64 x.ver, .bool x.used, .int .i64 x.gen]
def flatN (ns : List Nd) : List Value := ns.flatMap Nd.cells

theorem flatN_cons (x : Nd) (ns : List Nd) : flatN (x :: ns) = x.cells ++ flatN ns := rfl
theorem flatN_app (xs ys : List Nd) : flatN (xs ++ ys) = flatN xs ++ flatN ys := by simp [flatN]
theorem flatN_len (ns : List Nd) : (flatN ns).length = ns.length * 6 := by
  induction ns with
  | nil => rfl
  | cons x ns ih => rw [flatN_cons, List.length_append, ih]; simp [Nd.cells]; omega

theorem flatN_get : ∀ (ns : List Nd) (i j : Nat), j < 6 → (flatN ns)[i * 6 + j]? = (ns[i]?).bind (fun x => x.cells[j]?)
  | [], i, j, _ => by simp [flatN]
  | x :: ns, 0, j, h => by
    rw [flatN_cons, List.getElem?_append_left (by simp [Nd.cells]; omega)]
    simp
  | x :: ns, i + 1, j, h => by
    rw [flatN_cons, List.getElem?_append_right (by simp [Nd.cells]; omega), show (i + 1) * 6 + j - x.cells.length = i * 6 + j by simp [Nd.cells]; omega, flatN_get ns i j h]
    simp

/-- The six cells of a place lie from an address on. -/
structure NodeAt (w : World) (b o : Nat) (x : Nd) : Prop where
  c0 : w.cell? ⟨b, o, none⟩ = some (.int .i64 x.key)
  c1 : w.cell? ⟨b, o + 1, none⟩ = some (.int .i64 x.val)
  c2 : w.cell? ⟨b, o + 2, none⟩ = some (.int .i64 x.word)
  c3 : w.cell? ⟨b, o + 3, none⟩ = some (.int .i64 x.ver)
  c4 : w.cell? ⟨b, o + 4, none⟩ = some (.bool x.used)
  c5 : w.cell? ⟨b, o + 5, none⟩ = some (.int .i64 x.gen)

theorem NodeAt.below {w w' : World} {b o : Nat} {x : Nd} (h : NodeAt w b o x) (hb : Below w.heap.size w w') : NodeAt w' b o x :=
  ⟨cell_kept hb h.c0, cell_kept hb h.c1, cell_kept hb h.c2, cell_kept hb h.c3, cell_kept hb h.c4, cell_kept hb h.c5⟩

/-- The slice of length n at a reads as the places ns. -/
def SNodes (w : World) (a : Option Addr) (n : Nat) (ns : List Nd) : Prop :=
  ns.length = n ∧ (n = 0 ∨ ∃ b off, a = some ⟨b, off, none⟩ ∧ ∀ i x, ns[i]? = some x → NodeAt w b (off + i * 6) x)

theorem SNodes.below {w w' : World} {a : Option Addr} {n : Nat} {ns : List Nd} (h : SNodes w a n ns) (hb : Below w.heap.size w w') : SNodes w' a n ns := by
  obtain ⟨hz, h0 | ⟨b, off, rfl, hc⟩⟩ := h
  · exact ⟨hz, .inl h0⟩
  · exact ⟨hz, .inr ⟨b, off, rfl, fun i x hi => (hc i x hi).below hb⟩⟩

/-- A place of a slice. -/
theorem SNodes.at {w : World} {a : Option Addr} {n : Nat} {ns : List Nd} (h : SNodes w a n ns) {k : Nat} (hk : k < n) : ∃ b off x, a = some ⟨b, off, none⟩ ∧ ns[k]? = some x ∧ NodeAt w b (off + k * 6) x := by
  obtain ⟨hz, h0 | ⟨b, off, rfl, hc⟩⟩ := h
  · omega
  · have hx : ns[k]? = some ns[k] := List.getElem?_eq_getElem (by omega)
    exact ⟨b, off, _, rfl, hx, hc k _ hx⟩

theorem own6_cell {w : World} {base : Nat} {e : TypeId} {g n cap : Nat} {ns : List Nd} (h : w.ownsRow base e 6 (.slice (some ⟨g, 0, none⟩) n cap) n (flatN ns)) {i : Nat} {x : Nd} (hx : ns[i]? = some x) : NodeAt w g (i * 6) x := by
  have hl : ns.length = n := by have := h.1; rw [flatN_len] at this; omega
  have hi : i < n := by have := (List.getElem?_eq_some_iff.1 hx).1; omega
  have key : ∀ j, j < 6 → w.cell? ⟨g, i * 6 + j, none⟩ = x.cells[j]? := fun j hj => by
    rw [h.cellAt (i * 6 + j) (by omega), flatN_get ns i j hj, hx]; rfl
  exact ⟨key 0 (by omega), key 1 (by omega), key 2 (by omega), key 3 (by omega), key 4 (by omega), key 5 (by omega)⟩

theorem own6_len {w : World} {base : Nat} {e : TypeId} {v : Value} {n : Nat} {ns : List Nd} (h : w.ownsRow base e 6 v n (flatN ns)) : ns.length = n := by
  have := h.1
  rw [flatN_len] at this
  omega

theorem own6_snodes {w : World} {base : Nat} {e : TypeId} {a : Option Addr} {n cap : Nat} {ns : List Nd} (h : w.ownsRow base e 6 (.slice a n cap) n (flatN ns)) : SNodes w a n ns := by
  refine ⟨own6_len h, ?_⟩
  rcases h.2 with ⟨e, rfl⟩ | ⟨g, cap', cur, e, hg, hh, hc, hm, hs, ht⟩
  · exact .inl rfl
  · cases e
    exact .inr ⟨g, 0, rfl, fun i x hx => by rw [Nat.zero_add]; exact own6_cell h hx⟩

theorem own6_shape {w : World} {base : Nat} {e : TypeId} {v : Value} {n : Nat} {ns : List Nd} (h : w.ownsRow base e 6 v n (flatN ns)) : ∃ a cap, v = .slice a n cap ∧ n ≤ cap ∧ (a = none ∧ n = 0 ∧ cap = 0 ∨ ∃ g, a = some ⟨g, 0, none⟩) := by
  rcases h.2 with ⟨rfl, rfl⟩ | ⟨g, cap, cur, rfl, hg, hh, hc, hm, hs, ht⟩
  · exact ⟨none, 0, rfl, Nat.le_refl _, .inl ⟨rfl, rfl, rfl⟩⟩
  · exact ⟨_, cap, rfl, hc, .inr ⟨g, rfl⟩⟩

/-- The world with a place's six cells written. -/
abbrev put6 (W : World) (g o : Nat) (x : Nd) : World :=
  (((((W.setCell ⟨g, o, none⟩ (.int .i64 x.key)).setCell ⟨g, o + 1, none⟩ (.int .i64 x.val)).setCell ⟨g, o + 2, none⟩ (.int .i64 x.word)).setCell ⟨g, o + 3, none⟩ (.int .i64 x.ver)).setCell ⟨g, o + 4, none⟩ (.bool x.used)).setCell ⟨g, o + 5, none⟩ (.int .i64 x.gen)

theorem flatN_set : ∀ (ns : List Nd) (i : Nat) (x : Nd),
    ((((((flatN ns).set (i * 6) (.int .i64 x.key)).set (i * 6 + 1) (.int .i64 x.val)).set (i * 6 + 2) (.int .i64 x.word)).set (i * 6 + 3) (.int .i64 x.ver)).set (i * 6 + 4) (.bool x.used)).set (i * 6 + 5) (.int .i64 x.gen) = flatN (ns.set i x)
  | [], i, x => by simp [flatN]
  | y :: ns, 0, x => by simp [flatN_cons, Nd.cells]
  | y :: ns, i + 1, x => by
    have ih := flatN_set ns i x
    have h : ∀ (l : List Value) (j : Nat) (v : Value), (y.cells ++ l).set ((i + 1) * 6 + j) v = y.cells ++ l.set (i * 6 + j) v := fun l j v => by
      rw [List.set_append_right _ _ (by simp [Nd.cells]; omega)]
      congr 2
      simp [Nd.cells]
      omega
    have h0 : ∀ (l : List Value) (v : Value), (y.cells ++ l).set ((i + 1) * 6) v = y.cells ++ l.set (i * 6) v := fun l v => h l 0 v
    rw [List.set_cons_succ, flatN_cons y (ns.set i x), ← ih, flatN_cons, h0, h, h, h, h, h]

theorem grown_trans {w w1 w2 : World} {r : Option Nat} (h : w.grownBy w1 r) (k : w1.grownBy w2 r) : w.grownBy w2 r :=
  ⟨k.os.trans h.os, k.tape.trans h.tape, k.output.trans h.output, Nat.le_trans h.size k.size, fun c hc hne => (k.block c (Nat.lt_of_lt_of_le hc h.size) hne).trans (h.block c hc hne)⟩

/-- What an own row of places is behind the writing of one. -/
theorem own6_put {W : World} {base : Nat} {e : TypeId} {g n cap : Nat} {ns : List Nd} (h : W.ownsRow base e 6 (.slice (some ⟨g, 0, none⟩) n cap) n (flatN ns)) (i : Nat) (x : Nd) :
    (put6 W g (i * 6) x).ownsRow base e 6 (.slice (some ⟨g, 0, none⟩) n cap) n (flatN (ns.set i x)) ∧ W.grownBy (put6 W g (i * 6) x) (some g) ∧ (put6 W g (i * 6) x).heap.size = W.heap.size := by
  have s0 := h.stored (i * 6) (.int .i64 x.key)
  have s1 := s0.1.stored (i * 6 + 1) (.int .i64 x.val)
  have s2 := s1.1.stored (i * 6 + 2) (.int .i64 x.word)
  have s3 := s2.1.stored (i * 6 + 3) (.int .i64 x.ver)
  have s4 := s3.1.stored (i * 6 + 4) (.bool x.used)
  have s5 := s4.1.stored (i * 6 + 5) (.int .i64 x.gen)
  refine ⟨?_, grown_trans s0.2 (grown_trans s1.2 (grown_trans s2.2 (grown_trans s3.2 (grown_trans s4.2 s5.2)))), by simp⟩
  have := s5.1
  rw [flatN_set] at this
  exact this

theorem set_take_succ {α : Type} (ys zs : List α) (k : Nat) (x : α) (hx : zs[k]? = some x) (hy : k < ys.length) (h : ys.take k = zs.take k) : (ys.set k x).take (k + 1) = zs.take (k + 1) := by
  obtain ⟨hk, e⟩ := List.getElem?_eq_some_iff.1 hx
  rw [List.take_succ_eq_append_getElem (by simpa using hy), List.take_succ_eq_append_getElem hk, List.take_set, List.set_eq_of_length_le (by simp; omega), h]
  simp [e]

theorem Try.info86 : (Try.prog.info? 86).map (fun i => (i.zero, i.size, i.bytes)) = some (some (.agg #[.int .i64 0, .int .i64 0, .int .i64 0, .int .i64 0, .bool false, .int .i64 0]), 6, 48) := by kernel_rfl

set_option maxHeartbeats 400000 in
theorem toArnNode_any (k v o r : Int) (u : Bool) (g : Int) (w : World) :
    Calls Try.prog 57 #[.agg #[.int .i64 k, .int .i64 v, .int .i64 o, .int .i64 r, .bool u, .int .i64 g]] w fun e w' => e = .returned (.agg #[.int .i64 k, .int .i64 v, .int .i64 o, .int .i64 r, .bool u, .int .i64 g]) ∧ Below w.heap.size w w' := by
  go_enter Try.func57, Try.ntmps57
  go_wp2
  exact bodyPost_ret (v := .agg #[.int .i64 k, .int .i64 v, .int .i64 o, .int .i64 r, .bool u, .int .i64 g]) (by simp [results, Try.results57, go_sem]) rfl ⟨rfl, (((Below.refl _ _).alloc (Nat.le_refl _) _).alloc (by simp) _).alloc (by simp; omega) _⟩

end Go.Proofs.Ytklpdpdjblakgaa

/- Nodes2 -/
namespace Go.Proofs.Ytklpdpdjblakgaa
open Go.RowKit
set_option linter.unusedVariables false

theorem made_nodes (n : Nat) : (madeCells #[Value.int .i64 0, Value.int .i64 0, Value.int .i64 0, Value.int .i64 0, Value.bool false, Value.int .i64 0] (n * 6)).toList = flatN (List.replicate n Nd.zero) := by
  apply List.ext_getElem?
  intro i
  obtain ⟨q, r, rfl, hr⟩ : ∃ q r, i = q * 6 + r ∧ r < 6 := ⟨i / 6, i % 6, by omega, by omega⟩
  have hm : (q * 6 + r) % 6 = r := by omega
  rw [flatN_get _ _ _ hr]
  by_cases hi : q < n
  · have h1 : q * 6 + r < n * 6 := by omega
    have h6 : r = 0 ∨ r = 1 ∨ r = 2 ∨ r = 3 ∨ r = 4 ∨ r = 5 := by omega
    rcases h6 with rfl | rfl | rfl | rfl | rfl | rfl <;> simp [madeCells, hm, h1, hi, Nd.cells, Nd.zero]
  · have h1 : ¬ q * 6 + r < n * 6 := by omega
    simp [madeCells, h1, hi]

set_option maxHeartbeats 800000 in
theorem toArnNodeS_any (a : Option Addr) (n cap : Nat) (ns : List Nd) (w : World) (hs : SNodes w a n ns) (hn : n ≤ 1048576) :
    Calls Try.prog 32 #[.slice a n cap] w fun e w' => e = .returned (.slice (some ⟨w.heap.size, 0, none⟩) n n) ∧
      w'.ownsRow w.heap.size 86 6 (.slice (some ⟨w.heap.size, 0, none⟩) n n) n (flatN ns) ∧ Below w.heap.size w w' := by
  obtain ⟨i0, hi, hz0, hz1, hz2⟩ := info_parts Try.info86
  have hzl : Hid (ns.length = n) := hs.1
  go_enter Try.func32, Try.ntmps32
  go_wp2_with (at_make; refine wpList_make_full _ rfl _ _ 41 rfl w.heap.size 86 i0 (.agg #[.int .i64 0, .int .i64 0, .int .i64 0, .int .i64 0, .bool false, .int .i64 0]) 6 Try.underlying41 hi hz0 hz1 _ _ _ _ n rfl rfl rfl rfl ?b2 ?b3 (Nat.le_refl _) ?_)
  case b2 => rw [hz2]; omega
  case b3 => unfold maxLen; omega
  intro w0 hown0 hgrow0
  rw [made_nodes] at hown0
  go_wp2
  go_loopw [4] (fun i wr => ∃ (k : Nat) (ys : List Nd), k ≤ n ∧ i = .int .i64 k ∧ wr.ownsRow w.heap.size 86 6 (.slice (some ⟨w.heap.size, 0, none⟩) n n) n (flatN ys) ∧ ys.take k = ns.take k ∧ Below w.heap.size w wr)
    (fun i _ => n - (intOf i).toNat)
  case atStart => exact ⟨0, _, Nat.zero_le _, rfl, hown0, by simp, (Below.refl _ _).grown hgrow0 (Nat.le_refl _) (fun k h => by cases h)⟩
  case round =>
    obtain ⟨k, ys, hk, rfl, hown, htake, hbel⟩ := hrel
    by_cases hlt : k < n
    · have hyl := own6_len hown
      obtain ⟨b, off, ⟨x0, x1, x2, x3, x4, x5⟩, rfl, hx, hN⟩ := (hs.below hbel).at hlt
      have n0 := hN.c0
      have n1 := hN.c1
      have n2 := hN.c2
      have n3 := hN.c3
      have n4 := hN.c4
      have n5 := hN.c5
      dsimp only at n0 n1 n2 n3 n4 n5
      have HS : Hid ((ys.set k ⟨x0, x1, x2, x3, x4, x5⟩).take (k + 1) = ns.take (k + 1)) := set_take_succ ys ns k _ hx (by omega) htake
      clear hx htake hN hs
      go_wp2_with fail
      refine (toArnNode_any _ _ _ _ _ _ _).mono ?_
      rintro e w1 ⟨rfl, hb1⟩
      have hown1 := ownsRow_below hown hb1
      have hbel1 := below_trans' hbel hb1
      obtain ⟨y, hy⟩ : ∃ y, ys[k]? = some y := ⟨_, List.getElem?_eq_getElem (by omega)⟩
      have hO := own6_cell hown1 hy
      have o0 := hO.c0
      have o1 := hO.c1
      have o2 := hO.c2
      have o3 := hO.c3
      have o4 := hO.c4
      have o5 := hO.c5
      have f0 := hown1.frozenAt (k * 6)
      have f1 := hown1.frozenAt (k * 6 + 1)
      have f2 := hown1.frozenAt (k * 6 + 2)
      have f3 := hown1.frozenAt (k * 6 + 3)
      have f4 := hown1.frozenAt (k * 6 + 4)
      have f5 := hown1.frozenAt (k * 6 + 5)
      have hp := own6_put hown1 k ⟨x0, x1, x2, x3, x4, x5⟩
      have R : Hid ((put6 w1 w.heap.size (k * 6) ⟨x0, x1, x2, x3, x4, x5⟩).ownsRow w.heap.size 86 6 (.slice (some ⟨w.heap.size, 0, none⟩) n n) n (flatN (ys.set k ⟨x0, x1, x2, x3, x4, x5⟩)) ∧ Below w.heap.size w (put6 w1 w.heap.size (k * 6) ⟨x0, x1, x2, x3, x4, x5⟩)) :=
        ⟨hp.1, hbel1.grown hp.2.1 hbel1.size (fun c e => by cases e; exact Nat.le_refl _)⟩
      clear hown hown1 hbel hbel1 hb1 hyl hp hO hy n0 n1 n2 n3 n4 n5
      go_wp2
      go_roundw
      case rel => exact ⟨k + 1, _, by omega, by go_num, R.out.1, HS.out, R.out.2⟩
      case measure => simp [intOf]; omega
    · obtain rfl : k = n := by omega
      have hyl := own6_len hown
      have e : ys = ns := by
        rw [List.take_of_length_le (by omega), List.take_of_length_le (by have := hzl.out; omega)] at htake
        exact htake
      subst e
      have HO : Hid (wr.ownsRow w.heap.size 86 6 (.slice (some ⟨w.heap.size, 0, none⟩) k k) k (flatN ys)) := hown
      clear hown htake hyl hs
      go_wp2
      go_ret
      exact ⟨rfl, HO.out, hbel⟩

set_option maxHeartbeats 400000 in
theorem eqArnNode_yes (k v o r : Int) (u : Bool) (g : Int) (w : World) :
    Calls Try.prog 66 #[.agg #[.int .i64 k, .int .i64 v, .int .i64 o, .int .i64 r, .bool u, .int .i64 g], .agg #[.int .i64 k, .int .i64 v, .int .i64 o, .int .i64 r, .bool u, .int .i64 g]] w fun e w' => e = .returned (.bool true) ∧ Below w.heap.size w w' := by
  go_enter Try.func66, Try.ntmps66
  go_wp2
  go_ret
  exact ⟨rfl, ((Below.refl _ _).alloc (Nat.le_refl _) _).alloc (by simp) _⟩

set_option maxHeartbeats 1000000 in
theorem eqArnNodeS_yes (a a' : Option Addr) (n cap cap' : Nat) (ns : List Nd) (w : World) (hs : SNodes w a n ns) (hs' : SNodes w a' n ns) (hn : n ≤ 1000000000) :
    Calls Try.prog 38 #[.slice a n cap, .slice a' n cap'] w fun e w' => e = .returned (.bool true) ∧ Below w.heap.size w w' := by
  go_enter Try.func38, Try.ntmps38
  go_wp2
  go_loopw [5] (fun i wr => ∃ k : Nat, k ≤ n ∧ i = .int .i64 k ∧ Below w.heap.size w wr) (fun i _ => n - (intOf i).toNat)
  case atStart => exact ⟨0, Nat.zero_le _, rfl, Below.refl _ _⟩
  case round =>
    obtain ⟨k, hk, rfl, hbel⟩ := hrel
    by_cases hlt : k < n
    · obtain ⟨b, off, ⟨x0, x1, x2, x3, x4, x5⟩, rfl, hx, hN⟩ := (hs.below hbel).at hlt
      obtain ⟨b', off', y, rfl, hy, hM⟩ := (hs'.below hbel).at hlt
      obtain rfl : y = ⟨x0, x1, x2, x3, x4, x5⟩ := by rw [hx] at hy; cases hy; rfl
      have n0 := hN.c0
      have n1 := hN.c1
      have n2 := hN.c2
      have n3 := hN.c3
      have n4 := hN.c4
      have n5 := hN.c5
      have m0 := hM.c0
      have m1 := hM.c1
      have m2 := hM.c2
      have m3 := hM.c3
      have m4 := hM.c4
      have m5 := hM.c5
      dsimp only at n0 n1 n2 n3 n4 n5 m0 m1 m2 m3 m4 m5
      clear hx hy hN hM hs hs'
      go_wp2
      go_region_with (go_at_call 66; refine (eqArnNode_yes _ _ _ _ _ _ _).mono ?_; rintro e w1 ⟨rfl, hb1⟩)
      all_goals
        have hb2 := below_trans' hbel (below_trans' (Below.refl _ _).drew hb1)
        clear hb1 hbel n0 n1 n2 n3 n4 n5 m0 m1 m2 m3 m4 m5
        go_wp2
        go_roundw
        case rel => exact ⟨k + 1, by omega, by go_num, hb2⟩
        case measure => simp [intOf]; omega
    · have : k = n := by omega
      subst this
      go_wp2
      go_ret
      exact ⟨rfl, hbel⟩

/-- The marks that are written into place i from k on. -/
def markN (k : Int) (i : Nat) : Nd := ⟨k + 6 * i, k + 6 * i + 1, k + 6 * i + 1 + 1, k + 6 * i + 1 + 1 + 1, (k + 6 * i + 1 + 1 + 1 + 1) % 3 == 0, k + 6 * i + 1 + 1 + 1 + 1 + 1⟩
def marksN (k : Int) (n : Nat) : List Nd := (List.range n).map (markN k)
theorem marksN_len (k : Int) (n : Nat) : (marksN k n).length = n := by simp [marksN]
theorem marksN_get (k : Int) {n i : Nat} (h : i < n) : (marksN k n)[i]? = some (markN k i) := by simp [marksN, h]

set_option maxHeartbeats 1600000 in
theorem markArnNodeS_any (a : Option Addr) (n cap base : Nat) (ns : List Nd) (k : Int) (w : World) (ho : w.ownsRow base 86 6 (.slice a n cap) n (flatN ns)) (hk0 : 0 ≤ k) (hk : k ≤ 1000000000000) (hn : n ≤ 100000000000) :
    Calls Try.prog 39 #[.slice a n cap, .int .i64 k] w fun e w' => e = .returned (.int .i64 (k + 6 * n)) ∧ w'.ownsRow base 86 6 (.slice a n cap) n (flatN (marksN k n)) ∧ w.grownBy w' (Value.ownBlock (.slice a n cap)) ∧ w'.heap.size = w.heap.size := by
  have hz := own6_len ho
  by_cases hn0 : n = 0
  · subst hn0
    obtain rfl : ns = [] := List.eq_nil_of_length_eq_zero hz
    go_enter Try.func39, Try.ntmps39
    go_wp2
    go_loop [1, 5] (fun s i => s = .int .i64 k ∧ i = .int .i64 0) (fun _ _ => 0)
    case atStart => exact ⟨rfl, rfl⟩
    case round =>
      obtain ⟨rfl, rfl⟩ := hrel
      go_wp2
      go_ret
      exact ⟨by simp, by simpa [marksN] using ho, World.grownBy.refl _ _, rfl⟩
  · obtain ⟨g, rfl⟩ : ∃ g, a = some ⟨g, 0, none⟩ := by
      rcases ho.2 with ⟨h, h0⟩ | ⟨g, c, cur, h, _⟩
      · exact absurd h0 hn0
      · cases h; exact ⟨g, rfl⟩
    go_enter Try.func39, Try.ntmps39
    go_wp2
    go_loopw [1, 5] (fun s i wr => ∃ (j : Nat) (ys : List Nd), j ≤ n ∧ i = .int .i64 j ∧ s = .int .i64 (k + 6 * j) ∧ wr.ownsRow base 86 6 (.slice (some ⟨g, 0, none⟩) n cap) n (flatN ys) ∧ ys.take j = (marksN k n).take j ∧ w.grownBy wr (some g) ∧ wr.heap.size = w.heap.size)
      (fun _ i _ => n - (intOf i).toNat)
    case atStart => exact ⟨0, ns, Nat.zero_le _, rfl, by go_num, ho, by simp, World.grownBy.refl _ _, rfl⟩
    case round =>
      obtain ⟨j, ys, hj, rfl, rfl, hown, htake, hg, hsz⟩ := hrel
      by_cases hlt : j < n
      · have hyl := own6_len hown
        obtain ⟨y, hy⟩ : ∃ y, ys[j]? = some y := ⟨_, List.getElem?_eq_getElem (by omega)⟩
        have hO := own6_cell hown hy
        have o0 := hO.c0
        have o1 := hO.c1
        have o2 := hO.c2
        have o3 := hO.c3
        have o4 := hO.c4
        have o5 := hO.c5
        have f0 := hown.frozenAt (j * 6)
        have f1 := hown.frozenAt (j * 6 + 1)
        have f2 := hown.frozenAt (j * 6 + 2)
        have f3 := hown.frozenAt (j * 6 + 3)
        have f4 := hown.frozenAt (j * 6 + 4)
        have f5 := hown.frozenAt (j * 6 + 5)
        have hp := own6_put hown j (markN k j)
        have R : Hid ((put6 wr g (j * 6) (markN k j)).ownsRow base 86 6 (.slice (some ⟨g, 0, none⟩) n cap) n (flatN (ys.set j (markN k j))) ∧ (ys.set j (markN k j)).take (j + 1) = (marksN k n).take (j + 1) ∧ w.grownBy (put6 wr g (j * 6) (markN k j)) (some g) ∧ (put6 wr g (j * 6) (markN k j)).heap.size = w.heap.size) :=
          ⟨hp.1, set_take_succ ys _ j _ (marksN_get k hlt) (by omega) htake, grown_trans hg hp.2.1, hp.2.2.trans hsz⟩
        clear hown htake hg hsz hyl hp hO hy
        go_wp2
        go_roundw
        case rel => exact ⟨j + 1, _, by omega, by go_num, by go_num, R.out⟩
        case measure => simp [intOf]; omega
      · obtain rfl : j = n := by omega
        have hyl := own6_len hown
        have e : ys = marksN k j := by
          rw [List.take_of_length_le (by omega), List.take_of_length_le (by rw [marksN_len]; omega)] at htake
          exact htake
        subst e
        have HO : Hid (wr.ownsRow base 86 6 (.slice (some ⟨g, 0, none⟩) j cap) j (flatN (marksN k j))) := hown
        clear hown htake hyl
        go_wp2
        go_ret
        exact ⟨rfl, HO.out, hg, hsz⟩

end Go.Proofs.Ytklpdpdjblakgaa

/- Inv3 -/
namespace Go.Proofs.Ytklpdpdjblakgaa
open Go.RowKit
set_option linter.unusedVariables false

/-- It hangs on the blocks from lo to hi alone. -/
def OnlyB (lo hi : Nat) (P : World → Prop) : Prop := ∀ W W' : World, P W → (∀ k, lo ≤ k → k < hi → W'.heap[k]? = W.heap[k]?) → P W'

theorem OnlyB.and {lo hi : Nat} {P Q : World → Prop} (h : OnlyB lo hi P) (k : OnlyB lo hi Q) : OnlyB lo hi (fun W => P W ∧ Q W) :=
  fun W W' hp hk => ⟨h W W' hp.1 hk, k W W' hp.2 hk⟩
theorem OnlyB.wide {lo hi lo' hi' : Nat} {P : World → Prop} (h : OnlyB lo hi P) (h1 : lo' ≤ lo) (h2 : hi ≤ hi') : OnlyB lo' hi' P :=
  fun W W' hp hk => h W W' hp (fun k a b => hk k (by omega) (by omega))
theorem onlyB_const (lo hi : Nat) (p : Prop) : OnlyB lo hi (fun _ => p) := fun _ _ h _ => h
theorem onlyB_cell {lo hi b o : Nat} {v : Value} (h1 : lo ≤ b) (h2 : b < hi) : OnlyB lo hi (fun W => W.cell? ⟨b, o, none⟩ = some v) :=
  fun W W' h hk => (World.cell?_of_block (w := W) (a := ⟨b, o, none⟩) (hk b h1 h2)).trans h

/-- A row of its own, in blocks from lo to hi. -/
def RowIn (lo hi : Nat) (e : TypeId) (sz : Nat) (v : Value) (n : Nat) (xs : List Value) (W : World) : Prop :=
  W.ownsRow lo e sz v n xs ∧ ∀ k, v.ownBlock = some k → k < hi

theorem onlyB_row (lo hi : Nat) (e : TypeId) (sz : Nat) (v : Value) (n : Nat) (xs : List Value) : OnlyB lo hi (RowIn lo hi e sz v n xs) := by
  intro W W' h hk
  refine ⟨⟨h.1.1, ?_⟩, h.2⟩
  rcases h.1.2 with h2 | ⟨g, cap, cur, hv, hg, hh, r⟩
  · exact .inl h2
  · exact .inr ⟨g, cap, cur, hv, hg, (hk g hg (h.2 g (by subst hv; rfl))).trans hh, r⟩

theorem rowIn_of {lo hi : Nat} {e : TypeId} {sz : Nat} {v : Value} {n : Nat} {xs : List Value} {W : World} (h : W.ownsRow lo e sz v n xs) (hh : W.heap.size ≤ hi) : RowIn lo hi e sz v n xs W :=
  ⟨h, fun k hk => Nat.lt_of_lt_of_le (h.lt k hk).2 hh⟩

theorem frozen_at' (W : World) (cs : Array Value) (t : TypeId) (i : Nat) {b : Nat} (hb : b = W.heap.size) : (W.alloc (.cells cs t)).frozen? ⟨b, i, none⟩ = false := by
  subst hb
  simp

structure Inv3 (w : World) (s1 s2 s3 : Nat) (Pw Px Pg : World → Prop) (W : World) : Prop where
  bel : Below w.heap.size w W
  l0 : w.heap.size ≤ s1
  l1 : s1 ≤ s2
  l2 : s2 ≤ s3
  l3 : s3 ≤ W.heap.size
  fw : OnlyB w.heap.size s1 Pw
  fx : OnlyB s1 s2 Px
  fg : OnlyB s2 s3 Pg
  hw : Pw W
  hx : Px W
  hg : Pg W

theorem Inv3.start {w W0 W1 W2 : World} {Pw Px Pg : World → Prop} (hb : Below w.heap.size w W0) (hw : Pw W0) (fw : OnlyB w.heap.size W0.heap.size Pw) (hb1 : Below W0.heap.size W0 W1) (hx : Px W1) (fx : OnlyB W0.heap.size W1.heap.size Px)
    (hb2 : Below W1.heap.size W1 W2) (hg : Pg W2) (fg : OnlyB W1.heap.size W2.heap.size Pg) : Inv3 w W0.heap.size W1.heap.size W2.heap.size Pw Px Pg W2 :=
  { bel := below_trans' (below_trans' hb hb1) hb2, l0 := hb.size, l1 := hb1.size, l2 := hb2.size, l3 := Nat.le_refl _, fw := fw, fx := fx, fg := fg,
    hw := fw W0 W2 hw (fun k _ h => ((below_trans' hb1 hb2).block k h)), hx := fx W1 W2 hx (fun k _ h => hb2.block k h), hg := hg }

theorem Inv3.below {w W W' : World} {s1 s2 s3 : Nat} {Pw Px Pg : World → Prop} (h : Inv3 w s1 s2 s3 Pw Px Pg W) (hb : Below W.heap.size W W') : Inv3 w s1 s2 s3 Pw Px Pg W' :=
  { bel := below_trans' h.bel hb, l0 := h.l0, l1 := h.l1, l2 := h.l2, l3 := Nat.le_trans h.l3 hb.size, fw := h.fw, fx := h.fx, fg := h.fg,
    hw := h.fw W W' h.hw (fun k _ hk => hb.block k (by have := h.l1; have := h.l2; have := h.l3; omega)),
    hx := h.fx W W' h.hx (fun k _ hk => hb.block k (by have := h.l2; have := h.l3; omega)),
    hg := h.fg W W' h.hg (fun k _ hk => hb.block k (by have := h.l3; omega)) }

theorem Inv3.markX {w W W' : World} {s1 s2 s3 : Nat} {Pw Px Pg Px' : World → Prop} (h : Inv3 w s1 s2 s3 Pw Px Pg W) {row : Option Nat} (hg : W.grownBy W' row) (hr : ∀ k, row = some k → s1 ≤ k ∧ k < s2) (hx : Px' W') (fx : OnlyB s1 s2 Px') : Inv3 w s1 s2 s3 Pw Px' Pg W' :=
  { bel := h.bel.grown hg h.bel.size (fun k e => by have := hr k e; have := h.l0; omega), l0 := h.l0, l1 := h.l1, l2 := h.l2, l3 := Nat.le_trans h.l3 hg.size, fw := h.fw, fx := fx, fg := h.fg,
    hw := h.fw W W' h.hw (fun k _ hk => hg.block k (by have := h.l1; have := h.l2; have := h.l3; omega) (fun e => by have := hr k e.symm; omega)),
    hx := hx,
    hg := h.fg W W' h.hg (fun k hk1 hk => hg.block k (by have := h.l3; omega) (fun e => by have := hr k e.symm; omega)) }

theorem Inv3.markG {w W W' : World} {s1 s2 s3 : Nat} {Pw Px Pg Pg' : World → Prop} (h : Inv3 w s1 s2 s3 Pw Px Pg W) {row : Option Nat} (hg : W.grownBy W' row) (hr : ∀ k, row = some k → s2 ≤ k ∧ k < s3) (hx : Pg' W') (fx : OnlyB s2 s3 Pg') : Inv3 w s1 s2 s3 Pw Px Pg' W' :=
  { bel := h.bel.grown hg h.bel.size (fun k e => by have := hr k e; have := h.l0; have := h.l1; omega), l0 := h.l0, l1 := h.l1, l2 := h.l2, l3 := Nat.le_trans h.l3 hg.size, fw := h.fw, fx := h.fx, fg := fx,
    hw := h.fw W W' h.hw (fun k _ hk => hg.block k (by have := h.l1; have := h.l2; have := h.l3; omega) (fun e => by have := hr k e.symm; have := h.l1; omega)),
    hx := h.fx W W' h.hx (fun k _ hk => hg.block k (by have := h.l2; have := h.l3; omega) (fun e => by have := hr k e.symm; omega)),
    hg := hx }

/-- The six cells of a place in a block. -/
structure BoxN (W : World) (b : Nat) (k v o r : Int) (u : Bool) (g : Int) : Prop where
  c0 : W.cell? ⟨b, 0, none⟩ = some (.int .i64 k)
  c1 : W.cell? ⟨b, 1, none⟩ = some (.int .i64 v)
  c2 : W.cell? ⟨b, 2, none⟩ = some (.int .i64 o)
  c3 : W.cell? ⟨b, 3, none⟩ = some (.int .i64 r)
  c4 : W.cell? ⟨b, 4, none⟩ = some (.bool u)
  c5 : W.cell? ⟨b, 5, none⟩ = some (.int .i64 g)
theorem BoxN.below {W W' : World} {b : Nat} {k v o r : Int} {u : Bool} {g : Int} (h : BoxN W b k v o r u g) (hb : Below W.heap.size W W') : BoxN W' b k v o r u g :=
  ⟨cell_kept hb h.c0, cell_kept hb h.c1, cell_kept hb h.c2, cell_kept hb h.c3, cell_kept hb h.c4, cell_kept hb h.c5⟩
theorem boxN_new (W : World) (k v o r : Int) (u : Bool) (g : Int) (ty : TypeId) {b : Nat} (hb : b = W.heap.size) : BoxN (W.alloc (.cells #[.int .i64 k, .int .i64 v, .int .i64 o, .int .i64 r, .bool u, .int .i64 g] ty)) b k v o r u g := by
  subst hb
  exact ⟨by simp, by simp, by simp, by simp, by simp, by simp⟩

/-- The four cells of all places in a block. -/
structure BoxA (W : World) (b : Nat) (a : Option Addr) (n cap : Nat) (t f l : Int) : Prop where
  c0 : W.cell? ⟨b, 0, none⟩ = some (.slice a n cap)
  c1 : W.cell? ⟨b, 1, none⟩ = some (.int .i64 t)
  c2 : W.cell? ⟨b, 2, none⟩ = some (.int .i64 f)
  c3 : W.cell? ⟨b, 3, none⟩ = some (.int .i64 l)

theorem BoxA.below {W W' : World} {b : Nat} {a : Option Addr} {n cap : Nat} {t f l : Int} (h : BoxA W b a n cap t f l) (hb : Below W.heap.size W W') : BoxA W' b a n cap t f l :=
  ⟨cell_kept hb h.c0, cell_kept hb h.c1, cell_kept hb h.c2, cell_kept hb h.c3⟩
theorem BoxA.lt {W : World} {b : Nat} {a : Option Addr} {n cap : Nat} {t f l : Int} (h : BoxA W b a n cap t f l) : b < W.heap.size := World.block_lt_of_cell? W ⟨b, 0, none⟩ h.c0
theorem boxA_new (W : World) (a : Option Addr) (n cap : Nat) (t f l : Int) (ty : TypeId) {b : Nat} (hb : b = W.heap.size) : BoxA (W.alloc (.cells #[.slice a n cap, .int .i64 t, .int .i64 f, .int .i64 l] ty)) b a n cap t f l := by
  subst hb
  exact ⟨by simp, by simp, by simp, by simp⟩
theorem onlyB_box {lo hi b : Nat} (a : Option Addr) (n cap : Nat) (t f l : Int) (h1 : lo ≤ b) (h2 : b < hi) : OnlyB lo hi (fun W => BoxA W b a n cap t f l) :=
  fun W W' h hk => ⟨onlyB_cell h1 h2 W W' h.c0 hk, onlyB_cell h1 h2 W W' h.c1 hk, onlyB_cell h1 h2 W W' h.c2 hk, onlyB_cell h1 h2 W W' h.c3 hk⟩

/-- The world with the four cells of all places written. -/
abbrev putA (W : World) (b : Nat) (a : Option Addr) (n cap : Nat) (t f l : Int) : World :=
  (((W.setCell ⟨b, 0, none⟩ (.slice a n cap)).setCell ⟨b, 1, none⟩ (.int .i64 t)).setCell ⟨b, 2, none⟩ (.int .i64 f)).setCell ⟨b, 3, none⟩ (.int .i64 l)
theorem own_putA {W : World} {base : Nat} {e : TypeId} {size : Nat} {v : Value} {m : Nat} {xs : List Value} (h : W.ownsRow base e size v m xs) {b : Nat} (hb : b < base) (a : Option Addr) (n cap : Nat) (t f l : Int) : (putA W b a n cap t f l).ownsRow base e size v m xs :=
  ownsRow_setCell_below (ownsRow_setCell_below (ownsRow_setCell_below (ownsRow_setCell_below h (a := ⟨b, 0, none⟩) hb _) (a := ⟨b, 1, none⟩) hb _) (a := ⟨b, 2, none⟩) hb _) (a := ⟨b, 3, none⟩) hb _
theorem below_putA {w W : World} {B : Nat} (h : Below B w W) {b : Nat} (hb : B ≤ b) (a : Option Addr) (n cap : Nat) (t f l : Int) : Below B w (putA W b a n cap t f l) :=
  (((h.setCell (p := ⟨b, 0, none⟩) hb _).setCell (p := ⟨b, 1, none⟩) hb _).setCell (p := ⟨b, 2, none⟩) hb _).setCell (p := ⟨b, 3, none⟩) hb _

/-- All places in memory of their own, in blocks from lo to hi. -/
def ArIn (lo hi b : Nat) (a : Option Addr) (n cap : Nat) (ns : List Nd) (t f l : Int) (W : World) : Prop :=
  BoxA W b a n cap t f l ∧ RowIn lo hi 86 6 (.slice a n cap) n (flatN ns) W
theorem onlyB_ar {lo hi b : Nat} (a : Option Addr) (n cap : Nat) (ns : List Nd) (t f l : Int) (h1 : lo ≤ b) (h2 : b < hi) : OnlyB lo hi (ArIn lo hi b a n cap ns t f l) :=
  (onlyB_box a n cap t f l h1 h2).and (onlyB_row lo hi _ _ _ _ _)

end Go.Proofs.Ytklpdpdjblakgaa

/- Arena -/
namespace Go.Proofs.Ytklpdpdjblakgaa
open Go.RowKit
set_option linter.unusedVariables false

theorem al1 (W : World) (o : Obj) : Below W.heap.size W (W.alloc o) := (Below.refl _ _).alloc (Nat.le_refl _) o

set_option maxHeartbeats 400000 in
theorem szArnArena_any (a : Option Addr) (n cap : Nat) (t f l : Int) (left : Int) (w : World) (hn : n ≤ 9223372036854775807) (h0 : 0 ≤ left) (hl : left ≤ 1048576) :
    Calls Try.prog 12 #[.agg #[.slice a n cap, .int .i64 t, .int .i64 f, .int .i64 l], .int .i64 left] w fun e w' => e = .returned (.int .i64 (if (n : Int) ≤ left then left - n else -1)) ∧ Below w.heap.size w w' := by
  by_cases h : (n : Int) ≤ left
  · rw [if_pos h]
    go_enter Try.func12, Try.ntmps12
    go_wp2
    go_ret
    exact ⟨rfl, (Below.refl _ _).alloc (Nat.le_refl _) _⟩
  · rw [if_neg h]
    go_enter Try.func12, Try.ntmps12
    go_wp2
    go_ret
    exact ⟨rfl, (Below.refl _ _).alloc (Nat.le_refl _) _⟩

set_option maxHeartbeats 800000 in
theorem toArnArena_any (a : Option Addr) (n cap : Nat) (ns : List Nd) (t f l : Int) (w : World) (hs : SNodes w a n ns) (hn : n ≤ 1048576) :
    Calls Try.prog 14 #[.agg #[.slice a n cap, .int .i64 t, .int .i64 f, .int .i64 l]] w fun e w' => ∃ g, w.heap.size ≤ g ∧ e = .returned (.agg #[.slice (some ⟨g, 0, none⟩) n n, .int .i64 t, .int .i64 f, .int .i64 l]) ∧
      w'.ownsRow w.heap.size 86 6 (.slice (some ⟨g, 0, none⟩) n n) n (flatN ns) ∧ Below w.heap.size w w' := by
  have B3 := below_trans' (below_trans' (al1 w (.cells #[.slice a n cap, .int .i64 t, .int .i64 f, .int .i64 l] 32)) (al1 _ (.cells #[.slice none 0 0, .int .i64 0, .int .i64 0, .int .i64 0] 43))) (al1 _ (.cells #[.slice none 0 0, .int .i64 0, .int .i64 0, .int .i64 0] 43))
  have bx0 := ((boxA_new w a n cap t f l 32 rfl).below (al1 _ (.cells #[.slice none 0 0, .int .i64 0, .int .i64 0, .int .i64 0] 43))).below (al1 _ (.cells #[.slice none 0 0, .int .i64 0, .int .i64 0, .int .i64 0] 43))
  have bx1 := (boxA_new (w.alloc (.cells #[.slice a n cap, .int .i64 t, .int .i64 f, .int .i64 l] 32)) none 0 0 0 0 0 43 (b := w.heap.size + 1) (by simp)).below (al1 _ (.cells #[.slice none 0 0, .int .i64 0, .int .i64 0, .int .i64 0] 43))
  have bx2 := boxA_new ((w.alloc (.cells #[.slice a n cap, .int .i64 t, .int .i64 f, .int .i64 l] 32)).alloc (.cells #[.slice none 0 0, .int .i64 0, .int .i64 0, .int .i64 0] 43)) none 0 0 0 0 0 43 (b := w.heap.size + 1 + 1) (by simp)
  go_enter Try.func14, Try.ntmps14
  go_wp2_with fail
  refine (toArnNodeS_any _ _ _ ns _ (hs.below B3) hn).mono ?_
  rintro e w1 ⟨rfl, ho, hb⟩
  have hb' := below_trans' B3 hb
  have b0 := bx0.below hb
  have b1 := bx1.below hb
  have b2 := bx2.below hb
  have p0 := b0.c0
  have p1 := b0.c1
  have p2 := b0.c2
  have p3 := b0.c3
  have q0 := b1.c0
  have q1 := b1.c1
  have q2 := b1.c2
  have q3 := b1.c3
  have r0 := b2.c0
  have r1 := b2.c1
  have r2 := b2.c2
  have r3 := b2.c3
  have fq : ∀ j, w1.frozen? ⟨w.heap.size + 1, j, none⟩ = false := fun j => by
    rw [hb.frozen (p := ⟨w.heap.size + 1, j, none⟩) (by simp), (al1 _ _).frozen (p := ⟨w.heap.size + 1, j, none⟩) (by simp)]
    have := frozen_at' (w.alloc (.cells #[.slice a n cap, .int .i64 t, .int .i64 f, .int .i64 l] 32)) #[.slice none 0 0, .int .i64 0, .int .i64 0, .int .i64 0] 43 j (b := w.heap.size + 1) (by simp)
    exact this
  have fr : ∀ j, w1.frozen? ⟨w.heap.size + 1 + 1, j, none⟩ = false := fun j => by
    rw [hb.frozen (p := ⟨w.heap.size + 1 + 1, j, none⟩) (by simp)]
    exact frozen_at' _ _ _ j (by simp)
  have fq0 := fq 0
  have fq1 := fq 1
  have fq2 := fq 2
  have fq3 := fq 3
  have fr0 := fr 0
  have fr1 := fr 1
  have fr2 := fr 2
  have fr3 := fr 3
  simp only [World.size_alloc] at ho ⊢
  have HO : Hid (w1.ownsRow (w.heap.size + 1 + 1 + 1) 86 6 (.slice (some ⟨w.heap.size + 1 + 1 + 1, 0, none⟩) n n) n (flatN ns)) := ho
  clear ho hb hs B3 bx0 bx1 bx2 b0 b1 b2 fq fr
  go_wp2
  refine bodyPost_ret (v := .agg #[.slice (some ⟨w.heap.size + 1 + 1 + 1, 0, none⟩) n n, .int .i64 t, .int .i64 f, .int .i64 l]) (by simp [results, Try.results14, go_sem, q0, q1, q2, q3]) rfl ⟨w.heap.size + 1 + 1 + 1, by omega, rfl, own_mono (own_putA (own_putA HO.out (by omega) _ _ _ _ _ _) (by omega) _ _ _ _ _ _) (by omega), below_putA (below_putA hb' (by omega) _ _ _ _ _ _) (by omega) _ _ _ _ _ _⟩

set_option maxHeartbeats 400000 in
theorem eqArnArena_yes (a a' : Option Addr) (n cap cap' : Nat) (ns : List Nd) (t f l : Int) (w : World) (hs : SNodes w a n ns) (hs' : SNodes w a' n ns) (hn : n ≤ 1000000000) :
    Calls Try.prog 17 #[.agg #[.slice a n cap, .int .i64 t, .int .i64 f, .int .i64 l], .agg #[.slice a' n cap', .int .i64 t, .int .i64 f, .int .i64 l]] w fun e w' => e = .returned (.bool true) ∧ Below w.heap.size w w' := by
  have B2 := below_trans' (al1 w (.cells #[.slice a n cap, .int .i64 t, .int .i64 f, .int .i64 l] 43)) (al1 _ (.cells #[.slice a' n cap', .int .i64 t, .int .i64 f, .int .i64 l] 43))
  have bx0 := (boxA_new w a n cap t f l 43 rfl).below (al1 _ (.cells #[.slice a' n cap', .int .i64 t, .int .i64 f, .int .i64 l] 43))
  have bx1 := boxA_new (w.alloc (.cells #[.slice a n cap, .int .i64 t, .int .i64 f, .int .i64 l] 43)) a' n cap' t f l 43 (b := w.heap.size + 1) (by simp)
  go_enter Try.func17, Try.ntmps17
  go_wp2_with fail
  refine (eqArnNodeS_yes _ _ _ _ _ ns _ (hs.below B2) (hs'.below B2) hn).mono ?_
  rintro e w1 ⟨rfl, hb1⟩
  have hb := below_trans' B2 hb1
  have b0 := bx0.below hb1
  have b1 := bx1.below hb1
  have p1 := b0.c1
  have p2 := b0.c2
  have p3 := b0.c3
  have q1 := b1.c1
  have q2 := b1.c2
  have q3 := b1.c3
  clear hb1 B2 hs hs' bx0 bx1 b0 b1
  go_wp2
  go_ret
  exact ⟨rfl, hb⟩

set_option maxHeartbeats 400000 in
theorem markArnArena_any (a : Option Addr) (n cap base : Nat) (ns : List Nd) (t f l : Int) (k : Int) (w : World) (ho : w.ownsRow base 86 6 (.slice a n cap) n (flatN ns)) (hk0 : 0 ≤ k) (hk : k ≤ 1000000000000) (hn : n ≤ 100000000000) :
    Calls Try.prog 18 #[.agg #[.slice a n cap, .int .i64 t, .int .i64 f, .int .i64 l], .int .i64 k] w fun e w' => e = .returned (.int .i64 (k + 6 * n)) ∧ w'.ownsRow base 86 6 (.slice a n cap) n (flatN (marksN k n)) ∧ w.grownBy w' (Value.ownBlock (.slice a n cap)) := by
  go_enter Try.func18, Try.ntmps18
  go_wp2_with fail
  refine (markArnNodeS_any _ _ _ _ ns _ _ (ho.alloc _) hk0 hk hn).mono ?_
  rintro e w1 ⟨rfl, ho1, hg1, _⟩
  have hg := grown_trans (World.grownBy_alloc w _ _) hg1
  have HO : Hid (w1.ownsRow base 86 6 (.slice a n cap) n (flatN (marksN k n))) := ho1
  clear ho ho1 hg1
  go_wp2
  go_ret
  exact ⟨rfl, HO.out, hg⟩

end Go.Proofs.Ytklpdpdjblakgaa

/- Word -/
namespace Go.Proofs.Ytklpdpdjblakgaa
open Go.RowKit
set_option linter.unusedVariables false

/-- The place to which a word leads. -/
def wTo (x : Int) : Int := if inB x 19 then x / 2 else 0
/-- Whether a word is marked. -/
def wMark (x : Int) : Bool := inB x 19 && (x % 2 == 1)
/-- The word of a place and a mark. -/
def wMake (x : Int) (m : Bool) : Int := if inB x 9 then (if m then 2 * x + 1 else 2 * x) else 0

theorem inB_parts {x hi : Int} (h : inB x hi = true) : 0 ≤ x ∧ x ≤ hi := by simpa [inB] using h

theorem ret_int {k : IntKind} {a b : Int} (h : a = b) : Ending.returned (.int k a) = .returned (.int k b) := by rw [h]

set_option maxHeartbeats 400000 in
theorem specWrdTo_any (x : Int) (w : World) :
    Calls Try.prog 76 #[.int .i64 x] w fun e w' => e = .returned (.int .i64 (wTo x)) ∧ w' = w := by
  cases hx : inB x 19
  · have e : wTo x = 0 := by simp [wTo, hx]
    rw [e]
    go_enter Try.func76, Try.ntmps76
    go_wp2_with (go_at_call 77; refine (l1In_any _ _ _).mono ?_; rintro e w' ⟨rfl, rfl⟩)
    go_ret
    exact ⟨rfl, rfl⟩
  · obtain ⟨h0, h1⟩ := inB_parts hx
    have e : wTo x = x / 2 := by simp [wTo, hx]
    rw [e]
    go_enter Try.func76, Try.ntmps76
    go_wp2_with (go_at_call 77; refine (l1In_any _ _ _).mono ?_; rintro e w' ⟨rfl, rfl⟩)
    go_ret
    exact ⟨ret_int (by omega), rfl⟩

set_option maxHeartbeats 400000 in
theorem specWrdMark_any (x : Int) (w : World) :
    Calls Try.prog 53 #[.int .i64 x] w fun e w' => e = .returned (.bool (wMark x)) ∧ w' = w := by
  cases hx : inB x 19
  · have e : wMark x = false := by simp [wMark, hx]
    rw [e]
    go_enter Try.func53, Try.ntmps53
    go_wp2_with (go_at_call 77; refine (l1In_any _ _ _).mono ?_; rintro e w' ⟨rfl, rfl⟩)
    go_ret
    exact ⟨rfl, rfl⟩
  · obtain ⟨h0, h1⟩ := inB_parts hx
    go_enter Try.func53, Try.ntmps53
    go_wp2_with (go_at_call 77; refine (l1In_any _ _ _).mono ?_; rintro e w' ⟨rfl, rfl⟩)
    go_ret
    exact ⟨ret_bool (by simp [wMark, hx]), rfl⟩

set_option maxHeartbeats 400000 in
theorem valid_any (x : Int) (w : World) :
    Calls Try.prog 104 #[.int .i64 x] w fun e w' => e = .returned (.bool (inB x 19)) ∧ w' = w := by
  go_enter Try.func104, Try.ntmps104
  go_wp2_with (go_at_call 95; refine (within_any _ _ _).mono ?_; rintro e w' ⟨rfl, rfl⟩)
  go_ret
  exact ⟨rfl, rfl⟩

set_option maxHeartbeats 400000 in
theorem to_any (x : Int) (w : World) :
    Calls Try.prog 103 #[.int .i64 x] w fun e w' => e = .returned (.int .i64 (wTo x)) ∧ w' = w := by
  cases hx : inB x 19
  · have e : wTo x = 0 := by simp [wTo, hx]
    rw [e]
    go_enter Try.func103, Try.ntmps103
    go_wp2_with (go_at_call 104; refine (valid_any _ _).mono ?_; rintro e w' ⟨rfl, rfl⟩)
    go_ret
    exact ⟨rfl, rfl⟩
  · obtain ⟨h0, h1⟩ := inB_parts hx
    have e : wTo x = x / 2 := by simp [wTo, hx]
    rw [e]
    go_enter Try.func103, Try.ntmps103
    go_wp2_with (go_at_call 104; refine (valid_any _ _).mono ?_; rintro e w' ⟨rfl, rfl⟩)
    go_ret
    exact ⟨ret_int (by omega), rfl⟩

set_option maxHeartbeats 400000 in
theorem marked_any (x : Int) (w : World) :
    Calls Try.prog 89 #[.int .i64 x] w fun e w' => e = .returned (.bool (wMark x)) ∧ w' = w := by
  cases hx : inB x 19
  · have e : wMark x = false := by simp [wMark, hx]
    rw [e]
    go_enter Try.func89, Try.ntmps89
    go_wp2_with (go_at_call 104; refine (valid_any _ _).mono ?_; rintro e w' ⟨rfl, rfl⟩)
    go_ret
    exact ⟨rfl, rfl⟩
  · obtain ⟨h0, h1⟩ := inB_parts hx
    go_enter Try.func89, Try.ntmps89
    go_wp2_with (go_at_call 104; refine (valid_any _ _).mono ?_; rintro e w' ⟨rfl, rfl⟩)
    go_ret
    exact ⟨ret_bool (by simp [wMark, hx]), rfl⟩

end Go.Proofs.Ytklpdpdjblakgaa

/- Shape -/
namespace Go.Proofs.Ytklpdpdjblakgaa
open Go.RowKit
set_option linter.unusedVariables false

/-- A place is ok. -/
def okN (x : Nd) : Bool := inB x.key 99 && (inB x.val 999 && (inB x.word 19 && (decide (0 ≤ x.ver) && decide (0 ≤ x.gen))))
/-- A place can be the head. -/
def headN (x : Nd) : Bool := x.used && (x.gen == 0 && (x.key == 0 && (x.val == 0 && !wMark x.word)))
/-- The number is a place but for the head. -/
def inP (x : Int) : Bool := decide (1 ≤ x) && decide (x ≤ 9)
/-- The right shape. -/
def shapeB (ns : List Nd) (t f l : Int) : Bool := decide (ns.length = 10) && (headN (ns.getD 0 Nd.zero) && (ns.all okN && (inB t 9 && (inP f && inP l))))

theorem inP_yes {x : Int} (h : 1 ≤ x) (k : x ≤ 9) : inP x = true := by simp [inP, h, k]

/-- The number lies between two. -/
def inR (x lo hi : Int) : Bool := decide (lo ≤ x) && decide (x ≤ hi)

set_option maxHeartbeats 400000 in
theorem l1InR_any (x lo hi : Int) (w : World) :
    Calls Try.prog 77 #[.int .i64 x, .int .i64 lo, .int .i64 hi] w fun e w' => e = .returned (.bool (inR x lo hi)) ∧ w' = w := by
  by_cases h0 : lo ≤ x
  · by_cases h1 : x ≤ hi
    · go_enter Try.func77, Try.ntmps77
      go_wp2
      go_ret
      exact ⟨ret_bool (by simp [inR, h0, h1]), rfl⟩
    · go_enter Try.func77, Try.ntmps77
      go_wp2
      go_ret
      exact ⟨ret_bool (by simp [inR]; omega), rfl⟩
  · go_enter Try.func77, Try.ntmps77
    go_wp2
    go_ret
    exact ⟨ret_bool (by simp [inR]; omega), rfl⟩

set_option maxHeartbeats 400000 in
theorem isPlace_any (x : Int) (w : World) :
    Calls Try.prog 96 #[.int .i64 x] w fun e w' => e = .returned (.bool (inP x)) ∧ w' = w := by
  by_cases h0 : x = 0
  · subst h0
    go_enter Try.func96, Try.ntmps96
    go_wp2
    go_ret
    exact ⟨rfl, rfl⟩
  · have h0' : (x == 0) = false := by simpa using h0
    have e1 : decide (0 ≤ x) = decide (1 ≤ x) := by simp; omega
    have he : inB x 9 = inP x := by simp [inB, inP, e1]
    go_enter Try.func96, Try.ntmps96
    go_wp2_with (go_at_call 95; refine (within_any _ _ _).mono ?_; rintro e w' ⟨rfl, rfl⟩)
    go_ret
    exact ⟨ret_bool (by simp [h0]), rfl⟩

set_option maxHeartbeats 400000 in
theorem nodeMarked_any (k v o r : Int) (u : Bool) (g : Int) (w : World) :
    Calls Try.prog 60 #[.agg #[.int .i64 k, .int .i64 v, .int .i64 o, .int .i64 r, .bool u, .int .i64 g]] w fun e w' => e = .returned (.bool (wMark o)) ∧ Below w.heap.size w w' := by
  go_enter Try.func60, Try.ntmps60
  go_wp2_with (go_at_call 89; refine (marked_any _ _).mono ?_; rintro e w' ⟨rfl, rfl⟩)
  go_ret
  exact ⟨rfl, al1 _ _⟩

set_option maxHeartbeats 400000 in
theorem leads_any (k v o r : Int) (u : Bool) (g : Int) (w : World) :
    Calls Try.prog 88 #[.agg #[.int .i64 k, .int .i64 v, .int .i64 o, .int .i64 r, .bool u, .int .i64 g]] w fun e w' => e = .returned (.int .i64 (wTo o)) ∧ Below w.heap.size w w' := by
  go_enter Try.func88, Try.ntmps88
  go_wp2_with (go_at_call 103; refine (to_any _ _).mono ?_; rintro e w' ⟨rfl, rfl⟩)
  go_ret
  exact ⟨rfl, al1 _ _⟩

set_option maxHeartbeats 400000 in
theorem l2Node_any (k v o r : Int) (u : Bool) (g : Int) (w : World) :
    Calls Try.prog 92 #[.agg #[.int .i64 k, .int .i64 v, .int .i64 o, .int .i64 r, .bool u, .int .i64 g]] w fun e w' => e = .returned (.bool (okN ⟨k, v, o, r, u, g⟩)) ∧ Below w.heap.size w w' := by
  cases h0 : inB k 99
  · go_enter Try.func92, Try.ntmps92
    go_wp2_with (go_at_call 77; refine (l1In_any _ _ _).mono ?_; rintro e w' ⟨rfl, rfl⟩)
    go_ret
    exact ⟨ret_bool (by simp [okN, *]), al1 _ _⟩
  · skip
    cases h1 : inB v 999
    · go_enter Try.func92, Try.ntmps92
      go_wp2_with (go_at_call 77; refine (l1In_any _ _ _).mono ?_; rintro e w' ⟨rfl, rfl⟩)
      go_ret
      exact ⟨ret_bool (by simp [okN, *]), al1 _ _⟩
    · skip
      cases h2 : inB o 19
      · go_enter Try.func92, Try.ntmps92
        go_wp2_with (go_at_call 77; refine (l1In_any _ _ _).mono ?_; rintro e w' ⟨rfl, rfl⟩)
        go_ret
        exact ⟨ret_bool (by simp [okN, *]), al1 _ _⟩
      · skip
        by_cases h3 : 0 ≤ g
        rotate_left
        · go_enter Try.func92, Try.ntmps92
          go_wp2_with (go_at_call 77; refine (l1In_any _ _ _).mono ?_; rintro e w' ⟨rfl, rfl⟩)
          go_ret
          exact ⟨ret_bool (by simp [okN, *]; try omega), al1 _ _⟩
        · skip
          by_cases h4 : 0 ≤ r
          rotate_left
          · go_enter Try.func92, Try.ntmps92
            go_wp2_with (go_at_call 77; refine (l1In_any _ _ _).mono ?_; rintro e w' ⟨rfl, rfl⟩)
            go_ret
            exact ⟨ret_bool (by simp [okN, *]; try omega), al1 _ _⟩
          · skip
            go_enter Try.func92, Try.ntmps92
            go_wp2_with (go_at_call 77; refine (l1In_any _ _ _).mono ?_; rintro e w' ⟨rfl, rfl⟩)
            go_ret
            exact ⟨ret_bool (by simp [okN, *]), al1 _ _⟩

set_option maxHeartbeats 400000 in
theorem inBounds_any (k v o r : Int) (u : Bool) (g : Int) (w : World) :
    Calls Try.prog 97 #[.agg #[.int .i64 k, .int .i64 v, .int .i64 o, .int .i64 r, .bool u, .int .i64 g]] w fun e w' => e = .returned (.bool (okN ⟨k, v, o, r, u, g⟩)) ∧ Below w.heap.size w w' := by
  cases h0 : inB k 99
  · go_enter Try.func97, Try.ntmps97
    go_wp2_with (first | (go_at_call 95; refine (within_any _ _ _).mono ?_; rintro e w' ⟨rfl, rfl⟩) | (go_at_call 104; refine (valid_any _ _).mono ?_; rintro e w' ⟨rfl, rfl⟩))
    go_ret
    exact ⟨ret_bool (by simp [okN, *]), al1 _ _⟩
  · skip
    cases h1 : inB v 999
    · go_enter Try.func97, Try.ntmps97
      go_wp2_with (first | (go_at_call 95; refine (within_any _ _ _).mono ?_; rintro e w' ⟨rfl, rfl⟩) | (go_at_call 104; refine (valid_any _ _).mono ?_; rintro e w' ⟨rfl, rfl⟩))
      go_ret
      exact ⟨ret_bool (by simp [okN, *]), al1 _ _⟩
    · skip
      cases h2 : inB o 19
      · go_enter Try.func97, Try.ntmps97
        go_wp2_with (first | (go_at_call 95; refine (within_any _ _ _).mono ?_; rintro e w' ⟨rfl, rfl⟩) | (go_at_call 104; refine (valid_any _ _).mono ?_; rintro e w' ⟨rfl, rfl⟩))
        go_ret
        exact ⟨ret_bool (by simp [okN, *]), al1 _ _⟩
      · skip
        by_cases h3 : 0 ≤ r
        rotate_left
        · go_enter Try.func97, Try.ntmps97
          go_wp2_with (first | (go_at_call 95; refine (within_any _ _ _).mono ?_; rintro e w' ⟨rfl, rfl⟩) | (go_at_call 104; refine (valid_any _ _).mono ?_; rintro e w' ⟨rfl, rfl⟩))
          go_ret
          exact ⟨ret_bool (by simp [okN, *]; try omega), al1 _ _⟩
        · skip
          by_cases h4 : 0 ≤ g
          rotate_left
          · go_enter Try.func97, Try.ntmps97
            go_wp2_with (first | (go_at_call 95; refine (within_any _ _ _).mono ?_; rintro e w' ⟨rfl, rfl⟩) | (go_at_call 104; refine (valid_any _ _).mono ?_; rintro e w' ⟨rfl, rfl⟩))
            go_ret
            exact ⟨ret_bool (by simp [okN, *]; try omega), al1 _ _⟩
          · skip
            go_enter Try.func97, Try.ntmps97
            go_wp2_with (first | (go_at_call 95; refine (within_any _ _ _).mono ?_; rintro e w' ⟨rfl, rfl⟩) | (go_at_call 104; refine (valid_any _ _).mono ?_; rintro e w' ⟨rfl, rfl⟩))
            go_ret
            exact ⟨ret_bool (by simp [okN, *]), al1 _ _⟩

set_option maxHeartbeats 400000 in
theorem isHead_any (k v o r : Int) (u : Bool) (g : Int) (w : World) :
    Calls Try.prog 94 #[.agg #[.int .i64 k, .int .i64 v, .int .i64 o, .int .i64 r, .bool u, .int .i64 g]] w fun e w' => e = .returned (.bool (headN ⟨k, v, o, r, u, g⟩)) ∧ Below w.heap.size w w' := by
  cases hm : wMark o
  · go_enter Try.func94, Try.ntmps94
    go_wp2_with fail
    refine (nodeMarked_any _ _ _ _ _ _ _).mono ?_
    rintro e w1 ⟨rfl, hb⟩
    have hb' := below_trans' (al1 w _) hb
    have bx := (boxN_new w k v o r u g 86 rfl).below hb
    have n0 := bx.c0
    have n1 := bx.c1
    have n2 := bx.c2
    have n3 := bx.c3
    have n4 := bx.c4
    have n5 := bx.c5
    clear hb bx
    go_wp2
    all_goals
      go_ret
      exact ⟨ret_bool (by simp [headN, *]), hb'⟩
  · go_enter Try.func94, Try.ntmps94
    go_wp2_with fail
    refine (nodeMarked_any _ _ _ _ _ _ _).mono ?_
    rintro e w1 ⟨rfl, hb⟩
    have hb' := below_trans' (al1 w _) hb
    clear hb
    go_wp2
    go_ret
    exact ⟨ret_bool (by simp [headN, hm]), hb'⟩

end Go.Proofs.Ytklpdpdjblakgaa

/- Shape2 -/
namespace Go.Proofs.Ytklpdpdjblakgaa
open Go.RowKit
set_option linter.unusedVariables false

theorem all_okN {ns : List Nd} (h : ∀ (j : Nat) x, ns[j]? = some x → okN x = true) : ns.all okN = true := by
  rw [List.all_eq_true]
  intro x hx
  obtain ⟨i, hi, rfl⟩ := List.mem_iff_getElem.1 hx
  exact h i _ (List.getElem?_eq_getElem hi)
theorem not_all_okN {ns : List Nd} {k : Nat} {x : Nd} (h : ns[k]? = some x) (hx : okN x = false) : ns.all okN = false := by
  rw [List.all_eq_false]
  exact ⟨x, List.mem_of_getElem? h, by simp [hx]⟩
theorem shapeB_len {ns : List Nd} (t f l : Int) (h : ¬ ns.length = 10) : shapeB ns t f l = false := by simp [shapeB, h]
theorem shapeB_head {ns : List Nd} {x : Nd} (t f l : Int) (h : ns[0]? = some x) (hx : headN x = false) : shapeB ns t f l = false := by simp [shapeB, List.getD, h, hx]
theorem shapeB_ok {ns : List Nd} (t f l : Int) {k : Nat} {x : Nd} (h : ns[k]? = some x) (hx : okN x = false) : shapeB ns t f l = false := by simp [shapeB, not_all_okN h hx]
theorem shapeB_yes {ns : List Nd} {t f l : Int} (h1 : ns.length = 10) (h2 : headN (ns.getD 0 Nd.zero) = true) (h3 : ns.all okN = true) (h4 : inB t 9 = true) (h5 : inP f = true) (h6 : inP l = true) : shapeB ns t f l = true := by
  unfold shapeB
  rw [h2, h3, h4, h5, h6]
  simp [h1]
theorem shapeB_parts {ns : List Nd} {t f l : Int} (h : shapeB ns t f l = true) : ns.length = 10 ∧ headN (ns.getD 0 Nd.zero) = true ∧ (∀ (j : Nat) x, ns[j]? = some x → okN x = true) ∧ inB t 9 = true ∧ inP f = true ∧ inP l = true := by
  simp only [shapeB, Bool.and_eq_true, decide_eq_true_eq] at h
  obtain ⟨h1, h2, h3, h4, h5, h6⟩ := h
  refine ⟨h1, h2, fun j x hx => ?_, h4, h5, h6⟩
  rw [List.all_eq_true] at h3
  exact h3 x (List.mem_of_getElem? hx)

set_option maxHeartbeats 1000000 in
theorem l2Shape_head (b off cap : Nat) (ns : List Nd) (t f l : Int) (w : World) (k v o r : Int) (u : Bool) (g : Int) (hx : ns[0]? = some ⟨k, v, o, r, u, g⟩) (hN : NodeAt w b off ⟨k, v, o, r, u, g⟩) (hh : headN ⟨k, v, o, r, u, g⟩ = false) :
    Calls Try.prog 71 #[.agg #[.slice (some ⟨b, off, none⟩) 10 cap, .int .i64 t, .int .i64 f, .int .i64 l]] w fun e w' => e = .returned (.bool (shapeB ns t f l)) ∧ Below w.heap.size w w' := by
  rw [shapeB_head t f l hx hh]
  have hM := hN.below (al1 w (.cells #[.slice (some ⟨b, off, none⟩) 10 cap, .int .i64 t, .int .i64 f, .int .i64 l] 43))
  have n0 := hM.c0
  have n1 := hM.c1
  have n2 := hM.c2
  have n4 := hM.c4
  have n5 := hM.c5
  dsimp only at n0 n1 n2 n4 n5
  clear hM hN hx
  cases u
  · go_enter Try.func71, Try.ntmps71
    go_wp2
    go_ret
    exact ⟨rfl, al1 _ _⟩
  · skip
    by_cases hg : g = 0
    rotate_left
    · have hg' : (g == 0) = false := by simpa using hg
      go_enter Try.func71, Try.ntmps71
      go_wp2
      go_ret
      exact ⟨rfl, al1 _ _⟩
    · subst hg
      by_cases hk : k = 0
      rotate_left
      · have hk' : (k == 0) = false := by simpa using hk
        go_enter Try.func71, Try.ntmps71
        go_wp2
        go_ret
        exact ⟨rfl, al1 _ _⟩
      · subst hk
        by_cases hv : v = 0
        rotate_left
        · have hv' : (v == 0) = false := by simpa using hv
          go_enter Try.func71, Try.ntmps71
          go_wp2
          go_ret
          exact ⟨rfl, al1 _ _⟩
        · subst hv
          have hm : wMark o = true := by simpa [headN] using hh
          clear hh
          go_enter Try.func71, Try.ntmps71
          go_wp2_with (go_at_call 53; refine (specWrdMark_any _ _).mono ?_; rintro e w' ⟨rfl, rfl⟩)
          go_ret
          exact ⟨rfl, al1 _ _⟩

set_option maxHeartbeats 2000000 in
theorem l2Shape_any (a : Option Addr) (n cap : Nat) (ns : List Nd) (t f l : Int) (w : World) (hs : SNodes w a n ns) (hn : n ≤ 9223372036854775807) :
    Calls Try.prog 71 #[.agg #[.slice a n cap, .int .i64 t, .int .i64 f, .int .i64 l]] w fun e w' => e = .returned (.bool (shapeB ns t f l)) ∧ Below w.heap.size w w' := by
  by_cases h10 : n = 10
  rotate_left
  · have h10' : ((n : Int) == 10) = false := by simp; omega
    rw [shapeB_len t f l (by rw [hs.1]; exact h10)]
    clear hs
    go_enter Try.func71, Try.ntmps71
    go_wp2
    go_ret
    exact ⟨rfl, al1 _ _⟩
  · subst h10
    obtain ⟨b, off, ⟨k, v, o, r, u, g⟩, rfl, hx, hN⟩ := hs.at (k := 0) (by omega)
    rw [Nat.zero_mul, Nat.add_zero] at hN
    cases hh : headN ⟨k, v, o, r, u, g⟩
    · exact l2Shape_head b off cap ns t f l w k v o r u g hx hN hh
    · have hh2 := hh
      simp only [headN, Bool.and_eq_true, beq_iff_eq, Bool.not_eq_true'] at hh2
      obtain ⟨rfl, rfl, rfl, rfl, hm⟩ := hh2
      have A := al1 w (.cells #[.slice (some ⟨b, off, none⟩) 10 cap, .int .i64 t, .int .i64 f, .int .i64 l] 43)
      have bx0 := boxA_new w (some ⟨b, off, none⟩) 10 cap t f l 43 rfl
      have hM := hN.below A
      have n0 := hM.c0
      have n1 := hM.c1
      have n2 := hM.c2
      have n4 := hM.c4
      have n5 := hM.c5
      dsimp only at n0 n1 n2 n4 n5
      have HH : Hid (headN (ns.getD 0 Nd.zero) = true) := by show _ = _; simp only [List.getD, hx]; exact hh
      have HS : Hid (SNodes w (some ⟨b, off, none⟩) 10 ns) := hs
      have HA : Hid (Below w.heap.size w (w.alloc (.cells #[.slice (some ⟨b, off, none⟩) 10 cap, .int .i64 t, .int .i64 f, .int .i64 l] 43)) ∧ BoxA (w.alloc (.cells #[.slice (some ⟨b, off, none⟩) 10 cap, .int .i64 t, .int .i64 f, .int .i64 l] 43)) w.heap.size (some ⟨b, off, none⟩) 10 cap t f l) := ⟨A, bx0⟩
      clear hM hN hx hh hs A bx0
      go_enter Try.func71, Try.ntmps71
      go_wp2_with (go_at_call 53; refine (specWrdMark_any _ _).mono ?_; rintro e w' ⟨rfl, rfl⟩)
      clear n0 n1 n2 n4 n5
      go_loopw [3] (fun i wr => ∃ k : Nat, k ≤ 10 ∧ i = .int .i64 k ∧ Below w.heap.size w wr ∧ BoxA wr w.heap.size (some ⟨b, off, none⟩) 10 cap t f l ∧ ∀ (j : Nat) x, j < k → ns[j]? = some x → okN x = true) (fun i _ => 10 - (intOf i).toNat)
      case atStart => exact ⟨0, by omega, rfl, HA.out.1, HA.out.2, fun j x hj => by omega⟩
      case round =>
        obtain ⟨k, hk, rfl, hbel, hbox, hall0⟩ := hrel
        have hall : Hid (∀ (j : Nat) x, j < k → ns[j]? = some x → okN x = true) := hall0
        have c0 := hbox.c0
        clear hall0
        by_cases hlt : k < 10
        · obtain ⟨b2, off2, ⟨x0, x1, x2, x3, x4, x5⟩, eab, hx, hN⟩ := (HS.out.below hbel).at hlt
          cases eab
          have n0 := hN.c0
          have n1 := hN.c1
          have n2 := hN.c2
          have n3 := hN.c3
          have n4 := hN.c4
          have n5 := hN.c5
          dsimp only at n0 n1 n2 n3 n4 n5
          have HX : Hid (ns[k]? = some ⟨x0, x1, x2, x3, x4, x5⟩) := hx
          clear hx hN
          go_wp2_with fail
          refine (l2Node_any _ _ _ _ _ _ _).mono ?_
          rintro e w1 ⟨rfl, hb1⟩
          have hb2 := below_trans' hbel hb1
          have bx2 := hbox.below hb1
          clear n0 n1 n2 n3 n4 n5 hb1 c0 hbox hbel
          cases hok : okN ⟨x0, x1, x2, x3, x4, x5⟩
          · go_wp2
            go_ret
            exact ⟨ret_bool (shapeB_ok t f l HX.out hok).symm, hb2⟩
          · go_wp2
            go_roundw
            case rel => exact ⟨k + 1, by omega, by go_num, hb2, bx2, fun j x hj hx => by
              by_cases e : j = k
              · subst e; rw [HX.out] at hx; cases hx; exact hok
              · exact hall.out j x (by omega) hx⟩
            case measure => simp [intOf]; omega
        · obtain rfl : k = 10 := by omega
          have c1 := hbox.c1
          have c2 := hbox.c2
          have c3 := hbox.c3
          have HAll : Hid (ns.all okN = true) := all_okN (fun j x hx => hall.out j x (by have := (List.getElem?_eq_some_iff.1 hx).1; have := HS.out.1; omega) hx)
          have HL : Hid (ns.length = 10) := HS.out.1
          clear hbox hall HS HA
          have et : Hid (inR t 0 9 = inB t 9 ∧ inR f 1 9 = inP f ∧ inR l 1 9 = inP l) := ⟨rfl, rfl, rfl⟩
          cases ht : inR t 0 9
          · go_wp2_with (go_at_call 77; refine (l1InR_any _ _ _ _).mono ?_; rintro e w' ⟨rfl, rfl⟩)
            go_ret
            exact ⟨ret_bool (by simp [shapeB, ← et.out.1, ht]), hbel⟩
          · cases hf : inR f 1 9
            · go_wp2_with (go_at_call 77; refine (l1InR_any _ _ _ _).mono ?_; rintro e w' ⟨rfl, rfl⟩)
              go_ret
              exact ⟨ret_bool (by simp [shapeB, ← et.out.2.1, hf]), hbel⟩
            · cases hl : inR l 1 9
              · go_wp2_with (go_at_call 77; refine (l1InR_any _ _ _ _).mono ?_; rintro e w' ⟨rfl, rfl⟩)
                go_ret
                exact ⟨ret_bool (by simp [shapeB, ← et.out.2.2, hl]), hbel⟩
              · go_wp2_with (go_at_call 77; refine (l1InR_any _ _ _ _).mono ?_; rintro e w' ⟨rfl, rfl⟩)
                go_ret
                exact ⟨ret_bool (shapeB_yes HL.out HH.out HAll.out ht hf hl).symm, hbel⟩

set_option maxHeartbeats 2000000 in
theorem shaped_any (a : Option Addr) (n cap : Nat) (ns : List Nd) (t f l : Int) (w : World) (hs : SNodes w a n ns) (hn : n ≤ 9223372036854775807) :
    Calls Try.prog 78 #[.agg #[.slice a n cap, .int .i64 t, .int .i64 f, .int .i64 l]] w fun e w' => e = .returned (.bool (shapeB ns t f l)) ∧ Below w.heap.size w w' := by
  by_cases h10 : n = 10
  rotate_left
  · have h10' : ((n : Int) == 10) = false := by simp; omega
    rw [shapeB_len t f l (by rw [hs.1]; exact h10)]
    clear hs
    go_enter Try.func78, Try.ntmps78
    go_wp2
    go_ret
    exact ⟨rfl, al1 _ _⟩
  · subst h10
    obtain ⟨b, off, ⟨k, v, o, r, u, g⟩, rfl, hx, hN⟩ := hs.at (k := 0) (by omega)
    rw [Nat.zero_mul, Nat.add_zero] at hN
    have A := al1 w (.cells #[.slice (some ⟨b, off, none⟩) 10 cap, .int .i64 t, .int .i64 f, .int .i64 l] 43)
    have bx0 := boxA_new w (some ⟨b, off, none⟩) 10 cap t f l 43 rfl
    have hM := hN.below A
    have n0 := hM.c0
    have n1 := hM.c1
    have n2 := hM.c2
    have n3 := hM.c3
    have n4 := hM.c4
    have n5 := hM.c5
    dsimp only at n0 n1 n2 n3 n4 n5
    have HX : Hid (ns[0]? = some ⟨k, v, o, r, u, g⟩) := hx
    have HS : Hid (SNodes w (some ⟨b, off, none⟩) 10 ns) := hs
    have HA : Hid (Below w.heap.size w (w.alloc (.cells #[.slice (some ⟨b, off, none⟩) 10 cap, .int .i64 t, .int .i64 f, .int .i64 l] 43)) ∧ BoxA (w.alloc (.cells #[.slice (some ⟨b, off, none⟩) 10 cap, .int .i64 t, .int .i64 f, .int .i64 l] 43)) w.heap.size (some ⟨b, off, none⟩) 10 cap t f l) := ⟨A, bx0⟩
    clear hM hN hx hs A bx0
    go_enter Try.func78, Try.ntmps78
    go_wp2_with fail
    refine (isHead_any _ _ _ _ _ _ _).mono ?_
    rintro e w1 ⟨rfl, hb1⟩
    have hbel := below_trans' HA.out.1 hb1
    have hbox := HA.out.2.below hb1
    have c0 := hbox.c0
    have c1 := hbox.c1
    have c2 := hbox.c2
    have c3 := hbox.c3
    clear hb1 n0 n1 n2 n3 n4 n5 HA
    cases hh : headN ⟨k, v, o, r, u, g⟩
    · go_wp2
      go_ret
      exact ⟨ret_bool (shapeB_head t f l HX.out hh).symm, hbel⟩
    · have HH : Hid (headN (ns.getD 0 Nd.zero) = true) := by show _ = _; simp only [List.getD, HX.out]; exact hh
      clear hh HX
      cases ht : inB t 9
      · go_wp2_with (go_at_call 95; refine (within_any _ _ _).mono ?_; rintro e w' ⟨rfl, rfl⟩)
        go_ret
        exact ⟨ret_bool (by simp [shapeB, ht]), hbel⟩
      · cases hf : inP f
        · go_wp2_with (first | (go_at_call 95; refine (within_any _ _ _).mono ?_; rintro e w' ⟨rfl, rfl⟩) | (go_at_call 96; refine (isPlace_any _ _).mono ?_; rintro e w' ⟨rfl, rfl⟩))
          go_ret
          exact ⟨ret_bool (by simp [shapeB, hf]), hbel⟩
        · cases hl : inP l
          · go_wp2_with (first | (go_at_call 95; refine (within_any _ _ _).mono ?_; rintro e w' ⟨rfl, rfl⟩) | (go_at_call 96; refine (isPlace_any _ _).mono ?_; rintro e w' ⟨rfl, rfl⟩))
            go_ret
            exact ⟨ret_bool (by simp [shapeB, hl]), hbel⟩
          · have HT : Hid (inB t 9 = true ∧ inP f = true ∧ inP l = true) := ⟨ht, hf, hl⟩
            have HBB : Hid (Below w.heap.size w w1) := hbel
            go_wp2_with (first | (go_at_call 95; refine (within_any _ _ _).mono ?_; rintro e w' ⟨rfl, rfl⟩) | (go_at_call 96; refine (isPlace_any _ _).mono ?_; rintro e w' ⟨rfl, rfl⟩))
            clear ht hf hl c0 c1 c2 c3
            go_loopw [4, 36] (fun _ i wr => ∃ k : Nat, k ≤ 10 ∧ i = .int .i64 k ∧ Below w.heap.size w wr ∧ BoxA wr w.heap.size (some ⟨b, off, none⟩) 10 cap t f l ∧ ∀ (j : Nat) x, j < k → ns[j]? = some x → okN x = true) (fun _ i _ => 10 - (intOf i).toNat)
            case atStart => exact ⟨0, by omega, rfl, hbel, hbox, fun j x hj => by omega⟩
            case round =>
              clear hbel hbox
              obtain ⟨k, hk, rfl, hbel, hbox, hall0⟩ := hrel
              have hall : Hid (∀ (j : Nat) x, j < k → ns[j]? = some x → okN x = true) := hall0
              clear hall0
              by_cases hlt : k < 10
              · obtain ⟨b2, off2, ⟨x0, x1, x2, x3, x4, x5⟩, eab, hx, hN⟩ := (HS.out.below hbel).at hlt
                cases eab
                have n0 := hN.c0
                have n1 := hN.c1
                have n2 := hN.c2
                have n3 := hN.c3
                have n4 := hN.c4
                have n5 := hN.c5
                dsimp only at n0 n1 n2 n3 n4 n5
                have HX : Hid (ns[k]? = some ⟨x0, x1, x2, x3, x4, x5⟩) := hx
                have HBx : Hid (Below w.heap.size w (wr.alloc (.cells #[.int .i64 x0, .int .i64 x1, .int .i64 x2, .int .i64 x3, .bool x4, .int .i64 x5] 86)) ∧ BoxA (wr.alloc (.cells #[.int .i64 x0, .int .i64 x1, .int .i64 x2, .int .i64 x3, .bool x4, .int .i64 x5] 86)) w.heap.size (some ⟨b, off, none⟩) 10 cap t f l) := ⟨below_trans' hbel (al1 _ _), hbox.below (al1 _ _)⟩
                clear hx hN hbel hbox
                go_wp2_with fail
                refine (inBounds_any _ _ _ _ _ _ _).mono ?_
                rintro e w2 ⟨rfl, hb1⟩
                have hb2 := below_trans' HBx.out.1 hb1
                have bx2 := HBx.out.2.below hb1
                clear n0 n1 n2 n3 n4 n5 hb1 HBx
                cases hok : okN ⟨x0, x1, x2, x3, x4, x5⟩
                · go_wp2
                  go_ret
                  exact ⟨ret_bool (shapeB_ok t f l HX.out hok).symm, hb2⟩
                · go_wp2
                  go_roundw
                  case rel => exact ⟨k + 1, by omega, by go_num, hb2, bx2, fun j x hj hx => by
                    by_cases e : j = k
                    · subst e; rw [HX.out] at hx; cases hx; exact hok
                    · exact hall.out j x (by omega) hx⟩
                  case measure => simp [intOf]; omega
              · obtain rfl : k = 10 := by omega
                have HAll : Hid (ns.all okN = true) := all_okN (fun j x hx => hall.out j x (by have := (List.getElem?_eq_some_iff.1 hx).1; have := HS.out.1; omega) hx)
                have HL : Hid (ns.length = 10) := HS.out.1
                clear hbox hall HS
                go_wp2
                go_ret
                exact ⟨ret_bool (shapeB_yes HL.out HH.out HAll.out HT.out.1 HT.out.2.1 HT.out.2.2).symm, hbel⟩

end Go.Proofs.Ytklpdpdjblakgaa

/- Copy -/
namespace Go.Proofs.Ytklpdpdjblakgaa
open Go.RowKit
set_option linter.unusedVariables false

/-- An append onto a row of one's own, as one step of a region that draws. -/
theorem step_append_mine {P : Program} {ops : Array Oper} {o : Oper} {a : Act} {w : World} {K : Act → World → Prop} {Q : Exit → Act → World → Prop} {E : Prop}
    (hg : o.guard = none) (s x : Operand) (t : TypeId) (hop : o.op = Op.call { callee := Callee.builtin Builtin.append, args := #[s, x], argTypes := #[t, t] })
    (base : Nat) (e : TypeId) (i : TypeInfo) (z : Value) (size bytes : Nat) (h1 : P.underlying t = some (.slice e)) (h2 : P.info? e = some i) (h3 : i.zero = some z) (h4 : i.size = size) (h5 : i.bytes = bytes) (h6 : z.cells.size = size) (h7 : 0 < size)
    (v : Value) (n : Nat) (xs : List Value) (hs : a.eval s = v) (hown : w.ownsRow base e size v n xs)
    (ad : Addr) (m c : Nat) (news : List Value) (hx : a.eval x = .slice (some ad) m c) (hn : news.length = m * size) (hc : ∀ j u, news[j]? = some u → w.cell? (ad.add j) = some u) (h1c : ∀ u ∈ news, u.oneCell' = true)
    (b1 : n + m ≤ maxLen) (b2 : (n + m) * bytes ≤ 140737488355328) (hbase : base ≤ w.heap.size)
    (hK : ∀ v' w', w'.ownsRow base e size v' (n + m) (xs ++ news) → w.grownBy w' v.ownBlock → K (a.put o.dst v') w') :
    if Region.wanted o (yielded ops a.tmps) = true then Oper.wp P o a w K Q else E := by
  have hw : Region.wanted o (yielded ops a.tmps) = true := by simp [Region.wanted, hg]
  rw [if_pos hw]
  obtain ⟨v', w', hrun, r1, r2, _⟩ := run_append_own (P := P) w base t o.type e i z size bytes h1 h2 h3 h4 h5 h6 h7 v n xs hown ad m c news hn hc h1c b1 b2 hbase
  unfold Oper.wp
  simp [execOp, hop, resolve, invoke, builtin, hs, hx, hrun, Result.andThen]
  exact hK v' w' r1 r2

theorem flatN_one (ns : List Nd) : ∀ u ∈ flatN ns, u.oneCell' = true := by
  intro u hu
  simp only [flatN, List.mem_flatMap, Nd.cells] at hu
  obtain ⟨x, _, hx⟩ := hu
  simp only [List.mem_cons, List.not_mem_nil, or_false] at hx
  rcases hx with rfl | rfl | rfl | rfl | rfl | rfl <;> rfl

/-- The cells of all places, for an append. -/
theorem SNodes.src {w : World} {b off n : Nat} {ns : List Nd} (hs : SNodes w (some ⟨b, off, none⟩) n ns) : ∀ j u, (flatN ns)[j]? = some u → w.cell? ((⟨b, off, none⟩ : Addr).add j) = some u := by
  intro j u hj
  have hl := (List.getElem?_eq_some_iff.1 hj).1
  rw [flatN_len] at hl
  have hjn : j / 6 < n := by have := hs.1; omega
  obtain ⟨b', off', x, e, hx, hN⟩ := hs.at hjn
  cases e
  rw [show j = j / 6 * 6 + j % 6 by omega, flatN_get _ _ _ (by omega), hx] at hj
  have h6 : j % 6 = 0 ∨ j % 6 = 1 ∨ j % 6 = 2 ∨ j % 6 = 3 ∨ j % 6 = 4 ∨ j % 6 = 5 := by omega
  rw [Addr.add_lit]
  rcases h6 with h | h | h | h | h | h <;> simp only [h, Option.bind_some, Nd.cells, List.getElem?_cons_zero, List.getElem?_cons_succ, Option.some.injEq] at hj <;> subst hj
  · rw [show off + j = off + j / 6 * 6 by omega]; exact hN.c0
  · rw [show off + j = off + j / 6 * 6 + 1 by omega]; exact hN.c1
  · rw [show off + j = off + j / 6 * 6 + 2 by omega]; exact hN.c2
  · rw [show off + j = off + j / 6 * 6 + 3 by omega]; exact hN.c3
  · rw [show off + j = off + j / 6 * 6 + 4 by omega]; exact hN.c4
  · rw [show off + j = off + j / 6 * 6 + 5 by omega]; exact hN.c5

/-- The answer is all places, in memory of its own. -/
def ArenaRes (ns : List Nd) (n : Nat) (t f l : Int) (e : Ending) (w w' : World) : Prop :=
  ∃ a c, e = .returned (.agg #[.slice a n c, .int .i64 t, .int .i64 f, .int .i64 l]) ∧ w'.ownsRow w.heap.size 86 6 (.slice a n c) n (flatN ns) ∧ Below w.heap.size w w'

theorem BoxA.grown {W W' : World} {b : Nat} {a : Option Addr} {n cap : Nat} {t f l : Int} (h : BoxA W b a n cap t f l) {row : Option Nat} (hg : W.grownBy W' row) (hne : some b ≠ row) : BoxA W' b a n cap t f l :=
  ⟨hg.cell h.c0 hne, hg.cell h.c1 hne, hg.cell h.c2 hne, hg.cell h.c3 hne⟩
theorem BoxA.drew {W : World} {b : Nat} {a : Option Addr} {n cap : Nat} {t f l : Int} (h : BoxA W b a n cap t f l) : BoxA W.drew b a n cap t f l := ⟨h.c0, h.c1, h.c2, h.c3⟩
theorem frozen_grown {W W' : World} {row : Option Nat} (hg : W.grownBy W' row) {b o : Nat} (hb : b < W.heap.size) (hne : some b ≠ row) (h : W.frozen? ⟨b, o, none⟩ = false) : W'.frozen? ⟨b, o, none⟩ = false :=
  (World.frozen?_of_block (w := W) (a := ⟨b, o, none⟩) (hg.block b hb hne)).trans h

/-- Behind an append onto the third of three new blocks: the first two, and all that was there. -/
theorem behind_lit {w w2 : World} {a : Option Addr} {n cap : Nat} {t f l : Int} (hg : (((w.alloc (.cells #[.slice a n cap, .int .i64 t, .int .i64 f, .int .i64 l] 43)).alloc (.cells #[.slice none 0 0, .int .i64 0, .int .i64 0, .int .i64 0] 43)).alloc (.cells #[] 86)).drew.grownBy w2 (some (w.heap.size + 1 + 1))) :
    BoxA w2 w.heap.size a n cap t f l ∧ BoxA w2 (w.heap.size + 1) none 0 0 0 0 0 ∧ (∀ j, w2.frozen? ⟨w.heap.size + 1, j, none⟩ = false) ∧ Below w.heap.size w w2 := by
  have B := below_trans' (below_trans' (al1 w (.cells #[.slice a n cap, .int .i64 t, .int .i64 f, .int .i64 l] 43)) (al1 _ (.cells #[.slice none 0 0, .int .i64 0, .int .i64 0, .int .i64 0] 43))) (al1 _ (.cells #[] 86))
  have b0 := ((boxA_new w a n cap t f l 43 rfl).below (al1 _ (.cells #[.slice none 0 0, .int .i64 0, .int .i64 0, .int .i64 0] 43))).below (al1 _ (.cells #[] 86))
  have b1 := (boxA_new (w.alloc (.cells #[.slice a n cap, .int .i64 t, .int .i64 f, .int .i64 l] 43)) none 0 0 0 0 0 43 (b := w.heap.size + 1) (by simp)).below (al1 _ (.cells #[] 86))
  refine ⟨b0.drew.grown hg (by simp; omega), b1.drew.grown hg (by simp), fun j => frozen_grown hg (by simp) (by simp) ?_, B.drew.grown hg (by simp; omega) (fun k e => by cases e; omega)⟩
  show World.frozen? (World.alloc _ _) _ = false
  rw [(al1 _ _).frozen (p := ⟨w.heap.size + 1, j, none⟩) (by simp)]
  exact frozen_at' _ _ _ j (by simp)

end Go.Proofs.Ytklpdpdjblakgaa

/- Give -/
namespace Go.Proofs.Ytklpdpdjblakgaa
open Go.RowKit
set_option linter.unusedVariables false

/-- The first two blocks of a function over all places: the argument's, and the answer's. -/
structure LocA (w : World) (a : Option Addr) (n cap : Nat) (t f l : Int) (W : World) : Prop where
  bel : Below w.heap.size w W
  box : BoxA W w.heap.size a n cap t f l
  res : BoxA W (w.heap.size + 1) none 0 0 0 0 0
  fz : ∀ j, W.frozen? ⟨w.heap.size + 1, j, none⟩ = false

theorem locA_start (w : World) (a : Option Addr) (n cap : Nat) (t f l : Int) : LocA w a n cap t f l ((w.alloc (.cells #[.slice a n cap, .int .i64 t, .int .i64 f, .int .i64 l] 43)).alloc (.cells #[.slice none 0 0, .int .i64 0, .int .i64 0, .int .i64 0] 43)) :=
  { bel := below_trans' (al1 w _) (al1 _ _), box := (boxA_new w a n cap t f l 43 rfl).below (al1 _ _), res := boxA_new _ none 0 0 0 0 0 43 (by simp), fz := fun j => frozen_at' _ _ _ j (by simp) }

theorem LocA.sz {w : World} {a : Option Addr} {n cap : Nat} {t f l : Int} {W : World} (h : LocA w a n cap t f l W) : w.heap.size + 1 < W.heap.size := h.res.lt

theorem LocA.below {w : World} {a : Option Addr} {n cap : Nat} {t f l : Int} {W W' : World} (h : LocA w a n cap t f l W) (hb : Below W.heap.size W W') : LocA w a n cap t f l W' :=
  { bel := below_trans' h.bel hb, box := h.box.below hb, res := h.res.below hb, fz := fun j => (hb.frozen (p := ⟨w.heap.size + 1, j, none⟩) h.sz).trans (h.fz j) }

theorem LocA.grown {w : World} {a : Option Addr} {n cap : Nat} {t f l : Int} {W W' : World} (h : LocA w a n cap t f l W) {g : Nat} (hg : W.grownBy W' (some g)) (hlt : w.heap.size + 1 < g) : LocA w a n cap t f l W' :=
  { bel := h.bel.grown hg h.bel.size (fun k e => by cases e; omega), box := h.box.grown hg (fun e => by cases e; omega), res := h.res.grown hg (fun e => by cases e; omega),
    fz := fun j => frozen_grown hg h.sz (fun e => by cases e; omega) (h.fz j) }

/-- A copy of all places, in a variable X. -/
structure CopyA (w : World) (a0 : Option Addr) (n0 cap0 : Nat) (t f l : Int) (X g c : Nat) (ns : List Nd) (W : World) : Prop where
  loc : LocA w a0 n0 cap0 t f l W
  x : BoxA W X (some ⟨g, 0, none⟩) 10 c t f l
  own : W.ownsRow (w.heap.size + 1 + 1) 86 6 (.slice (some ⟨g, 0, none⟩) 10 c) 10 (flatN ns)
  lt0 : w.heap.size + 1 < g
  lt1 : g < X

theorem CopyA.put {w : World} {a0 : Option Addr} {n0 cap0 : Nat} {t f l : Int} {X g c : Nat} {ns : List Nd} {W : World} (h : CopyA w a0 n0 cap0 t f l X g c ns W) (k : Nat) (y : Nd) : CopyA w a0 n0 cap0 t f l X g c (ns.set k y) (put6 W g (k * 6) y) := by
  obtain ⟨h1, h2, h3⟩ := own6_put h.own k y
  exact { loc := h.loc.grown h2 h.lt0, x := h.x.grown h2 (fun e => by have h1 : X = g := Option.some.inj e; have := h.lt1; omega), own := h1, lt0 := h.lt0, lt1 := h.lt1 }

theorem CopyA.below {w : World} {a0 : Option Addr} {n0 cap0 : Nat} {t f l : Int} {X g c : Nat} {ns : List Nd} {W W' : World} (h : CopyA w a0 n0 cap0 t f l X g c ns W) (hb : Below W.heap.size W W') : CopyA w a0 n0 cap0 t f l X g c ns W' :=
  { loc := h.loc.below hb, x := h.x.below hb, own := ownsRow_below h.own hb, lt0 := h.lt0, lt1 := h.lt1 }

theorem CopyA.drew {w : World} {a0 : Option Addr} {n0 cap0 : Nat} {t f l : Int} {X g c : Nat} {ns : List Nd} {W : World} (h : CopyA w a0 n0 cap0 t f l X g c ns W) : CopyA w a0 n0 cap0 t f l X g c ns W.drew :=
  h.below (Below.refl _ _).drew

theorem copyA_start {w : World} {a0 : Option Addr} {n0 cap0 : Nat} {t f l : Int} {W W' : World} (h : LocA w a0 n0 cap0 t f l W) {ns : List Nd} {a : Option Addr} {c : Nat} (ho : W'.ownsRow W.heap.size 86 6 (.slice a 10 c) 10 (flatN ns)) (hb : Below W.heap.size W W') :
    ∃ g, a = some ⟨g, 0, none⟩ ∧ CopyA w a0 n0 cap0 t f l W'.heap.size g c ns (W'.alloc (.cells #[.slice a 10 c, .int .i64 t, .int .i64 f, .int .i64 l] 43)) := by
  obtain ⟨a', c', e, _, h0 | ⟨g, rfl⟩⟩ := own6_shape ho
  · omega
  · cases e
    have hlt := ho.lt g rfl
    have := h.sz
    exact ⟨g, rfl, { loc := (h.below hb).below (al1 _ _), x := boxA_new _ _ _ _ _ _ _ _ rfl, own := own_mono (ownsRow_below ho (al1 _ _)) (by omega), lt0 := by omega, lt1 := hlt.2 }⟩

theorem CopyA.res {w : World} {a0 : Option Addr} {n0 cap0 : Nat} {t f l : Int} {X g c : Nat} {ns : List Nd} {W : World} (h : CopyA w a0 n0 cap0 t f l X g c ns W) :
    (putA W (w.heap.size + 1) (some ⟨g, 0, none⟩) 10 c t f l).ownsRow w.heap.size 86 6 (.slice (some ⟨g, 0, none⟩) 10 c) 10 (flatN ns) ∧ Below w.heap.size w (putA W (w.heap.size + 1) (some ⟨g, 0, none⟩) 10 c t f l) :=
  ⟨own_mono (own_putA h.own (by omega) _ _ _ _ _ _) (by omega), below_putA h.loc.bel (by omega) _ _ _ _ _ _⟩

/-- What ArnGive leaves at a place. -/
def gaveN (x : Nd) : Nd := ⟨0, 0, 0, 0, false, x.gen⟩
/-- What ArnGive leaves. -/
def giveL (ns : List Nd) (at_ : Int) : List Nd := if inP at_ && (ns.getD at_.toNat Nd.zero).used then ns.set at_.toNat (gaveN (ns.getD at_.toNat Nd.zero)) else ns

end Go.Proofs.Ytklpdpdjblakgaa

/- Give2 -/
namespace Go.Proofs.Ytklpdpdjblakgaa
open Go.RowKit
set_option linter.unusedVariables false

theorem snodes_some {w : World} {a : Option Addr} {n : Nat} {ns : List Nd} (hs : SNodes w a n ns) (h : ns.length = 10) : n = 10 ∧ ∃ b off, a = some ⟨b, off, none⟩ := by
  obtain ⟨hz, h0 | ⟨b, off, rfl, hc⟩⟩ := hs
  · omega
  · exact ⟨by omega, b, off, rfl⟩

end Go.Proofs.Ytklpdpdjblakgaa

/- Path -/
namespace Go.Proofs.Ytklpdpdjblakgaa
open Go.RowKit
set_option linter.unusedVariables false

theorem wTo_bounds (x : Int) : 0 ≤ wTo x ∧ wTo x ≤ 9 := by
  unfold wTo
  split
  · rename_i h
    obtain ⟨h0, h1⟩ := inB_parts h
    omega
  · omega

/-- To which place a place leads. -/
def nextN (ns : List Nd) (p : Int) : Int := wTo (ns.getD p.toNat Nd.zero).word
/-- Where one is behind k steps; 0 is the end. -/
def stepK (ns : List Nd) (p : Int) : Nat → Int
  | 0 => p
  | k + 1 => if stepK ns p k = 0 then 0 else nextN ns (stepK ns p k)
/-- The places of the first k steps. -/
def fromTo (ns : List Nd) (p : Int) : Nat → List Int
  | 0 => []
  | k + 1 => if stepK ns p k = 0 then fromTo ns p k else fromTo ns p k ++ [stepK ns p k]

theorem stepK_bounds (ns : List Nd) {p : Int} (h : inB p 9 = true) (k : Nat) : 0 ≤ stepK ns p k ∧ stepK ns p k ≤ 9 := by
  induction k with
  | zero => exact inB_parts h
  | succ k ih =>
    unfold stepK
    split
    · omega
    · exact wTo_bounds _
theorem fromTo_len (ns : List Nd) (p : Int) (k : Nat) : (fromTo ns p k).length ≤ k := by
  induction k with
  | zero => simp [fromTo]
  | succ k ih =>
    unfold fromTo
    split
    · omega
    · simp; omega
theorem fromTo_go {ns : List Nd} {p : Int} {k : Nat} {x : Int} (e : stepK ns p k = x) (h : ¬ x = 0) : fromTo ns p (k + 1) = fromTo ns p k ++ [x] ∧ stepK ns p (k + 1) = nextN ns x := by
  subst e
  simp [fromTo, stepK, h]
theorem fromTo_end {ns : List Nd} {p : Int} {k : Nat} (h : stepK ns p k = 0) : ∀ m, k ≤ m → fromTo ns p m = fromTo ns p k ∧ stepK ns p m = 0 := by
  intro m hm
  obtain ⟨d, rfl⟩ : ∃ d, m = k + d := ⟨m - k, by omega⟩
  induction d with
  | zero => exact ⟨rfl, h⟩
  | succ d ih =>
    obtain ⟨i1, i2⟩ := ih (by omega)
    have e : k + (d + 1) = (k + d) + 1 := by omega
    rw [e]
    simp [fromTo, stepK, i1, i2]

/-- The answer is a list of numbers in memory of its own. -/
def ListI (L : List Int) (e : Ending) (w w' : World) : Prop :=
  ∃ a c, e = .returned (.slice a L.length c) ∧ w'.ownsRow w.heap.size 3 1 (.slice a L.length c) L.length (L.map (Value.int .i64)) ∧ Below w.heap.size w w'

theorem own_int_lit (w : World) (o : Obj) : ((w.alloc o).alloc (.cells #[] 3)).ownsRow (w.heap.size + 1) 3 1 (.slice (some ⟨w.heap.size + 1, 0, none⟩) 0 0) 0 [] := by
  have := World.ownsRow_lit (base := w.heap.size + 1) (e := 3) (size := 1) (w.alloc o) #[] 0 (by simp) (by decide) rfl
  simp only [World.size_alloc] at this
  exact this

/-- What stands in the loop of l2From. -/
structure FromAt (w : World) (b off cap : Nat) (t f l : Int) (a' : Option Addr) (m c' : Nat) (L : List Int) (W : World) : Prop where
  bel : Below w.heap.size w W
  box : BoxA W w.heap.size (some ⟨b, off, none⟩) 10 cap t f l
  own : W.ownsRow (w.heap.size + 1) 3 1 (.slice a' m c') m (L.map (Value.int .i64))

theorem FromAt.below {w : World} {b off cap : Nat} {t f l : Int} {a' : Option Addr} {m c' : Nat} {L : List Int} {W W' : World} (h : FromAt w b off cap t f l a' m c' L W) (hb : Below W.heap.size W W') : FromAt w b off cap t f l a' m c' L W' :=
  { bel := below_trans' h.bel hb, box := h.box.below hb, own := ownsRow_below h.own hb }

/-- Behind an append. -/
theorem FromAt.grown {w : World} {b off cap : Nat} {t f l : Int} {a' : Option Addr} {m c' : Nat} {L : List Int} {W W' : World} (h : FromAt w b off cap t f l a' m c' L W) (hg : W.grownBy W' (Value.slice a' m c').ownBlock) {a2 : Option Addr} {m2 c2 : Nat} {L2 : List Int} (ho : W'.ownsRow (w.heap.size + 1) 3 1 (.slice a2 m2 c2) m2 (L2.map (Value.int .i64))) : FromAt w b off cap t f l a2 m2 c2 L2 W' :=
  { bel := h.bel.grown hg h.bel.size (fun k e => by have := (h.own.lt k e).1; omega), box := h.box.grown hg (fun e => by have := (h.own.lt _ e.symm).1; omega), own := ho }

set_option maxRecDepth 20000 in
set_option maxHeartbeats 1000000 in
theorem l2From_any (b off cap : Nat) (ns : List Nd) (t f l p : Int) (w : World) (hs : SNodes w (some ⟨b, off, none⟩) 10 ns) (hp : inB p 9 = true) :
    Calls Try.prog 75 #[.agg #[.slice (some ⟨b, off, none⟩) 10 cap, .int .i64 t, .int .i64 f, .int .i64 l], .int .i64 p] w fun e w' => ListI (fromTo ns p 9) e w w' := by
  obtain ⟨i0, hi, hz0, hz1, hz2⟩ := info_parts Try.info3
  have A1 := al1 w (.cells #[.slice (some ⟨b, off, none⟩) 10 cap, .int .i64 t, .int .i64 f, .int .i64 l] 43)
  have I0 : Hid (FromAt w b off cap t f l (some ⟨w.heap.size + 1, 0, none⟩) 0 0 [] ((w.alloc (.cells #[.slice (some ⟨b, off, none⟩) 10 cap, .int .i64 t, .int .i64 f, .int .i64 l] 43)).alloc (.cells #[] 3))) :=
    ⟨below_trans' A1 (al1 _ _), (boxA_new w _ _ _ _ _ _ 43 rfl).below (al1 _ _), own_int_lit w _⟩
  have HS : Hid (SNodes w (some ⟨b, off, none⟩) 10 ns) := hs
  have HP : Hid (inB p 9 = true) := hp
  clear A1 hs hp
  go_enter Try.func75, Try.ntmps75
  go_wp2
  go_loopw [5, 6, 7] (fun s at_ i wr => ∃ (k m : Nat) (a' : Option Addr) (c' : Nat), k ≤ 9 ∧ m ≤ k ∧ i = .int .i64 k ∧ at_ = .int .i64 (stepK ns p k) ∧ s = .slice a' m c' ∧ FromAt w b off cap t f l a' m c' (fromTo ns p k) wr) (fun _ _ i _ => 9 - (intOf i).toNat)
  case atStart => exact ⟨0, 0, _, 0, by omega, by omega, rfl, rfl, rfl, I0.out⟩
  case round =>
    obtain ⟨k, m, a', c', hk, hmk, rfl, rfl, rfl, I⟩ := hrel
    clear I0
    obtain ⟨x, hx⟩ : ∃ x, stepK ns p k = x := ⟨_, rfl⟩
    have hxb := stepK_bounds ns HP.out k
    rw [hx] at hxb ⊢
    have HX : Hid (stepK ns p k = x) := hx
    obtain ⟨L, hL⟩ : ∃ L, fromTo ns p k = L := ⟨_, rfl⟩
    have HL : Hid (fromTo ns p k = L) := hL
    rw [hL] at I
    have HI : Hid (FromAt w b off cap t f l a' m c' L wr) := I
    obtain ⟨hx0, hx9⟩ := hxb
    clear hx hL
    by_cases hlt : k < 9
    · by_cases hz : x = 0
      · have HE := (fromTo_end (k := k) (by rw [HX.out]; exact hz) 9 (by omega)).1
        have HR : Hid (fromTo ns p 9 = L) := HE.trans HL.out
        have hml : Hid (L.length = m) := by show _ = _; have := I.own.1; simpa using this
        have hb := I.bel
        subst hz
        clear I HE
        go_wp2
        go_ret
        refine ⟨a', c', ?_⟩
        rw [HR.out, hml.out]
        exact ⟨rfl, own_mono HI.out.own (by omega), hb⟩
      · have hpos : 0 < x := by omega
        obtain ⟨j, rfl⟩ : ∃ j : Nat, x = j := ⟨x.toNat, by omega⟩
        have hj : j < 10 := by omega
        have ownA := ownsRow_below I.own (al1 wr (.cells #[.int .i64 (j : Int)] 3))
        have src : Hid (∀ (jj : Nat) u, [Value.int .i64 (j : Int)][jj]? = some u → (wr.alloc (.cells #[.int .i64 (j : Int)] 3)).cell? ((⟨wr.heap.size, 0, none⟩ : Addr).add jj) = some u) := fun jj u h => by
          have h0 : jj = 0 := by have := (List.getElem?_eq_some_iff.1 h).1; simpa using this
          subst h0
          have hu : Value.int .i64 (j : Int) = u := by simpa using h
          subst hu
          rw [Addr.add_lit]
          simp
        have hsz := I.bel.size
        clear I
        go_wp2_with (at_builtin; go_must (refine wpList_append_own _ rfl (.tmp 18) (.tmp 20) 37 rfl (w.heap.size + 1) 3 i0 (.int .i64 0) 1 8 Try.underlying37 hi hz0 hz1 hz2 rfl (by decide) _ _ _ rfl ownA ⟨wr.heap.size, 0, none⟩ 1 1 [.int .i64 (j : Int)] rfl rfl src.out (by intro u hu; simp at hu; subst hu; rfl) (by unfold maxLen; omega) (by omega) (by simp; omega) ?_))
        intro v' w2 hown hgrow _
        have hown' : w2.ownsRow (w.heap.size + 1) 3 1 v' (m + 1) ((L ++ [(j : Int)]).map (Value.int .i64)) := by rw [List.map_append]; exact hown
        obtain ⟨a2, c2, hv, _⟩ := own_shape hown'
        rw [hv] at hown' ⊢
        have I2 := (HI.out.below (al1 wr (.cells #[.int .i64 (j : Int)] 3))).grown hgrow hown'
        have q0 := I2.box.c0
        obtain ⟨b', off', ⟨y0, y1, y2, y3, y4, y5⟩, eb, hy, hN⟩ := (HS.out.below I2.bel).at (k := j) hj
        cases eb
        have n2 := hN.c2
        dsimp only at n2
        have HN : Hid (fromTo ns p (k + 1) = L ++ [(j : Int)] ∧ stepK ns p (k + 1) = wTo y2) := by
          obtain ⟨h1, h2⟩ := fromTo_go HX.out hz
          rw [HL.out] at h1
          refine ⟨h1, h2.trans ?_⟩
          simp [nextN, List.getD, hy]
        have HI2 : Hid (FromAt w b off cap t f l a2 (m + 1) c2 (L ++ [(j : Int)]) w2) := I2
        clear hown hown' hgrow hv hN hy I2 ownA src HI
        go_wp2_with (go_at_call 76; refine (specWrdTo_any _ _).mono ?_; rintro e w' ⟨rfl, rfl⟩)
        go_roundw
        case rel => exact ⟨k + 1, m + 1, a2, c2, by omega, by omega, by go_num, by rw [HN.out.2], rfl, by rw [HN.out.1]; exact HI2.out⟩
        case measure => simp [intOf]; omega
    · obtain rfl : k = 9 := by omega
      have hml : Hid (L.length = m) := by show _ = _; have := I.own.1; simpa using this
      have hb := I.bel
      clear I
      go_wp2
      go_ret
      refine ⟨a', c', ?_⟩
      rw [HL.out, hml.out]
      exact ⟨rfl, own_mono HI.out.own (by omega), hb⟩

end Go.Proofs.Ytklpdpdjblakgaa
