/- Parts that speak of numbers alone: bounds, places, what is met twice, lists that grow. -/
import Derived.Test.YtgcpjihjhefpnaaPool
import Derived.Deep.RegionHeldLaw
namespace Go.Proofs.Ytgcpjihjhefpnaa
open Go.RowKit
set_option linter.unusedVariables false

def inP (x : Int) : Bool := decide (1 ≤ x) && decide (x ≤ 9)
/-- The number is one of some. -/
def hasB (zs : List Int) (x : Int) : Bool := zs.any (fun z => z == x)
/-- Some places. -/
def placesB (zs : List Int) : Prop := ∀ i, i < zs.length → 1 ≤ zs.getD i 0 ∧ zs.getD i 0 ≤ 9

theorem inP_yes {x : Int} (h : 1 ≤ x) (k : x ≤ 9) : inP x = true := by simp [inP, h, k]

/-- The number lies between two. -/
def inR (x lo hi : Int) : Bool := decide (lo ≤ x) && decide (x ≤ hi)

set_option maxHeartbeats 400000 in
theorem l1InR_any (x lo hi : Int) (w : World) :
    Calls Try.prog 28 #[.int .i64 x, .int .i64 lo, .int .i64 hi] w fun e w' => e = .returned (.bool (inR x lo hi)) ∧ w' = w := by
  by_cases h0 : lo ≤ x
  · by_cases h1 : x ≤ hi
    · go_enter Try.func28, Try.ntmps28
      go_wp2
      go_ret
      exact ⟨ret_bool (by simp [inR, h0, h1]), rfl⟩
    · go_enter Try.func28, Try.ntmps28
      go_wp2
      go_ret
      exact ⟨ret_bool (by simp [inR]; omega), rfl⟩
  · go_enter Try.func28, Try.ntmps28
    go_wp2
    go_ret
    exact ⟨ret_bool (by simp [inR]; omega), rfl⟩

set_option maxHeartbeats 400000 in
theorem isPlace_any (x : Int) (w : World) :
    Calls Try.prog 51 #[.int .i64 x] w fun e w' => e = .returned (.bool (inP x)) ∧ w' = w := by
  by_cases h0 : x = 0
  · subst h0
    go_enter Try.func51, Try.ntmps51
    go_wp2
    go_ret
    exact ⟨rfl, rfl⟩
  · have h0' : (x == 0) = false := by simpa using h0
    have e1 : decide (0 ≤ x) = decide (1 ≤ x) := by simp; omega
    have he : inB x 9 = inP x := by simp [inB, inP, e1]
    go_enter Try.func51, Try.ntmps51
    go_wp2_with (go_at_call 32; refine (within_any _ _ _).mono ?_; rintro e w' ⟨rfl, rfl⟩)
    go_ret
    exact ⟨ret_bool (by simp [h0]), rfl⟩

theorem any_no {zs : List Int} {p : Int → Bool} (h : ∀ i, i < zs.length → p (zs.getD i 0) = false) : zs.any p = false := by
  rw [List.any_eq_false]
  intro x hx
  obtain ⟨i, hi, rfl⟩ := List.mem_iff_getElem.1 hx
  have := h i hi
  simpa [List.getD, hi] using this
theorem any_yes {zs : List Int} {p : Int → Bool} {i : Nat} (hi : i < zs.length) (h : p (zs.getD i 0) = true) : zs.any p = true := by
  rw [List.any_eq_true]
  exact ⟨zs[i], List.getElem_mem hi, by simpa [List.getD, hi] using h⟩
theorem all_yes {zs : List Int} {p : Int → Bool} (h : ∀ i, i < zs.length → p (zs.getD i 0) = true) : zs.all p = true := by
  rw [List.all_eq_true]
  intro x hx
  obtain ⟨i, hi, rfl⟩ := List.mem_iff_getElem.1 hx
  have := h i hi
  simpa [List.getD, hi] using this
theorem all_no {zs : List Int} {p : Int → Bool} {i : Nat} (hi : i < zs.length) (h : p (zs.getD i 0) = false) : zs.all p = false := by
  rw [List.all_eq_false]
  exact ⟨zs[i], List.getElem_mem hi, by simpa [List.getD, hi] using h⟩

set_option maxHeartbeats 800000 in
theorem l2Has_any (a : Option Addr) (n cap : Nat) (zs : List Int) (x : Int) (w : World) (hs : SInts w a n zs) (hn : n ≤ 1048576) :
    Calls Try.prog 29 #[.slice a n cap, .int .i64 x] w fun e w' => e = .returned (.bool (hasB zs x)) ∧ w' = w := by
  have HZ : Hid (zs.length = n) := hs.1
  go_enter Try.func29, Try.ntmps29
  go_wp2
  go_loop [5] (fun i => ∃ k : Nat, k ≤ n ∧ i = .int .i64 k ∧ ∀ j, j < k → (zs.getD j 0 == x) = false) (fun i => n - (intOf i).toNat)
  case atStart => exact ⟨0, Nat.zero_le _, rfl, fun j hj => by omega⟩
  case round =>
    obtain ⟨k, hk, rfl, hall0⟩ := hrel
    have hall : Hid (∀ j, j < k → (zs.getD j 0 == x) = false) := hall0
    clear hall0
    by_cases hlt : k < n
    · obtain ⟨hz, h0 | ⟨b, off, rfl, hc⟩⟩ := hs
      · omega
      · obtain ⟨y, hy⟩ : ∃ y, zs.getD k 0 = y := ⟨_, rfl⟩
        have h1 : w.cell? ⟨b, off + k, none⟩ = some (.int .i64 y) := by rw [← hy]; exact hc k hlt
        have HY : Hid (zs.getD k 0 = y) := hy
        clear hc hy hz
        cases he : (y == x)
        · go_wp2
          go_round
          case rel => exact ⟨k + 1, by omega, by go_num, fun j hj => by
            by_cases e : j = k
            · subst e; rw [HY.out]; exact he
            · exact hall.out j (by omega)⟩
          case measure => simp [intOf]; omega
        · go_wp2
          go_ret
          exact ⟨ret_bool (any_yes (i := k) (by rw [HZ.out]; exact hlt) (by rw [HY.out]; exact he)).symm, rfl⟩
    · obtain rfl : k = n := by omega
      clear hs
      go_wp2
      go_ret
      exact ⟨ret_bool (any_no (fun i hi => hall.out i (by rw [HZ.out] at hi; exact hi))).symm, rfl⟩

/-- The ten cells of what was met among some. -/
structure MetAt (w : World) (zs : List Int) (k : Nat) (wr : World) : Prop where
  bel : Below w.heap.size w wr
  lt : w.heap.size < wr.heap.size
  cell : ∀ j : Nat, j < 10 → wr.cell? ⟨w.heap.size, j, none⟩ = some (.bool (hasB (zs.take k) (j : Int)))
  free : ∀ j : Nat, j < 10 → wr.frozen? ⟨w.heap.size, j, none⟩ = false
  once : (zs.take k).Nodup

theorem hasB_iff {zs : List Int} {x : Int} : hasB zs x = true ↔ x ∈ zs := by
  unfold hasB
  rw [List.any_eq_true]
  constructor
  · rintro ⟨z, hz, h⟩
    have : z = x := by simpa using h
    exact this ▸ hz
  · intro h
    exact ⟨x, h, by simp⟩

theorem take_next {zs : List Int} {k : Nat} {y : Int} (hk : k < zs.length) (hy : zs.getD k 0 = y) : zs.take (k + 1) = zs.take k ++ [y] := by
  rw [List.take_add_one]
  have : zs[k]? = some y := by rw [← hy]; simp [List.getD, hk]
  rw [this]
  rfl

theorem MetAt.next {w wr : World} {zs : List Int} {k j : Nat} (h : MetAt w zs k wr) (hk : k < zs.length) (hy : zs.getD k 0 = (j : Int)) (hj : j < 10) (hm : hasB (zs.take k) (j : Int) = false) :
    MetAt w zs (k + 1) (wr.setCell ⟨w.heap.size, j, none⟩ (.bool true)) := by
  refine ⟨h.bel.setCell (Nat.le_refl _) _, by simpa [World.setCell] using h.lt, fun i hi => ?_, fun i hi => ?_, ?_⟩
  · rw [take_next hk hy]
    by_cases e : i = j
    · subst e
      have : hasB (zs.take k ++ [(i : Int)]) (i : Int) = true := hasB_iff.2 (by simp)
      rw [this]
      have hc := h.cell i hi
      simp [go_sem, hc]
    · have : hasB (zs.take k ++ [(j : Int)]) (i : Int) = hasB (zs.take k) (i : Int) := by
        unfold hasB
        rw [List.any_append]
        have : ((j : Int) == (i : Int)) = false := by simp; omega
        simp [this]
      rw [this]
      have hc := h.cell i hi
      simp [go_sem, hc]
  · have hf := h.free i hi
    simp [go_sem, hf]
  · rw [take_next hk hy, List.nodup_append]
    refine ⟨h.once, by simp, fun x hx y hy2 => ?_⟩
    simp at hy2
    subst hy2
    intro e
    subst e
    rw [hasB_iff.2 hx] at hm
    cases hm

set_option maxHeartbeats 1600000 in
theorem noneTwice_any (a : Option Addr) (n c : Nat) (zs : List Int) (w : World) (hz : SInts w a n zs) (hn : n ≤ 1048576) (hp : placesB zs) :
    Calls Try.prog 35 #[.slice a n c] w fun e w' => e = .returned (.bool (decide zs.Nodup)) ∧ Below w.heap.size w w' := by
  have HZ : Hid (zs.length = n) := hz.1
  have HP : Hid (placesB zs) := hp
  have HS : Hid (SInts w a n zs) := hz
  clear hz hp
  go_enter Try.func35, Try.ntmps35
  go_wp2
  go_loopw [5, 8] (fun _ i wr => ∃ k : Nat, k ≤ n ∧ i = .int .i64 k ∧ MetAt w zs k wr) (fun _ i _ => n - (intOf i).toNat)
  case atStart =>
    refine ⟨0, Nat.zero_le _, rfl, (Below.refl _ _).alloc (Nat.le_refl _) _, by simp, fun j hj => ?_, fun j hj => ?_, by simp⟩
    · have : j = 0 ∨ j = 1 ∨ j = 2 ∨ j = 3 ∨ j = 4 ∨ j = 5 ∨ j = 6 ∨ j = 7 ∨ j = 8 ∨ j = 9 := by omega
      rcases this with rfl | rfl | rfl | rfl | rfl | rfl | rfl | rfl | rfl | rfl <;> simp [hasB]
    · have : j = 0 ∨ j = 1 ∨ j = 2 ∨ j = 3 ∨ j = 4 ∨ j = 5 ∨ j = 6 ∨ j = 7 ∨ j = 8 ∨ j = 9 := by omega
      rcases this with rfl | rfl | rfl | rfl | rfl | rfl | rfl | rfl | rfl | rfl <;> simp
  case round =>
    obtain ⟨k, hk, rfl, hmet⟩ := hrel
    by_cases hlt : k < n
    · obtain ⟨_, h0 | ⟨b', off', rfl, hc⟩⟩ := HS.out.below hmet.bel
      · omega
      · obtain ⟨y, hy⟩ : ∃ y, zs.getD k 0 = y := ⟨_, rfl⟩
        have h1 : wr.cell? ⟨b', off' + k, none⟩ = some (.int .i64 y) := by rw [← hy]; exact hc k hlt
        have hyb := HP.out k (by rw [HZ.out]; exact hlt)
        rw [hy] at hyb
        obtain ⟨j, rfl⟩ : ∃ j : Nat, y = j := ⟨y.toNat, by omega⟩
        have hj : j < 10 := by omega
        have hj' : (j : Int) < 10 := by omega
        have m1 := hmet.cell j hj
        have f1 := hmet.free j hj
        have HK : Hid (MetAt w zs k wr ∧ k < zs.length ∧ zs.getD k 0 = (j : Int)) := ⟨hmet, by rw [HZ.out]; exact hlt, hy⟩
        clear hc hy hyb hmet
        cases hm : hasB (zs.take k) (j : Int)
        · rw [hm] at m1
          go_wp2
          go_roundw
          case rel => exact ⟨k + 1, by omega, by go_num, HK.out.1.next HK.out.2.1 HK.out.2.2 hj hm⟩
          case measure => simp [intOf]; omega
        · rw [hm] at m1
          go_wp2
          go_ret
          refine ⟨ret_bool (decide_eq_false ?_).symm, HK.out.1.bel⟩
          intro hd
          have := (List.take_sublist (k + 1) zs).nodup hd
          rw [take_next HK.out.2.1 HK.out.2.2, List.nodup_append] at this
          exact this.2.2 _ (hasB_iff.1 hm) _ (by simp) rfl
    · obtain rfl : k = n := by omega
      have HK : Hid (MetAt w zs k wr) := hmet
      clear hmet
      go_wp2
      go_ret
      refine ⟨ret_bool (decide_eq_true ?_).symm, HK.out.bel⟩
      have := HK.out.once
      rwa [List.take_of_length_le (by rw [HZ.out]; exact Nat.le_refl _)] at this

/-- The answer is a list of numbers in memory of its own. -/
def ListI (L : List Int) (e : Ending) (w w' : World) : Prop :=
  ∃ a c, e = .returned (.slice a L.length c) ∧ w'.ownsRow w.heap.size 3 1 (.slice a L.length c) L.length (L.map (Value.int .i64)) ∧ Below w.heap.size w w'

theorem own_int_lit (w : World) (o : Obj) : ((w.alloc o).alloc (.cells #[] 3)).ownsRow (w.heap.size + 1) 3 1 (.slice (some ⟨w.heap.size + 1, 0, none⟩) 0 0) 0 [] := by
  have := World.ownsRow_lit (base := w.heap.size + 1) (e := 3) (size := 1) (w.alloc o) #[] 0 (by simp) (by decide) rfl
  simp only [World.size_alloc] at this
  exact this

/-- An append onto a row of one's own, as one step of a region that draws. -/
theorem step_append_mine {P : Program} {ops : Array Oper} {o : Oper} {a : Act} {w : World} {K : Act → World → Prop} {Q : Exit → Act → World → Prop} {E : Prop}
    (hg : o.guard = none) (s x : Operand) (t : TypeId) (hop : o.op = Op.call { callee := Callee.builtin Builtin.append, args := #[s, x], argTypes := #[t, t] })
    (base : Nat) (e : TypeId) (i : TypeInfo) (z : Value) (size bytes : Nat) (h1 : P.underlying t = some (.slice e)) (h2 : P.info? e = some i) (h3 : i.zero = some z) (h4 : i.size = size) (h5 : i.bytes = bytes) (h6 : z.cells.size = size) (h7 : 0 < size)
    (v : Value) (n : Nat) (xs : List Value) (hs : a.eval s = v) (hown : w.ownsRow base e size v n xs)
    (ad : Addr) (m c : Nat) (news : List Value) (hx : a.eval x = .slice (some ad) m c) (hn : news.length = m * size) (hc : ∀ j u, news[j]? = some u → w.cell? (ad.add j) = some u) (h1c : ∀ u ∈ news, u.oneCell' = true)
    (b1 : n + m ≤ maxLen) (b2 : (n + m) * bytes ≤ 140737488355328) (hbase : base ≤ w.heap.size)
    (hK : ∀ v' w', w'.ownsRow base e size v' (n + m) (xs ++ news) → w.grownBy w' v.ownBlock → K (a.put o.dst v') w') :
    if Region.wanted o (yielded ops a.tmps) = true then Oper.wp P o a w K Q else E := by
  have hw : Region.wanted o (yielded ops a.tmps) = true := by simp [Region.wanted, hg]
  rw [if_pos hw]
  obtain ⟨v', w', hrun, r1, r2, _⟩ := run_append_own (P := P) w base t o.type e i z size bytes h1 h2 h3 h4 h5 h6 h7 v n xs hown ad m c news hn hc h1c b1 b2 hbase
  unfold Oper.wp
  simp [execOp, hop, resolve, invoke, builtin, hs, hx, hrun, Result.andThen]
  exact hK v' w' r1 r2

/-- An append of numbers onto numbers of one's own, as one step of a region that draws. -/
theorem step_append_ints {ops : Array Oper} {o : Oper} {a : Act} {w : World} {K : Act → World → Prop} {Q : Exit → Act → World → Prop} {E : Prop}
    (hw : Region.wanted o (yielded ops a.tmps) = true) (s x : Operand) (hop : o.op = Op.call { callee := Callee.builtin Builtin.append, args := #[s, x], argTypes := #[22, 22] })
    (base : Nat) (aa : Option Addr) (n c : Nat) (ys : List Int) (hs : a.eval s = .slice aa n c) (hown : w.ownsRow base 3 1 (.slice aa n c) n (ys.map (Value.int .i64)))
    (ad : Option Addr) (m c2 : Nat) (zs : List Int) (hx : a.eval x = .slice ad m c2) (hz : SInts w ad m zs) (hn : n ≤ 1048576) (hm : m ≤ 1048576) (hbase : base ≤ w.heap.size)
    (hK : ∀ a' c' w', w'.ownsRow base 3 1 (.slice a' (n + m) c') (n + m) ((ys ++ zs).map (Value.int .i64)) → Below base w w' → K (a.put o.dst (.slice a' (n + m) c')) w') :
    if Region.wanted o (yielded ops a.tmps) = true then Oper.wp Try.prog o a w K Q else E := by
  obtain ⟨i0, hi, hz0, hz1, hz2⟩ := info_parts Try.info3
  rw [if_pos hw]
  unfold Oper.wp
  have hr : ∀ k, (Value.slice aa n c).ownBlock = some k → base ≤ k := by
    intro k hk
    exact (hown.lt k hk).1
  cases ad with
  | none =>
    obtain ⟨hl, h0 | ⟨b, off, e, _⟩⟩ := hz
    · subst h0
      have e : zs = [] := List.eq_nil_of_length_eq_zero hl
      subst e
      have hrun := run_append_none (P := Try.prog) w base 22 o.type 3 i0 1 Try.underlying22 hi (.slice aa n c) n c2 _ hown
      simp [execOp, hop, resolve, invoke, builtin, hs, hx, hrun, Result.andThen]
      have := hK aa c w (by simpa using hown) (Below.refl _ _)
      simp only [Nat.add_zero] at this
      exact this
    · cases e
  | some ad =>
    have hsrc := hz.src_take (f := m) (Nat.le_refl _)
    have hlen : zs.length = m := hz.1
    have hc : ∀ j u, (zs.map (Value.int .i64))[j]? = some u → w.cell? (ad.add j) = some u := by
      rcases hsrc with rfl | ⟨ad', e1, h⟩
      · intro j u hj
        rw [List.eq_nil_of_length_eq_zero hlen] at hj
        simp at hj
      · cases e1
        rw [List.take_of_length_le (by omega)] at h
        exact h
    obtain ⟨v', w', hrun, r1, r2, _⟩ := run_append_own (P := Try.prog) w base 22 o.type 3 i0 (.int .i64 0) 1 8 Try.underlying22 hi hz0 hz1 hz2 rfl (by decide) _ n _ hown ad m c2 (zs.map (Value.int .i64)) (by simp [hlen]) hc (ints_oneCell _ _) (by unfold maxLen; omega) (by omega) hbase
    simp [execOp, hop, resolve, invoke, builtin, hs, hx, hrun, Result.andThen]
    have r1' := r1
    rcases r1.2 with ⟨rfl, e⟩ | ⟨g, cap, cur, rfl, _⟩
    · rw [e] at r1' 
      have := hK none 0 w' (by rw [e]; simpa using r1') ((Below.refl _ _).grown r2 hbase hr)
      rw [e] at this
      exact this
    · exact hK (some ⟨g, 0, none⟩) cap w' (by simpa using r1) ((Below.refl _ _).grown r2 hbase hr)

theorem wpList_append_ints {ops : Array Oper} {rest : List Oper} {o : Oper} {a : Act} {w : World} {Q : Exit → Act → World → Prop}
    (hg : o.guard = none) (s x : Operand) (hop : o.op = Op.call { callee := Callee.builtin Builtin.append, args := #[s, x], argTypes := #[22, 22] })
    (base : Nat) (aa : Option Addr) (n c : Nat) (ys : List Int) (hs : a.eval s = .slice aa n c) (hown : w.ownsRow base 3 1 (.slice aa n c) n (ys.map (Value.int .i64)))
    (ad : Option Addr) (m c2 : Nat) (zs : List Int) (hx : a.eval x = .slice ad m c2) (hz : SInts w ad m zs) (hn : n ≤ 1048576) (hm : m ≤ 1048576) (hbase : base ≤ w.heap.size)
    (hK : ∀ a' c' w', w'.ownsRow base 3 1 (.slice a' (n + m) c') (n + m) ((ys ++ zs).map (Value.int .i64)) → Below base w w' → wpList Try.prog ops Q rest (a.put o.dst (.slice a' (n + m) c')) w') :
    wpList Try.prog ops Q (o :: rest) a w := by
  refine wpList_plain hg fun K hK' => ?_
  have hw : Region.wanted o (yielded ops a.tmps) = true := by simp [Region.wanted, hg]
  have h := step_append_ints (K := K) (Q := Q) (E := True) hw s x hop base aa n c ys hs hown ad m c2 zs hx hz hn hm hbase (fun a' c' w' h1 h2 => hK' _ _ (hK a' c' w' h1 h2))
  rw [if_pos hw] at h
  exact h

theorem own_int_lit1 (w : World) : (w.alloc (.cells #[] 3)).ownsRow w.heap.size 3 1 (.slice (some ⟨w.heap.size, 0, none⟩) 0 0) 0 [] := by
  exact World.ownsRow_lit (base := w.heap.size) (e := 3) (size := 1) w #[] 0 (Nat.le_refl _) (by decide) rfl

theorem sints_one (w : World) (v : Int) : SInts (w.alloc (.cells #[.int .i64 v] 3)) (some ⟨w.heap.size, 0, none⟩) 1 [v] := by
  refine ⟨rfl, .inr ⟨_, _, rfl, fun i hi => ?_⟩⟩
  obtain rfl : i = 0 := by omega
  simp

end Go.Proofs.Ytgcpjihjhefpnaa
