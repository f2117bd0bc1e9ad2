/- Contracts of the specification's MapDel. -/
import Derived.Test.YtkfamlbalgolmaaDel
import Derived.Deep.RegionLaw
namespace Go.Proofs.Ytkfamlbalgolmaa
open Go.RowKit
set_option linter.unusedVariables false

/-- An append onto a row of one's own, as one step of a region that draws. -/
theorem step_append_mine {P : Program} {ops : Array Oper} {o : Oper} {a : Act} {w : World} {K : Act → World → Prop} {Q : Exit → Act → World → Prop} {E : Prop}
    (hg : o.guard = none) (s x : Operand) (t : TypeId) (hop : o.op = Op.call { callee := Callee.builtin Builtin.append, args := #[s, x], argTypes := #[t, t] })
    (base : Nat) (e : TypeId) (i : TypeInfo) (z : Value) (size bytes : Nat) (h1 : P.underlying t = some (.slice e)) (h2 : P.info? e = some i) (h3 : i.zero = some z) (h4 : i.size = size) (h5 : i.bytes = bytes) (h6 : z.cells.size = size) (h7 : 0 < size)
    (v : Value) (n : Nat) (xs : List Value) (hs : a.eval s = v) (hown : w.ownsRow base e size v n xs)
    (ad : Addr) (m c : Nat) (news : List Value) (hx : a.eval x = .slice (some ad) m c) (hn : news.length = m * size) (hc : ∀ j u, news[j]? = some u → w.cell? (ad.add j) = some u) (h1c : ∀ u ∈ news, u.oneCell' = true)
    (b1 : n + m ≤ maxLen) (b2 : (n + m) * bytes ≤ 140737488355328) (hbase : base ≤ w.heap.size)
    (hK : ∀ v' w', w'.ownsRow base e size v' (n + m) (xs ++ news) → w.grownBy w' v.ownBlock → K (a.put o.dst v') w') :
    if Region.wanted o (yielded ops a.tmps) = true then Oper.wp P o a w K Q else E := by
  have hw : Region.wanted o (yielded ops a.tmps) = true := by simp [Region.wanted, hg]
  rw [if_pos hw]
  obtain ⟨v', w', hrun, r1, r2, _⟩ := run_append_own (P := P) w base t o.type e i z size bytes h1 h2 h3 h4 h5 h6 h7 v n xs hown ad m c news hn hc h1c b1 b2 hbase
  unfold Oper.wp
  simp [execOp, hop, resolve, invoke, builtin, hs, hx, hrun, Result.andThen]
  exact hK v' w' r1 r2

/-- What the loop has gathered of the first k entries: the others' numbers, how many they are, the code and the value. -/
def delF (zs : List Int) (key : Int) : Nat → List Int × Nat × Int × Int
  | 0 => ([], 0, 1, 0)
  | k + 1 => if keyAt zs k == key then ((delF zs key k).1, (delF zs key k).2.1, 2, valAt zs k) else ((delF zs key k).1 ++ [keyAt zs k, valAt zs k], (delF zs key k).2.1 + 1, (delF zs key k).2.2.1, (delF zs key k).2.2.2)

theorem delF_le (zs : List Int) (key : Int) (k : Nat) : (delF zs key k).2.1 ≤ k := by
  induction k with
  | zero => simp [delF]
  | succ k ih => unfold delF; split <;> simp <;> omega

set_option maxHeartbeats 1000000 in
theorem specMapDel_bad (a : Option Addr) (n cap : Nat) (zs : List Int) (key : Int) (w : World) (hs : SInts w a (n * 2) zs) (hn : n ≤ 9223372036854775807) (hok : okM zs n = false) :
    Calls Try.prog 19 #[.agg #[.slice a n cap], .int .i64 key] w fun e w' => MapRes [] 0 0 0 e w w' := by
  have I0 := loc_start w a n cap
  go_enter Try.func19, Try.ntmps19
  go_wp2_with fail
  refine (specMapOk_any _ _ _ zs _ (hs.below I0.bel) hn).mono ?_
  rintro e w1 ⟨rfl, hb1⟩
  have I1 := I0.below hb1
  have m0 := I1.m0
  have r0 := I1.r0
  have r1 := I1.r1
  have fm := I1.fm
  have f0 := I1.f0
  have f1 := I1.f1
  clear hb1 I0 hs
  rw [hok]
  go_wp2
  exact bodyPost_ret (v := .tuple #[.agg #[.slice none 0 0], .agg #[.int .i64 0, .int .i64 0]]) (by simp [results, Try.results19, go_sem, m0, r0, r1]) rfl ⟨none, 0, rfl, World.ownsRow_nil _ _ _ _, ((I1.bel.setCell (by show w.heap.size ≤ w.heap.size + 1; omega) _).setCell (by show w.heap.size ≤ w.heap.size + 1 + 1; omega) _).setCell (by show w.heap.size ≤ w.heap.size + 1 + 1; omega) _⟩

/-- The blocks of MapDel's loop: the map that grows, and the answer. -/
structure LoopD (w : World) (a : Option Addr) (n cap X : Nat) (ys : List Int) (m : Nat) (C V : Int) (a' : Option Addr) (c' : Nat) (W : World) : Prop where
  loc : Loc w a n cap W
  lt : w.heap.size + 1 + 1 < X
  sz : X + 1 < W.heap.size
  x0 : W.cell? ⟨X, 0, none⟩ = some (.slice a' m c')
  fx : W.frozen? ⟨X, 0, none⟩ = false
  c0 : W.cell? ⟨X + 1, 0, none⟩ = some (.int .i64 C)
  c1 : W.cell? ⟨X + 1, 1, none⟩ = some (.int .i64 V)
  g0 : W.frozen? ⟨X + 1, 0, none⟩ = false
  g1 : W.frozen? ⟨X + 1, 1, none⟩ = false
  own : W.ownsRow (X + 1 + 1) 41 2 (.slice a' m c') m (ys.map (Value.int .i64))

theorem loopD_start {w W : World} {a : Option Addr} {n cap : Nat} (h : Loc w a n cap W) : LoopD w a n cap W.heap.size [] 0 1 0 none 0 ((W.alloc (.cells #[.slice none 0 0] 25)).alloc (.cells #[.int .i64 1, .int .i64 0] 29)) := by
  have al : ∀ (W : World) (o : Obj), Below W.heap.size W (W.alloc o) := fun W o => (Below.refl _ _).alloc (Nat.le_refl _) o
  exact
    { loc := (h.below (al _ _)).below (al _ _), lt := h.sz, sz := by simp, x0 := cell_kept (al _ _) (cell_at W _ _ 0 rfl rfl), fx := frozen_kept (al _ _) (by simp) (frozen_at W _ _ 0 rfl),
      c0 := cell_at (W.alloc _) _ _ 0 (by simp) rfl, c1 := cell_at (W.alloc _) _ _ 1 (by simp) rfl, g0 := frozen_at (W.alloc _) _ _ 0 (by simp), g1 := frozen_at (W.alloc _) _ _ 1 (by simp), own := World.ownsRow_nil _ _ _ _ }

theorem cell_other {W : World} {b o : Nat} {p : Addr} {v : Value} (u : Value) (hne : b ≠ p.block) (h : W.cell? ⟨b, o, none⟩ = some v) : (W.setCell p u).cell? ⟨b, o, none⟩ = some v := by
  rw [World.cell?_of_block (w := W) (a := ⟨b, o, none⟩) (Below.heap_setCell W p u b hne)]
  exact h
theorem frozen_other {W : World} {b o : Nat} {p : Addr} (u : Value) (hne : b ≠ p.block) (h : W.frozen? ⟨b, o, none⟩ = false) : (W.setCell p u).frozen? ⟨b, o, none⟩ = false := by
  rw [World.frozen?_of_block (w := W) (a := ⟨b, o, none⟩) (Below.heap_setCell W p u b hne)]
  exact h

theorem Loc.set {w : World} {a : Option Addr} {n cap : Nat} {W : World} (h : Loc w a n cap W) {p : Addr} (hp : w.heap.size + 1 + 1 < p.block) (u : Value) : Loc w a n cap (W.setCell p u) :=
  { bel := h.bel.setCell (by omega) u, sz := by simpa using h.sz, box := cell_other u (by omega) h.box, m0 := cell_other u (by omega) h.m0, r0 := cell_other u (by omega) h.r0, r1 := cell_other u (by omega) h.r1,
    fm := frozen_other u (by omega) h.fm, f0 := frozen_other u (by omega) h.f0, f1 := frozen_other u (by omega) h.f1 }

section
variable {w : World} {a : Option Addr} {n cap X : Nat} {ys : List Int} {m : Nat} {C V : Int} {a' : Option Addr} {c' : Nat} {W : World}

theorem LoopD.hit (h : LoopD w a n cap X ys m C V a' c' W) (y : Int) : LoopD w a n cap X ys m 2 y a' c' ((W.setCell ⟨X + 1, 0, none⟩ (.int .i64 2)).setCell ⟨X + 1, 1, none⟩ (.int .i64 y)) := by
  have hx := h.lt
  exact
    { loc := (h.loc.set (by show _ < X + 1; omega) _).set (by show _ < X + 1; omega) _, lt := h.lt, sz := by simpa using h.sz, x0 := cell_other _ (by show X ≠ X + 1; omega) (cell_other _ (by show X ≠ X + 1; omega) h.x0),
      fx := frozen_other _ (by show X ≠ X + 1; omega) (frozen_other _ (by show X ≠ X + 1; omega) h.fx), c0 := (World.cell?_setCell_other _ _ _ _ (by simp)).trans (World.cell?_setCell_same _ _ _ h.c0), c1 := World.cell?_setCell_same _ _ _ ((World.cell?_setCell_other _ _ _ _ (by simp)).trans h.c1),
      g0 := by rw [World.frozen?_setCell, World.frozen?_setCell]; exact h.g0, g1 := by rw [World.frozen?_setCell, World.frozen?_setCell]; exact h.g1, own := own_setCell (own_setCell h.own (by omega) _) (by omega) _ }

/-- What stands behind the append: all blocks up to X + 1 are as they were. -/
structure MidD (w : World) (a : Option Addr) (n cap X : Nat) (C V : Int) (v : Value) (w1 : World) : Prop where
  loc : Loc w a n cap w1
  lt : w.heap.size + 1 + 1 < X
  sz : X + 1 < w1.heap.size
  x0 : w1.cell? ⟨X, 0, none⟩ = some v
  fx : w1.frozen? ⟨X, 0, none⟩ = false
  c0 : w1.cell? ⟨X + 1, 0, none⟩ = some (.int .i64 C)
  c1 : w1.cell? ⟨X + 1, 1, none⟩ = some (.int .i64 V)
  g0 : w1.frozen? ⟨X + 1, 0, none⟩ = false
  g1 : w1.frozen? ⟨X + 1, 1, none⟩ = false

theorem LoopD.mid (h : LoopD w a n cap X ys m C V a' c' W) {o : Obj} {w1 : World} (hg : (W.alloc o).drew.grownBy w1 (Value.ownBlock (.slice a' m c'))) : MidD w a n cap X C V (.slice a' m c') w1 := by
  have al : Below W.heap.size W (W.alloc o).drew := ((Below.refl _ _).alloc (Nat.le_refl _) o).drew
  have hlow : ∀ b, b ≤ X + 1 → w1.heap[b]? = W.heap[b]? := by
    intro b hb
    have hs := h.sz
    rw [hg.block b (by simp; omega) (fun e => by have := (h.own.lt _ e.symm).1; omega)]
    exact al.block b (by omega)
  have hc : ∀ b o, b ≤ X + 1 → w1.cell? ⟨b, o, none⟩ = W.cell? ⟨b, o, none⟩ := fun b o hb => World.cell?_of_block (w := W) (a := ⟨b, o, none⟩) (hlow b hb)
  have hf : ∀ b o, b ≤ X + 1 → w1.frozen? ⟨b, o, none⟩ = W.frozen? ⟨b, o, none⟩ := fun b o hb => World.frozen?_of_block (w := W) (a := ⟨b, o, none⟩) (hlow b hb)
  have hl := h.lt
  have hsz1 := hg.size
  simp at hsz1
  have hL := h.loc
  have hbel : Below w.heap.size w w1 := (hL.bel.trans (al.mono hL.bel.size)).grown hg (by simp; have := hL.bel.size; omega) (fun k e => by have := (h.own.lt _ e).1; omega)
  exact
    { loc := { bel := hbel, sz := by have := hL.sz; omega, box := (hc _ _ (by omega)).trans hL.box, m0 := (hc _ _ (by omega)).trans hL.m0, r0 := (hc _ _ (by omega)).trans hL.r0, r1 := (hc _ _ (by omega)).trans hL.r1, fm := (hf _ _ (by omega)).trans hL.fm, f0 := (hf _ _ (by omega)).trans hL.f0, f1 := (hf _ _ (by omega)).trans hL.f1 },
      lt := hl, sz := by have := h.sz; omega, x0 := (hc _ _ (by omega)).trans h.x0, fx := (hf _ _ (by omega)).trans h.fx, c0 := (hc _ _ (by omega)).trans h.c0, c1 := (hc _ _ (by omega)).trans h.c1, g0 := (hf _ _ (by omega)).trans h.g0, g1 := (hf _ _ (by omega)).trans h.g1 }

theorem MidD.push {v : Value} {w1 : World} (h : MidD w a n cap X C V v w1) {a2 : Option Addr} {m2 c2 : Nat} {ys2 : List Int} (ho : w1.ownsRow (X + 1 + 1) 41 2 (.slice a2 m2 c2) m2 (ys2.map (Value.int .i64))) :
    LoopD w a n cap X ys2 m2 C V a2 c2 (w1.setCell ⟨X, 0, none⟩ (.slice a2 m2 c2)) := by
  have hl := h.lt
  exact
    { loc := h.loc.set (by show _ < X; omega) _, lt := h.lt, sz := by simpa using h.sz, x0 := World.cell?_setCell_same _ _ _ h.x0, fx := by rw [World.frozen?_setCell]; exact h.fx,
      c0 := cell_other _ (by show X + 1 ≠ X; omega) h.c0, c1 := cell_other _ (by show X + 1 ≠ X; omega) h.c1, g0 := frozen_other _ (by show X + 1 ≠ X; omega) h.g0, g1 := frozen_other _ (by show X + 1 ≠ X; omega) h.g1, own := own_setCell ho (by omega) _ }

end

set_option maxHeartbeats 4000000 in
theorem specMapDel_loop (a : Option Addr) (n cap : Nat) (zs : List Int) (key : Int) (w : World) (hs : SInts w a (n * 2) zs) (hn : n ≤ 8) (hok : okM zs n = true) :
    Calls Try.prog 19 #[.agg #[.slice a n cap], .int .i64 key] w fun e w' => MapRes (delF zs key n).1 (delF zs key n).2.1 (delF zs key n).2.2.1 (delF zs key n).2.2.2 e w w' := by
  have I0 := loc_start w a n cap
  obtain ⟨i0, hi, hz0, hz1, hz2⟩ := info_parts Try.info41
  go_enter Try.func19, Try.ntmps19
  go_wp2_with fail
  refine (specMapOk_any _ _ _ zs _ (hs.below I0.bel) (by omega)).mono ?_
  rintro e w1 ⟨rfl, hb1⟩
  have I1 := loopD_start (I0.below hb1)
  clear hb1 I0
  rw [hok]
  go_wp2
  generalize w1.heap.size = X at I1 ⊢
  generalize ((w1.alloc (.cells #[.slice none 0 0] 25)).alloc (.cells #[.int .i64 1, .int .i64 0] 29)) = W1 at I1 ⊢
  go_loopw [8] (fun i wr => ∃ (k : Nat) (a' : Option Addr) (c' : Nat), k ≤ n ∧ i = .int .i64 k ∧ LoopD w a n cap X (delF zs key k).1 (delF zs key k).2.1 (delF zs key k).2.2.1 (delF zs key k).2.2.2 a' c' wr) (fun i _ => n - (intOf i).toNat)
  case atStart => exact ⟨0, none, 0, Nat.zero_le _, rfl, I1⟩
  case round =>
    obtain ⟨k, a', c', hk, rfl, I⟩ := hrel
    have hle := delF_le zs key k
    have HF : Hid (delF zs key (k + 1) = if keyAt zs k == key then ((delF zs key k).1, (delF zs key k).2.1, 2, valAt zs k) else ((delF zs key k).1 ++ [keyAt zs k, valAt zs k], (delF zs key k).2.1 + 1, (delF zs key k).2.2.1, (delF zs key k).2.2.2)) := rfl
    obtain ⟨ys, hys⟩ : ∃ ys, (delF zs key k).1 = ys := ⟨_, rfl⟩
    obtain ⟨m, hmm⟩ : ∃ m, (delF zs key k).2.1 = m := ⟨_, rfl⟩
    obtain ⟨C, hCC⟩ : ∃ C, (delF zs key k).2.2.1 = C := ⟨_, rfl⟩
    obtain ⟨V, hVV⟩ : ∃ V, (delF zs key k).2.2.2 = V := ⟨_, rfl⟩
    rw [hys, hmm, hCC, hVV] at I HF
    rw [hmm] at hle
    have HE : Hid ((delF zs key k).1 = ys ∧ (delF zs key k).2.1 = m ∧ (delF zs key k).2.2.1 = C ∧ (delF zs key k).2.2.2 = V) := ⟨hys, hmm, hCC, hVV⟩
    clear hys hmm hCC hVV
    have box := I.loc.box
    by_cases hlt : k < n
    · obtain ⟨b, off, rfl⟩ := hs.addr (by omega)
      obtain ⟨x, hx⟩ : ∃ x, keyAt zs k = x := ⟨_, rfl⟩
      obtain ⟨y, hy⟩ : ∃ y, valAt zs k = y := ⟨_, rfl⟩
      rw [hx, hy] at HF
      have h1 := (hs.below I.loc.bel).keyCell hlt
      have h2 := (hs.below I.loc.bel).valCell hlt
      rw [hx] at h1
      rw [hy] at h2
      clear hx hy hs I1
      cases hp : (x == key)
      · rw [hp] at HF
        have HF' : Hid (delF zs key (k + 1) = (ys ++ [x, y], m + 1, C, V)) := HF.out
        clear HF
        have x0 := I.x0
        have al : Below wr.heap.size wr (wr.alloc (.cells #[.int .i64 x, .int .i64 y] 41)) := (Below.refl _ _).alloc (Nat.le_refl _) _
        have x0' := cell_kept al x0
        have box' := cell_kept al box
        have h1' := cell_kept al h1
        have h2' := cell_kept al h2
        have hownA : ((wr.alloc (.cells #[.int .i64 x, .int .i64 y] 41)).drew).ownsRow (X + 1 + 1) 41 2 (.slice a' m c') m (ys.map (Value.int .i64)) := (I.own.alloc _).drew
        have HI : Hid (LoopD w (some ⟨b, off, none⟩) n cap X ys m C V a' c' wr) := I
        have hsz := I.sz
        have hnews : Hid (∀ j u, ([Value.int .i64 x, Value.int .i64 y] : List Value)[j]? = some u → (wr.alloc (.cells #[.int .i64 x, .int .i64 y] 41)).drew.cell? ((⟨wr.heap.size, 0, none⟩ : Addr).add j) = some u) := by
          intro j u hj
          match j, hj with
          | 0, hj => simp at hj; subst hj; simp [Addr.add]
          | 1, hj => simp at hj; subst hj; simp [Addr.add]
        clear I al
        go_wp2
        go_region_law (refine step_append_mine rfl (.tmp 39) (.tmp 45) 23 rfl (X + 1 + 1) 41 i0 (.agg #[.int .i64 0, .int .i64 0]) 2 16 Try.underlying23 hi hz0 hz1 hz2 rfl (by decide) (.slice a' m c') m (ys.map (Value.int .i64)) rfl hownA ⟨wr.heap.size, 0, none⟩ 1 1 [.int .i64 x, .int .i64 y] rfl rfl hnews.out (by intro u hu; simp at hu; rcases hu with rfl | rfl <;> rfl) (by unfold maxLen; omega) (by omega) (by simp; omega) ?_; intro v' w2 hown hgrow; have M2 := HI.out.mid hgrow; have mx := M2.x0; have mf := M2.fx; have HM2 : Hid (MidD w (some ⟨b, off, none⟩) n cap X C V (.slice a' m c') w2) := M2; obtain ⟨a2, c2, hv, _⟩ := own2_shape (zs := ys ++ [x, y]) (by simpa using hown); rw [hv] at hown ⊢; have HO2 : Hid (w2.ownsRow (X + 1 + 1) 41 2 (.slice a2 (m + 1) c2) (m + 1) ((ys ++ [x, y]).map (Value.int .i64))) := (show w2.ownsRow (X + 1 + 1) 41 2 (.slice a2 (m + 1) c2) (m + 1) ((ys ++ [x, y]).map (Value.int .i64)) by simpa using hown); clear hown hgrow M2 hv)
        all_goals
          go_wp2
          go_roundw
          case rel => exact ⟨k + 1, a2, c2, by omega, by go_num, by rw [HF'.out]; exact HM2.out.push HO2.out⟩
          case measure => simp [intOf]; omega
      · rw [hp] at HF
        have HF' : Hid (delF zs key (k + 1) = (ys, m, 2, y)) := HF.out
        clear HF
        have k0 := I.c0
        have k1 := I.c1
        have g0 := I.g0
        have g1 := I.g1
        have HI : Hid (LoopD w (some ⟨b, off, none⟩) n cap X ys m C V a' c' wr) := I
        clear I
        go_wp2
        go_roundw
        case rel => exact ⟨k + 1, a', c', by omega, by go_num, by rw [HF'.out]; exact HI.out.hit y⟩
        case measure => simp [intOf]; omega
    · obtain rfl : k = n := by omega
      have x0 := I.x0
      have k0 := I.c0
      have k1 := I.c1
      have m0 := I.loc.m0
      have r0 := I.loc.r0
      have r1 := I.loc.r1
      have fm := I.loc.fm
      have f0 := I.loc.f0
      have f1 := I.loc.f1
      have hlt1 := I.lt
      have hX1 : ¬ X = w.heap.size + 1 := by omega
      have hX2 : ¬ X = w.heap.size + 1 + 1 := by omega
      have hX3 : ¬ X + 1 = w.heap.size + 1 := by omega
      have hX4 : ¬ X + 1 = w.heap.size + 1 + 1 := by omega
      have HI : Hid (LoopD w a k cap X ys m C V a' c' wr) := I
      clear hs I1 HF I
      go_wp2
      go_region
      all_goals
        go_wp2
        refine bodyPost_ret (v := .tuple #[.agg #[.slice a' m c'], .agg #[.int .i64 C, .int .i64 V]]) (by simp [results, Try.results19, go_sem, m0, r0, r1]) rfl ?_
        rw [HE.out.1, HE.out.2.1, HE.out.2.2.1, HE.out.2.2.2]
        exact ⟨a', c', rfl, own_mono (own_setCell (own_setCell (own_setCell HI.out.own (by omega) _) (by omega) _) (by omega) _) (by omega), (((HI.out.loc.bel.drew).setCell (by show w.heap.size ≤ w.heap.size + 1; omega) _).setCell (by show w.heap.size ≤ w.heap.size + 1 + 1; omega) _).setCell (by show w.heap.size ≤ w.heap.size + 1 + 1; omega) _⟩

theorem fIdx_spec (p : Nat → Bool) (n : Nat) : (∀ j, j < fIdx p n → p j = false) ∧ (fIdx p n < n → p (fIdx p n) = true) := by
  unfold fIdx
  cases h : (List.range n).find? p with
  | none =>
    rw [List.find?_eq_none] at h
    refine ⟨fun j hj => ?_, fun hlt => ?_⟩
    · have := h j (List.mem_range.2 hj)
      simpa using this
    · exact absurd hlt (Nat.lt_irrefl n)
  | some i =>
    rw [List.find?_eq_some_iff_getElem] at h
    obtain ⟨hp, i', hi', he, hlow⟩ := h
    simp at he
    subst he
    refine ⟨fun j hj => ?_, fun _ => hp⟩
    have := hlow j hj
    simpa using this

theorem take_two (zs : List Int) (k : Nat) (h : k * 2 + 1 < zs.length) : zs.take (k * 2) ++ [keyAt zs k, valAt zs k] = zs.take ((k + 1) * 2) := by
  have e1 : keyAt zs k = zs[k * 2] := by simp [keyAt, List.getD, show k * 2 < zs.length by omega]
  have e2 : valAt zs k = zs[k * 2 + 1] := by simp [valAt, List.getD, h]
  rw [show (k + 1) * 2 = k * 2 + 1 + 1 by omega, List.take_succ_eq_append_getElem (by omega), List.take_succ_eq_append_getElem (by omega), e1, e2, List.append_assoc]
  rfl

theorem delF_miss (zs : List Int) (key : Int) (k : Nat) (hl : k * 2 ≤ zs.length) (h : ∀ j, j < k → (keyAt zs j == key) = false) : delF zs key k = (zs.take (k * 2), k, 1, 0) := by
  induction k with
  | zero => simp [delF]
  | succ k ih =>
    have := ih (by omega) (fun j hj => h j (by omega))
    simp only [delF, h k (by omega), this]
    rw [take_two zs k (by omega)]
    simp

theorem delF_hit (zs : List Int) (key : Int) (i k : Nat) (hi : i < k) (hl : k * 2 ≤ zs.length) (hk : (keyAt zs i == key) = true) (h : ∀ j, j < k → j ≠ i → (keyAt zs j == key) = false) :
    delF zs key k = (zs.take (i * 2) ++ (zs.take (k * 2)).drop ((i + 1) * 2), k - 1, 2, valAt zs i) := by
  induction k with
  | zero => omega
  | succ k ih =>
    by_cases e : i = k
    · subst e
      have := delF_miss zs key i (by omega) (fun j hj => h j (by omega) (by omega))
      simp only [delF, hk, this]
      simp
    · have := ih (by omega) (by omega) (fun j hj hne => h j (by omega) hne)
      simp only [delF, h k (by omega) (by omega), this]
      rw [← take_two zs k (by omega), List.drop_append_of_le_length (by simp; omega)]
      simp
      omega

theorem delF_all {zs : List Int} {n : Nat} (key : Int) (hl : zs.length = n * 2) (hok : okM zs n = true) : delF zs key n = (delL zs n key, delN zs n key, delC zs n key, delV zs n key) := by
  obtain ⟨_, _, hup⟩ := okM_parts hok
  have hrise := up_lt hup
  have hupM : upM zs n = true := upM_yes hup
  have hI : entI zs n key = fIdx (fun i => geK key (keyAt zs i)) n := by simp [entI, hupM]
  obtain ⟨hlow, hat⟩ := fIdx_spec (fun i => geK key (keyAt zs i)) n
  rw [← hI] at hlow hat
  have hne : ∀ j, j < n → j ≠ entI zs n key → (keyAt zs j == key) = false := by
    intro j hj hji
    by_cases h : j < entI zs n key
    · have h1 := hlow j h
      simp [geK] at h1
      simp
      omega
    · have h2 : entI zs n key < n := by omega
      have h3 := hat h2
      simp [geK] at h3
      have h4 := hrise j (entI zs n key) (by omega) hj
      simp
      omega
  cases hE : entB zs n key
  · have hmiss : ∀ j, j < n → (keyAt zs j == key) = false := by
      intro j hj
      by_cases h : j = entI zs n key
      · subst h
        simp only [entB, hj, decide_true, Bool.true_and] at hE
        exact hE
      · exact hne j hj h
    rw [delF_miss zs key n (by omega) hmiss, List.take_of_length_le (by omega)]
    simp [delL, delN, delC, delV, hok, hE]
  · simp only [entB, Bool.and_eq_true, decide_eq_true_eq] at hE
    have hE' : entB zs n key = true := by simp only [entB, Bool.and_eq_true, decide_eq_true_eq]; exact hE
    rw [delF_hit zs key (entI zs n key) n hE.1 (by omega) hE.2 hne, List.take_of_length_le (l := zs) (i := n * 2) (by omega)]
    simp [delL, delN, delC, delV, hok, hE']

theorem specMapDel_cap (a : Option Addr) (n cap : Nat) (zs : List Int) (key : Int) (w : World) (hs : SInts w a (n * 2) zs) (hn : n ≤ 1048576) :
    Calls Try.prog 19 #[.agg #[.slice a n cap], .int .i64 key] w fun e w' => MapRes (delL zs n key) (delN zs n key) (delC zs n key) (delV zs n key) e w w' := by
  cases hok : okM zs n
  · have e1 : delL zs n key = [] := by simp [delL, hok]
    have e2 : delN zs n key = 0 := by simp [delN, hok]
    have e3 : delC zs n key = 0 := by simp [delC, hok]
    have e4 : delV zs n key = 0 := by simp [delV, hok]
    rw [e1, e2, e3, e4]
    exact specMapDel_bad a n cap zs key w hs (by omega) hok
  · have h := specMapDel_loop a n cap zs key w hs (okM_parts hok).1 hok
    rw [delF_all key hs.1 hok] at h
    exact h

theorem specMapDel_any (a : Option Addr) (n : Nat) (zs : List Int) (key : Int) (w : World) (hs : SInts w a (n * 2) zs) (hn : n ≤ 1048576) :
    Calls Try.prog 19 #[.agg #[.slice a n n], .int .i64 key] w fun e w' => MapRes (delL zs n key) (delN zs n key) (delC zs n key) (delV zs n key) e w w' := by
  cases hok : okM zs n
  · have e1 : delL zs n key = [] := by simp [delL, hok]
    have e2 : delN zs n key = 0 := by simp [delN, hok]
    have e3 : delC zs n key = 0 := by simp [delC, hok]
    have e4 : delV zs n key = 0 := by simp [delV, hok]
    rw [e1, e2, e3, e4]
    exact specMapDel_bad a n n zs key w hs (by omega) hok
  · have h := specMapDel_loop a n n zs key w hs (okM_parts hok).1 hok
    rw [delF_all key hs.1 hok] at h
    exact h

end Go.Proofs.Ytkfamlbalgolmaa
