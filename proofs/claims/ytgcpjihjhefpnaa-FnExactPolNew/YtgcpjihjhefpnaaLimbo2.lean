/- A copy of lists of what was taken out, in memory of its own, and its marks. -/
import Derived.Test.YtgcpjihjhefpnaaLimbo
namespace Go.Proofs.Ytgcpjihjhefpnaa
open Go.RowKit
set_option linter.unusedVariables false

theorem Try.info42 : (Try.prog.info? 42).map (fun i => (i.zero, i.size, i.bytes)) = some (some (.slice none 0 0), 1, 24) := by kernel_rfl

/-- Lists in memory of their own, each in a block of its own. -/
def OLim (lo hi : Nat) (w : World) (g n : Nat) (ls : List Nat) : Prop :=
  ∃ vs : List Value, w.ownsRow lo 42 1 (.slice (some ⟨g, 0, none⟩) n n) n vs ∧ ls.length = n ∧ g < hi ∧
    (∀ (i m : Nat), ls[i]? = some m → ∃ (gi : Nat) (zs : List Int), vs[i]? = some (.slice (some ⟨gi, 0, none⟩) m m) ∧ w.ownsRow lo 48 2 (.slice (some ⟨gi, 0, none⟩) m m) m (zs.map (Value.int .i64)) ∧ g < gi ∧ gi < hi) ∧
    (∀ (i j gi gj mi mj ci cj : Nat), i < j → j < n → vs[i]? = some (.slice (some ⟨gi, 0, none⟩) mi ci) → vs[j]? = some (.slice (some ⟨gj, 0, none⟩) mj cj) → gi < gj)

theorem ne_block {g g' m c : Nat} (h : g ≠ g') : (Value.slice (some ⟨g, 0, none⟩) m c).ownBlock ≠ some g' := fun e => h (Option.some.inj e)

/-- What stands in the loop of the copy. -/
structure CopyAt (w : World) (n : Nat) (oss : List (List Od)) (k : Nat) (vs : List Value) (wr : World) : Prop where
  bel : Below w.heap.size w wr
  own : wr.ownsRow w.heap.size 42 1 (.slice (some ⟨w.heap.size, 0, none⟩) n n) n vs
  rows : ∀ (i : Nat) (os : List Od), i < k → oss[i]? = some os → ∃ gi : Nat, vs[i]? = some (.slice (some ⟨gi, 0, none⟩) os.length os.length) ∧ wr.ownsRow w.heap.size 48 2 (.slice (some ⟨gi, 0, none⟩) os.length os.length) os.length ((flatO os).map (Value.int .i64)) ∧ w.heap.size < gi
  ups : ∀ (i j gi gj mi mj ci cj : Nat), i < j → j < k → vs[i]? = some (.slice (some ⟨gi, 0, none⟩) mi ci) → vs[j]? = some (.slice (some ⟨gj, 0, none⟩) mj cj) → gi < gj

theorem CopyAt.below {w : World} {n : Nat} {oss : List (List Od)} {k : Nat} {vs : List Value} {wr wr' : World} (h : CopyAt w n oss k vs wr) (hb : Below wr.heap.size wr wr') : CopyAt w n oss k vs wr' :=
  ⟨below_trans' h.bel hb, ownsRow_below h.own hb, fun i os hi ho => by
    obtain ⟨gi, h1, h2, h3⟩ := h.rows i os hi ho
    exact ⟨gi, h1, ownsRow_below h2 hb, h3⟩, h.ups⟩

theorem CopyAt.put {w : World} {n : Nat} {oss : List (List Od)} {k : Nat} {vs : List Value} {wr : World} (h : CopyAt w n oss k vs wr) (hl : oss.length = n) (hk : k < n) {os : List Od} (ho : oss[k]? = some os) {gk : Nat}
    (hr : wr.ownsRow w.heap.size 48 2 (.slice (some ⟨gk, 0, none⟩) os.length os.length) os.length ((flatO os).map (Value.int .i64))) (hg : w.heap.size < gk)
    (hup : ∀ (i gi mi ci : Nat), i < k → vs[i]? = some (.slice (some ⟨gi, 0, none⟩) mi ci) → gi < gk) :
    CopyAt w n oss (k + 1) (vs.set k (.slice (some ⟨gk, 0, none⟩) os.length os.length)) (wr.setCell ⟨w.heap.size, k, none⟩ (.slice (some ⟨gk, 0, none⟩) os.length os.length)) := by
  have st := h.own.stored k (.slice (some ⟨gk, 0, none⟩) os.length os.length)
  have hvl : vs.length = n := by simpa using h.own.1
  refine ⟨h.bel.setCell (Nat.le_refl _) _, st.1, fun i os' hi ho' => ?_, fun i j gi gj mi mj ci cj hij hj hi' hj' => ?_⟩
  · by_cases e : i = k
    · subst e
      obtain rfl : os' = os := by rw [ho] at ho'; cases ho'; rfl
      exact ⟨gk, by simp [hvl, hk], hr.kept st.2 (.inr (ne_block (by omega))), hg⟩
    · obtain ⟨gi, h1, h2, h3⟩ := h.rows i os' (by omega) ho'
      exact ⟨gi, by rw [List.getElem?_set_ne (by omega)]; exact h1, h2.kept st.2 (.inr (ne_block (by omega))), h3⟩
  · by_cases e : j = k
    · subst e
      rw [List.getElem?_set_ne (by omega)] at hi'
      rw [List.getElem?_set_self (by omega)] at hj'
      cases hj'
      exact hup i gi mi ci hij hi'
    · rw [List.getElem?_set_ne (by omega)] at hi' hj'
      exact h.ups i j gi gj mi mj ci cj hij (by omega) hi' hj'

/-- Lists in memory of their own, each in a block of its own, and what they hold. -/
def OLimO (lo hi : Nat) (w : World) (g n : Nat) (oss : List (List Od)) : Prop :=
  ∃ vs : List Value, w.ownsRow lo 42 1 (.slice (some ⟨g, 0, none⟩) n n) n vs ∧ oss.length = n ∧ g < hi ∧
    (∀ (i : Nat) (os : List Od), oss[i]? = some os → ∃ gi : Nat, vs[i]? = some (.slice (some ⟨gi, 0, none⟩) os.length os.length) ∧ w.ownsRow lo 48 2 (.slice (some ⟨gi, 0, none⟩) os.length os.length) os.length ((flatO os).map (Value.int .i64)) ∧ g < gi ∧ gi < hi) ∧
    (∀ (i j gi gj mi mj ci cj : Nat), i < j → j < n → vs[i]? = some (.slice (some ⟨gi, 0, none⟩) mi ci) → vs[j]? = some (.slice (some ⟨gj, 0, none⟩) mj cj) → gi < gj)

theorem CopyAt.done {w : World} {n : Nat} {oss : List (List Od)} {vs : List Value} {wr : World} (h : CopyAt w n oss n vs wr) (hl : oss.length = n) :
    OLimO w.heap.size wr.heap.size wr w.heap.size n oss := by
  refine ⟨vs, h.own, hl, (h.own.lt _ rfl).2, fun i os hi => ?_, h.ups⟩
  have hin : i < n := by have := (List.getElem?_eq_some_iff.1 hi).1; omega
  obtain ⟨gi, h1, h2, h3⟩ := h.rows i os hin hi
  exact ⟨gi, h1, h2, h3, (h2.lt _ rfl).2⟩

theorem OLimO.sl {lo hi : Nat} {w : World} {g n : Nat} {oss : List (List Od)} (h : OLimO lo hi w g n oss) : SLimbo w (some ⟨g, 0, none⟩) n oss := by
  obtain ⟨vs, h1, h2, h3, h4, h5⟩ := h
  refine ⟨h2, .inr ⟨_, _, rfl, fun i os hi => ?_⟩⟩
  have hin : i < n := by have := (List.getElem?_eq_some_iff.1 hi).1; omega
  obtain ⟨gi, k1, k2, k3, k4⟩ := h4 i os hi
  refine ⟨some ⟨gi, 0, none⟩, os.length, ?_, own_solds k2⟩
  rw [Nat.zero_add, h1.cellAt i (by omega), k1]
theorem OLimO.ol {lo hi : Nat} {w : World} {g n : Nat} {oss : List (List Od)} (h : OLimO lo hi w g n oss) : OLim lo hi w g n (oss.map List.length) := by
  obtain ⟨vs, h1, h2, h3, h4, h5⟩ := h
  refine ⟨vs, h1, by simpa using h2, h3, fun i m hm => ?_, h5⟩
  rw [List.getElem?_map] at hm
  cases e : oss[i]? with
  | none => rw [e] at hm; simp at hm
  | some os =>
    rw [e] at hm
    simp at hm
    subst hm
    obtain ⟨gi, k1, k2, k3, k4⟩ := h4 i os e
    exact ⟨gi, _, k1, k2, k3, k4⟩
theorem OLimO.mono {lo hi lo' hi' : Nat} {w : World} {g n : Nat} {oss : List (List Od)} (h : OLimO lo hi w g n oss) (hl : lo' ≤ lo) (hh : hi ≤ hi') : OLimO lo' hi' w g n oss := by
  obtain ⟨vs, h1, h2, h3, h4, h5⟩ := h
  refine ⟨vs, own_mono h1 hl, h2, by omega, fun i m hm => ?_, h5⟩
  obtain ⟨gi, k1, k2, k3, k4⟩ := h4 i m hm
  exact ⟨gi, k1, own_mono k2 hl, k3, by omega⟩
theorem OLimO.only {lo hi : Nat} {g n : Nat} {oss : List (List Od)} : OnlyB lo hi (fun w => OLimO lo hi w g n oss) := by
  intro W W' h hk
  obtain ⟨vs, h1, h2, h3, h4, h5⟩ := h
  have key : ∀ {e : TypeId} {sz gi m : Nat} {xs : List Value}, W.ownsRow lo e sz (.slice (some ⟨gi, 0, none⟩) m m) m xs → gi < hi → W'.ownsRow lo e sz (.slice (some ⟨gi, 0, none⟩) m m) m xs := by
    intro e sz gi m xs ho hg
    exact (onlyB_row lo hi e sz _ m xs W W' ⟨ho, fun k e => Nat.lt_of_le_of_lt (Nat.le_of_eq (Option.some.inj e).symm) hg⟩ hk).1
  refine ⟨vs, key h1 h3, h2, h3, fun i m hm => ?_, h5⟩
  obtain ⟨gi, k1, k2, k3, k4⟩ := h4 i m hm
  exact ⟨gi, k1, key k2 k4, k3, k4⟩

set_option maxHeartbeats 1000000 in
theorem toPolOldSS_any (a : Option Addr) (n cap : Nat) (oss : List (List Od)) (w : World) (hs : SLimbo w a n oss) (hn : n ≤ 1048576) (hm : sumL oss ≤ 1048576) :
    Calls Try.prog 31 #[.slice a n cap] w fun e w' => e = .returned (.slice (some ⟨w.heap.size, 0, none⟩) n n) ∧
      OLimO w.heap.size w'.heap.size w' w.heap.size n oss ∧ Below w.heap.size w w' := by
  obtain ⟨i0, hi, hz0, hz1, hz2⟩ := info_parts Try.info42
  have HZ : Hid (oss.length = n) := hs.1
  have HS : Hid (SLimbo w a n oss ∧ sumL oss ≤ 1048576) := ⟨hs, hm⟩
  clear hs hm
  go_enter Try.func31, Try.ntmps31
  go_wp2_with (at_make; refine wpList_make_full _ rfl _ _ 23 rfl w.heap.size 42 i0 (.slice none 0 0) 1 Try.underlying23 hi hz0 hz1 _ _ _ _ n rfl rfl rfl rfl ?b2 ?b3 (Nat.le_refl _) ?_)
  case b2 => rw [hz2]; omega
  case b3 => unfold maxLen; omega
  intro w0 hown0 hgrow0
  go_wp2
  go_loopw [4] (fun i wr => ∃ (k : Nat) (vs : List Value), k ≤ n ∧ i = .int .i64 k ∧ CopyAt w n oss k vs wr) (fun i _ => n - (intOf i).toNat)
  case atStart => exact ⟨0, _, Nat.zero_le _, rfl, (Below.refl _ _).grown hgrow0 (Nat.le_refl _) (fun k h => by cases h), hown0, fun i os hi => by omega, fun i j gi gj mi mj ci cj hij hj => by omega⟩
  case round =>
    obtain ⟨k, vs, hk, rfl, I⟩ := hrel
    have HI : Hid (CopyAt w n oss k vs wr) := I
    clear I
    by_cases hlt : k < n
    · obtain ⟨b, off, os, ai, ci, rfl, ho, hc, hO⟩ := (HS.out.1.below HI.out.bel).at hlt
      have hml : os.length ≤ 1048576 := Nat.le_trans (sumL_mem ho) HS.out.2
      have HO : Hid (oss[k]? = some os) := ho
      obtain ⟨m, e⟩ : ∃ m, os.length = m := ⟨_, rfl⟩
      have HE : Hid (os.length = m) := e
      rw [e] at hc hO hml
      clear ho e
      go_wp2_with fail
      refine (toPolOldS_any _ _ _ (flatO os) _ hO.2 hml).mono ?_
      rintro e w1 ⟨rfl, hr1, hb1⟩
      have I1 := HI.out.below hb1
      have hvl : vs.length = n := by simpa using I1.own.1
      obtain ⟨v, hv⟩ : ∃ v, vs[k]? = some v := ⟨_, List.getElem?_eq_getElem (by omega)⟩
      have o0 : w1.cell? ⟨w.heap.size, k, none⟩ = some v := by rw [I1.own.cellAt k (by omega), hv]
      have f0 := I1.own.frozenAt k
      have hgt := (HI.out.own.lt _ rfl).2
      have R : Hid (CopyAt w n oss (k + 1) (vs.set k (.slice (some ⟨wr.heap.size, 0, none⟩) m m)) (w1.setCell ⟨w.heap.size, k, none⟩ (.slice (some ⟨wr.heap.size, 0, none⟩) m m))) := by
        have := I1.put HZ.out hlt HO.out (gk := wr.heap.size) (by rw [HE.out]; exact own_mono hr1 HI.out.bel.size) hgt (fun i gi mi ci hi h => by
          obtain ⟨gi', h1, h2, h3⟩ := HI.out.rows i _ hi (List.getElem?_eq_getElem (by have := HZ.out; omega))
          rw [h1] at h
          cases h
          exact (h2.lt _ rfl).2)
        rw [HE.out] at this
        exact this
      clear hr1 hb1 I1 hv hvl hO hc hgt
      go_wp2
      go_roundw
      case rel => exact ⟨k + 1, _, by omega, by go_num, R.out⟩
      case measure => simp [intOf]; omega
    · obtain rfl : k = n := by omega
      go_wp2
      go_ret
      exact ⟨rfl, HI.out.done HZ.out, HI.out.bel⟩

/-- Just blocks from lo to hi have turned. -/
structure TurnIn (lo hi : Nat) (w w' : World) : Prop where
  os : w'.os = w.os
  tape : w'.tape = w.tape
  output : w'.output = w.output
  size : w.heap.size ≤ w'.heap.size
  block : ∀ k, k < w.heap.size → (k < lo ∨ hi ≤ k) → w'.heap[k]? = w.heap[k]?
theorem TurnIn.refl (lo hi : Nat) (w : World) : TurnIn lo hi w w := ⟨rfl, rfl, rfl, Nat.le_refl _, fun _ _ _ => rfl⟩
theorem TurnIn.trans {lo hi : Nat} {w w1 w2 : World} (h : TurnIn lo hi w w1) (k : TurnIn lo hi w1 w2) : TurnIn lo hi w w2 :=
  ⟨k.os.trans h.os, k.tape.trans h.tape, k.output.trans h.output, Nat.le_trans h.size k.size, fun i hi ho => (k.block i (Nat.lt_of_lt_of_le hi h.size) ho).trans (h.block i hi ho)⟩
theorem turnIn_grown {lo hi : Nat} {w w' : World} {row : Option Nat} (h : w.grownBy w' row) (hr : ∀ k, row = some k → lo ≤ k ∧ k < hi) : TurnIn lo hi w w' :=
  ⟨h.os, h.tape, h.output, h.size, fun k hk ho => h.block k hk (fun e => by have := hr k e.symm; omega)⟩
theorem TurnIn.below {lo hi B : Nat} {w w' : World} (h : TurnIn lo hi w w') (hB : B ≤ lo) (hw : B ≤ w.heap.size) : Below B w w' :=
  ⟨h.os, h.tape, h.output, h.size, fun k hk => h.block k (by omega) (by omega)⟩

set_option maxHeartbeats 1000000 in
theorem markPolOldSS_any (g n lo hi : Nat) (ls : List Nat) (k : Int) (w : World) (hO : OLim lo hi w g n ls) (hk0 : 0 ≤ k) (hk : k ≤ 1000000000) (hn : n ≤ 1048576) (hm : ∀ (i m : Nat), ls[i]? = some m → m ≤ 1048576) :
    Calls Try.prog 24 #[.slice (some ⟨g, 0, none⟩) n n, .int .i64 k] w fun e w' => ∃ k' : Int, 0 ≤ k' ∧ e = .returned (.int .i64 k') ∧ TurnIn lo hi w w' := by
  obtain ⟨vs, hown, hl, hghi, hrows, hups⟩ := hO
  have HV : Hid (vs.length = n ∧ ls.length = n) := ⟨by simpa using hown.1, hl⟩
  have HM : Hid (∀ (i m : Nat), ls[i]? = some m → m ≤ 1048576) := hm
  have HU : Hid (∀ (i j gi gj mi mj ci cj : Nat), i < j → j < n → vs[i]? = some (.slice (some ⟨gi, 0, none⟩) mi ci) → vs[j]? = some (.slice (some ⟨gj, 0, none⟩) mj cj) → gi < gj) := hups
  have I0 : Hid (w.ownsRow lo 42 1 (.slice (some ⟨g, 0, none⟩) n n) n vs ∧ (∀ (i m : Nat), ls[i]? = some m → ∃ (gi : Nat) (zs : List Int), vs[i]? = some (.slice (some ⟨gi, 0, none⟩) m m) ∧ w.ownsRow lo 48 2 (.slice (some ⟨gi, 0, none⟩) m m) m (zs.map (Value.int .i64)) ∧ g < gi ∧ gi < hi)) := ⟨hown, hrows⟩
  clear hown hl hrows hups hm
  go_enter Try.func24, Try.ntmps24
  go_wp2
  go_loopw [1, 5] (fun s i wr => ∃ (j : Nat) (q : Int), j ≤ n ∧ i = .int .i64 j ∧ s = .int .i64 q ∧ 0 ≤ q ∧ q ≤ 1000000000 + 2097152 * (j : Int) ∧ TurnIn lo hi w wr ∧ wr.ownsRow lo 42 1 (.slice (some ⟨g, 0, none⟩) n n) n vs ∧
      (∀ (i m : Nat), ls[i]? = some m → ∃ (gi : Nat) (zs : List Int), vs[i]? = some (.slice (some ⟨gi, 0, none⟩) m m) ∧ wr.ownsRow lo 48 2 (.slice (some ⟨gi, 0, none⟩) m m) m (zs.map (Value.int .i64)) ∧ g < gi ∧ gi < hi)) (fun _ i _ => n - (intOf i).toNat)
  case atStart => exact ⟨0, k, Nat.zero_le _, rfl, rfl, hk0, by omega, TurnIn.refl _ _ _, I0.out.1, I0.out.2⟩
  case round =>
    obtain ⟨j, q, hj, rfl, rfl, hq0, hq1, hT, hown, hrows⟩ := hrel
    clear I0
    have HT : Hid (TurnIn lo hi w wr ∧ wr.ownsRow lo 42 1 (.slice (some ⟨g, 0, none⟩) n n) n vs ∧ (∀ (i m : Nat), ls[i]? = some m → ∃ (gi : Nat) (zs : List Int), vs[i]? = some (.slice (some ⟨gi, 0, none⟩) m m) ∧ wr.ownsRow lo 48 2 (.slice (some ⟨gi, 0, none⟩) m m) m (zs.map (Value.int .i64)) ∧ g < gi ∧ gi < hi)) := ⟨hT, hown, hrows⟩
    clear hT hown hrows
    by_cases hlt : j < n
    · obtain ⟨m, hm⟩ : ∃ m, ls[j]? = some m := ⟨_, List.getElem?_eq_getElem (by have := HV.out.2; omega)⟩
      obtain ⟨gi, zs, h1, h2, h3, h4⟩ := HT.out.2.2 j m hm
      have hmb := HM.out j m hm
      have c0 : wr.cell? ⟨g, j, none⟩ = some (.slice (some ⟨gi, 0, none⟩) m m) := by rw [HT.out.2.1.cellAt j (by omega), h1]
      have HH : Hid (vs[j]? = some (.slice (some ⟨gi, 0, none⟩) m m) ∧ wr.ownsRow lo 48 2 (.slice (some ⟨gi, 0, none⟩) m m) m (zs.map (Value.int .i64)) ∧ g < gi ∧ gi < hi) := ⟨h1, h2, h3, h4⟩
      clear h1 h2 h3 h4 hm
      go_wp2_with fail
      refine (markPolOldS_any _ _ _ lo zs _ _ HH.out.2.1 hq0 (by omega) (by omega)).mono ?_
      rintro e w1 ⟨rfl, ho1, hg1, hs1⟩
      have R : Hid (TurnIn lo hi w w1 ∧ w1.ownsRow lo 42 1 (.slice (some ⟨g, 0, none⟩) n n) n vs ∧ (∀ (i m : Nat), ls[i]? = some m → ∃ (gi : Nat) (zs : List Int), vs[i]? = some (.slice (some ⟨gi, 0, none⟩) m m) ∧ w1.ownsRow lo 48 2 (.slice (some ⟨gi, 0, none⟩) m m) m (zs.map (Value.int .i64)) ∧ g < gi ∧ gi < hi)) := by
        refine ⟨HT.out.1.trans (turnIn_grown hg1 (fun k e => by cases e; exact ⟨(HH.out.2.1.lt _ rfl).1, HH.out.2.2.2⟩)), HT.out.2.1.kept hg1 (.inr (ne_block (g' := gi) (by have := HH.out.2.2.1; omega))), fun i m' hm' => ?_⟩
        obtain ⟨gi', zs', k1, k2, k3, k4⟩ := HT.out.2.2 i m' hm'
        by_cases e : i = j
        · subst e
          have e1 := HH.out.1
          rw [k1] at e1
          cases e1
          exact ⟨_, _, k1, ho1, k3, k4⟩
        · refine ⟨gi', zs', k1, k2.kept hg1 (.inr (ne_block (g' := gi) ?_)), k3, k4⟩
          have hi1 : i < n := by have := (List.getElem?_eq_some_iff.1 hm').1; have := HV.out.2; omega
          rcases Nat.lt_or_gt_of_ne e with h | h
          · have := HU.out i j gi' gi _ _ _ _ h hlt k1 HH.out.1; omega
          · have := HU.out j i gi gi' _ _ _ _ h hi1 HH.out.1 k1; omega
      clear ho1 hg1 hs1 c0
      go_wp2
      go_roundw
      case rel => exact ⟨j + 1, _, by omega, by go_num, rfl, by omega, by omega, R.out.1, R.out.2.1, R.out.2.2⟩
      case measure => simp [intOf]; omega
    · obtain rfl : j = n := by omega
      go_wp2
      go_ret
      exact ⟨q, hq0, rfl, HT.out.1⟩

end Go.Proofs.Ytgcpjihjhefpnaa
