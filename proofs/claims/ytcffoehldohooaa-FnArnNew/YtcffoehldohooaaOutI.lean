/- The program's PolOut. -/
import Derived.Test.YtcffoehldohooaaRings
import Derived.Test.YtcffoehldohooaaOutS
namespace Go.Proofs.Ytcffoehldohooaa
open Go.RowKit
set_option linter.unusedVariables false

/-- A list of numbers that grows, above all that was there. -/
structure GrowAt (w1 : World) (s : Value) (L : List Int) (W : World) : Prop where
  bel : Below w1.heap.size w1 W
  own : ∃ a' c', s = .slice a' L.length c' ∧ W.ownsRow w1.heap.size 3 1 (.slice a' L.length c') L.length (L.map (Value.int .i64)) ∧ (L = [] → a' = none)
theorem GrowAt.below {w1 : World} {s : Value} {L : List Int} {W W' : World} (h : GrowAt w1 s L W) (hb : Below W.heap.size W W') : GrowAt w1 s L W' := by
  obtain ⟨a', c', e, ho, hn⟩ := h.own
  exact ⟨below_trans' h.bel hb, a', c', e, ownsRow_below ho hb, hn⟩

theorem own_ne_ring {W : World} {base : Nat} {a' : Option Addr} {c' : Nat} {L : List Int} (ho : W.ownsRow base 3 1 (.slice a' L.length c') L.length (L.map (Value.int .i64))) (hn : L = [] → a' = none) {r g n : Nat} {f c : Int} (hr : RingAt W r g n f c) : (Value.slice a' L.length c').ownBlock ≠ some r := by
  intro e
  cases L with
  | nil =>
    rw [hn rfl] at e
    cases e
  | cons x L =>
    rcases ho.2 with ⟨_, h0⟩ | ⟨g', cap, cur, hv, _⟩
    · simp at h0
    · cases hv
      have e1 : g' = r := Option.some.inj e
      subst e1
      have h1 := ho.cellAt 0 (by simp)
      rw [hr.c0] at h1
      simp at h1

theorem GrowAt.took {w1 : World} {s : Value} {L : List Int} {W W' : World} (h : GrowAt w1 s L W) {r g n : Nat} {f c : Int} (hr : RingAt W r g n f c) (hg : W.grownBy W' (some r)) (hr1 : w1.heap.size ≤ r) : GrowAt w1 s L W' := by
  obtain ⟨a', c', e, ho, hn⟩ := h.own
  exact ⟨h.bel.grown hg h.bel.size (fun k e => by cases e; exact hr1), a', c', e, ho.kept hg (.inr (own_ne_ring ho hn hr)), hn⟩

/-- What stands in the inner loop: the ring behind j things. -/
structure TakeAt (w1 : World) (r gi n j : Nat) (W : World) : Prop where
  bel : Below w1.heap.size w1 W
  ring : RingAt W r gi n ((j % n : Nat) : Int) ((n : Int) - (j : Int))
  up : w1.heap.size ≤ r

/-- How much a ring has left. -/
def ringLeft (W : World) (r : Nat) : Nat := match W.cell? ⟨r, 2, none⟩ with
  | some v => (intOf v).toNat
  | none => 0
theorem TakeAt.left {w1 : World} {r gi n j : Nat} {W : World} (h : TakeAt w1 r gi n j W) : ringLeft W r = n - j := by
  unfold ringLeft
  rw [h.ring.c2]
  simp [intOf]

theorem below_of_grown {w1 W W' : World} {v : Value} {e : TypeId} {sz n : Nat} {xs : List Value} (h : Below w1.heap.size w1 W) (ho : W.ownsRow w1.heap.size e sz v n xs) (hg : W.grownBy W' v.ownBlock) : Below w1.heap.size w1 W' :=
  h.grown hg h.size (fun k e => (ho.lt k e).1)

theorem mod_next {j n : Nat} (h : j < n) : (j % n + 1) % n = (j + 1) % n := by rw [Nat.mod_eq_of_lt h]

set_option maxRecDepth 20000 in
set_option maxHeartbeats 4000000 in
theorem implPolOut_any (E : Int) (pa : Option Addr) (np pc : Nat) (la : Option Addr) (nl lc : Nat) (oss : List (List Od)) (w : World) (hs : SLimbo w la nl oss) (h2 : nl ≤ 1048576) (h3 : sumL oss ≤ 1048576) :
    Calls Try.prog 26 #[.agg #[.int .i64 E, .slice pa np pc, .slice la nl lc]] w fun e w' => ListI (outL oss) e w w' := by
  obtain ⟨i0, hi, hz0, hz1, hz2⟩ := info_parts Try.info3
  have A := al1 w (.cells #[.int .i64 E, .slice pa np pc, .slice la nl lc] 38)
  have HZ : Hid (sumL oss ≤ 1048576 ∧ oss.length = nl) := ⟨h3, hs.1⟩
  go_enter Try.func26, Try.ntmps26
  go_wp2_with fail
  refine (rings_any _ _ _ _ _ _ _ oss _ (hs.below A) h2 h3).mono ?_
  rintro e w1 ⟨g, hg1, hg2, rfl, hR, hb1⟩
  have HR : Hid (SRings w1 g nl oss ∧ Below w.heap.size w w1) := ⟨hR, below_trans' A hb1⟩
  have I0 : Hid (GrowAt w1 (.slice none 0 0) (outL (oss.take 0)) w1) := ⟨Below.refl _ _, none, 0, rfl, ⟨rfl, .inl ⟨rfl, rfl⟩⟩, fun _ => rfl⟩
  clear hs h3 A hb1 hR hg1 hg2
  go_wp2
  go_loopw [3, 5, 9] (fun s _ i wr => ∃ k : Nat, k ≤ nl ∧ i = .int .i64 k ∧ GrowAt w1 s (outL (oss.take k)) wr) (fun _ _ i _ => nl - (intOf i).toNat)
  case atStart => exact ⟨0, Nat.zero_le _, rfl, I0.out⟩
  case round =>
    obtain ⟨k, hk, rfl, I⟩ := hrel
    clear I0
    have HI : Hid (GrowAt w1 u3 (outL (oss.take k)) wr) := I
    clear I
    by_cases hlt : k < nl
    · obtain ⟨os, ho⟩ : ∃ os, oss[k]? = some os := ⟨_, List.getElem?_eq_getElem (by rw [HZ.out.2]; exact hlt)⟩
      obtain ⟨gi, q0, q1, q2, hO, hgi⟩ := (HR.out.1.below HI.out.bel).2 k os ho
      have HGI : Hid (∃ gi', gi' = gi ∧ SOlds w1 (some ⟨gi, 0, none⟩) os.length os ∧ gi < w1.heap.size) := by
        obtain ⟨gi', k0, _, _, k3, k4⟩ := HR.out.1.2 k os ho
        have e := (cell_kept HI.out.bel k0).symm.trans q0
        simp at e
        subst e
        exact ⟨_, rfl, k3, k4⟩
      have HO : Hid (oss[k]? = some os) := ho
      obtain ⟨n, e⟩ : ∃ n, os.length = n := ⟨_, rfl⟩
      have HN : Hid (os.length = n ∧ n ≤ 1048576) := ⟨e, by have := sumL_mem ho; have := HZ.out.1; omega⟩
      have hn1 := HN.out.2
      rw [e] at q0 q2
      have J0 : Hid (GrowAt w1 u3 (outL (oss.take k) ++ nodesOf (os.take 0)) (wr.alloc (.cells #[.slice (some ⟨gi, 0, none⟩) n n, .int .i64 0, .int .i64 n] 78)) ∧ TakeAt w1 wr.heap.size gi n 0 (wr.alloc (.cells #[.slice (some ⟨gi, 0, none⟩) n n, .int .i64 0, .int .i64 n] 78))) := by
        have h := HI.out.below (al1 wr (.cells #[.slice (some ⟨gi, 0, none⟩) n n, .int .i64 0, .int .i64 n] 78))
        refine ⟨?_, h.bel, ?_, HI.out.bel.size⟩
        · simpa [nodesOf] using h
        · have := ringAt_new wr gi n 0 n rfl
          simpa using this
      clear hO ho e hgi
      go_wp2
      obtain ⟨r, hr⟩ : ∃ r, wr.heap.size = r := ⟨_, rfl⟩
      rw [hr] at J0 ⊢
      clear hr HI q0 q1 q2
      go_loopw [3] (fun s wr => ∃ j : Nat, j ≤ n ∧ GrowAt w1 s (outL (oss.take k) ++ nodesOf (os.take j)) wr ∧ TakeAt w1 r gi n j wr) (fun _ wr => ringLeft wr r)
      case atStart => exact ⟨0, Nat.zero_le _, J0.out.1, J0.out.2⟩
      case round =>
        obtain ⟨j, hj, I, T⟩ := hrel
        clear J0
        have HT : Hid (TakeAt w1 r gi n j wr) := T
        have c2 := T.ring.c2
        by_cases hlt2 : j < n
        · obtain ⟨gi', _, hO, hgi⟩ := HGI.out
          rw [HN.out.1] at hO
          obtain ⟨b2, off2, x, y, eb, hx, x0, x1⟩ := (hO.below T.bel).at hlt2
          cases eb
          rw [Nat.zero_add] at x0 x1
          obtain ⟨a', c', rfl, hown, hnil⟩ := I.own
          obtain ⟨ys, hys⟩ : ∃ ys, outL (oss.take k) ++ nodesOf (os.take j) = ys := ⟨_, rfl⟩
          have HY : Hid (outL (oss.take k) ++ nodesOf (os.take (j + 1)) = ys ++ [x] ∧ ys.length ≤ 1048576) := by
            refine ⟨by rw [nodesOf_next hx, ← List.append_assoc, hys], ?_⟩
            rw [← hys]
            exact Nat.le_trans (part_len HO.out (by rw [HN.out.1]; exact hj)) HZ.out.1
          rw [hys] at I hown hnil ⊢
          have HJ : Hid (GrowAt w1 (.slice a' ys.length c') ys wr ∧ (ys = [] → a' = none)) := ⟨I, hnil⟩
          have emod : j % n = j := Nat.mod_eq_of_lt hlt2
          have HTK : Hid (RingAt wr r gi n ((j % n : Nat) : Int) ((n : Int) - (j : Int)) ∧ wr.cell? ⟨gi, (j % n) * 2, none⟩ = some (.int .i64 x) ∧ wr.cell? ⟨gi, (j % n) * 2 + 1, none⟩ = some (.int .i64 y) ∧ r ≠ gi) := ⟨T.ring, by rw [emod]; exact x0, by rw [emod]; exact x1, by have := T.up; omega⟩
          have hml : j % n < n := by omega
          have hyl := HY.out.2
          clear I T hown hnil hO hx hys x0 x1 emod hgi
          go_wp2_with fail
          refine (take_any r gi n (j % n) ((n : Int) - (j : Int)) x y _ HTK.out.1 hml hn1 (by omega) (by omega) HTK.out.2.1 HTK.out.2.2.1 HTK.out.2.2.2).mono ?_
          rintro e w2 ⟨rfl, hr2, hg2⟩
          have HT2 : Hid (TakeAt w1 r gi n (j + 1) w2) := ⟨HT.out.bel.grown hg2 HT.out.bel.size (fun k e => by cases e; exact HT.out.up), by
            rw [mod_next hlt2] at hr2
            have e : (n : Int) - (j : Int) - 1 = (n : Int) - ((j + 1 : Nat) : Int) := by omega
            rw [e] at hr2
            exact hr2, HT.out.up⟩
          have HJ2 : Hid (GrowAt w1 (.slice a' ys.length c') ys w2) := HJ.out.1.took HTK.out.1 hg2 HT.out.up
          have HJ3 : Hid ((w2.alloc (.cells #[.int .i64 x] 3)).ownsRow w1.heap.size 3 1 (.slice a' ys.length c') ys.length (ys.map (Value.int .i64))) := by
            obtain ⟨a3, c3, e3, ho3, _⟩ := HJ2.out.own
            cases e3
            exact ownsRow_below ho3 (al1 _ _)
          have hszr := HT2.out.bel.size
          have hfd : ∀ W : World, (Instr.field 63 (.agg #[.int .i64 x, .int .i64 y]) 0).run Try.prog W = .ok (.int .i64 x) W := fun _ => by kernel_rfl
          clear hr2 hg2 HTK c2
          go_wp2_with (at_builtin; go_must (refine wpList_append_own _ rfl (.tmp 16) (.tmp 19) 35 rfl w1.heap.size 3 i0 (.int .i64 0) 1 8 Try.underlying35 hi hz0 hz1 hz2 rfl (by decide) (.slice a' ys.length c') ys.length (ys.map (Value.int .i64)) rfl HJ3.out ⟨w2.heap.size, 0, none⟩ 1 1 [.int .i64 x] rfl rfl (by intro jj u hjj; match jj, hjj with | 0, hjj => simp at hjj; subst hjj; exact cell_at w2 _ _ 0 rfl rfl) (by intro u hu; simp at hu; subst hu; rfl) (by unfold maxLen; omega) (by omega) (by simp; omega) ?_))
          intro v' w3 hown3 hg3 _
          have hown3' : w3.ownsRow w1.heap.size 3 1 v' (ys ++ [x]).length ((ys ++ [x]).map (Value.int .i64)) := by simpa using hown3
          obtain ⟨a3, c3, hv, _⟩ := own_shape hown3'
          have HT3 : Hid (TakeAt w1 r gi n (j + 1) w3) := by
            have hne := own_ne_ring HJ3.out HJ.out.2 (HT2.out.ring.below (al1 _ _))
            exact ⟨below_of_grown (below_trans' HT2.out.bel (al1 _ _)) HJ3.out hg3, (HT2.out.ring.below (al1 _ _)).grown hg3 (Ne.symm hne), HT2.out.up⟩
          subst hv
          have HJ4 : Hid (GrowAt w1 (.slice a3 (ys ++ [x]).length c3) (ys ++ [x]) w3) := ⟨HT3.out.bel, a3, c3, rfl, hown3', fun e => by simp at e⟩
          have ML : Hid (ringLeft w3 r < ringLeft wr r) := by
            show _ < _
            rw [HT3.out.left, HT.out.left]
            omega
          clear hown3 hown3' hg3 hfd
          go_wp2
          go_roundw
          case rel => exact ⟨j + 1, by omega, by rw [HY.out.1]; exact HJ4.out, HT3.out⟩
          case measure => exact ML.out
        · obtain rfl : j = n := by omega
          have HJ : Hid (GrowAt w1 u3 (outL (oss.take (k + 1))) wr) := by
            show GrowAt _ _ _ _
            rw [outL_next HO.out]
            have e : os.take j = os := List.take_of_length_le (by rw [HN.out.1]; exact Nat.le_refl _)
            rw [e] at I
            exact I
          clear I T
          rw [Int.sub_self] at c2
          go_wp2
          go_roundw
          case rel => exact ⟨k + 1, by omega, by go_num, HJ.out⟩
          case measure => simp [intOf]; omega
    · obtain rfl : k = nl := by omega
      go_wp2
      go_ret
      have e : oss.take k = oss := List.take_of_length_le (by rw [HZ.out.2]; exact Nat.le_refl _)
      have h := HI.out
      rw [e] at h
      obtain ⟨a', c', es, ho, _⟩ := h.own
      subst es
      exact ⟨a', c', rfl, own_mono ho HR.out.2.size, below_trans' HR.out.2 h.bel⟩

end Go.Proofs.Ytcffoehldohooaa
