/- Contracts of ArnSwap, of the specification's and of the program's. -/
import Derived.Test.YtbjgepcbbonceaaGive2
namespace Go.Proofs.Ytbjgepcbbonceaa
open Go.RowKit
set_option linter.unusedVariables false

/-- The answer is all places, in memory of its own, and one thing more. -/
def ArenaRes2 (x : Value) (ns : List Nd) (n : Nat) (t f l : Int) (e : Ending) (w w' : World) : Prop :=
  ∃ a c, e = .returned (.tuple #[.agg #[.slice a n c, .int .i64 t, .int .i64 f, .int .i64 l], x]) ∧ w'.ownsRow w.heap.size 46 6 (.slice a n c) n (flatN ns) ∧ Below w.heap.size w w'

theorem set_same {α : Type} {l : List α} {i : Nat} {v : α} (h : l[i]? = some v) : l.set i v = l := by
  obtain ⟨hi, e⟩ := List.getElem?_eq_some_iff.1 h
  subst e
  exact List.set_getElem_self hi

theorem flatN_set2 {ns : List Nd} {k : Nat} {x : Nd} (hx : ns[k]? = some x) (o r : Int) :
    ((flatN ns).set (k * 6 + 2) (.int .i64 o)).set (k * 6 + 3) (.int .i64 r) = flatN (ns.set k ⟨x.key, x.val, o, r, x.used, x.gen⟩) := by
  have h : ∀ j, j < 6 → (flatN ns)[k * 6 + j]? = x.cells[j]? := fun j hj => by rw [flatN_get _ _ _ hj, hx]; rfl
  have h0 : (flatN ns).set (k * 6) (.int .i64 x.key) = flatN ns := set_same (h 0 (by omega))
  have h1 : (flatN ns).set (k * 6 + 1) (.int .i64 x.val) = flatN ns := set_same (h 1 (by omega))
  have h4 : (((flatN ns).set (k * 6 + 2) (.int .i64 o)).set (k * 6 + 3) (.int .i64 r)).set (k * 6 + 4) (.bool x.used) = ((flatN ns).set (k * 6 + 2) (.int .i64 o)).set (k * 6 + 3) (.int .i64 r) := set_same (by rw [List.getElem?_set_ne (by omega), List.getElem?_set_ne (by omega)]; exact h 4 (by omega))
  have h5 : (((flatN ns).set (k * 6 + 2) (.int .i64 o)).set (k * 6 + 3) (.int .i64 r)).set (k * 6 + 5) (.int .i64 x.gen) = ((flatN ns).set (k * 6 + 2) (.int .i64 o)).set (k * 6 + 3) (.int .i64 r) := set_same (by rw [List.getElem?_set_ne (by omega), List.getElem?_set_ne (by omega)]; exact h 5 (by omega))
  rw [← flatN_set]
  dsimp only
  rw [h0, h1, h4, h5]

theorem CopyA.put2 {w : World} {a0 : Option Addr} {n0 cap0 : Nat} {t f l : Int} {X g c : Nat} {ns : List Nd} {W : World} (h : CopyA w a0 n0 cap0 t f l X g c ns W) {k : Nat} {x : Nd} (hx : ns[k]? = some x) (o r : Int) :
    CopyA w a0 n0 cap0 t f l X g c (ns.set k ⟨x.key, x.val, o, r, x.used, x.gen⟩) ((W.setCell ⟨g, k * 6 + 2, none⟩ (.int .i64 o)).setCell ⟨g, k * 6 + 3, none⟩ (.int .i64 r)) := by
  have s1 := h.own.stored (k * 6 + 2) (.int .i64 o)
  have s2 := s1.1.stored (k * 6 + 3) (.int .i64 r)
  have h2 := grown_trans s1.2 s2.2
  have h1 := s2.1
  rw [flatN_set2 hx] at h1
  exact { loc := h.loc.grown h2 h.lt0, x := h.x.grown h2 (fun e => by have h1 : X = g := Option.some.inj e; have := h.lt1; omega), own := h1, lt0 := h.lt0, lt1 := h.lt1 }

/-- A word may be turned so. -/
def swapOk (ns : List Nd) (t f l at_ word : Int) : Bool := shapeB ns t f l && (inB at_ 9 && (inB word 19 && !(at_ == 0 && wMark word)))

set_option maxHeartbeats 2000000 in
theorem specArnSwap_bad (a : Option Addr) (n cap : Nat) (ns : List Nd) (t f l at_ old word : Int) (w : World) (hs : SNodes w a n ns) (hn : n ≤ 9223372036854775807) (hsh0 : swapOk ns t f l at_ word = false) :
    Calls Try.prog 7 #[.agg #[.slice a n cap, .int .i64 t, .int .i64 f, .int .i64 l], .int .i64 at_, .int .i64 old, .int .i64 word] w fun e w' => ArenaRes2 (.bool false) [] 0 0 0 0 e w w' := by
  have hsh : Hid ((shapeB ns t f l && (inR at_ 0 9 && (inR word 0 19 && !(at_ == 0 && wMark word)))) = false) := hsh0
  clear hsh0
  have I0 := locA_start w a n cap t f l
  go_enter Try.func7, Try.ntmps7
  go_wp2_with fail
  refine (l2Shape_any _ _ _ ns t f l _ (hs.below I0.bel) hn).mono ?_
  rintro e w1 ⟨rfl, hb1⟩
  have I1 := I0.below hb1
  have p0 := I1.box.c0
  have p1 := I1.box.c1
  have p2 := I1.box.c2
  have p3 := I1.box.c3
  have q0 := I1.res.c0
  have q1 := I1.res.c1
  have q2 := I1.res.c2
  have q3 := I1.res.c3
  have f0 := I1.fz 0
  have f1 := I1.fz 1
  have f2 := I1.fz 2
  have f3 := I1.fz 3
  have hbel := I1.bel
  clear hs I0 I1 hb1
  cases h0 : shapeB ns t f l
  · clear hsh
    go_wp2
    exact bodyPost_ret (v := .tuple #[.agg #[.slice none 0 0, .int .i64 0, .int .i64 0, .int .i64 0], .bool false]) (by simp [results, Try.results7, go_sem, q0, q1, q2, q3]) rfl ⟨none, 0, rfl, World.ownsRow_nil _ _ _ _, below_putA hbel (by omega) _ _ _ _ _ _⟩
  · cases h1 : inR at_ 0 9
    · clear hsh
      go_wp2_with (first | (go_at_call 19; refine (l1InR_any _ _ _ _).mono ?_; rintro e w' ⟨rfl, rfl⟩) | (go_at_call 20; refine (specWrdMark_any _ _).mono ?_; rintro e w' ⟨rfl, rfl⟩))
      exact bodyPost_ret (v := .tuple #[.agg #[.slice none 0 0, .int .i64 0, .int .i64 0, .int .i64 0], .bool false]) (by simp [results, Try.results7, go_sem, q0, q1, q2, q3]) rfl ⟨none, 0, rfl, World.ownsRow_nil _ _ _ _, below_putA hbel (by omega) _ _ _ _ _ _⟩
    · cases h2 : inR word 0 19
      · clear hsh
        go_wp2_with (first | (go_at_call 19; refine (l1InR_any _ _ _ _).mono ?_; rintro e w' ⟨rfl, rfl⟩) | (go_at_call 20; refine (specWrdMark_any _ _).mono ?_; rintro e w' ⟨rfl, rfl⟩))
        exact bodyPost_ret (v := .tuple #[.agg #[.slice none 0 0, .int .i64 0, .int .i64 0, .int .i64 0], .bool false]) (by simp [results, Try.results7, go_sem, q0, q1, q2, q3]) rfl ⟨none, 0, rfl, World.ownsRow_nil _ _ _ _, below_putA hbel (by omega) _ _ _ _ _ _⟩
      · have hz : at_ = 0 ∧ wMark word = true := by
          have := hsh.out
          simpa [h0, h1, h2] using this
        clear hsh
        obtain ⟨rfl, hm⟩ := hz
        go_wp2_with (first | (go_at_call 19; refine (l1InR_any _ _ _ _).mono ?_; rintro e w' ⟨rfl, rfl⟩) | (go_at_call 20; refine (specWrdMark_any _ _).mono ?_; rintro e w' ⟨rfl, rfl⟩))
        exact bodyPost_ret (v := .tuple #[.agg #[.slice none 0 0, .int .i64 0, .int .i64 0, .int .i64 0], .bool false]) (by simp [results, Try.results7, go_sem, q0, q1, q2, q3]) rfl ⟨none, 0, rfl, World.ownsRow_nil _ _ _ _, below_putA hbel (by omega) _ _ _ _ _ _⟩

set_option maxHeartbeats 2000000 in
theorem specArnSwap_no (b off cap : Nat) (ns : List Nd) (t f l : Int) (k : Nat) (old word : Int) (y0 y1 y2 y3 : Int) (u : Bool) (y5 : Int) (w : World) (hs : SNodes w (some ⟨b, off, none⟩) 10 ns) (hnc : 10 ≤ cap) (hcap : cap ≤ 9223372036854775807) (h0 : shapeB ns t f l = true) (hk : k < 10) (h1 : inR k 0 9 = true) (h2 : inR word 0 19 = true) (h3 : ((k : Int) == 0) = false ∨ ((k : Int) == 0) = true ∧ wMark word = false) (hx : ns[k]? = some ⟨y0, y1, y2, y3, u, y5⟩) (hne : (y2 == old) = false) :
    Calls Try.prog 7 #[.agg #[.slice (some ⟨b, off, none⟩) 10 cap, .int .i64 t, .int .i64 f, .int .i64 l], .int .i64 k, .int .i64 old, .int .i64 word] w fun e w' => ArenaRes2 (.bool false) ns 10 t f l e w w' := by
  rcases h3 with h3 | ⟨h3, hm⟩
  · have I0 := locA_start w (some ⟨b, off, none⟩) 10 cap t f l
    go_enter Try.func7, Try.ntmps7
    go_wp2_with fail
    refine (l2Shape_any _ _ _ ns t f l _ (hs.below I0.bel) (by omega)).mono ?_
    rintro e w1 ⟨rfl, hb1⟩
    have I1 := I0.below hb1
    have p0 := I1.box.c0
    have p1 := I1.box.c1
    have p2 := I1.box.c2
    have p3 := I1.box.c3
    have s1 := hs.below I1.bel
    clear hb1 I0
    go_wp2_with (first | (go_at_call 19; refine (l1InR_any _ _ _ _).mono ?_; rintro e w' ⟨rfl, rfl⟩) | (go_at_call 20; refine (specWrdMark_any _ _).mono ?_; rintro e w' ⟨rfl, rfl⟩))
    refine (l2Copy_any b off cap ns t f l _ s1).mono ?_
    rintro e w2 ⟨a2, c2, rfl, ho2, hb2⟩
    obtain ⟨g, rfl, I⟩ := copyA_start I1 ho2 hb2
    clear I1 ho2 hb2 p0 p1 p2 p3 s1
    have p0 := I.loc.box.c0
    have q0 := I.loc.res.c0
    have q1 := I.loc.res.c1
    have q2 := I.loc.res.c2
    have q3 := I.loc.res.c3
    have f0 := I.loc.fz 0
    have f1 := I.loc.fz 1
    have f2 := I.loc.fz 2
    have f3 := I.loc.fz 3
    have x0 := I.x.c0
    have x1 := I.x.c1
    have x2 := I.x.c2
    have x3 := I.x.c3
    have hN := own6_cell I.own hx
    have n0 := hN.c0
    have n1 := hN.c1
    have n2 := hN.c2
    have n3 := hN.c3
    have n4 := hN.c4
    have n5 := hN.c5
    dsimp only at n0 n1 n2 n3 n4 n5
    have R : Hid (CopyA w (some ⟨b, off, none⟩) 10 cap t f l w2.heap.size g c2 ns (w2.alloc (.cells #[.slice (some ⟨g, 0, none⟩) 10 c2, .int .i64 t, .int .i64 f, .int .i64 l] 28))) := I
    clear I hN hx hs
    go_wp2
    refine bodyPost_ret (v := .tuple #[.agg #[.slice (some ⟨g, 0, none⟩) 10 c2, .int .i64 t, .int .i64 f, .int .i64 l], .bool false]) (by simp [results, Try.results7, go_sem, q0, q1, q2, q3]) rfl ⟨_, c2, rfl, R.out.res⟩
  · have I0 := locA_start w (some ⟨b, off, none⟩) 10 cap t f l
    go_enter Try.func7, Try.ntmps7
    go_wp2_with fail
    refine (l2Shape_any _ _ _ ns t f l _ (hs.below I0.bel) (by omega)).mono ?_
    rintro e w1 ⟨rfl, hb1⟩
    have I1 := I0.below hb1
    have p0 := I1.box.c0
    have p1 := I1.box.c1
    have p2 := I1.box.c2
    have p3 := I1.box.c3
    have s1 := hs.below I1.bel
    clear hb1 I0
    go_wp2_with (first | (go_at_call 19; refine (l1InR_any _ _ _ _).mono ?_; rintro e w' ⟨rfl, rfl⟩) | (go_at_call 20; refine (specWrdMark_any _ _).mono ?_; rintro e w' ⟨rfl, rfl⟩))
    refine (l2Copy_any b off cap ns t f l _ s1).mono ?_
    rintro e w2 ⟨a2, c2, rfl, ho2, hb2⟩
    obtain ⟨g, rfl, I⟩ := copyA_start I1 ho2 hb2
    clear I1 ho2 hb2 p0 p1 p2 p3 s1
    have p0 := I.loc.box.c0
    have q0 := I.loc.res.c0
    have q1 := I.loc.res.c1
    have q2 := I.loc.res.c2
    have q3 := I.loc.res.c3
    have f0 := I.loc.fz 0
    have f1 := I.loc.fz 1
    have f2 := I.loc.fz 2
    have f3 := I.loc.fz 3
    have x0 := I.x.c0
    have x1 := I.x.c1
    have x2 := I.x.c2
    have x3 := I.x.c3
    have hN := own6_cell I.own hx
    have n0 := hN.c0
    have n1 := hN.c1
    have n2 := hN.c2
    have n3 := hN.c3
    have n4 := hN.c4
    have n5 := hN.c5
    dsimp only at n0 n1 n2 n3 n4 n5
    have R : Hid (CopyA w (some ⟨b, off, none⟩) 10 cap t f l w2.heap.size g c2 ns (w2.alloc (.cells #[.slice (some ⟨g, 0, none⟩) 10 c2, .int .i64 t, .int .i64 f, .int .i64 l] 28))) := I
    clear I hN hx hs
    go_wp2
    refine bodyPost_ret (v := .tuple #[.agg #[.slice (some ⟨g, 0, none⟩) 10 c2, .int .i64 t, .int .i64 f, .int .i64 l], .bool false]) (by simp [results, Try.results7, go_sem, q0, q1, q2, q3]) rfl ⟨_, c2, rfl, R.out.res⟩

set_option maxHeartbeats 1000000 in
theorem specArnSwap_yes (b off cap : Nat) (ns : List Nd) (t f l : Int) (k : Nat) (old word : Int) (y0 y1 y2 y3 : Int) (u : Bool) (y5 : Int) (w : World) (hs : SNodes w (some ⟨b, off, none⟩) 10 ns) (hnc : 10 ≤ cap) (hcap : cap ≤ 9223372036854775807) (h0 : shapeB ns t f l = true) (hk : k < 10) (h1 : inR k 0 9 = true) (h2 : inR word 0 19 = true) (h3 : ((k : Int) == 0) = false ∨ ((k : Int) == 0) = true ∧ wMark word = false) (hx : ns[k]? = some ⟨y0, y1, y2, y3, u, y5⟩) (hne : y2 = old) :
    Calls Try.prog 7 #[.agg #[.slice (some ⟨b, off, none⟩) 10 cap, .int .i64 t, .int .i64 f, .int .i64 l], .int .i64 k, .int .i64 old, .int .i64 word] w fun e w' => ArenaRes2 (.bool true) (ns.set k ⟨y0, y1, word, wrap64 (y3 + 1), u, y5⟩) 10 t f l e w w' := by
  subst hne
  rcases h3 with h3 | ⟨h3, hm⟩
  · have I0 := locA_start w (some ⟨b, off, none⟩) 10 cap t f l
    go_enter Try.func7, Try.ntmps7
    go_wp2_with fail
    refine (l2Shape_any _ _ _ ns t f l _ (hs.below I0.bel) (by omega)).mono ?_
    rintro e w1 ⟨rfl, hb1⟩
    have I1 := I0.below hb1
    have p0 := I1.box.c0
    have p1 := I1.box.c1
    have p2 := I1.box.c2
    have p3 := I1.box.c3
    have s1 := hs.below I1.bel
    clear hb1 I0
    go_wp2_with (first | (go_at_call 19; refine (l1InR_any _ _ _ _).mono ?_; rintro e w' ⟨rfl, rfl⟩) | (go_at_call 20; refine (specWrdMark_any _ _).mono ?_; rintro e w' ⟨rfl, rfl⟩))
    refine (l2Copy_any b off cap ns t f l _ s1).mono ?_
    rintro e w2 ⟨a2, c2, rfl, ho2, hb2⟩
    obtain ⟨g, rfl, I⟩ := copyA_start I1 ho2 hb2
    clear I1 ho2 hb2 p0 p1 p2 p3 s1
    have p0 := I.loc.box.c0
    have q0 := I.loc.res.c0
    have q1 := I.loc.res.c1
    have q2 := I.loc.res.c2
    have q3 := I.loc.res.c3
    have f0 := I.loc.fz 0
    have f1 := I.loc.fz 1
    have f2 := I.loc.fz 2
    have f3 := I.loc.fz 3
    have x0 := I.x.c0
    have x1 := I.x.c1
    have x2 := I.x.c2
    have x3 := I.x.c3
    have hN := own6_cell I.own hx
    have n0 := hN.c0
    have n1 := hN.c1
    have n2 := hN.c2
    have n3 := hN.c3
    have n4 := hN.c4
    have n5 := hN.c5
    dsimp only at n0 n1 n2 n3 n4 n5
    have hgx : ¬ g = w2.heap.size := by have := I.lt1; omega
    have hgx' : ¬ w2.heap.size = g := by have := I.lt1; omega
    have fn0 := I.own.frozenAt (k * 6)
    have fn1 := I.own.frozenAt (k * 6 + 1)
    have fn2 := I.own.frozenAt (k * 6 + 2)
    have fn3 := I.own.frozenAt (k * 6 + 3)
    have fn4 := I.own.frozenAt (k * 6 + 4)
    have fn5 := I.own.frozenAt (k * 6 + 5)
    have HI : Hid (CopyA w (some ⟨b, off, none⟩) 10 cap t f l w2.heap.size g c2 ns (w2.alloc (.cells #[.slice (some ⟨g, 0, none⟩) 10 c2, .int .i64 t, .int .i64 f, .int .i64 l] 28))) := I
    have HX : Hid (ns[k]? = some ⟨y0, y1, y2, y3, u, y5⟩) := hx
    clear I hN hx hs
    have J3 : Hid (CopyA w (some ⟨b, off, none⟩) 10 cap t f l w2.heap.size g c2 ns ((w2.alloc (.cells #[.slice (some ⟨g, 0, none⟩) 10 c2, .int .i64 t, .int .i64 f, .int .i64 l] 28)).alloc (.cells #[.int .i64 y0, .int .i64 y1, .int .i64 word, .int .i64 (wrap64 (y3 + 1)), .bool u, .int .i64 y5] 46))) := HI.out.below (al1 _ _)
    have hM := own6_cell J3.out.own HX.out
    have m0 := hM.c0
    have m1 := hM.c1
    have m2 := hM.c2
    have m3 := hM.c3
    have m4 := hM.c4
    have m5 := hM.c5
    dsimp only at m0 m1 m2 m3 m4 m5
    have fm0 := J3.out.own.frozenAt (k * 6)
    have fm1 := J3.out.own.frozenAt (k * 6 + 1)
    have fm2 := J3.out.own.frozenAt (k * 6 + 2)
    have fm3 := J3.out.own.frozenAt (k * 6 + 3)
    have fm4 := J3.out.own.frozenAt (k * 6 + 4)
    have fm5 := J3.out.own.frozenAt (k * 6 + 5)
    have a0 := J3.out.x.c0
    have a1 := J3.out.x.c1
    have a2 := J3.out.x.c2
    have a3 := J3.out.x.c3
    have K3 : Hid (CopyA w (some ⟨b, off, none⟩) 10 cap t f l w2.heap.size g c2 (ns.set k ⟨y0, y1, word, wrap64 (y3 + 1), u, y5⟩) (put6 ((w2.alloc (.cells #[.slice (some ⟨g, 0, none⟩) 10 c2, .int .i64 t, .int .i64 f, .int .i64 l] 28)).alloc (.cells #[.int .i64 y0, .int .i64 y1, .int .i64 word, .int .i64 (wrap64 (y3 + 1)), .bool u, .int .i64 y5] 46)) g (k * 6) ⟨y0, y1, word, wrap64 (y3 + 1), u, y5⟩)) := J3.out.put k _
    have z0 := K3.out.x.c0
    dsimp only [put6] at z0
    have z1 := K3.out.x.c1
    dsimp only [put6] at z1
    have z2 := K3.out.x.c2
    dsimp only [put6] at z2
    have z3 := K3.out.x.c3
    dsimp only [put6] at z3
    have v0 := K3.out.loc.res.c0
    dsimp only [put6] at v0
    have v1 := K3.out.loc.res.c1
    dsimp only [put6] at v1
    have v2 := K3.out.loc.res.c2
    dsimp only [put6] at v2
    have v3 := K3.out.loc.res.c3
    dsimp only [put6] at v3
    have fv0 := K3.out.loc.fz 0
    dsimp only [put6] at fv0
    have fv1 := K3.out.loc.fz 1
    dsimp only [put6] at fv1
    have fv2 := K3.out.loc.fz 2
    dsimp only [put6] at fv2
    have fv3 := K3.out.loc.fz 3
    dsimp only [put6] at fv3
    clear hM fn0 fn1 fn2 fn3 fn4 fn5 hgx hgx' HI HX J3 q0 q1 q2 q3 f0 f1 f2 f3
    go_wp2
    refine bodyPost_ret (v := .tuple #[.agg #[.slice (some ⟨g, 0, none⟩) 10 c2, .int .i64 t, .int .i64 f, .int .i64 l], .bool true]) (by simp [results, Try.results7, go_sem, v0, v1, v2, v3]) rfl ⟨_, c2, rfl, ?_⟩
    exact K3.out.res
  · have I0 := locA_start w (some ⟨b, off, none⟩) 10 cap t f l
    go_enter Try.func7, Try.ntmps7
    go_wp2_with fail
    refine (l2Shape_any _ _ _ ns t f l _ (hs.below I0.bel) (by omega)).mono ?_
    rintro e w1 ⟨rfl, hb1⟩
    have I1 := I0.below hb1
    have p0 := I1.box.c0
    have p1 := I1.box.c1
    have p2 := I1.box.c2
    have p3 := I1.box.c3
    have s1 := hs.below I1.bel
    clear hb1 I0
    go_wp2_with (first | (go_at_call 19; refine (l1InR_any _ _ _ _).mono ?_; rintro e w' ⟨rfl, rfl⟩) | (go_at_call 20; refine (specWrdMark_any _ _).mono ?_; rintro e w' ⟨rfl, rfl⟩))
    refine (l2Copy_any b off cap ns t f l _ s1).mono ?_
    rintro e w2 ⟨a2, c2, rfl, ho2, hb2⟩
    obtain ⟨g, rfl, I⟩ := copyA_start I1 ho2 hb2
    clear I1 ho2 hb2 p0 p1 p2 p3 s1
    have p0 := I.loc.box.c0
    have q0 := I.loc.res.c0
    have q1 := I.loc.res.c1
    have q2 := I.loc.res.c2
    have q3 := I.loc.res.c3
    have f0 := I.loc.fz 0
    have f1 := I.loc.fz 1
    have f2 := I.loc.fz 2
    have f3 := I.loc.fz 3
    have x0 := I.x.c0
    have x1 := I.x.c1
    have x2 := I.x.c2
    have x3 := I.x.c3
    have hN := own6_cell I.own hx
    have n0 := hN.c0
    have n1 := hN.c1
    have n2 := hN.c2
    have n3 := hN.c3
    have n4 := hN.c4
    have n5 := hN.c5
    dsimp only at n0 n1 n2 n3 n4 n5
    have hgx : ¬ g = w2.heap.size := by have := I.lt1; omega
    have hgx' : ¬ w2.heap.size = g := by have := I.lt1; omega
    have fn0 := I.own.frozenAt (k * 6)
    have fn1 := I.own.frozenAt (k * 6 + 1)
    have fn2 := I.own.frozenAt (k * 6 + 2)
    have fn3 := I.own.frozenAt (k * 6 + 3)
    have fn4 := I.own.frozenAt (k * 6 + 4)
    have fn5 := I.own.frozenAt (k * 6 + 5)
    have HI : Hid (CopyA w (some ⟨b, off, none⟩) 10 cap t f l w2.heap.size g c2 ns (w2.alloc (.cells #[.slice (some ⟨g, 0, none⟩) 10 c2, .int .i64 t, .int .i64 f, .int .i64 l] 28))) := I
    have HX : Hid (ns[k]? = some ⟨y0, y1, y2, y3, u, y5⟩) := hx
    clear I hN hx hs
    have J3 : Hid (CopyA w (some ⟨b, off, none⟩) 10 cap t f l w2.heap.size g c2 ns ((w2.alloc (.cells #[.slice (some ⟨g, 0, none⟩) 10 c2, .int .i64 t, .int .i64 f, .int .i64 l] 28)).alloc (.cells #[.int .i64 y0, .int .i64 y1, .int .i64 word, .int .i64 (wrap64 (y3 + 1)), .bool u, .int .i64 y5] 46))) := HI.out.below (al1 _ _)
    have hM := own6_cell J3.out.own HX.out
    have m0 := hM.c0
    have m1 := hM.c1
    have m2 := hM.c2
    have m3 := hM.c3
    have m4 := hM.c4
    have m5 := hM.c5
    dsimp only at m0 m1 m2 m3 m4 m5
    have fm0 := J3.out.own.frozenAt (k * 6)
    have fm1 := J3.out.own.frozenAt (k * 6 + 1)
    have fm2 := J3.out.own.frozenAt (k * 6 + 2)
    have fm3 := J3.out.own.frozenAt (k * 6 + 3)
    have fm4 := J3.out.own.frozenAt (k * 6 + 4)
    have fm5 := J3.out.own.frozenAt (k * 6 + 5)
    have a0 := J3.out.x.c0
    have a1 := J3.out.x.c1
    have a2 := J3.out.x.c2
    have a3 := J3.out.x.c3
    have K3 : Hid (CopyA w (some ⟨b, off, none⟩) 10 cap t f l w2.heap.size g c2 (ns.set k ⟨y0, y1, word, wrap64 (y3 + 1), u, y5⟩) (put6 ((w2.alloc (.cells #[.slice (some ⟨g, 0, none⟩) 10 c2, .int .i64 t, .int .i64 f, .int .i64 l] 28)).alloc (.cells #[.int .i64 y0, .int .i64 y1, .int .i64 word, .int .i64 (wrap64 (y3 + 1)), .bool u, .int .i64 y5] 46)) g (k * 6) ⟨y0, y1, word, wrap64 (y3 + 1), u, y5⟩)) := J3.out.put k _
    have z0 := K3.out.x.c0
    dsimp only [put6] at z0
    have z1 := K3.out.x.c1
    dsimp only [put6] at z1
    have z2 := K3.out.x.c2
    dsimp only [put6] at z2
    have z3 := K3.out.x.c3
    dsimp only [put6] at z3
    have v0 := K3.out.loc.res.c0
    dsimp only [put6] at v0
    have v1 := K3.out.loc.res.c1
    dsimp only [put6] at v1
    have v2 := K3.out.loc.res.c2
    dsimp only [put6] at v2
    have v3 := K3.out.loc.res.c3
    dsimp only [put6] at v3
    have fv0 := K3.out.loc.fz 0
    dsimp only [put6] at fv0
    have fv1 := K3.out.loc.fz 1
    dsimp only [put6] at fv1
    have fv2 := K3.out.loc.fz 2
    dsimp only [put6] at fv2
    have fv3 := K3.out.loc.fz 3
    dsimp only [put6] at fv3
    clear hM fn0 fn1 fn2 fn3 fn4 fn5 hgx hgx' HI HX J3 q0 q1 q2 q3 f0 f1 f2 f3
    go_wp2
    refine bodyPost_ret (v := .tuple #[.agg #[.slice (some ⟨g, 0, none⟩) 10 c2, .int .i64 t, .int .i64 f, .int .i64 l], .bool true]) (by simp [results, Try.results7, go_sem, v0, v1, v2, v3]) rfl ⟨_, c2, rfl, ?_⟩
    exact K3.out.res


set_option maxHeartbeats 2000000 in
theorem implArnSwap_bad (a : Option Addr) (n cap : Nat) (ns : List Nd) (t f l at_ old word : Int) (w : World) (hs : SNodes w a n ns) (hn : n ≤ 9223372036854775807) (hsh0 : swapOk ns t f l at_ word = false) :
    Calls Try.prog 9 #[.agg #[.slice a n cap, .int .i64 t, .int .i64 f, .int .i64 l], .int .i64 at_, .int .i64 old, .int .i64 word] w fun e w' => ArenaRes2 (.bool false) [] 0 0 0 0 e w w' := by
  have hsh : Hid ((shapeB ns t f l && (inB at_ 9 && (inB word 19 && !(at_ == 0 && wMark word)))) = false) := hsh0
  clear hsh0
  have I0 := locA_start w a n cap t f l
  go_enter Try.func9, Try.ntmps9
  go_wp2_with fail
  refine (shaped_any _ _ _ ns t f l _ (hs.below I0.bel) hn).mono ?_
  rintro e w1 ⟨rfl, hb1⟩
  have I1 := I0.below hb1
  have p0 := I1.box.c0
  have p1 := I1.box.c1
  have p2 := I1.box.c2
  have p3 := I1.box.c3
  have q0 := I1.res.c0
  have q1 := I1.res.c1
  have q2 := I1.res.c2
  have q3 := I1.res.c3
  have f0 := I1.fz 0
  have f1 := I1.fz 1
  have f2 := I1.fz 2
  have f3 := I1.fz 3
  have hbel := I1.bel
  clear hs I0 I1 hb1
  cases h0 : shapeB ns t f l
  · clear hsh
    go_wp2
    exact bodyPost_ret (v := .tuple #[.agg #[.slice none 0 0, .int .i64 0, .int .i64 0, .int .i64 0], .bool false]) (by simp [results, Try.results9, go_sem, q0, q1, q2, q3]) rfl ⟨none, 0, rfl, World.ownsRow_nil _ _ _ _, below_putA hbel (by omega) _ _ _ _ _ _⟩
  · cases h1 : inB at_ 9
    · clear hsh
      go_wp2_with (first | (go_at_call 24; refine (within_any _ _ _).mono ?_; rintro e w' ⟨rfl, rfl⟩) | (go_at_call 25; refine (valid_any _ _).mono ?_; rintro e w' ⟨rfl, rfl⟩) | (go_at_call 26; refine (marked_any _ _).mono ?_; rintro e w' ⟨rfl, rfl⟩))
      exact bodyPost_ret (v := .tuple #[.agg #[.slice none 0 0, .int .i64 0, .int .i64 0, .int .i64 0], .bool false]) (by simp [results, Try.results9, go_sem, q0, q1, q2, q3]) rfl ⟨none, 0, rfl, World.ownsRow_nil _ _ _ _, below_putA hbel (by omega) _ _ _ _ _ _⟩
    · cases h2 : inB word 19
      · clear hsh
        go_wp2_with (first | (go_at_call 24; refine (within_any _ _ _).mono ?_; rintro e w' ⟨rfl, rfl⟩) | (go_at_call 25; refine (valid_any _ _).mono ?_; rintro e w' ⟨rfl, rfl⟩) | (go_at_call 26; refine (marked_any _ _).mono ?_; rintro e w' ⟨rfl, rfl⟩))
        exact bodyPost_ret (v := .tuple #[.agg #[.slice none 0 0, .int .i64 0, .int .i64 0, .int .i64 0], .bool false]) (by simp [results, Try.results9, go_sem, q0, q1, q2, q3]) rfl ⟨none, 0, rfl, World.ownsRow_nil _ _ _ _, below_putA hbel (by omega) _ _ _ _ _ _⟩
      · have hz : at_ = 0 ∧ wMark word = true := by
          have := hsh.out
          simpa [h0, h1, h2] using this
        clear hsh
        obtain ⟨rfl, hm⟩ := hz
        go_wp2_with (first | (go_at_call 24; refine (within_any _ _ _).mono ?_; rintro e w' ⟨rfl, rfl⟩) | (go_at_call 25; refine (valid_any _ _).mono ?_; rintro e w' ⟨rfl, rfl⟩) | (go_at_call 26; refine (marked_any _ _).mono ?_; rintro e w' ⟨rfl, rfl⟩))
        exact bodyPost_ret (v := .tuple #[.agg #[.slice none 0 0, .int .i64 0, .int .i64 0, .int .i64 0], .bool false]) (by simp [results, Try.results9, go_sem, q0, q1, q2, q3]) rfl ⟨none, 0, rfl, World.ownsRow_nil _ _ _ _, below_putA hbel (by omega) _ _ _ _ _ _⟩

set_option maxHeartbeats 2000000 in
theorem swapped_no (b off cap : Nat) (ns : List Nd) (t f l : Int) (k : Nat) (old word : Int) (y0 y1 y2 y3 : Int) (u : Bool) (y5 : Int) (w : World) (hs : SNodes w (some ⟨b, off, none⟩) 10 ns) (hnc : 10 ≤ cap) (hcap : cap ≤ 9223372036854775807) (hk : k < 10) (hx : ns[k]? = some ⟨y0, y1, y2, y3, u, y5⟩) (hne : (y2 == old) = false) :
    Calls Try.prog 27 #[.agg #[.slice (some ⟨b, off, none⟩) 10 cap, .int .i64 t, .int .i64 f, .int .i64 l], .int .i64 k, .int .i64 old, .int .i64 word] w fun e w' => ArenaRes2 (.bool false) ns 10 t f l e w w' := by
  have I0 := locA_start w (some ⟨b, off, none⟩) 10 cap t f l
  go_enter Try.func27, Try.ntmps27
  have I1 := I0
  have p0 := I1.box.c0
  have p1 := I1.box.c1
  have p2 := I1.box.c2
  have p3 := I1.box.c3
  have s1 := hs.below I1.bel
  clear I0
  go_wp2_with fail
  refine (sameA_any b off cap ns t f l _ s1 hnc hcap).mono ?_
  rintro e w2 ⟨a2, c2, rfl, ho2, hb2⟩
  obtain ⟨g, rfl, I⟩ := copyA_start I1 ho2 hb2
  clear I1 ho2 hb2 p0 p1 p2 p3 s1
  have p0 := I.loc.box.c0
  have q0 := I.loc.res.c0
  have q1 := I.loc.res.c1
  have q2 := I.loc.res.c2
  have q3 := I.loc.res.c3
  have f0 := I.loc.fz 0
  have f1 := I.loc.fz 1
  have f2 := I.loc.fz 2
  have f3 := I.loc.fz 3
  have x0 := I.x.c0
  have x1 := I.x.c1
  have x2 := I.x.c2
  have x3 := I.x.c3
  have hN := own6_cell I.own hx
  have n0 := hN.c0
  have n1 := hN.c1
  have n2 := hN.c2
  have n3 := hN.c3
  have n4 := hN.c4
  have n5 := hN.c5
  dsimp only at n0 n1 n2 n3 n4 n5
  have R : Hid (CopyA w (some ⟨b, off, none⟩) 10 cap t f l w2.heap.size g c2 ns (w2.alloc (.cells #[.slice (some ⟨g, 0, none⟩) 10 c2, .int .i64 t, .int .i64 f, .int .i64 l] 28))) := I
  clear I hN hx hs
  go_wp2
  refine bodyPost_ret (v := .tuple #[.agg #[.slice (some ⟨g, 0, none⟩) 10 c2, .int .i64 t, .int .i64 f, .int .i64 l], .bool false]) (by simp [results, Try.results27, go_sem, q0, q1, q2, q3]) rfl ⟨_, c2, rfl, R.out.res⟩

set_option maxHeartbeats 1000000 in
theorem swapped_yes (b off cap : Nat) (ns : List Nd) (t f l : Int) (k : Nat) (old word : Int) (y0 y1 y2 y3 : Int) (u : Bool) (y5 : Int) (w : World) (hs : SNodes w (some ⟨b, off, none⟩) 10 ns) (hnc : 10 ≤ cap) (hcap : cap ≤ 9223372036854775807) (hk : k < 10) (hx : ns[k]? = some ⟨y0, y1, y2, y3, u, y5⟩) (hne : y2 = old) :
    Calls Try.prog 27 #[.agg #[.slice (some ⟨b, off, none⟩) 10 cap, .int .i64 t, .int .i64 f, .int .i64 l], .int .i64 k, .int .i64 old, .int .i64 word] w fun e w' => ArenaRes2 (.bool true) (ns.set k ⟨y0, y1, word, wrap64 (y3 + 1), u, y5⟩) 10 t f l e w w' := by
  subst hne
  have I0 := locA_start w (some ⟨b, off, none⟩) 10 cap t f l
  go_enter Try.func27, Try.ntmps27
  have I1 := I0
  have p0 := I1.box.c0
  have p1 := I1.box.c1
  have p2 := I1.box.c2
  have p3 := I1.box.c3
  have s1 := hs.below I1.bel
  clear I0
  go_wp2_with fail
  refine (sameA_any b off cap ns t f l _ s1 hnc hcap).mono ?_
  rintro e w2 ⟨a2, c2, rfl, ho2, hb2⟩
  obtain ⟨g, rfl, I⟩ := copyA_start I1 ho2 hb2
  clear I1 ho2 hb2 p0 p1 p2 p3 s1
  have p0 := I.loc.box.c0
  have q0 := I.loc.res.c0
  have q1 := I.loc.res.c1
  have q2 := I.loc.res.c2
  have q3 := I.loc.res.c3
  have f0 := I.loc.fz 0
  have f1 := I.loc.fz 1
  have f2 := I.loc.fz 2
  have f3 := I.loc.fz 3
  have x0 := I.x.c0
  have x1 := I.x.c1
  have x2 := I.x.c2
  have x3 := I.x.c3
  have hN := own6_cell I.own hx
  have n0 := hN.c0
  have n1 := hN.c1
  have n2 := hN.c2
  have n3 := hN.c3
  have n4 := hN.c4
  have n5 := hN.c5
  dsimp only at n0 n1 n2 n3 n4 n5
  have hgx : ¬ g = w2.heap.size := by have := I.lt1; omega
  have hgx' : ¬ w2.heap.size = g := by have := I.lt1; omega
  have fn0 := I.own.frozenAt (k * 6)
  have fn1 := I.own.frozenAt (k * 6 + 1)
  have fn2 := I.own.frozenAt (k * 6 + 2)
  have fn3 := I.own.frozenAt (k * 6 + 3)
  have fn4 := I.own.frozenAt (k * 6 + 4)
  have fn5 := I.own.frozenAt (k * 6 + 5)
  have HI : Hid (CopyA w (some ⟨b, off, none⟩) 10 cap t f l w2.heap.size g c2 ns (w2.alloc (.cells #[.slice (some ⟨g, 0, none⟩) 10 c2, .int .i64 t, .int .i64 f, .int .i64 l] 28))) := I
  have HX : Hid (ns[k]? = some ⟨y0, y1, y2, y3, u, y5⟩) := hx
  clear I hN hx hs
  have st := HI.out.own.stored (k * 6 + 2) (.int .i64 word)
  have bx4 := HI.out.x.grown st.2 (fun e => hgx' (Option.some.inj e))
  have a0 := bx4.c0
  have a1 := bx4.c1
  have a2 := bx4.c2
  have a3 := bx4.c3
  have b3 : ((w2.alloc (.cells #[.slice (some ⟨g, 0, none⟩) 10 c2, .int .i64 t, .int .i64 f, .int .i64 l] 28)).setCell ⟨g, k * 6 + 2, none⟩ (.int .i64 word)).cell? ⟨g, k * 6 + 3, none⟩ = some (.int .i64 y3) := (World.cell?_setCell_other _ _ _ _ (by simp)).trans n3
  have fb3 : ((w2.alloc (.cells #[.slice (some ⟨g, 0, none⟩) 10 c2, .int .i64 t, .int .i64 f, .int .i64 l] 28)).setCell ⟨g, k * 6 + 2, none⟩ (.int .i64 word)).frozen? ⟨g, k * 6 + 3, none⟩ = false := by rw [World.frozen?_setCell]; exact fn3
  have K3 : Hid (CopyA w (some ⟨b, off, none⟩) 10 cap t f l w2.heap.size g c2 (ns.set k ⟨y0, y1, word, wrap64 (y3 + 1), u, y5⟩) (((w2.alloc (.cells #[.slice (some ⟨g, 0, none⟩) 10 c2, .int .i64 t, .int .i64 f, .int .i64 l] 28)).setCell ⟨g, k * 6 + 2, none⟩ (.int .i64 word)).setCell ⟨g, k * 6 + 3, none⟩ (.int .i64 (wrap64 (y3 + 1))))) := HI.out.put2 HX.out _ _
  have z0 := K3.out.x.c0
  have z1 := K3.out.x.c1
  have z2 := K3.out.x.c2
  have z3 := K3.out.x.c3
  have v0 := K3.out.loc.res.c0
  have v1 := K3.out.loc.res.c1
  have v2 := K3.out.loc.res.c2
  have v3 := K3.out.loc.res.c3
  have fv0 := K3.out.loc.fz 0
  have fv1 := K3.out.loc.fz 1
  have fv2 := K3.out.loc.fz 2
  have fv3 := K3.out.loc.fz 3
  clear st bx4 hgx hgx' HI HX q0 q1 q2 q3 f0 f1 f2 f3
  go_wp2
  refine bodyPost_ret (v := .tuple #[.agg #[.slice (some ⟨g, 0, none⟩) 10 c2, .int .i64 t, .int .i64 f, .int .i64 l], .bool true]) (by simp [results, Try.results27, go_sem, v0, v1, v2, v3]) rfl ⟨_, c2, rfl, ?_⟩
  exact K3.out.res

set_option maxHeartbeats 1000000 in
theorem implArnSwap_ok (b off cap : Nat) (ns M : List Nd) (r : Bool) (t f l : Int) (k : Nat) (old word : Int) (w : World) (hs : SNodes w (some ⟨b, off, none⟩) 10 ns) (hcap : cap ≤ 9223372036854775807) (h0 : shapeB ns t f l = true) (h1 : inB k 9 = true) (h2 : inB word 19 = true) (h3 : ((k : Int) == 0) = false ∨ ((k : Int) == 0) = true ∧ wMark word = false)
    (hg : Hid (∀ W : World, SNodes W (some ⟨b, off, none⟩) 10 ns → Calls Try.prog 27 #[.agg #[.slice (some ⟨b, off, none⟩) 10 cap, .int .i64 t, .int .i64 f, .int .i64 l], .int .i64 k, .int .i64 old, .int .i64 word] W fun e w' => ArenaRes2 (.bool r) M 10 t f l e W w')) :
    Calls Try.prog 9 #[.agg #[.slice (some ⟨b, off, none⟩) 10 cap, .int .i64 t, .int .i64 f, .int .i64 l], .int .i64 k, .int .i64 old, .int .i64 word] w fun e w' => ArenaRes2 (.bool r) M 10 t f l e w w' := by
  rcases h3 with h3 | ⟨h3, hm⟩
  · have I0 := locA_start w (some ⟨b, off, none⟩) 10 cap t f l
    go_enter Try.func9, Try.ntmps9
    go_wp2_with fail
    refine (shaped_any _ _ _ ns t f l _ (hs.below I0.bel) (by omega)).mono ?_
    rintro e w1 ⟨rfl, hb1⟩
    have I1 := I0.below hb1
    have p0 := I1.box.c0
    have p1 := I1.box.c1
    have p2 := I1.box.c2
    have p3 := I1.box.c3
    have s1 := hs.below I1.bel
    clear hb1 I0
    go_wp2_with (first | (go_at_call 24; refine (within_any _ _ _).mono ?_; rintro e w' ⟨rfl, rfl⟩) | (go_at_call 25; refine (valid_any _ _).mono ?_; rintro e w' ⟨rfl, rfl⟩) | (go_at_call 26; refine (marked_any _ _).mono ?_; rintro e w' ⟨rfl, rfl⟩))
    refine (hg.out _ s1).mono ?_
    rintro e w2 ⟨a2, c2, rfl, ho2, hb2⟩
    have I2 := I1.below hb2
    have hz := I1.sz
    have q0 := I2.res.c0
    have q1 := I2.res.c1
    have q2 := I2.res.c2
    have q3 := I2.res.c3
    have f0 := I2.fz 0
    have f1 := I2.fz 1
    have f2 := I2.fz 2
    have f3 := I2.fz 3
    have B2 : Hid (Below w.heap.size w w2) := I2.bel
    clear I1 I2 hb2 p0 p1 p2 p3 s1
    go_wp2
    refine bodyPost_ret (v := .tuple #[.agg #[.slice a2 10 c2, .int .i64 t, .int .i64 f, .int .i64 l], .bool r]) (by simp [results, Try.results9, go_sem, q0, q1, q2, q3]) rfl ⟨a2, c2, rfl, own_mono (own_putA (own_mono ho2 (show w.heap.size + 1 + 1 ≤ _ by omega)) (by omega) _ _ _ _ _ _) (by omega), below_putA B2.out (by omega) _ _ _ _ _ _⟩
  · have I0 := locA_start w (some ⟨b, off, none⟩) 10 cap t f l
    go_enter Try.func9, Try.ntmps9
    go_wp2_with fail
    refine (shaped_any _ _ _ ns t f l _ (hs.below I0.bel) (by omega)).mono ?_
    rintro e w1 ⟨rfl, hb1⟩
    have I1 := I0.below hb1
    have p0 := I1.box.c0
    have p1 := I1.box.c1
    have p2 := I1.box.c2
    have p3 := I1.box.c3
    have s1 := hs.below I1.bel
    clear hb1 I0
    go_wp2_with (first | (go_at_call 24; refine (within_any _ _ _).mono ?_; rintro e w' ⟨rfl, rfl⟩) | (go_at_call 25; refine (valid_any _ _).mono ?_; rintro e w' ⟨rfl, rfl⟩) | (go_at_call 26; refine (marked_any _ _).mono ?_; rintro e w' ⟨rfl, rfl⟩))
    refine (hg.out _ s1).mono ?_
    rintro e w2 ⟨a2, c2, rfl, ho2, hb2⟩
    have I2 := I1.below hb2
    have hz := I1.sz
    have q0 := I2.res.c0
    have q1 := I2.res.c1
    have q2 := I2.res.c2
    have q3 := I2.res.c3
    have f0 := I2.fz 0
    have f1 := I2.fz 1
    have f2 := I2.fz 2
    have f3 := I2.fz 3
    have B2 : Hid (Below w.heap.size w w2) := I2.bel
    clear I1 I2 hb2 p0 p1 p2 p3 s1
    go_wp2
    refine bodyPost_ret (v := .tuple #[.agg #[.slice a2 10 c2, .int .i64 t, .int .i64 f, .int .i64 l], .bool r]) (by simp [results, Try.results9, go_sem, q0, q1, q2, q3]) rfl ⟨a2, c2, rfl, own_mono (own_putA (own_mono ho2 (show w.heap.size + 1 + 1 ≤ _ by omega)) (by omega) _ _ _ _ _ _) (by omega), below_putA B2.out (by omega) _ _ _ _ _ _⟩

set_option maxHeartbeats 2000000 in
theorem implArnSwap_no (b off cap : Nat) (ns : List Nd) (t f l : Int) (k : Nat) (old word : Int) (y0 y1 y2 y3 : Int) (u : Bool) (y5 : Int) (w : World) (hs : SNodes w (some ⟨b, off, none⟩) 10 ns) (hnc : 10 ≤ cap) (hcap : cap ≤ 9223372036854775807) (h0 : shapeB ns t f l = true) (hk : k < 10) (h1 : inB k 9 = true) (h2 : inB word 19 = true) (h3 : ((k : Int) == 0) = false ∨ ((k : Int) == 0) = true ∧ wMark word = false) (hx : ns[k]? = some ⟨y0, y1, y2, y3, u, y5⟩) (hne : (y2 == old) = false) :
    Calls Try.prog 9 #[.agg #[.slice (some ⟨b, off, none⟩) 10 cap, .int .i64 t, .int .i64 f, .int .i64 l], .int .i64 k, .int .i64 old, .int .i64 word] w fun e w' => ArenaRes2 (.bool false) ns 10 t f l e w w' :=
  implArnSwap_ok b off cap ns ns false t f l k old word w hs hcap h0 h1 h2 h3 (fun W h => swapped_no b off cap ns t f l k old word y0 y1 y2 y3 u y5 W h hnc hcap hk hx hne)

set_option maxHeartbeats 1000000 in
theorem implArnSwap_yes (b off cap : Nat) (ns : List Nd) (t f l : Int) (k : Nat) (old word : Int) (y0 y1 y2 y3 : Int) (u : Bool) (y5 : Int) (w : World) (hs : SNodes w (some ⟨b, off, none⟩) 10 ns) (hnc : 10 ≤ cap) (hcap : cap ≤ 9223372036854775807) (h0 : shapeB ns t f l = true) (hk : k < 10) (h1 : inB k 9 = true) (h2 : inB word 19 = true) (h3 : ((k : Int) == 0) = false ∨ ((k : Int) == 0) = true ∧ wMark word = false) (hx : ns[k]? = some ⟨y0, y1, y2, y3, u, y5⟩) (hne : y2 = old) :
    Calls Try.prog 9 #[.agg #[.slice (some ⟨b, off, none⟩) 10 cap, .int .i64 t, .int .i64 f, .int .i64 l], .int .i64 k, .int .i64 old, .int .i64 word] w fun e w' => ArenaRes2 (.bool true) (ns.set k ⟨y0, y1, word, wrap64 (y3 + 1), u, y5⟩) 10 t f l e w w' :=
  implArnSwap_ok b off cap ns _ true t f l k old word w hs hcap h0 h1 h2 h3 (fun W h => swapped_yes b off cap ns t f l k old word y0 y1 y2 y3 u y5 W h hnc hcap hk hx hne)

end Go.Proofs.Ytbjgepcbbonceaa
