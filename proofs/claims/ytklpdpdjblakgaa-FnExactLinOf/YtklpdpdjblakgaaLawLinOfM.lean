/- For all places the law FnExactLinOf answers true and leaves its argument as it was: LinOf of the program answers as that of the specification, writes into no argument, and its answer lies in memory of its own. No condition. -/
import Derived.Test.YtklpdpdjblakgaaGr8
namespace Go.Proofs.Ytklpdpdjblakgaa
open Go.ChangeShapes Go.WideShapes Go.ChangeAt Go.RowKit
set_option linter.unusedVariables false

set_option maxRecDepth 20000 in
set_option maxHeartbeats 8000000 in
theorem linOf_law (a : Option Addr) (n cap : Nat) (ns : List Nd) (t f l : Int) (w : World) (hs : SNodes w a n ns) (hn : n ≤ 1048576) (D : LD) (hD : Hid (Few D))
    (hspec : Hid (∀ (W : World) (g : Nat), SNodes W (some ⟨g, 0, none⟩) n ns → Calls Try.prog 13 #[.agg #[.slice (some ⟨g, 0, none⟩) n n, .int .i64 t, .int .i64 f, .int .i64 l]] W (StR D W)))
    (himpl : Hid (∀ (W : World) (g : Nat), SNodes W (some ⟨g, 0, none⟩) n ns → Calls Try.prog 15 #[.agg #[.slice (some ⟨g, 0, none⟩) n n, .int .i64 t, .int .i64 f, .int .i64 l]] W (StR D W))) :
    Calls Try.prog 4 #[.agg #[.slice a n cap, .int .i64 t, .int .i64 f, .int .i64 l]] w fun e w' => e = .returned (.bool true) ∧ Below w.heap.size w w' := by
  have hn' : ¬ (1048576 : Int) < (n : Int) := by omega
  have hsz : Hid ((n : Int) ≤ 1048576) := by show _ ≤ _; omega
  have G0 : GX w (w.alloc (.cells #[.slice a n cap, .int .i64 t, .int .i64 f, .int .i64 l] 32)) [(w.heap.size, #[.slice a n cap, .int .i64 t, .int .i64 f, .int .i64 l], 32)] := (GX.start w).add #[.slice a n cap, .int .i64 t, .int .i64 f, .int .i64 l] 32 rfl
  go_enter Try.func4, Try.ntmps4
  go_wp2_with fail
  refine (szArnArena_any _ _ _ _ _ _ _ _ (by omega) (by omega) (by omega)).mono ?_
  rintro e w0 ⟨rfl, hb0⟩
  rw [if_pos hsz.out]
  have G1 := G0.below hb0
  clear G0 hb0
  obtain ⟨p0, p1, p2, p3⟩ := cell_of4 (G1.bx (w.heap.size, #[.slice a n cap, .int .i64 t, .int .i64 f, .int .i64 l], 32) (by simp))
  go_wp2_with fail
  refine (toArnArena_any _ _ _ ns _ _ _ _ (hs.below G1.bel) hn).mono ?_
  rintro e w1 ⟨g1, hg1, rfl, ho1, hb1⟩
  have G2 := G1.below hb1
  have s1 := own6_snodes ho1
  have n0 : w.heap.size < w1.heap.size := lt_of_some (G2.bx (w.heap.size, #[.slice a n cap, .int .i64 t, .int .i64 f, .int .i64 l], 32) (by simp))
  clear G1 hb1 ho1 hg1 p0 p1 p2 p3
  go_wp2_with fail
  refine (hspec.out _ _ s1).mono ?_
  rintro e w2 ⟨uw, rfl, hw, _, hb2⟩
  have G3 := (G2.below hb2).add #[uw.m D, uw.s D, uw.q D] 39 (b := w2.heap.size) rfl
  have X3 := hw.below (Nat.le_refl _) (al1 w2 (.cells #[uw.m D, uw.s D, uw.q D] 39))
  have n1 := hb2.size
  have n2 : w2.heap.size < (w2.alloc (.cells #[uw.m D, uw.s D, uw.q D] 39)).heap.size := by simp
  clear G2 s1 hw hb2
  obtain ⟨p0, p1, p2, p3⟩ := cell_of4 (G3.bx (w.heap.size, #[.slice a n cap, .int .i64 t, .int .i64 f, .int .i64 l], 32) (by simp))
  go_wp2_with fail
  refine (toArnArena_any _ _ _ ns _ _ _ _ (hs.below G3.bel) hn).mono ?_
  generalize w2.alloc (.cells #[uw.m D, uw.s D, uw.q D] 39) = W3 at G3 X3 n2 p0 p1 p2 p3 ⊢
  rintro e w4 ⟨gx, hgx, rfl, ox, hb4⟩
  have G4 := (G3.below hb4).add #[.slice (some ⟨gx, 0, none⟩) n n, .int .i64 t, .int .i64 f, .int .i64 l] 43 (b := w4.heap.size) rfl
  have X4 := (X3.below (Nat.le_of_lt n2) hb4).below (Nat.le_trans (Nat.le_of_lt n2) hb4.size) (al1 w4 (.cells #[.slice (some ⟨gx, 0, none⟩) n n, .int .i64 t, .int .i64 f, .int .i64 l] 43))
  have O4 := ownsRow_below ox (al1 w4 (.cells #[.slice (some ⟨gx, 0, none⟩) n n, .int .i64 t, .int .i64 f, .int .i64 l] 43))
  have hxk : Hid (∀ k, (Value.slice (some ⟨gx, 0, none⟩) n n).ownBlock = some k → W3.heap.size ≤ k ∧ k < w4.heap.size) := fun k e => ox.lt k e
  have n3 := hb4.size
  have n4 : w4.heap.size < (w4.alloc (.cells #[.slice (some ⟨gx, 0, none⟩) n n, .int .i64 t, .int .i64 f, .int .i64 l] 43)).heap.size := by simp
  clear G3 X3 hb4 ox hgx p0 p1 p2 p3
  go_wp2_with fail
  refine (himpl.out _ _ (own6_snodes O4)).mono ?_
  generalize w4.alloc (.cells #[.slice (some ⟨gx, 0, none⟩) n n, .int .i64 t, .int .i64 f, .int .i64 l] 43) = W5 at G4 X4 O4 n4 ⊢
  rintro e w6 ⟨ug, rfl, hg, hag, hb6⟩
  have n5 := hb6.size
  have I7 : OG w (w6.alloc (.cells #[ug.m D, ug.s D, ug.q D] 39)) [(w6.heap.size, #[ug.m D, ug.s D, ug.q D], 39), (w4.heap.size, #[.slice (some ⟨gx, 0, none⟩) n n, .int .i64 t, .int .i64 f, .int .i64 l], 43), (w2.heap.size, #[uw.m D, uw.s D, uw.q D], 39), (w.heap.size, #[.slice a n cap, .int .i64 t, .int .i64 f, .int .i64 l], 32)] w1.heap.size w2.heap.size uw D W5.heap.size w6.heap.size ug D := ⟨(G4.below hb6).add #[ug.m D, ug.s D, ug.q D] 39 (b := w6.heap.size) rfl, (X4.below (by omega) hb6).below (by omega) (al1 w6 (.cells #[ug.m D, ug.s D, ug.q D] 39)), by simp; omega, hg.below (Nat.le_refl _) (al1 w6 (.cells #[ug.m D, ug.s D, ug.q D] 39)), by simp⟩
  have O7 := ownsRow_below (ownsRow_below O4 hb6) (al1 w6 (.cells #[ug.m D, ug.s D, ug.q D] 39))
  have HAG : Hid (Apart ug D) := hag
  have HN : Hid (w.heap.size < w1.heap.size ∧ w1.heap.size ≤ w2.heap.size ∧ w2.heap.size < W3.heap.size ∧ W3.heap.size ≤ w4.heap.size ∧ w4.heap.size < W5.heap.size ∧ W5.heap.size ≤ w6.heap.size) := ⟨n0, n1, n2, n3, n4, n5⟩
  clear G4 X4 O4 hg hag hb6 n0 n1 n2 n3 n4 n5
  obtain ⟨b0, b1, b2⟩ := (cell_of3 (I7.g.bx (w6.heap.size, #[ug.m D, ug.s D, ug.q D], 39) (by simp))).cells
  obtain ⟨c0, c1, c2⟩ := (cell_of3 (I7.g.bx (w2.heap.size, #[uw.m D, uw.s D, uw.q D], 39) (by simp))).cells
  go_wp2_with fail
  refine (eqLinState_yes ug uw D _ I7.y.ss I7.x.ss hD.out).mono ?_
  generalize w6.alloc (.cells #[ug.m D, ug.s D, ug.q D] 39) = W7 at I7 O7 b0 b1 b2 c0 c1 c2 ⊢
  rintro e w8 ⟨rfl, hb⟩
  have I8 : Hid (OG w w8 [(w6.heap.size, #[ug.m D, ug.s D, ug.q D], 39), (w4.heap.size, #[.slice (some ⟨gx, 0, none⟩) n n, .int .i64 t, .int .i64 f, .int .i64 l], 43), (w2.heap.size, #[uw.m D, uw.s D, uw.q D], 39), (w.heap.size, #[.slice a n cap, .int .i64 t, .int .i64 f, .int .i64 l], 32)] w1.heap.size w2.heap.size uw D W5.heap.size w6.heap.size ug D ∧ w8.ownsRow W3.heap.size 86 6 (.slice (some ⟨gx, 0, none⟩) n n) n (flatN ns)) := ⟨I7.below hb, ownsRow_below O7 hb⟩
  clear I7 O7 hb b0 b1 b2 c0 c1 c2
  obtain ⟨x0, x1, x2, x3⟩ := cell_of4 (I8.out.1.g.bx (w4.heap.size, #[.slice (some ⟨gx, 0, none⟩) n n, .int .i64 t, .int .i64 f, .int .i64 l], 43) (by simp))
  obtain ⟨p0, p1, p2, p3⟩ := cell_of4 (I8.out.1.g.bx (w.heap.size, #[.slice a n cap, .int .i64 t, .int .i64 f, .int .i64 l], 32) (by simp))
  go_wp2
  go_region_held (fun w' => w'.cell? ⟨w4.heap.size, 0, none⟩ = some (.slice (some ⟨gx, 0, none⟩) n n) ∧ w'.cell? ⟨w4.heap.size, 1, none⟩ = some (.int .i64 t) ∧ w'.cell? ⟨w4.heap.size, 2, none⟩ = some (.int .i64 f) ∧ w'.cell? ⟨w4.heap.size, 3, none⟩ = some (.int .i64 l) ∧ w'.cell? ⟨w.heap.size, 0, none⟩ = some (.slice a n cap) ∧ w'.cell? ⟨w.heap.size, 1, none⟩ = some (.int .i64 t) ∧ w'.cell? ⟨w.heap.size, 2, none⟩ = some (.int .i64 f) ∧ w'.cell? ⟨w.heap.size, 3, none⟩ = some (.int .i64 l)) ((refine ⟨?_, ?_, ?_, ?_, ?_, ?_, ?_, ?_⟩ <;> (try (with_reducible (refine c_drew ?_))) <;> (repeat (with_reducible (refine c_far (by omega) ?_))) <;> (with_reducible assumption))) (first | (go_at_call 14; refine (toArnArena_any _ _ _ ns _ _ _ _ (hs.below I8.out.1.g.bel.drew) hn).mono ?_; rintro e w9 ⟨g9, hg9, rfl, ho9, hb⟩; have hc := below_trans' (Below.refl w8.heap.size w8).drew hb; have I9 : Hid (OG w w9 [(w6.heap.size, #[ug.m D, ug.s D, ug.q D], 39), (w4.heap.size, #[.slice (some ⟨gx, 0, none⟩) n n, .int .i64 t, .int .i64 f, .int .i64 l], 43), (w2.heap.size, #[uw.m D, uw.s D, uw.q D], 39), (w.heap.size, #[.slice a n cap, .int .i64 t, .int .i64 f, .int .i64 l], 32)] w1.heap.size w2.heap.size uw D W5.heap.size w6.heap.size ug D ∧ w9.ownsRow W3.heap.size 86 6 (.slice (some ⟨gx, 0, none⟩) n n) n (flatN ns)) := ⟨I8.out.1.below hc, ownsRow_below I8.out.2 hc⟩; have HO9 : Hid (SNodes w9 (some ⟨g9, 0, none⟩) n ns) := own6_snodes ho9; obtain ⟨x90, x91, x92, x93⟩ := cell_of4 (I9.out.1.g.bx (w4.heap.size, #[.slice (some ⟨gx, 0, none⟩) n n, .int .i64 t, .int .i64 f, .int .i64 l], 43) (by simp)); obtain ⟨p90, p91, p92, p93⟩ := cell_of4 (I9.out.1.g.bx (w.heap.size, #[.slice a n cap, .int .i64 t, .int .i64 f, .int .i64 l], 32) (by simp)); clear hb hc ho9 hg9) | (go_at_call 17; refine (eqArnArena_yes _ _ _ _ _ ns _ _ _ _ (own6_snodes I9.out.2) HO9.out (by omega)).mono ?_; rintro e w10 ⟨rfl, hb⟩; have I10 : Hid (OG w w10 [(w6.heap.size, #[ug.m D, ug.s D, ug.q D], 39), (w4.heap.size, #[.slice (some ⟨gx, 0, none⟩) n n, .int .i64 t, .int .i64 f, .int .i64 l], 43), (w2.heap.size, #[uw.m D, uw.s D, uw.q D], 39), (w.heap.size, #[.slice a n cap, .int .i64 t, .int .i64 f, .int .i64 l], 32)] w1.heap.size w2.heap.size uw D W5.heap.size w6.heap.size ug D ∧ w10.ownsRow W3.heap.size 86 6 (.slice (some ⟨gx, 0, none⟩) n n) n (flatN ns)) := ⟨I9.out.1.below hb, ownsRow_below I9.out.2 hb⟩; obtain ⟨x100, x101, x102, x103⟩ := cell_of4 (I10.out.1.g.bx (w4.heap.size, #[.slice (some ⟨gx, 0, none⟩) n n, .int .i64 t, .int .i64 f, .int .i64 l], 43) (by simp)); obtain ⟨p100, p101, p102, p103⟩ := cell_of4 (I10.out.1.g.bx (w.heap.size, #[.slice a n cap, .int .i64 t, .int .i64 f, .int .i64 l], 32) (by simp)); clear hb))
  clear x0 x1 x2 x3 p0 p1 p2 p3 x90 x91 x92 x93 p90 p91 p92 p93
  clear I8 I9 HO9
  clear p100 p101 p102 p103
  go_wp2_with fail
  refine (markArnArena_any _ _ _ _ ns _ _ _ 1 _ I10.out.2 (by omega) (by omega) (by omega)).mono ?_
  rintro e w11 ⟨rfl, _, hg11⟩
  have ht := turnP_grown (P := fun k => (Value.slice (some ⟨gx, 0, none⟩) n n).ownBlock = some k) hg11 (fun k e => e)
  have hn0 := HN.out
  have I11 : OG w w11 [(w6.heap.size, #[ug.m D, ug.s D, ug.q D], 39), (w4.heap.size, #[.slice (some ⟨gx, 0, none⟩) n n, .int .i64 t, .int .i64 f, .int .i64 l], 43), (w2.heap.size, #[uw.m D, uw.s D, uw.q D], 39), (w.heap.size, #[.slice a n cap, .int .i64 t, .int .i64 f, .int .i64 l], 32)] w1.heap.size w2.heap.size uw D W5.heap.size w6.heap.size ug D := I10.out.1.turn ht (fun k e => by have := hxk.out k e; omega) (fun p hp e => by
    have := hxk.out p.1 e
    simp only [List.mem_cons, List.not_mem_nil, or_false] at hp
    rcases hp with rfl | rfl | rfl | rfl
    · simp only at this; omega
    · simp only at this; omega
    · simp only at this; omega
    · simp only at this; omega) (fun k e => by have := hxk.out k e; omega) (fun k e => by have := hxk.out k e; omega)
  clear I10 ht hg11 hn0 x100 x101 x102 x103
  obtain ⟨b0, b1, b2⟩ := (cell_of3 (I11.g.bx (w6.heap.size, #[ug.m D, ug.s D, ug.q D], 39) (by simp))).cells
  obtain ⟨c0, c1, c2⟩ := (cell_of3 (I11.g.bx (w2.heap.size, #[uw.m D, uw.s D, uw.q D], 39) (by simp))).cells
  go_wp2_with fail
  refine (eqLinState_yes ug uw D _ I11.y.ss I11.x.ss hD.out).mono ?_
  rintro e w12 ⟨rfl, hb⟩
  have I12 := I11.below hb
  clear I11 hb b0 b1 b2 c0 c1 c2
  obtain ⟨b0, b1, b2⟩ := (cell_of3 (I12.g.bx (w6.heap.size, #[ug.m D, ug.s D, ug.q D], 39) (by simp))).cells
  have hq0 : ¬ (1 + 2 * (D.n : Int) + D.s.length + D.q.length < 0) := by omega
  go_wp2_with fail
  refine (markLinState_any _ _ ug D _ I12.y HAG.out hD.out (Nat.le_trans HN.out.2.2.2.2.2 I12.yh) I12.yh).mono ?_
  rintro e w13 ⟨rfl, hmk, htn⟩
  have hn0 := HN.out
  have I13 : OG w w13 [(w6.heap.size, #[ug.m D, ug.s D, ug.q D], 39), (w4.heap.size, #[.slice (some ⟨gx, 0, none⟩) n n, .int .i64 t, .int .i64 f, .int .i64 l], 43), (w2.heap.size, #[uw.m D, uw.s D, uw.q D], 39), (w.heap.size, #[.slice a n cap, .int .i64 t, .int .i64 f, .int .i64 l], 32)] w1.heap.size w2.heap.size uw D W5.heap.size w6.heap.size ug (markD D) := I12.mark (turnP_in htn) hmk (by omega) (fun p hp hk => by
    simp only [List.mem_cons, List.not_mem_nil, or_false] at hp
    rcases hp with rfl | rfl | rfl | rfl
    · simp only at hk; omega
    · simp only at hk; omega
    · simp only at hk; omega
    · simp only at hk; omega) (by omega)
  clear I12 hmk htn hn0 b0 b1 b2
  obtain ⟨b0, b1, b2⟩ := (cell_of3 (I13.g.bx (w6.heap.size, #[ug.m D, ug.s D, ug.q D], 39) (by simp))).cells
  go_wp2_with fail
  refine (heldLinState_any ug D _ I13.y.ss hD.out).mono ?_
  rintro e w14 ⟨rfl, hb⟩
  have I14 := I13.below hb
  clear I13 hb b0 b1 b2
  obtain ⟨p0, p1, p2, p3⟩ := cell_of4 (I14.g.bx (w.heap.size, #[.slice a n cap, .int .i64 t, .int .i64 f, .int .i64 l], 32) (by simp))
  go_wp2_with fail
  refine (toArnArena_any _ _ _ ns _ _ _ _ (hs.below I14.g.bel) hn).mono ?_
  rintro e w15 ⟨g15, hg15, rfl, ho15, hb⟩
  have I15 := I14.below hb
  clear I14 hb hg15 p0 p1 p2 p3
  go_wp2_with fail
  refine (himpl.out _ _ (own6_snodes ho15)).mono ?_
  rintro e w16 ⟨uh, rfl, hh, _, hb⟩
  have I16 := (I15.below hb).below (al1 w16 (.cells #[uh.m D, uh.s D, uh.q D] 39))
  have H16 := (hh.below (Nat.le_refl _) (al1 w16 (.cells #[uh.m D, uh.s D, uh.q D] 39))).ss
  obtain ⟨d0, d1, d2⟩ := (b3_new w16 (uh.m D) (uh.s D) (uh.q D) 39 rfl).cells
  clear I15 hb ho15 hh
  obtain ⟨c0, c1, c2⟩ := (cell_of3 (I16.g.bx (w2.heap.size, #[uw.m D, uw.s D, uw.q D], 39) (by simp))).cells
  go_wp2_with fail
  refine (eqLinState_yes uh uw D _ H16 I16.x.ss hD.out).mono ?_
  generalize w16.alloc (.cells #[uh.m D, uh.s D, uh.q D] 39) = W17 at I16 H16 d0 d1 d2 c0 c1 c2 ⊢
  rintro e w18 ⟨rfl, hb⟩
  have I18 := I16.below hb
  clear I16 H16 hb d0 d1 d2 c0 c1 c2
  obtain ⟨b0, b1, b2⟩ := (cell_of3 (I18.g.bx (w6.heap.size, #[ug.m D, ug.s D, ug.q D], 39) (by simp))).cells
  go_wp2_with fail
  refine (heldLinState_any ug D _ I18.y.ss hD.out).mono ?_
  rintro e w19 ⟨rfl, hb⟩
  have HB : Hid (Below w.heap.size w w19) := below_trans' I18.g.bel hb
  clear I18 hb b0 b1 b2
  go_wp2
  go_ret
  exact ⟨rfl, HB.out⟩

set_option maxHeartbeats 400000 in
theorem linOf_walk (a : Option Addr) (n cap : Nat) (ns : List Nd) (t f l : Int) (w : World) (hs : SNodes w a n ns) (hm : n ≤ 9223372036854775807) :
    Calls Try.prog 4 #[.agg #[.slice a n cap, .int .i64 t, .int .i64 f, .int .i64 l]] w fun e w' => e = .returned (.bool true) ∧ Below w.heap.size w w' := by
  by_cases hn : n ≤ 1048576
  · exact linOf_law a n cap ns t f l w hs hn (ofD ns t f l) (ofD_few ns t f l) (fun W g h => specLinOf_any _ n n ns t f l W h hn) (fun W g h => implLinOf_any _ n n ns t f l W h hn)
  · clear hs
    go_enter Try.func4, Try.ntmps4
    go_wp2_with fail
    refine (szArnArena_any _ _ _ _ _ _ _ _ hm (by omega) (by omega)).mono ?_
    rintro e w0 ⟨rfl, hb0⟩
    rw [if_neg (show ¬ (n : Int) ≤ 1048576 by omega)]
    have hb := below_trans' (al1 w _) hb0
    clear hb0
    go_wp2
    go_ret
    exact ⟨rfl, hb⟩

set_option maxRecDepth 100000 in
theorem linOf_lifted (os : Os) (started : os.Started) (H : Type) (enc : TypeId × Value → H) :
    ReturnsInHanded {} Try.checked os 4 .any (Rows.fnExactLinOfSpec.pre6 enc Try.prog Try.f4 Rows.fnExactLinOfRow.domain false) (Rows.fnExactLinOfSpec.post enc Try.prog Try.f4 false true false false) := by
  refine returnsInHanded_of_change (C := Try.checked) own started (by kernel_rfl) Try.func4
    (ChangeSpec.witness6 (enc := enc) (C := Try.checked) false ⟨#[], #[.agg #[.slice none 0 0, .int .i64 0, .int .i64 0, .int .i64 0]], []⟩ 8 (by kernel_rfl) (by kernel_rfl) (by kernel_rfl) (by kernel_rfl)) ?_
  intro W base args ds gs before hval0 hW hcnd _
  have hval : ∀ (j : Nat) t v, Try.f4.params[j]? = some t → args[j]? = some v → Value.okWide Try.prog W .any base t v := hval0
  have hW' := hW
  obtain ⟨p, q, hA0, hV, rfl, hfz, hnd⟩ := hW
  have hA : DataW.TrodAll enc Try.prog W 0 (fun _ => true) true Try.f4.params.toList args.toList ds p := hA0
  rw [Try.params4] at hA hval
  obtain ⟨v0, vs0, d0, ds0, p0, q0, hargs, rfl, rfl, h0, r0⟩ := trodAll_cons hA
  obtain ⟨rfl, rfl, rfl⟩ := trodAll_nil r0
  obtain rfl : args = #[v0] := by cases args; simp_all
  obtain ⟨rfl, rfl⟩ := trodVars_none hV
  have k0 := h0
  have lt0 : ∀ x ∈ p0, x.block < W.heap.size := by obtain ⟨m, hm⟩ := k0; exact DataW.trod_lt m _ _ _ hm
  obtain ⟨a0, len0, cap0, tt, ff, ll, ns, rfl, hs, hm⟩ := arena_of_open (hval 0 32 v0 rfl rfl) h0
  clear hA0 hval0
  refine (linOf_walk a0 len0 cap0 ns tt ff ll W hs hm).mono fun e W' ⟨he, bel⟩ => ?_
  subst he
  exact ⟨_, rfl, _, _, _, [], _, [], hW', trodAll_mk1 (shut_bool Try.underlying4 _), (trodAll_cons_mk (Below.trod laidOut (by kernel_rfl) (of_decide_eq_true (by kernel_rfl)) k0 bel lt0) trodAll_mk0), rfl, bel.frame _, fun h => by cases h⟩

theorem linOf_holds : Rows.FnExactLinOfSaid :=
  OpenClaim.holds_of_wide 4 Try.f4 rfl rfl rfl rfl rfl rfl rfl ⟨rfl, rfl, rfl, rfl, rfl⟩ rfl rfl rfl rfl rfl (by kernel_rfl) Try.func4 (by kernel_rfl)
    (of_decide_eq_true (by kernel_rfl)) (by unfold Func.isWrapper; first | (rw [if_pos (by decide +kernel)]; kernel_rfl) | (rw [if_neg (by decide +kernel)]; exact ⟨rfl, rfl⟩))
    (fun os started H enc _ => linOf_lifted os started H enc)

#print axioms linOf_holds

end Go.Proofs.Ytklpdpdjblakgaa
