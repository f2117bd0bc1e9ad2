/- Contracts of the copies of all places, of the specification's and of the program's. -/
import Derived.Test.YtbjgepcbbonceaaShape2
import Derived.Test.YtbjgepcbbonceaaAppend
import Derived.Deep.RegionHeldLaw
namespace Go.Proofs.Ytbjgepcbbonceaa
open Go.RowKit
set_option linter.unusedVariables false

/-- An append onto a row of one's own, as one step of a region that draws. -/
theorem step_append_mine {P : Program} {ops : Array Oper} {o : Oper} {a : Act} {w : World} {K : Act → World → Prop} {Q : Exit → Act → World → Prop} {E : Prop}
    (hg : o.guard = none) (s x : Operand) (t : TypeId) (hop : o.op = Op.call { callee := Callee.builtin Builtin.append, args := #[s, x], argTypes := #[t, t] })
    (base : Nat) (e : TypeId) (i : TypeInfo) (z : Value) (size bytes : Nat) (h1 : P.underlying t = some (.slice e)) (h2 : P.info? e = some i) (h3 : i.zero = some z) (h4 : i.size = size) (h5 : i.bytes = bytes) (h6 : z.cells.size = size) (h7 : 0 < size)
    (v : Value) (n : Nat) (xs : List Value) (hs : a.eval s = v) (hown : w.ownsRow base e size v n xs)
    (ad : Addr) (m c : Nat) (news : List Value) (hx : a.eval x = .slice (some ad) m c) (hn : news.length = m * size) (hc : ∀ j u, news[j]? = some u → w.cell? (ad.add j) = some u) (h1c : ∀ u ∈ news, u.oneCell' = true)
    (b1 : n + m ≤ maxLen) (b2 : (n + m) * bytes ≤ 140737488355328) (hbase : base ≤ w.heap.size)
    (hK : ∀ v' w', w'.ownsRow base e size v' (n + m) (xs ++ news) → w.grownBy w' v.ownBlock → K (a.put o.dst v') w') :
    if Region.wanted o (yielded ops a.tmps) = true then Oper.wp P o a w K Q else E := by
  have hw : Region.wanted o (yielded ops a.tmps) = true := by simp [Region.wanted, hg]
  rw [if_pos hw]
  obtain ⟨v', w', hrun, r1, r2, _⟩ := run_append_own (P := P) w base t o.type e i z size bytes h1 h2 h3 h4 h5 h6 h7 v n xs hown ad m c news hn hc h1c b1 b2 hbase
  unfold Oper.wp
  simp [execOp, hop, resolve, invoke, builtin, hs, hx, hrun, Result.andThen]
  exact hK v' w' r1 r2

theorem flatN_one (ns : List Nd) : ∀ u ∈ flatN ns, u.oneCell' = true := by
  intro u hu
  simp only [flatN, List.mem_flatMap, Nd.cells] at hu
  obtain ⟨x, _, hx⟩ := hu
  simp only [List.mem_cons, List.not_mem_nil, or_false] at hx
  rcases hx with rfl | rfl | rfl | rfl | rfl | rfl <;> rfl

/-- The cells of all places, for an append. -/
theorem SNodes.src {w : World} {b off n : Nat} {ns : List Nd} (hs : SNodes w (some ⟨b, off, none⟩) n ns) : ∀ j u, (flatN ns)[j]? = some u → w.cell? ((⟨b, off, none⟩ : Addr).add j) = some u := by
  intro j u hj
  have hl := (List.getElem?_eq_some_iff.1 hj).1
  rw [flatN_len] at hl
  have hjn : j / 6 < n := by have := hs.1; omega
  obtain ⟨b', off', x, e, hx, hN⟩ := hs.at hjn
  cases e
  rw [show j = j / 6 * 6 + j % 6 by omega, flatN_get _ _ _ (by omega), hx] at hj
  have h6 : j % 6 = 0 ∨ j % 6 = 1 ∨ j % 6 = 2 ∨ j % 6 = 3 ∨ j % 6 = 4 ∨ j % 6 = 5 := by omega
  rw [Addr.add_lit]
  rcases h6 with h | h | h | h | h | h <;> simp only [h, Option.bind_some, Nd.cells, List.getElem?_cons_zero, List.getElem?_cons_succ, Option.some.injEq] at hj <;> subst hj
  · rw [show off + j = off + j / 6 * 6 by omega]; exact hN.c0
  · rw [show off + j = off + j / 6 * 6 + 1 by omega]; exact hN.c1
  · rw [show off + j = off + j / 6 * 6 + 2 by omega]; exact hN.c2
  · rw [show off + j = off + j / 6 * 6 + 3 by omega]; exact hN.c3
  · rw [show off + j = off + j / 6 * 6 + 4 by omega]; exact hN.c4
  · rw [show off + j = off + j / 6 * 6 + 5 by omega]; exact hN.c5

/-- The answer is all places, in memory of its own. -/
def ArenaRes (ns : List Nd) (n : Nat) (t f l : Int) (e : Ending) (w w' : World) : Prop :=
  ∃ a c, e = .returned (.agg #[.slice a n c, .int .i64 t, .int .i64 f, .int .i64 l]) ∧ w'.ownsRow w.heap.size 46 6 (.slice a n c) n (flatN ns) ∧ Below w.heap.size w w'

theorem BoxA.grown {W W' : World} {b : Nat} {a : Option Addr} {n cap : Nat} {t f l : Int} (h : BoxA W b a n cap t f l) {row : Option Nat} (hg : W.grownBy W' row) (hne : some b ≠ row) : BoxA W' b a n cap t f l :=
  ⟨hg.cell h.c0 hne, hg.cell h.c1 hne, hg.cell h.c2 hne, hg.cell h.c3 hne⟩
theorem BoxA.drew {W : World} {b : Nat} {a : Option Addr} {n cap : Nat} {t f l : Int} (h : BoxA W b a n cap t f l) : BoxA W.drew b a n cap t f l := ⟨h.c0, h.c1, h.c2, h.c3⟩
theorem frozen_grown {W W' : World} {row : Option Nat} (hg : W.grownBy W' row) {b o : Nat} (hb : b < W.heap.size) (hne : some b ≠ row) (h : W.frozen? ⟨b, o, none⟩ = false) : W'.frozen? ⟨b, o, none⟩ = false :=
  (World.frozen?_of_block (w := W) (a := ⟨b, o, none⟩) (hg.block b hb hne)).trans h

/-- Behind an append onto the third of three new blocks: the first two, and all that was there. -/
theorem behind_lit {w w2 : World} {a : Option Addr} {n cap : Nat} {t f l : Int} (hg : (((w.alloc (.cells #[.slice a n cap, .int .i64 t, .int .i64 f, .int .i64 l] 28)).alloc (.cells #[.slice none 0 0, .int .i64 0, .int .i64 0, .int .i64 0] 28)).alloc (.cells #[] 46)).drew.grownBy w2 (some (w.heap.size + 1 + 1))) :
    BoxA w2 w.heap.size a n cap t f l ∧ BoxA w2 (w.heap.size + 1) none 0 0 0 0 0 ∧ (∀ j, w2.frozen? ⟨w.heap.size + 1, j, none⟩ = false) ∧ Below w.heap.size w w2 := by
  have B := below_trans' (below_trans' (al1 w (.cells #[.slice a n cap, .int .i64 t, .int .i64 f, .int .i64 l] 28)) (al1 _ (.cells #[.slice none 0 0, .int .i64 0, .int .i64 0, .int .i64 0] 28))) (al1 _ (.cells #[] 46))
  have b0 := ((boxA_new w a n cap t f l 28 rfl).below (al1 _ (.cells #[.slice none 0 0, .int .i64 0, .int .i64 0, .int .i64 0] 28))).below (al1 _ (.cells #[] 46))
  have b1 := (boxA_new (w.alloc (.cells #[.slice a n cap, .int .i64 t, .int .i64 f, .int .i64 l] 28)) none 0 0 0 0 0 28 (b := w.heap.size + 1) (by simp)).below (al1 _ (.cells #[] 46))
  refine ⟨b0.drew.grown hg (by simp; omega), b1.drew.grown hg (by simp), fun j => frozen_grown hg (by simp) (by simp) ?_, B.drew.grown hg (by simp; omega) (fun k e => by cases e; omega)⟩
  show World.frozen? (World.alloc _ _) _ = false
  rw [(al1 _ _).frozen (p := ⟨w.heap.size + 1, j, none⟩) (by simp)]
  exact frozen_at' _ _ _ j (by simp)

set_option maxHeartbeats 4000000 in
theorem l2Copy_any (b off cap : Nat) (ns : List Nd) (t f l : Int) (w : World) (hs : SNodes w (some ⟨b, off, none⟩) 10 ns) :
    Calls Try.prog 21 #[.agg #[.slice (some ⟨b, off, none⟩) 10 cap, .int .i64 t, .int .i64 f, .int .i64 l]] w fun e w' => ArenaRes ns 10 t f l e w w' := by
  obtain ⟨i0, hi, hz0, hz1, hz2⟩ := info_parts Try.info46
  have A := al1 w (.cells #[.slice (some ⟨b, off, none⟩) 10 cap, .int .i64 t, .int .i64 f, .int .i64 l] 28)
  have B3 := below_trans' (below_trans' A (al1 _ (.cells #[.slice none 0 0, .int .i64 0, .int .i64 0, .int .i64 0] 28))) (al1 _ (.cells #[] 46))
  have hlen : Hid ((flatN ns).length = 10 * 6) := by show _ = _; rw [flatN_len, hs.1]
  have src : Hid _ := (hs.below B3).src
  have own0 : Hid ((((w.alloc (.cells #[.slice (some ⟨b, off, none⟩) 10 cap, .int .i64 t, .int .i64 f, .int .i64 l] 28)).alloc (.cells #[.slice none 0 0, .int .i64 0, .int .i64 0, .int .i64 0] 28)).alloc (.cells #[] 46)).ownsRow (w.heap.size + 1 + 1) 46 6 (.slice (some ⟨w.heap.size + 1 + 1, 0, none⟩) 0 0) 0 []) := by
    have h := World.ownsRow_lit (base := w.heap.size + 1 + 1) (e := 46) (size := 6) ((w.alloc (.cells #[.slice (some ⟨b, off, none⟩) 10 cap, .int .i64 t, .int .i64 f, .int .i64 l] 28)).alloc (.cells #[.slice none 0 0, .int .i64 0, .int .i64 0, .int .i64 0] 28)) #[] 0 (by simp) (by decide) rfl
    simp only [World.size_alloc] at h
    exact h
  clear hs A B3
  go_enter Try.func21, Try.ntmps21
  go_wp2
  go_region_held_law (fun w' => w'.cell? ⟨w.heap.size, 0, none⟩ = some (.slice (some ⟨b, off, none⟩) 10 cap) ∧ w'.cell? ⟨w.heap.size, 1, none⟩ = some (.int .i64 t) ∧ w'.cell? ⟨w.heap.size, 2, none⟩ = some (.int .i64 f) ∧ w'.cell? ⟨w.heap.size, 3, none⟩ = some (.int .i64 l)) (go_keep)
    ((refine step_append_mine rfl (.tmp 3) (.tmp 5) 26 rfl (w.heap.size + 1 + 1) 46 i0 (.agg #[.int .i64 0, .int .i64 0, .int .i64 0, .int .i64 0, .bool false, .int .i64 0]) 6 48 Try.underlying26 hi hz0 hz1 hz2 rfl (by decide) (.slice (some ⟨w.heap.size + 1 + 1, 0, none⟩) 0 0) 0 [] rfl ?o ⟨b, off, none⟩ 10 cap (flatN ns) rfl hlen.out ?s (flatN_one ns) ?p ?q ?r ?z; (case o => exact own0.out); (case s => exact src.out); (case p => decide); (case q => decide); (case r => simp); intro v' w2 hown hgrow; obtain ⟨bx0, bx1, fz, hb2⟩ := behind_lit (w := w) (w2 := w2) (a := some ⟨b, off, none⟩) (n := 10) (cap := cap) (t := t) (f := f) (l := l) (by exact hgrow); have p0 := bx0.c0; have p1 := bx0.c1; have p2 := bx0.c2; have p3 := bx0.c3; have q0 := bx1.c0; have q1 := bx1.c1; have q2 := bx1.c2; have q3 := bx1.c3; have f0 := fz 0; have f1 := fz 1; have f2 := fz 2; have f3 := fz 3; simp only [Nat.zero_add, List.nil_append] at hown; obtain ⟨a', c', hv, hrest⟩ := own6_shape hown; subst hv; have HO : Hid (w2.ownsRow (w.heap.size + 1 + 1) 46 6 (.slice a' 10 c') 10 (flatN ns)) := hown; clear hown hgrow bx0 bx1 fz hrest))
  all_goals go_wp2
  refine bodyPost_ret (v := .agg #[.slice a' 10 c', .int .i64 t, .int .i64 f, .int .i64 l]) (by simp [results, Try.results21, go_sem, q0, q1, q2, q3]) rfl ⟨a', c', rfl, own_mono (own_putA HO.out (by omega) _ _ _ _ _ _) (by omega), below_putA hb2 (by omega) _ _ _ _ _ _⟩

set_option maxHeartbeats 1600000 in
/-- replaced, of ten places by nothing at the beginning: the same, in memory of its own. -/
theorem replacedN_any (b off cap : Nat) (ns : List Nd) (w : World) (hs : SNodes w (some ⟨b, off, none⟩) 10 ns) (hnc : 10 ≤ cap) (hcap : cap ≤ 9223372036854775807) :
    Calls Try.prog 45 #[.slice (some ⟨b, off, none⟩) 10 cap, .int .i64 0, .int .i64 0, .slice none 0 0] w fun e w' => ∃ a' c', e = .returned (.slice a' 10 c') ∧
      w'.ownsRow w.heap.size 46 6 (.slice a' 10 c') 10 (flatN ns) ∧ Below w.heap.size w w' := by
  obtain ⟨i0, hi, hz0, hz1, hz2⟩ := info_parts Try.info46
  have hlen : Hid ((flatN ns).length = 10 * 6) := by show _ = _; rw [flatN_len, hs.1]
  go_enter Try.func45, Try.ntmps45
  go_wp2_with (at_make; refine wpList_make_own _ rfl _ _ 64 rfl w.heap.size 46 i0 (.agg #[.int .i64 0, .int .i64 0, .int .i64 0, .int .i64 0, .bool false, .int .i64 0]) 6 Try.underlying64 hi hz0 hz1 _ _ _ 10 rfl rfl (by omega) ?b2 ?b3 (Nat.le_refl _) ?_)
  case b2 => rw [hz2]; omega
  case b3 => unfold maxLen; omega
  intro w0 hown0 hgrow0
  have hb0 : Below w.heap.size w w0 := (Below.refl _ _).grown hgrow0 (Nat.le_refl _) (fun k h => by cases h)
  have hlt0 := (hown0.lt w.heap.size rfl).2
  go_wp2_with (at_builtin; refine wpList_append_fits_two _ rfl (.tmp 24) (.tmp 27) 64 64 rfl w.heap.size 46 46 i0 6 Try.underlying64 Try.underlying64 hi hz1 w.heap.size 0 10 _ rfl hown0 _ 0 _ [] rfl rfl (Or.inl rfl) (by simp) (by omega) ?_)
  intro w1 hown1 hgrow1
  have hb1 := hb0.grown hgrow1 hb0.size (fun k h => by cases h; exact Nat.le_refl _)
  have hlt1 := (hown1.lt w.heap.size rfl).2
  go_wp2_with (at_builtin; refine wpList_append_fits_two _ rfl (.tmp 29) (.tmp 30) 64 26 rfl w.heap.size 46 46 i0 6 Try.underlying64 Try.underlying26 hi hz1 w.heap.size 0 10 _ rfl hown1 _ 0 _ [] rfl rfl (Or.inl rfl) (by simp) (by omega) ?_)
  intro w2 hown2 hgrow2
  have hb2 := hb1.grown hgrow2 hb1.size (fun k h => by cases h; exact Nat.le_refl _)
  have S3 : Hid (∀ ao : Option Addr, (¬ cap = 0 → ao = some ⟨b, off, none⟩) → (10 = 0 ∨ ∃ ad, ao = some ad ∧ ∀ j u, (flatN ns)[j]? = some u → w2.cell? (ad.add j) = some u)) := fun ao hao => .inr ⟨_, hao (by omega), (hs.below hb2).src⟩
  clear hs
  go_wp2_with (at_builtin; refine wpList_append_fits_two _ rfl (.tmp 32) (.tmp 35) 64 64 rfl w.heap.size 46 46 i0 6 Try.underlying64 Try.underlying64 hi hz1 w.heap.size 0 10 _ rfl hown2 _ 10 _ (flatN ns) rfl hlen.out (S3.out _ (by intro h; first | rfl | simp [h])) (flatN_one ns) (by omega) ?_)
  all_goals
    intro w3 hown3 hgrow3
    have hb3 := hb2.grown hgrow3 hb2.size (fun k h => by cases h; exact Nat.le_refl _)
    go_wp2
    go_ret
    exact ⟨_, _, rfl, hown3, hb3⟩

set_option maxHeartbeats 400000 in
theorem sameN_any (b off cap : Nat) (ns : List Nd) (w : World) (hs : SNodes w (some ⟨b, off, none⟩) 10 ns) (hnc : 10 ≤ cap) (hcap : cap ≤ 9223372036854775807) :
    Calls Try.prog 43 #[.slice (some ⟨b, off, none⟩) 10 cap] w fun e w' => ∃ a' c', e = .returned (.slice a' 10 c') ∧
      w'.ownsRow w.heap.size 46 6 (.slice a' 10 c') 10 (flatN ns) ∧ Below w.heap.size w w' := by
  go_enter Try.func43, Try.ntmps43
  go_wp2_with fail
  refine (replacedN_any _ _ _ ns _ hs hnc hcap).mono ?_
  rintro e w1 ⟨a', c', rfl, ho, hb⟩
  have HO : Hid (w1.ownsRow w.heap.size 46 6 (.slice a' 10 c') 10 (flatN ns)) := ho
  clear ho hs
  go_wp2
  go_ret
  exact ⟨_, _, rfl, HO.out, hb⟩

set_option maxHeartbeats 800000 in
theorem sameA_any (b off cap : Nat) (ns : List Nd) (t f l : Int) (w : World) (hs : SNodes w (some ⟨b, off, none⟩) 10 ns) (hnc : 10 ≤ cap) (hcap : cap ≤ 9223372036854775807) :
    Calls Try.prog 39 #[.agg #[.slice (some ⟨b, off, none⟩) 10 cap, .int .i64 t, .int .i64 f, .int .i64 l]] w fun e w' => ArenaRes ns 10 t f l e w w' := by
  have B2 := below_trans' (al1 w (.cells #[.slice (some ⟨b, off, none⟩) 10 cap, .int .i64 t, .int .i64 f, .int .i64 l] 28)) (al1 _ (.cells #[.slice none 0 0, .int .i64 0, .int .i64 0, .int .i64 0] 28))
  have bx0 := (boxA_new w (some ⟨b, off, none⟩) 10 cap t f l 28 rfl).below (al1 _ (.cells #[.slice none 0 0, .int .i64 0, .int .i64 0, .int .i64 0] 28))
  have bx1 := boxA_new (w.alloc (.cells #[.slice (some ⟨b, off, none⟩) 10 cap, .int .i64 t, .int .i64 f, .int .i64 l] 28)) none 0 0 0 0 0 28 (b := w.heap.size + 1) (by simp)
  go_enter Try.func39, Try.ntmps39
  go_wp2_with fail
  refine (sameN_any _ _ _ ns _ (hs.below B2) hnc hcap).mono ?_
  rintro e w1 ⟨a', c', rfl, ho, hb⟩
  have hb' := below_trans' B2 hb
  have b0 := bx0.below hb
  have b1 := bx1.below hb
  have p0 := b0.c0
  have p1 := b0.c1
  have p2 := b0.c2
  have p3 := b0.c3
  have q0 := b1.c0
  have q1 := b1.c1
  have q2 := b1.c2
  have q3 := b1.c3
  have fp0 : w1.frozen? ⟨w.heap.size, 0, none⟩ = false := by
    rw [hb.frozen (p := ⟨w.heap.size, 0, none⟩) (by simp; omega), (al1 _ _).frozen (p := ⟨w.heap.size, 0, none⟩) (by simp)]
    exact frozen_at' _ _ _ 0 rfl
  have fq : ∀ j, w1.frozen? ⟨w.heap.size + 1, j, none⟩ = false := fun j => by
    rw [hb.frozen (p := ⟨w.heap.size + 1, j, none⟩) (by simp)]
    exact frozen_at' _ _ _ j (by simp)
  have fq0 := fq 0
  have fq1 := fq 1
  have fq2 := fq 2
  have fq3 := fq 3
  simp only [World.size_alloc] at ho
  have HO : Hid (w1.ownsRow (w.heap.size + 1 + 1) 46 6 (.slice a' 10 c') 10 (flatN ns)) := ho
  clear ho hb hs B2 bx0 bx1 b0 b1 fq
  go_wp2
  refine bodyPost_ret (v := .agg #[.slice a' 10 c', .int .i64 t, .int .i64 f, .int .i64 l]) (by simp [results, Try.results39, go_sem, q0, q1, q2, q3]) rfl ⟨a', c', rfl, own_mono (own_putA (own_setCell HO.out (by omega) _) (by omega) _ _ _ _ _ _) (by omega), below_putA (hb'.setCell (Nat.le_refl _) _) (by omega) _ _ _ _ _ _⟩

end Go.Proofs.Ytbjgepcbbonceaa
