/- Contracts of the copies of all places, of the specification's and of the program's. -/
import Derived.Test.YtcffoehldohooaaShape2
import Derived.Test.YtcffoehldohooaaGA
import Derived.Deep.RegionHeldLaw
namespace Go.Proofs.Ytcffoehldohooaa
open Go.RowKit
set_option linter.unusedVariables false

/-- An append onto a row of one's own, as one step of a region that draws. -/
theorem step_append_mine {P : Program} {ops : Array Oper} {o : Oper} {a : Act} {w : World} {K : Act → World → Prop} {Q : Exit → Act → World → Prop} {E : Prop}
    (hg : o.guard = none) (s x : Operand) (t : TypeId) (hop : o.op = Op.call { callee := Callee.builtin Builtin.append, args := #[s, x], argTypes := #[t, t] })
    (base : Nat) (e : TypeId) (i : TypeInfo) (z : Value) (size bytes : Nat) (h1 : P.underlying t = some (.slice e)) (h2 : P.info? e = some i) (h3 : i.zero = some z) (h4 : i.size = size) (h5 : i.bytes = bytes) (h6 : z.cells.size = size) (h7 : 0 < size)
    (v : Value) (n : Nat) (xs : List Value) (hs : a.eval s = v) (hown : w.ownsRow base e size v n xs)
    (ad : Addr) (m c : Nat) (news : List Value) (hx : a.eval x = .slice (some ad) m c) (hn : news.length = m * size) (hc : ∀ j u, news[j]? = some u → w.cell? (ad.add j) = some u) (h1c : ∀ u ∈ news, u.oneCell' = true)
    (b1 : n + m ≤ maxLen) (b2 : (n + m) * bytes ≤ 140737488355328) (hbase : base ≤ w.heap.size)
    (hK : ∀ v' w', w'.ownsRow base e size v' (n + m) (xs ++ news) → w.grownBy w' v.ownBlock → K (a.put o.dst v') w') :
    if Region.wanted o (yielded ops a.tmps) = true then Oper.wp P o a w K Q else E := by
  have hw : Region.wanted o (yielded ops a.tmps) = true := by simp [Region.wanted, hg]
  rw [if_pos hw]
  obtain ⟨v', w', hrun, r1, r2, _⟩ := run_append_own (P := P) w base t o.type e i z size bytes h1 h2 h3 h4 h5 h6 h7 v n xs hown ad m c news hn hc h1c b1 b2 hbase
  unfold Oper.wp
  simp [execOp, hop, resolve, invoke, builtin, hs, hx, hrun, Result.andThen]
  exact hK v' w' r1 r2

theorem flatN_one (ns : List Nd) : ∀ u ∈ flatN ns, u.oneCell' = true := by
  intro u hu
  simp only [flatN, List.mem_flatMap, Nd.cells] at hu
  obtain ⟨x, _, hx⟩ := hu
  simp only [List.mem_cons, List.not_mem_nil, or_false] at hx
  rcases hx with rfl | rfl | rfl | rfl | rfl | rfl <;> rfl

/-- The cells of all places, for an append. -/
theorem SNodes.src {w : World} {b off n : Nat} {ns : List Nd} (hs : SNodes w (some ⟨b, off, none⟩) n ns) : ∀ j u, (flatN ns)[j]? = some u → w.cell? ((⟨b, off, none⟩ : Addr).add j) = some u := by
  intro j u hj
  have hl := (List.getElem?_eq_some_iff.1 hj).1
  rw [flatN_len] at hl
  have hjn : j / 6 < n := by have := hs.1; omega
  obtain ⟨b', off', x, e, hx, hN⟩ := hs.at hjn
  cases e
  rw [show j = j / 6 * 6 + j % 6 by omega, flatN_get _ _ _ (by omega), hx] at hj
  have h6 : j % 6 = 0 ∨ j % 6 = 1 ∨ j % 6 = 2 ∨ j % 6 = 3 ∨ j % 6 = 4 ∨ j % 6 = 5 := by omega
  rw [Addr.add_lit]
  rcases h6 with h | h | h | h | h | h <;> simp only [h, Option.bind_some, Nd.cells, List.getElem?_cons_zero, List.getElem?_cons_succ, Option.some.injEq] at hj <;> subst hj
  · rw [show off + j = off + j / 6 * 6 by omega]; exact hN.c0
  · rw [show off + j = off + j / 6 * 6 + 1 by omega]; exact hN.c1
  · rw [show off + j = off + j / 6 * 6 + 2 by omega]; exact hN.c2
  · rw [show off + j = off + j / 6 * 6 + 3 by omega]; exact hN.c3
  · rw [show off + j = off + j / 6 * 6 + 4 by omega]; exact hN.c4
  · rw [show off + j = off + j / 6 * 6 + 5 by omega]; exact hN.c5

/-- The answer is all places, in memory of its own. -/
def ArenaRes (ns : List Nd) (n : Nat) (t f l : Int) (e : Ending) (w w' : World) : Prop :=
  ∃ a c, e = .returned (.agg #[.slice a n c, .int .i64 t, .int .i64 f, .int .i64 l]) ∧ w'.ownsRow w.heap.size 59 6 (.slice a n c) n (flatN ns) ∧ Below w.heap.size w w'

theorem BoxA.grown {W W' : World} {b : Nat} {a : Option Addr} {n cap : Nat} {t f l : Int} (h : BoxA W b a n cap t f l) {row : Option Nat} (hg : W.grownBy W' row) (hne : some b ≠ row) : BoxA W' b a n cap t f l :=
  ⟨hg.cell h.c0 hne, hg.cell h.c1 hne, hg.cell h.c2 hne, hg.cell h.c3 hne⟩
theorem BoxA.drew {W : World} {b : Nat} {a : Option Addr} {n cap : Nat} {t f l : Int} (h : BoxA W b a n cap t f l) : BoxA W.drew b a n cap t f l := ⟨h.c0, h.c1, h.c2, h.c3⟩
theorem frozen_grown {W W' : World} {row : Option Nat} (hg : W.grownBy W' row) {b o : Nat} (hb : b < W.heap.size) (hne : some b ≠ row) (h : W.frozen? ⟨b, o, none⟩ = false) : W'.frozen? ⟨b, o, none⟩ = false :=
  (World.frozen?_of_block (w := W) (a := ⟨b, o, none⟩) (hg.block b hb hne)).trans h

/-- Behind an append onto the third of three new blocks: the first two, and all that was there. -/
theorem behind_lit {w w2 : World} {a : Option Addr} {n cap : Nat} {t f l : Int} (hg : (((w.alloc (.cells #[.slice a n cap, .int .i64 t, .int .i64 f, .int .i64 l] 33)).alloc (.cells #[.slice none 0 0, .int .i64 0, .int .i64 0, .int .i64 0] 33)).alloc (.cells #[] 59)).drew.grownBy w2 (some (w.heap.size + 1 + 1))) :
    BoxA w2 w.heap.size a n cap t f l ∧ BoxA w2 (w.heap.size + 1) none 0 0 0 0 0 ∧ (∀ j, w2.frozen? ⟨w.heap.size + 1, j, none⟩ = false) ∧ Below w.heap.size w w2 := by
  have B := below_trans' (below_trans' (al1 w (.cells #[.slice a n cap, .int .i64 t, .int .i64 f, .int .i64 l] 33)) (al1 _ (.cells #[.slice none 0 0, .int .i64 0, .int .i64 0, .int .i64 0] 33))) (al1 _ (.cells #[] 59))
  have b0 := ((boxA_new w a n cap t f l 33 rfl).below (al1 _ (.cells #[.slice none 0 0, .int .i64 0, .int .i64 0, .int .i64 0] 33))).below (al1 _ (.cells #[] 59))
  have b1 := (boxA_new (w.alloc (.cells #[.slice a n cap, .int .i64 t, .int .i64 f, .int .i64 l] 33)) none 0 0 0 0 0 33 (b := w.heap.size + 1) (by simp)).below (al1 _ (.cells #[] 59))
  refine ⟨b0.drew.grown hg (by simp; omega), b1.drew.grown hg (by simp), fun j => frozen_grown hg (by simp) (by simp) ?_, B.drew.grown hg (by simp; omega) (fun k e => by cases e; omega)⟩
  show World.frozen? (World.alloc _ _) _ = false
  rw [(al1 _ _).frozen (p := ⟨w.heap.size + 1, j, none⟩) (by simp)]
  exact frozen_at' _ _ _ j (by simp)

end Go.Proofs.Ytcffoehldohooaa
