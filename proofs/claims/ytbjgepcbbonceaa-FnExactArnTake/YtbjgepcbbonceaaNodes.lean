/- Places in memory: six cells each; the law helpers that copy, compare and mark them. -/
import Derived.Test.YtbjgepcbbonceaaInv
import Derived.Deep.RegionWith
namespace Go.Proofs.Ytbjgepcbbonceaa
open Go.RowKit
set_option linter.unusedVariables false

/-- A place. -/
structure Nd where
  key : Int
  val : Int
  word : Int
  ver : Int
  used : Bool
  gen : Int

def Nd.zero : Nd := ⟨0, 0, 0, 0, false, 0⟩
def Nd.cells (x : Nd) : List Value := [.int .i64 x.key, .int .i64 x.val, .int .i64 x.word, .int .i64 x.ver, .bool x.used, .int .i64 x.gen]
def flatN (ns : List Nd) : List Value := ns.flatMap Nd.cells

theorem flatN_cons (x : Nd) (ns : List Nd) : flatN (x :: ns) = x.cells ++ flatN ns := rfl
theorem flatN_app (xs ys : List Nd) : flatN (xs ++ ys) = flatN xs ++ flatN ys := by simp [flatN]
theorem flatN_len (ns : List Nd) : (flatN ns).length = ns.length * 6 := by
  induction ns with
  | nil => rfl
  | cons x ns ih => rw [flatN_cons, List.length_append, ih]; simp [Nd.cells]; omega

theorem flatN_get : ∀ (ns : List Nd) (i j : Nat), j < 6 → (flatN ns)[i * 6 + j]? = (ns[i]?).bind (fun x => x.cells[j]?)
  | [], i, j, _ => by simp [flatN]
  | x :: ns, 0, j, h => by
    rw [flatN_cons, List.getElem?_append_left (by simp [Nd.cells]; omega)]
    simp
  | x :: ns, i + 1, j, h => by
    rw [flatN_cons, List.getElem?_append_right (by simp [Nd.cells]; omega), show (i + 1) * 6 + j - x.cells.length = i * 6 + j by simp [Nd.cells]; omega, flatN_get ns i j h]
    simp

/-- The six cells of a place lie from an address on. -/
structure NodeAt (w : World) (b o : Nat) (x : Nd) : Prop where
  c0 : w.cell? ⟨b, o, none⟩ = some (.int .i64 x.key)
  c1 : w.cell? ⟨b, o + 1, none⟩ = some (.int .i64 x.val)
  c2 : w.cell? ⟨b, o + 2, none⟩ = some (.int .i64 x.word)
  c3 : w.cell? ⟨b, o + 3, none⟩ = some (.int .i64 x.ver)
  c4 : w.cell? ⟨b, o + 4, none⟩ = some (.bool x.used)
  c5 : w.cell? ⟨b, o + 5, none⟩ = some (.int .i64 x.gen)

theorem NodeAt.below {w w' : World} {b o : Nat} {x : Nd} (h : NodeAt w b o x) (hb : Below w.heap.size w w') : NodeAt w' b o x :=
  ⟨cell_kept hb h.c0, cell_kept hb h.c1, cell_kept hb h.c2, cell_kept hb h.c3, cell_kept hb h.c4, cell_kept hb h.c5⟩

/-- The slice of length n at a reads as the places ns. -/
def SNodes (w : World) (a : Option Addr) (n : Nat) (ns : List Nd) : Prop :=
  ns.length = n ∧ (n = 0 ∨ ∃ b off, a = some ⟨b, off, none⟩ ∧ ∀ i x, ns[i]? = some x → NodeAt w b (off + i * 6) x)

theorem SNodes.below {w w' : World} {a : Option Addr} {n : Nat} {ns : List Nd} (h : SNodes w a n ns) (hb : Below w.heap.size w w') : SNodes w' a n ns := by
  obtain ⟨hz, h0 | ⟨b, off, rfl, hc⟩⟩ := h
  · exact ⟨hz, .inl h0⟩
  · exact ⟨hz, .inr ⟨b, off, rfl, fun i x hi => (hc i x hi).below hb⟩⟩

/-- A place of a slice. -/
theorem SNodes.at {w : World} {a : Option Addr} {n : Nat} {ns : List Nd} (h : SNodes w a n ns) {k : Nat} (hk : k < n) : ∃ b off x, a = some ⟨b, off, none⟩ ∧ ns[k]? = some x ∧ NodeAt w b (off + k * 6) x := by
  obtain ⟨hz, h0 | ⟨b, off, rfl, hc⟩⟩ := h
  · omega
  · have hx : ns[k]? = some ns[k] := List.getElem?_eq_getElem (by omega)
    exact ⟨b, off, _, rfl, hx, hc k _ hx⟩

theorem own6_cell {w : World} {base : Nat} {e : TypeId} {g n cap : Nat} {ns : List Nd} (h : w.ownsRow base e 6 (.slice (some ⟨g, 0, none⟩) n cap) n (flatN ns)) {i : Nat} {x : Nd} (hx : ns[i]? = some x) : NodeAt w g (i * 6) x := by
  have hl : ns.length = n := by have := h.1; rw [flatN_len] at this; omega
  have hi : i < n := by have := (List.getElem?_eq_some_iff.1 hx).1; omega
  have key : ∀ j, j < 6 → w.cell? ⟨g, i * 6 + j, none⟩ = x.cells[j]? := fun j hj => by
    rw [h.cellAt (i * 6 + j) (by omega), flatN_get ns i j hj, hx]; rfl
  exact ⟨key 0 (by omega), key 1 (by omega), key 2 (by omega), key 3 (by omega), key 4 (by omega), key 5 (by omega)⟩

theorem own6_len {w : World} {base : Nat} {e : TypeId} {v : Value} {n : Nat} {ns : List Nd} (h : w.ownsRow base e 6 v n (flatN ns)) : ns.length = n := by
  have := h.1
  rw [flatN_len] at this
  omega

theorem own6_snodes {w : World} {base : Nat} {e : TypeId} {a : Option Addr} {n cap : Nat} {ns : List Nd} (h : w.ownsRow base e 6 (.slice a n cap) n (flatN ns)) : SNodes w a n ns := by
  refine ⟨own6_len h, ?_⟩
  rcases h.2 with ⟨e, rfl⟩ | ⟨g, cap', cur, e, hg, hh, hc, hm, hs, ht⟩
  · exact .inl rfl
  · cases e
    exact .inr ⟨g, 0, rfl, fun i x hx => by rw [Nat.zero_add]; exact own6_cell h hx⟩

theorem own6_shape {w : World} {base : Nat} {e : TypeId} {v : Value} {n : Nat} {ns : List Nd} (h : w.ownsRow base e 6 v n (flatN ns)) : ∃ a cap, v = .slice a n cap ∧ n ≤ cap ∧ (a = none ∧ n = 0 ∧ cap = 0 ∨ ∃ g, a = some ⟨g, 0, none⟩) := by
  rcases h.2 with ⟨rfl, rfl⟩ | ⟨g, cap, cur, rfl, hg, hh, hc, hm, hs, ht⟩
  · exact ⟨none, 0, rfl, Nat.le_refl _, .inl ⟨rfl, rfl, rfl⟩⟩
  · exact ⟨_, cap, rfl, hc, .inr ⟨g, rfl⟩⟩

/-- The world with a place's six cells written. -/
abbrev put6 (W : World) (g o : Nat) (x : Nd) : World :=
  (((((W.setCell ⟨g, o, none⟩ (.int .i64 x.key)).setCell ⟨g, o + 1, none⟩ (.int .i64 x.val)).setCell ⟨g, o + 2, none⟩ (.int .i64 x.word)).setCell ⟨g, o + 3, none⟩ (.int .i64 x.ver)).setCell ⟨g, o + 4, none⟩ (.bool x.used)).setCell ⟨g, o + 5, none⟩ (.int .i64 x.gen)

theorem flatN_set : ∀ (ns : List Nd) (i : Nat) (x : Nd),
    ((((((flatN ns).set (i * 6) (.int .i64 x.key)).set (i * 6 + 1) (.int .i64 x.val)).set (i * 6 + 2) (.int .i64 x.word)).set (i * 6 + 3) (.int .i64 x.ver)).set (i * 6 + 4) (.bool x.used)).set (i * 6 + 5) (.int .i64 x.gen) = flatN (ns.set i x)
  | [], i, x => by simp [flatN]
  | y :: ns, 0, x => by simp [flatN_cons, Nd.cells]
  | y :: ns, i + 1, x => by
    have ih := flatN_set ns i x
    have h : ∀ (l : List Value) (j : Nat) (v : Value), (y.cells ++ l).set ((i + 1) * 6 + j) v = y.cells ++ l.set (i * 6 + j) v := fun l j v => by
      rw [List.set_append_right _ _ (by simp [Nd.cells]; omega)]
      congr 2
      simp [Nd.cells]
      omega
    have h0 : ∀ (l : List Value) (v : Value), (y.cells ++ l).set ((i + 1) * 6) v = y.cells ++ l.set (i * 6) v := fun l v => h l 0 v
    rw [List.set_cons_succ, flatN_cons y (ns.set i x), ← ih, flatN_cons, h0, h, h, h, h, h]

theorem grown_trans {w w1 w2 : World} {r : Option Nat} (h : w.grownBy w1 r) (k : w1.grownBy w2 r) : w.grownBy w2 r :=
  ⟨k.os.trans h.os, k.tape.trans h.tape, k.output.trans h.output, Nat.le_trans h.size k.size, fun c hc hne => (k.block c (Nat.lt_of_lt_of_le hc h.size) hne).trans (h.block c hc hne)⟩

/-- What an own row of places is behind the writing of one. -/
theorem own6_put {W : World} {base : Nat} {e : TypeId} {g n cap : Nat} {ns : List Nd} (h : W.ownsRow base e 6 (.slice (some ⟨g, 0, none⟩) n cap) n (flatN ns)) (i : Nat) (x : Nd) :
    (put6 W g (i * 6) x).ownsRow base e 6 (.slice (some ⟨g, 0, none⟩) n cap) n (flatN (ns.set i x)) ∧ W.grownBy (put6 W g (i * 6) x) (some g) ∧ (put6 W g (i * 6) x).heap.size = W.heap.size := by
  have s0 := h.stored (i * 6) (.int .i64 x.key)
  have s1 := s0.1.stored (i * 6 + 1) (.int .i64 x.val)
  have s2 := s1.1.stored (i * 6 + 2) (.int .i64 x.word)
  have s3 := s2.1.stored (i * 6 + 3) (.int .i64 x.ver)
  have s4 := s3.1.stored (i * 6 + 4) (.bool x.used)
  have s5 := s4.1.stored (i * 6 + 5) (.int .i64 x.gen)
  refine ⟨?_, grown_trans s0.2 (grown_trans s1.2 (grown_trans s2.2 (grown_trans s3.2 (grown_trans s4.2 s5.2)))), by simp⟩
  have := s5.1
  rw [flatN_set] at this
  exact this

theorem set_take_succ {α : Type} (ys zs : List α) (k : Nat) (x : α) (hx : zs[k]? = some x) (hy : k < ys.length) (h : ys.take k = zs.take k) : (ys.set k x).take (k + 1) = zs.take (k + 1) := by
  obtain ⟨hk, e⟩ := List.getElem?_eq_some_iff.1 hx
  rw [List.take_succ_eq_append_getElem (by simpa using hy), List.take_succ_eq_append_getElem hk, List.take_set, List.set_eq_of_length_le (by simp; omega), h]
  simp [e]

theorem Try.info46 : (Try.prog.info? 46).map (fun i => (i.zero, i.size, i.bytes)) = some (some (.agg #[.int .i64 0, .int .i64 0, .int .i64 0, .int .i64 0, .bool false, .int .i64 0]), 6, 48) := by kernel_rfl

set_option maxHeartbeats 400000 in
theorem toArnNode_any (k v o r : Int) (u : Bool) (g : Int) (w : World) :
    Calls Try.prog 35 #[.agg #[.int .i64 k, .int .i64 v, .int .i64 o, .int .i64 r, .bool u, .int .i64 g]] w fun e w' => e = .returned (.agg #[.int .i64 k, .int .i64 v, .int .i64 o, .int .i64 r, .bool u, .int .i64 g]) ∧ Below w.heap.size w w' := by
  go_enter Try.func35, Try.ntmps35
  go_wp2
  exact bodyPost_ret (v := .agg #[.int .i64 k, .int .i64 v, .int .i64 o, .int .i64 r, .bool u, .int .i64 g]) (by simp [results, Try.results35, go_sem]) rfl ⟨rfl, (((Below.refl _ _).alloc (Nat.le_refl _) _).alloc (by simp) _).alloc (by simp; omega) _⟩

end Go.Proofs.Ytbjgepcbbonceaa
