/- ArnSwap at all places. -/
import Derived.Test.YtbjgepcbbonceaaSwap
namespace Go.Proofs.Ytbjgepcbbonceaa
open Go.RowKit
set_option linter.unusedVariables false

/-- Whether ArnSwap turns the word. -/
def swapB (ns : List Nd) (t f l x o y : Int) : Bool := swapOk ns t f l x y && ((ns.getD x.toNat Nd.zero).word == o)
/-- What ArnSwap leaves. -/
def swapL (ns : List Nd) (t f l x o y : Int) : List Nd :=
  if swapOk ns t f l x y then (if (ns.getD x.toNat Nd.zero).word == o then ns.set x.toNat ⟨(ns.getD x.toNat Nd.zero).key, (ns.getD x.toNat Nd.zero).val, y, wrap64 ((ns.getD x.toNat Nd.zero).ver + 1), (ns.getD x.toNat Nd.zero).used, (ns.getD x.toNat Nd.zero).gen⟩ else ns) else []

theorem specArnSwap_any (a : Option Addr) (n cap : Nat) (ns : List Nd) (t f l x o y : Int) (w : World) (hs : SNodes w a n ns) (hnc : n ≤ cap) (hn : cap ≤ 1048576) :
    Calls Try.prog 7 #[.agg #[.slice a n cap, .int .i64 t, .int .i64 f, .int .i64 l], .int .i64 x, .int .i64 o, .int .i64 y] w fun e w' => ArenaRes2 (.bool (swapB ns t f l x o y)) (swapL ns t f l x o y) (if swapOk ns t f l x y then 10 else 0) (if swapOk ns t f l x y then t else 0) (if swapOk ns t f l x y then f else 0) (if swapOk ns t f l x y then l else 0) e w w' := by
  cases hok : swapOk ns t f l x y
  · have e1 : swapB ns t f l x o y = false := by simp [swapB, hok]
    have e2 : swapL ns t f l x o y = [] := by simp [swapL, hok]
    rw [e1, e2]
    exact specArnSwap_bad a n cap ns t f l x o y w hs (by omega) hok
  · have hok2 := hok
    simp only [swapOk, Bool.and_eq_true, Bool.not_eq_true'] at hok2
    obtain ⟨hsh, h1, h2, h3⟩ := hok2
    obtain ⟨hl, _⟩ := shapeB_parts hsh
    obtain ⟨rfl, b, off, rfl⟩ := snodes_some hs hl
    obtain ⟨g0, g9⟩ := inB_parts h1
    obtain ⟨k, rfl, hk⟩ : ∃ k : Nat, x = k ∧ k < 10 := ⟨x.toNat, by omega, by omega⟩
    obtain ⟨⟨y0, y1, y2, y3, u, y5⟩, hy⟩ : ∃ z, ns[k]? = some z := ⟨_, List.getElem?_eq_getElem (by omega)⟩
    have h3' : ((k : Int) == 0) = false ∨ ((k : Int) == 0) = true ∧ wMark y = false := by
      cases hz : ((k : Int) == 0)
      · exact .inl rfl
      · rw [hz, Bool.true_and] at h3
        exact .inr ⟨rfl, h3⟩
    by_cases hne : y2 = o
    · have e1 : swapB ns t f l k o y = true := by simp [swapB, hok, List.getD, hy, hne]
      have e2 : swapL ns t f l k o y = ns.set k ⟨y0, y1, y, wrap64 (y3 + 1), u, y5⟩ := by simp [swapL, hok, List.getD, hy, hne]
      rw [e1, e2]
      exact specArnSwap_yes b off cap ns t f l k o y y0 y1 y2 y3 u y5 w hs (by omega) (by omega) hsh hk h1 h2 h3' hy hne
    · have e1 : swapB ns t f l k o y = false := by simp [swapB, hok, List.getD, hy, hne]
      have e2 : swapL ns t f l k o y = ns := by simp [swapL, hok, List.getD, hy, hne]
      rw [e1, e2]
      exact specArnSwap_no b off cap ns t f l k o y y0 y1 y2 y3 u y5 w hs (by omega) (by omega) hsh hk h1 h2 h3' hy (by simpa using hne)

theorem implArnSwap_any (a : Option Addr) (n cap : Nat) (ns : List Nd) (t f l x o y : Int) (w : World) (hs : SNodes w a n ns) (hnc : n ≤ cap) (hn : cap ≤ 1048576) :
    Calls Try.prog 9 #[.agg #[.slice a n cap, .int .i64 t, .int .i64 f, .int .i64 l], .int .i64 x, .int .i64 o, .int .i64 y] w fun e w' => ArenaRes2 (.bool (swapB ns t f l x o y)) (swapL ns t f l x o y) (if swapOk ns t f l x y then 10 else 0) (if swapOk ns t f l x y then t else 0) (if swapOk ns t f l x y then f else 0) (if swapOk ns t f l x y then l else 0) e w w' := by
  cases hok : swapOk ns t f l x y
  · have e1 : swapB ns t f l x o y = false := by simp [swapB, hok]
    have e2 : swapL ns t f l x o y = [] := by simp [swapL, hok]
    rw [e1, e2]
    exact implArnSwap_bad a n cap ns t f l x o y w hs (by omega) hok
  · have hok2 := hok
    simp only [swapOk, Bool.and_eq_true, Bool.not_eq_true'] at hok2
    obtain ⟨hsh, h1, h2, h3⟩ := hok2
    obtain ⟨hl, _⟩ := shapeB_parts hsh
    obtain ⟨rfl, b, off, rfl⟩ := snodes_some hs hl
    obtain ⟨g0, g9⟩ := inB_parts h1
    obtain ⟨k, rfl, hk⟩ : ∃ k : Nat, x = k ∧ k < 10 := ⟨x.toNat, by omega, by omega⟩
    obtain ⟨⟨y0, y1, y2, y3, u, y5⟩, hy⟩ : ∃ z, ns[k]? = some z := ⟨_, List.getElem?_eq_getElem (by omega)⟩
    have h3' : ((k : Int) == 0) = false ∨ ((k : Int) == 0) = true ∧ wMark y = false := by
      cases hz : ((k : Int) == 0)
      · exact .inl rfl
      · rw [hz, Bool.true_and] at h3
        exact .inr ⟨rfl, h3⟩
    by_cases hne : y2 = o
    · have e1 : swapB ns t f l k o y = true := by simp [swapB, hok, List.getD, hy, hne]
      have e2 : swapL ns t f l k o y = ns.set k ⟨y0, y1, y, wrap64 (y3 + 1), u, y5⟩ := by simp [swapL, hok, List.getD, hy, hne]
      rw [e1, e2]
      exact implArnSwap_yes b off cap ns t f l k o y y0 y1 y2 y3 u y5 w hs (by omega) (by omega) hsh hk h1 h2 h3' hy hne
    · have e1 : swapB ns t f l k o y = false := by simp [swapB, hok, List.getD, hy, hne]
      have e2 : swapL ns t f l k o y = ns := by simp [swapL, hok, List.getD, hy, hne]
      rw [e1, e2]
      exact implArnSwap_no b off cap ns t f l k o y y0 y1 y2 y3 u y5 w hs (by omega) (by omega) hsh hk h1 h2 h3' hy (by simpa using hne)

end Go.Proofs.Ytbjgepcbbonceaa
