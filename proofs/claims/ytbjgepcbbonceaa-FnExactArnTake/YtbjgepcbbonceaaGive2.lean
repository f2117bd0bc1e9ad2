/- ArnGive at all places. -/
import Derived.Test.YtbjgepcbbonceaaGive
namespace Go.Proofs.Ytbjgepcbbonceaa
open Go.RowKit
set_option linter.unusedVariables false

theorem snodes_some {w : World} {a : Option Addr} {n : Nat} {ns : List Nd} (hs : SNodes w a n ns) (h : ns.length = 10) : n = 10 ∧ ∃ b off, a = some ⟨b, off, none⟩ := by
  obtain ⟨hz, h0 | ⟨b, off, rfl, hc⟩⟩ := hs
  · omega
  · exact ⟨by omega, b, off, rfl⟩

theorem specArnGive_any (a : Option Addr) (n cap : Nat) (ns : List Nd) (t f l x : Int) (w : World) (hs : SNodes w a n ns) (hnc : n ≤ cap) (hn : cap ≤ 1048576) :
    Calls Try.prog 15 #[.agg #[.slice a n cap, .int .i64 t, .int .i64 f, .int .i64 l], .int .i64 x] w fun e w' => ArenaRes (if shapeB ns t f l then giveL ns x else []) (if shapeB ns t f l then 10 else 0) (if shapeB ns t f l then t else 0) (if shapeB ns t f l then f else 0) (if shapeB ns t f l then l else 0) e w w' := by
  cases hsh : shapeB ns t f l
  · exact specArnGive_bad a n cap ns t f l x w hs (by omega) hsh
  · obtain ⟨hl, _⟩ := shapeB_parts hsh
    obtain ⟨rfl, b, off, rfl⟩ := snodes_some hs hl
    cases hp : inP x
    · have e : giveL ns x = ns := by simp [giveL, hp]
      rw [e]
      exact specArnGive_out b off cap ns t f l x w hs (by omega) (by omega) hsh hp
    · obtain ⟨k, rfl, hk⟩ : ∃ k : Nat, x = k ∧ k < 10 := ⟨x.toNat, by simp [inP] at hp; omega, by simp [inP] at hp; omega⟩
      obtain ⟨⟨y0, y1, y2, y3, u, y5⟩, hy⟩ : ∃ y, ns[k]? = some y := ⟨_, List.getElem?_eq_getElem (by omega)⟩
      have e : giveL ns k = if u then ns.set k ⟨0, 0, 0, 0, false, y5⟩ else ns := by simp [giveL, hp, List.getD, hy, gaveN]
      rw [e]
      exact specArnGive_in b off cap ns t f l k y0 y1 y2 y3 u y5 w hs (by omega) (by omega) hsh hk hp hy

theorem implArnGive_any (a : Option Addr) (n cap : Nat) (ns : List Nd) (t f l x : Int) (w : World) (hs : SNodes w a n ns) (hnc : n ≤ cap) (hn : cap ≤ 1048576) :
    Calls Try.prog 16 #[.agg #[.slice a n cap, .int .i64 t, .int .i64 f, .int .i64 l], .int .i64 x] w fun e w' => ArenaRes (if shapeB ns t f l then giveL ns x else []) (if shapeB ns t f l then 10 else 0) (if shapeB ns t f l then t else 0) (if shapeB ns t f l then f else 0) (if shapeB ns t f l then l else 0) e w w' := by
  cases hsh : shapeB ns t f l
  · exact implArnGive_bad a n cap ns t f l x w hs (by omega) hsh
  · obtain ⟨hl, _⟩ := shapeB_parts hsh
    obtain ⟨rfl, b, off, rfl⟩ := snodes_some hs hl
    cases hp : inP x
    · have e : giveL ns x = ns := by simp [giveL, hp]
      rw [e]
      exact implArnGive_out b off cap ns t f l x w hs (by omega) (by omega) hsh hp
    · obtain ⟨k, rfl, hk⟩ : ∃ k : Nat, x = k ∧ k < 10 := ⟨x.toNat, by simp [inP] at hp; omega, by simp [inP] at hp; omega⟩
      obtain ⟨⟨y0, y1, y2, y3, u, y5⟩, hy⟩ : ∃ y, ns[k]? = some y := ⟨_, List.getElem?_eq_getElem (by omega)⟩
      have e : giveL ns k = if u then ns.set k ⟨0, 0, 0, 0, false, y5⟩ else ns := by simp [giveL, hp, List.getD, hy, gaveN]
      rw [e]
      exact implArnGive_in b off cap ns t f l k y0 y1 y2 y3 u y5 w hs (by omega) (by omega) hsh hk hp hy

end Go.Proofs.Ytbjgepcbbonceaa
