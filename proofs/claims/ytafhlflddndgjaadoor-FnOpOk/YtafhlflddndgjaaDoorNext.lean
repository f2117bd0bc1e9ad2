/- Contracts of MapNext, of the specification's and of the program's, and of the program's find. -/
import Derived.Test.YtafhlflddndgjaaDoorEnts2
namespace Go.Proofs.YtafhlflddndgjaaDoor
open Go.RowKit
set_option linter.unusedVariables false

theorem ret_int {k : IntKind} {a b : Int} (h : a = b) : Ending.returned (.int k a) = .returned (.int k b) := by rw [h]

/-- The first place below n of which p holds, or n. -/
def fIdx (p : Nat → Bool) (n : Nat) : Nat := ((List.range n).find? p).getD n

theorem fIdx_eq {p : Nat → Bool} {n i : Nat} (hi : i ≤ n) (hlow : ∀ j, j < i → p j = false) (hat : i = n ∨ p i = true) : fIdx p n = i := by
  unfold fIdx
  by_cases h : i < n
  · have hp : p i = true := by rcases hat with h' | h'; omega; exact h'
    have : (List.range n).find? p = some i := by
      rw [List.find?_eq_some_iff_getElem]
      refine ⟨hp, i, by simpa using h, by simp, fun j hj => ?_⟩
      simp [hlow j hj]
    rw [this]
    rfl
  · have : (List.range n).find? p = none := by
      rw [List.find?_eq_none]
      intro x hx
      rw [List.mem_range] at hx
      simp [hlow x (by omega)]
    rw [this]
    show n = i
    omega

/-- The key of the i-th entry. -/
def keyAt (zs : List Int) (i : Nat) : Int := zs.getD (i * 2) 0
/-- The value of the i-th entry. -/
def valAt (zs : List Int) (i : Nat) : Int := zs.getD (i * 2 + 1) 0

theorem SInts.keyCell {w : World} {b off n : Nat} {zs : List Int} (hs : SInts w (some ⟨b, off, none⟩) (n * 2) zs) {i : Nat} (hi : i < n) : w.cell? ⟨b, off + i * 2, none⟩ = some (.int .i64 (keyAt zs i)) := by
  obtain ⟨hz, h0 | ⟨b', off', e, hc⟩⟩ := hs
  · omega
  · cases e
    exact hc (i * 2) (by omega)
theorem SInts.valCell {w : World} {b off n : Nat} {zs : List Int} (hs : SInts w (some ⟨b, off, none⟩) (n * 2) zs) {i : Nat} (hi : i < n) : w.cell? ⟨b, off + i * 2 + 1, none⟩ = some (.int .i64 (valAt zs i)) := by
  obtain ⟨hz, h0 | ⟨b', off', e, hc⟩⟩ := hs
  · omega
  · cases e
    exact hc (i * 2 + 1) (by omega)
theorem SInts.addr {w : World} {a : Option Addr} {m : Nat} {zs : List Int} (hs : SInts w a m zs) (hm : 0 < m) : ∃ b off, a = some ⟨b, off, none⟩ := by
  obtain ⟨hz, h0 | ⟨b', off', e, hc⟩⟩ := hs
  · omega
  · exact ⟨b', off', e⟩

/-- keys from a key on; keys that are it. -/
def geK (key k : Int) : Bool := decide (key ≤ k)
def eqK (key k : Int) : Bool := k == key
theorem geK_yes {key k : Int} (h : key ≤ k) : geK key k = true := by simp [geK, h]
theorem geK_no {key k : Int} (h : k < key) : geK key k = false := by simp [geK]; omega
theorem eqK_yes {key k : Int} (h : (k == key) = true) : eqK key k = true := h
theorem eqK_no {key k : Int} (h : (k == key) = false) : eqK key k = false := h

/-- What MapNext answers: a code and a value. -/
def nextC (zs : List Int) (n : Nat) (key : Int) : Int := if fIdx (fun i => geK key (keyAt zs i)) n = n then 1 else 2
def nextV (zs : List Int) (n : Nat) (key : Int) : Int := if fIdx (fun i => geK key (keyAt zs i)) n = n then 0 else keyAt zs (fIdx (fun i => geK key (keyAt zs i)) n)

theorem fIdx_le (p : Nat → Bool) (n : Nat) : fIdx p n ≤ n := by
  unfold fIdx
  cases h : (List.range n).find? p with
  | none => exact Nat.le_refl _
  | some i =>
    have := List.mem_of_find?_eq_some h
    rw [List.mem_range] at this
    show i ≤ n
    omega

end Go.Proofs.YtafhlflddndgjaaDoor
