/- Contracts of MapOk, of the specification's and of the program's. -/
import Derived.Test.YtafhlflddndgjaaDoorNext
import Derived.Test.YtafhlflddndgjaaDoorOk
import Derived.Deep.QuietTactic
import Derived.BigQuiet
namespace Go.Proofs.YtafhlflddndgjaaDoor
open Go.RowKit
set_option linter.unusedVariables false

/-- The i-th entry is in bounds; it stands behind the one ahead of it. -/
def entIn (zs : List Int) (i : Nat) : Bool := inB (keyAt zs i) 99 && inB (valAt zs i) 999
def entUp (zs : List Int) (i : Nat) : Bool := decide (i = 0) || decide (keyAt zs (i - 1) < keyAt zs i)
/-- The entries are ok. -/
def okM (zs : List Int) (n : Nat) : Bool := decide (n ≤ 8) && ((List.range n).all (entIn zs) && (List.range n).all (entUp zs))

theorem okM_long {zs : List Int} {n : Nat} (h : 8 < n) : okM zs n = false := by simp [okM]; omega
theorem okM_in {zs : List Int} {n k : Nat} (hk : k < n) (h : entIn zs k = false) : okM zs n = false := by
  have : (List.range n).all (entIn zs) = false := by
    rw [List.all_eq_false]
    exact ⟨k, List.mem_range.2 hk, by simp [h]⟩
  simp [okM, this]
theorem okM_up {zs : List Int} {n k : Nat} (hk : k < n) (h : entUp zs k = false) : okM zs n = false := by
  have : (List.range n).all (entUp zs) = false := by
    rw [List.all_eq_false]
    exact ⟨k, List.mem_range.2 hk, by simp [h]⟩
  simp [okM, this]
theorem okM_yes {zs : List Int} {n : Nat} (h8 : n ≤ 8) (h1 : ∀ i, i < n → entIn zs i = true) (h2 : ∀ i, i < n → entUp zs i = true) : okM zs n = true := by
  have e1 : (List.range n).all (entIn zs) = true := by rw [List.all_eq_true]; intro i hi; exact h1 i (List.mem_range.1 hi)
  have e2 : (List.range n).all (entUp zs) = true := by rw [List.all_eq_true]; intro i hi; exact h2 i (List.mem_range.1 hi)
  simp [okM, h8, e1, e2]
theorem okM_parts {zs : List Int} {n : Nat} (h : okM zs n = true) : n ≤ 8 ∧ (∀ i, i < n → entIn zs i = true) ∧ (∀ i, i < n → entUp zs i = true) := by
  simp only [okM, Bool.and_eq_true, decide_eq_true_eq, List.all_eq_true, List.mem_range] at h
  exact ⟨h.1, h.2.1, h.2.2⟩

theorem l1In_as {x hi : Int} {b : Bool} (h : inB x hi = b) (w : World) : Calls Tryd.prog 24 #[.int .i64 x, .int .i64 0, .int .i64 hi] w fun e w' => e = .returned (.bool b) ∧ w' = w := by
  subst h; exact l1In_any x hi w

/-- The keys rise. -/
def upM (zs : List Int) (n : Nat) : Bool := (List.range n).all (entUp zs)
theorem upM_no {zs : List Int} {n k : Nat} (hk : k < n) (h : entUp zs k = false) : upM zs n = false := by
  unfold upM
  rw [List.all_eq_false]
  exact ⟨k, List.mem_range.2 hk, by simp [h]⟩
theorem upM_yes {zs : List Int} {n : Nat} (h : ∀ i, i < n → entUp zs i = true) : upM zs n = true := by
  unfold upM
  rw [List.all_eq_true]; intro i hi; exact h i (List.mem_range.1 hi)
theorem upM_parts {zs : List Int} {n : Nat} (h : upM zs n = true) : ∀ i, i < n → entUp zs i = true := by
  unfold upM at h
  rw [List.all_eq_true] at h
  exact fun i hi => h i (List.mem_range.2 hi)

set_option maxHeartbeats 1000000 in
theorem keysRise_any (a : Option Addr) (n cap : Nat) (zs : List Int) (w : World) (hs : SInts w a (n * 2) zs) (hn : n ≤ 1048576) :
    Calls Tryd.prog 29 #[.slice a n cap] w fun e w' => e = .returned (.bool (upM zs n)) ∧ Below w.heap.size w w' := by
  go_enter Tryd.func29, Tryd.ntmps29
  go_wp2
  go_loopw [3] (fun i wr => ∃ k : Nat, 1 ≤ k ∧ k ≤ n + 1 ∧ i = .int .i64 k ∧ (∀ j, j < k → j < n → entUp zs j = true) ∧ Below w.heap.size w wr) (fun i _ => n + 1 - (intOf i).toNat)
  case atStart => exact ⟨1, by omega, by omega, rfl, fun j hj _ => by obtain rfl : j = 0 := by omega
                                                                      simp [entUp], Below.refl _ _⟩
  case round =>
    obtain ⟨k, hk1, hk, rfl, hall, hbel⟩ := hrel
    have H2 : Hid (∀ j, j < k → j < n → entUp zs j = true) := hall
    clear hall
    by_cases hlt : k < n
    · obtain ⟨b, off, rfl⟩ := hs.addr (by omega)
      obtain ⟨x, hx⟩ : ∃ x, keyAt zs k = x := ⟨_, rfl⟩
      obtain ⟨z, hz⟩ : ∃ z, keyAt zs (k - 1) = z := ⟨_, rfl⟩
      have h1 : wr.cell? ⟨b, off + k * 2, none⟩ = some (.int .i64 x) := by rw [← hx]; exact (hs.below hbel).keyCell hlt
      have h3 : wr.cell? ⟨b, off + (k - 1) * 2, none⟩ = some (.int .i64 z) := by rw [← hz]; exact (hs.below hbel).keyCell (by omega)
      have HU0 : Hid (entUp zs k = decide (z < x)) := by show _ = _; unfold entUp; rw [hx, hz]; simp; omega
      have hkm : k - 1 < n := by omega
      clear hx hz hs
      by_cases hup : z < x
      · have HU : Hid (entUp zs k = true) := by show _ = _; rw [HU0.out]; simp [hup]
        go_wp2
        go_quiet (fail)
        have hb2 := below_drewN hbel nq
        go_wp2
        go_roundw
        case rel => exact ⟨k + 1, by omega, by omega, by go_num, fun j hj hjn => by
          by_cases e : j = k
          · subst e; exact HU.out
          · exact H2.out j (by omega) hjn, hb2⟩
        case measure => simp [intOf]; omega
      · have HK : Hid (upM zs n = false) := upM_no hlt (by rw [HU0.out]; simp; omega)
        go_wp2
        go_quiet (fail)
        go_wp2
        go_ret
        exact ⟨ret_bool HK.out.symm, below_drewN hbel _⟩
    · have HK : Hid (upM zs n = true) := upM_yes (fun i hi => H2.out i (by omega) hi)
      clear hs
      go_wp2
      go_ret
      exact ⟨ret_bool HK.out.symm, hbel⟩

theorem within_as {x hi : Int} {b : Bool} (h : inB x hi = b) (w : World) : Calls Tryd.prog 23 #[.int .i64 x, .int .i64 hi] w fun e w' => e = .returned (.bool b) ∧ w' = w := by
  subst h; exact within_any x hi w

set_option maxHeartbeats 1000000 in
theorem implMapOk_any (a : Option Addr) (n cap : Nat) (zs : List Int) (w : World) (hs : SInts w a (n * 2) zs) (hn : n ≤ 9223372036854775807) :
    Calls Tryd.prog 25 #[.agg #[.slice a n cap]] w fun e w' => e = .returned (.bool (okM zs n)) ∧ Below w.heap.size w w' := by
  have hb0 : ∀ o, Below w.heap.size w (w.alloc o) := fun o => (Below.refl _ _).alloc (Nat.le_refl _) o
  by_cases h8 : 8 < n
  · have hko := okM_long (zs := zs) h8
    have h8' : (8 : Int) < (n : Int) := by omega
    clear hs
    rw [hko]
    go_enter Tryd.func25, Tryd.ntmps25
    go_wp2
    go_ret
    exact ⟨rfl, hb0 _⟩
  · have h8' : ¬ (8 : Int) < (n : Int) := by omega
    go_enter Tryd.func25, Tryd.ntmps25
    go_wp2
    go_loopw [12] (fun i wr => ∃ k : Nat, k ≤ n ∧ i = .int .i64 k ∧ (∀ j, j < k → entIn zs j = true) ∧ wr.cell? ⟨w.heap.size, 0, none⟩ = some (.slice a n cap) ∧ Below w.heap.size w wr) (fun i _ => n - (intOf i).toNat)
    case atStart => exact ⟨0, Nat.zero_le _, rfl, fun j hj => by omega, by simp, hb0 _⟩
    case round =>
      obtain ⟨k, hk, rfl, hall1, hbox, hbel⟩ := hrel
      have H1 : Hid (∀ j, j < k → entIn zs j = true) := hall1
      clear hall1
      by_cases hlt : k < n
      · obtain ⟨b, off, rfl⟩ := hs.addr (by omega)
        obtain ⟨x, hx⟩ : ∃ x, keyAt zs k = x := ⟨_, rfl⟩
        obtain ⟨y, hy⟩ : ∃ y, valAt zs k = y := ⟨_, rfl⟩
        have h1 : wr.cell? ⟨b, off + k * 2, none⟩ = some (.int .i64 x) := by rw [← hx]; exact (hs.below hbel).keyCell hlt
        have h2 : wr.cell? ⟨b, off + k * 2 + 1, none⟩ = some (.int .i64 y) := by rw [← hy]; exact (hs.below hbel).valCell hlt
        have al : Below wr.heap.size wr (wr.alloc (.cells #[.int .i64 x, .int .i64 y] 75)) := (Below.refl _ _).alloc (Nat.le_refl _) _
        have hbox' := cell_kept al hbox
        have hbel' := below_trans' hbel al
        have HI : Hid (entIn zs k = (inB x 99 && inB y 999)) := by show _ = _; unfold entIn; rw [hx, hy]
        cases hi1 : inB x 99
        · have HK : Hid (okM zs n = false) := okM_in hlt (by rw [HI.out, hi1]; rfl)
          clear hx hy hs
          go_wp2_with (go_at_call 23; refine (within_as hi1 _).mono ?_; rintro e w' ⟨rfl, rfl⟩)
          go_ret
          exact ⟨ret_bool HK.out.symm, hbel'⟩
        · cases hi2 : inB y 999
          · have HK : Hid (okM zs n = false) := okM_in hlt (by rw [HI.out, hi1, hi2]; rfl)
            clear hx hy hs
            go_wp2_with fail
            refine (within_as hi1 _).mono ?_
            rintro e w' ⟨rfl, rfl⟩
            go_wp2_with fail
            refine (within_as hi2 _).mono ?_
            rintro e w' ⟨rfl, rfl⟩
            go_wp2
            go_ret
            exact ⟨ret_bool HK.out.symm, hbel'⟩
          · have HIy : Hid (entIn zs k = true) := by show _ = _; rw [HI.out, hi1, hi2]; rfl
            clear hx hy hs
            go_wp2_with fail
            refine (within_as hi1 _).mono ?_
            rintro e w' ⟨rfl, rfl⟩
            go_wp2_with fail
            refine (within_as hi2 _).mono ?_
            rintro e w' ⟨rfl, rfl⟩
            go_wp2
            go_roundw
            case rel => exact ⟨k + 1, by omega, by go_num, fun j hj => by
              by_cases e : j = k
              · subst e; exact HIy.out
              · exact H1.out j (by omega), hbox', hbel'⟩
            case measure => simp [intOf]; omega
      · obtain rfl : k = n := by omega
        have HK : Hid (okM zs k = upM zs k) := by
          show _ = _
          have e1 : (List.range k).all (entIn zs) = true := by rw [List.all_eq_true]; intro i hi; exact H1.out i (List.mem_range.1 hi)
          simp [okM, upM, e1]
          omega
        go_wp2_with fail
        refine (keysRise_any _ _ _ zs _ (hs.below hbel) (by omega)).mono ?_
        rintro e w1 ⟨rfl, hb1⟩
        have hb2 := below_trans' hbel hb1
        clear hb1 hs
        go_wp2
        go_ret
        exact ⟨ret_bool HK.out.symm, hb2⟩

end Go.Proofs.YtafhlflddndgjaaDoor
