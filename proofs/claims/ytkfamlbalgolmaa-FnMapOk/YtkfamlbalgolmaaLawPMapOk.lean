/- For every slice of bytes the law FnMapOk answers true and leaves its argument as it was. No condition. -/
import Derived.Test.YtkfamlbalgolmaaPOk
namespace Go.Proofs.Ytkfamlbalgolmaa
open Go.ChangeShapes Go.WideShapes Go.ChangeAt Go.RowKit
set_option linter.unusedVariables false

/-- What is left without the entry at k. -/
theorem del_at {L : List Int} {N k : Nat} (hl : L.length = N * 2) (hok : okM L N = true) (hk : k < N) :
    okM (delL L N (keyAt L k)) (delN L N (keyAt L k)) = true ∧ okM (L.take (k * 2)) k = true ∧ delN L N (keyAt L k) = N - 1 := by
  obtain ⟨hI, hB⟩ := ent_at hok hk
  have e1 : delL L N (keyAt L k) = L.take (k * 2) ++ L.drop ((k + 1) * 2) := by simp [delL, hok, hB, hI]
  have e2 : delN L N (keyAt L k) = N - 1 := by simp [delN, hok, hB]
  rw [e1, e2]
  exact ⟨cut_ok hl hok hk, take_ok hok (by omega), rfl⟩

set_option maxRecDepth 20000 in
set_option maxHeartbeats 16000000 in
theorem mapOk_walk (a : Option Addr) (n cap : Nat) (w : World) (hs : SBytes w a n) (hc : n ≤ cap) (hm : n ≤ 9223372036854775807) :
    Calls Try.prog 6 #[.slice a n cap] w fun e w' => e = .returned (.bool true) ∧ Below w.heap.size w w' := by
  by_cases hn : n ≤ 1048576
  · have hn' : ¬ (1048576 : Int) < (n : Int) := by omega
    go_enter Try.func6, Try.ntmps6
    go_wp2_with fail
    refine (drawMapOk_any a n cap w hs hc hn).mono ?_
    rintro e w1 ⟨L, N, am, cm, rfl, ho1, hN, hb1⟩
    obtain ⟨hNc, hcM⟩ := own2_room ho1
    have HL : Hid (L.length = N * 2) := (own2_sints ho1).1
    have hsz : w.heap.size ≤ w1.heap.size := hb1.size
    have P1 : Hid (MX w w1.heap.size am N cm L (w1.alloc (.cells #[.slice am N cm] 25))) := ⟨below_trans' hb1 (al1 _ _), hsz, cell_at w1 _ _ 0 rfl rfl, ownsRow_below ho1 (al1 _ _)⟩
    clear ho1 hb1 hs hsz
    go_wp2_with fail
    refine (implMapOk_any am N cm L _ (own2_sints P1.out.own) (by omega)).mono ?_
    generalize w1.alloc (.cells #[.slice am N cm] 25) = W1 at P1 ⊢
    rintro e w2 ⟨rfl, hb2⟩
    have P2 : Hid (MX w w1.heap.size am N cm L w2) := P1.out.below hb2
    clear P1 hb2
    have p0 := P2.out.m
    go_wp2_with fail
    refine (specMapOk_any am N cm L _ (own2_sints P2.out.own) (by omega)).mono ?_
    rintro e w3 ⟨rfl, hb3⟩
    have P3 : Hid (MX w w1.heap.size am N cm L w3) := P2.out.below hb3
    clear P2 hb3 p0
    have p0 := P3.out.m
    cases hok : okM L N
    · have hN0 : 0 < N := by
        rcases Nat.eq_zero_or_pos N with rfl | h
        · have hl := HL.out
          have : L = [] := List.length_eq_zero_iff.1 (by omega)
          subst this
          exact absurd hok (by decide)
        · exact h
      clear hok
      go_wp2
      go_loopw [5] (fun i wr => i = .int .i64 0 ∧ MX w w1.heap.size am N cm L wr) (fun i _ => 0)
      case atStart => exact ⟨rfl, P3.out⟩
      case round =>
        obtain ⟨rfl, P⟩ := hrel
        clear P3 p0
        have HP : Hid (MX w w1.heap.size am N cm L wr) := P
        have p0 := P.m
        clear P
        go_wp2_with fail
        refine (tgOk_any _).mono ?_
        rintro e w9 ⟨rfl, hb9⟩
        have HB9 : Hid (Below w.heap.size w w9) := below_trans' HP.out.bel hb9
        clear hb9 HP
        go_wp2
        go_ret
        exact ⟨rfl, HB9.out⟩
    · have HOK : Hid (okM L N = true) := hok
      clear hok
      go_wp2
      go_loopw [5] (fun i wr => ∃ k : Nat, k ≤ N ∧ i = .int .i64 k ∧ MX w w1.heap.size am N cm L wr) (fun i _ => N - (intOf i).toNat)
      case atStart => exact ⟨0, Nat.zero_le _, rfl, P3.out⟩
      case round =>
        obtain ⟨k, hk, rfl, P⟩ := hrel
        clear P3 p0
        have HP : Hid (MX w w1.heap.size am N cm L wr) := P
        have p0 := P.m
        clear P
        by_cases hlt : k < N
        · obtain ⟨_, h0 | ⟨b, o, rfl, _⟩⟩ := own2_sints HP.out.own
          · omega
          obtain ⟨key, hkey⟩ : ∃ key, keyAt L k = key := ⟨_, rfl⟩
          have HKEY : Hid (keyAt L k = key) := hkey
          have hA := del_at HL.out HOK.out hlt
          rw [hkey] at hA
          have himpl : Hid (∀ W, SInts W (some ⟨b, o, none⟩) (N * 2) L → Calls Try.prog 18 #[.agg #[.slice (some ⟨b, o, none⟩) N cm], .int .i64 key] W fun e w' => MapRes (delL L N key) (delN L N key) (delC L N key) (delV L N key) e W w') := fun W h => implMapDel_cap (some ⟨b, o, none⟩) N cm L key W h (by omega) hNc hcM
          clear hkey
          generalize delL L N key = D at himpl hA
          generalize delN L N key = n' at himpl hA
          generalize delC L N key = C at himpl
          generalize delV L N key = V at himpl
          obtain ⟨hA1, hA2, hn1⟩ := hA
          have HA : Hid (okM D n' = true ∧ okM (L.take (k * 2)) k = true) := ⟨hA1, hA2⟩
          clear hA1 hA2
          obtain rfl : N = n' + 1 := by omega
          have hsub : ((n' + 1 : Nat) : Int) - 1 = n' := by omega
          clear hn1
          go_wp2
          have Pu0 : Hid (MX w w1.heap.size (some ⟨b, o, none⟩) (n' + 1) cm L wr.drew) := HP.out.below (Below.refl _ _).drew
          refine wp_region_held_drew (S := (fun V' => V'.cell? ⟨w1.heap.size, 0, none⟩ = some (.slice (some ⟨b, o, none⟩) (n' + 1) cm) ∧ V'.cell? ⟨b, o + k * 2, none⟩ = some (.int .i64 key))) (by kernel_rfl) (Pu0.out.held hlt HKEY.out) (fun hHeld => ?_)
          clear HP p0
          generalize wr.drew = u0 at Pu0 hHeld ⊢
          refine wpAnyH_take (i := 0) (oi := ({ dst := some 30, op := Op.load 25 (Operand.tmp 3), type := 25, pos := "laws.go:1176", after := #[], guard := none } : Oper)) (v := ?_) rfl (by kernel_rfl) (by kernel_rfl) (by kernel_rfl) (fun _ _ _ h => h) (Or.inl ⟨by rfl, ?_⟩) (by assumption) ?_
          rotate_left
          · (intro wz hSw; (try dsimp only at hSw); obtain ⟨hs0, hs1⟩ := hSw; go_simp; first | done | with_reducible rfl)
          (try simp only [Act.put, List.setIfInBounds_toArray, List.set_cons_zero, List.set_cons_succ])
          refine wpAnyH_take (i := 1) (oi := ({ dst := some 31, op := Op.fieldAddr 25 (Operand.tmp 3) 0, type := 0, pos := "laws.go:1176", after := #[], guard := none } : Oper)) (v := ?_) rfl (by kernel_rfl) (by kernel_rfl) (by kernel_rfl) (fun _ _ _ h => h) (Or.inl ⟨by rfl, ?_⟩) (by assumption) ?_
          rotate_left
          · (intro wz hSw; (try dsimp only at hSw); obtain ⟨hs0, hs1⟩ := hSw; go_simp; first | done | with_reducible rfl)
          (try simp only [Act.put, List.setIfInBounds_toArray, List.set_cons_zero, List.set_cons_succ])
          refine wpAnyH_take (i := 2) (oi := ({ dst := some 32, op := Op.load 23 (Operand.tmp 31), type := 23, pos := "laws.go:1176", after := #[{ on := 1, ground := Ground.data }], guard := none } : Oper)) (v := ?_) rfl (by kernel_rfl) (by kernel_rfl) (by kernel_rfl) (fun _ _ _ h => h) (Or.inl ⟨by rfl, ?_⟩) (by assumption) ?_
          rotate_left
          · (intro wz hSw; (try dsimp only at hSw); obtain ⟨hs0, hs1⟩ := hSw; go_simp; first | done | with_reducible rfl)
          (try simp only [Act.put, List.setIfInBounds_toArray, List.set_cons_zero, List.set_cons_succ])
          refine wpAnyH_take (i := 3) (oi := ({ dst := some 33, op := Op.move (Operand.tmp 5), type := 3, pos := "laws.go:1176", after := #[], guard := none } : Oper)) (v := ?_) rfl (by kernel_rfl) (by kernel_rfl) (by kernel_rfl) (fun _ _ _ h => h) (Or.inl ⟨by rfl, ?_⟩) (by assumption) ?_
          rotate_left
          · (intro wz hSw; (try dsimp only at hSw); obtain ⟨hs0, hs1⟩ := hSw; go_simp; first | done | with_reducible rfl)
          (try simp only [Act.put, List.setIfInBounds_toArray, List.set_cons_zero, List.set_cons_succ])
          refine wpAnyH_take (i := 4) (oi := ({ dst := some 34, op := Op.indexAddr 23 (Operand.tmp 32) (Operand.tmp 33), type := 0, pos := "laws.go:1176", after := #[{ on := 2, ground := Ground.data }, { on := 3, ground := Ground.data }], guard := none } : Oper)) (v := ?_) rfl (by kernel_rfl) (by kernel_rfl) (by kernel_rfl) (fun _ _ _ h => h) (Or.inl ⟨by rfl, ?_⟩) (by assumption) ?_
          rotate_left
          · (intro wz hSw; (try dsimp only at hSw); obtain ⟨hs0, hs1⟩ := hSw; go_simp; first | done | with_reducible rfl)
          (try simp only [Act.put, List.setIfInBounds_toArray, List.set_cons_zero, List.set_cons_succ])
          refine wpAnyH_take (i := 5) (oi := ({ dst := some 35, op := Op.fieldAddr 41 (Operand.tmp 34) 0, type := 0, pos := "laws.go:1176", after := #[{ on := 4, ground := Ground.data }], guard := none } : Oper)) (v := ?_) rfl (by kernel_rfl) (by kernel_rfl) (by kernel_rfl) (fun _ _ _ h => h) (Or.inl ⟨by rfl, ?_⟩) (by assumption) ?_
          rotate_left
          · (intro wz hSw; (try dsimp only at hSw); obtain ⟨hs0, hs1⟩ := hSw; go_simp; first | done | with_reducible rfl)
          (try simp only [Act.put, List.setIfInBounds_toArray, List.set_cons_zero, List.set_cons_succ])
          refine wpAnyH_take (i := 6) (oi := ({ dst := some 36, op := Op.load 3 (Operand.tmp 35), type := 3, pos := "laws.go:1176", after := #[{ on := 5, ground := Ground.data }], guard := none } : Oper)) (v := ?_) rfl (by kernel_rfl) (by kernel_rfl) (by kernel_rfl) (fun _ _ _ h => h) (Or.inl ⟨by rfl, ?_⟩) (by assumption) ?_
          rotate_left
          · (intro wz hSw; (try dsimp only at hSw); obtain ⟨hs0, hs1⟩ := hSw; go_simp; first | done | with_reducible rfl)
          (try simp only [Act.put, List.setIfInBounds_toArray, List.set_cons_zero, List.set_cons_succ])
          refine wpAnyH_ready (rs := [7, 11, 12]) (by kernel_rfl) (by simp) ?_
          refine AllReadyH.cons (o := ({ dst := some 37, op := Op.call { callee := Callee.value (Operand.func 18), args := #[Operand.tmp 30, Operand.tmp 36], argTypes := #[25, 3] }, type := 30, pos := "laws.go:1176", after := #[{ on := 0, ground := Ground.data }, { on := 6, ground := Ground.data }], guard := none } : Oper)) rfl (fun K hK => ?_) (AllReadyH.cons (o := ({ dst := some 6, op := Op.alloc 25, type := 0, pos := "laws.go:1176", after := #[], guard := none } : Oper)) rfl (fun K hK => ?_) (AllReadyH.cons (o := ({ dst := some 7, op := Op.alloc 29, type := 0, pos := "laws.go:1176", after := #[], guard := none } : Oper)) rfl (fun K hK => ?_) AllReadyH.nil))
          · clear hHeld
            go_simp
            go_wp2_with fail
            refine (himpl.out _ (own2_sints Pu0.out.own)).mono ?_
            rintro e u1 ⟨ax, cx, rfl, hox, hb⟩
            have Ou1 : Hid (u1.ownsRow 0 41 2 (.slice ax n' cx) n' (D.map (Value.int .i64))) := own_mono hox (Nat.zero_le _)
            clear hox
            have Pu1 : Hid (MX w w1.heap.size (some ⟨b, o, none⟩) (n' + 1) cm L u1) := Pu0.out.below hb
            clear Pu0 
            clear hb
            refine hK.out _ _ (Pu1.out.held hlt HKEY.out) (fun hHeld => ?_)
            clear hK K
            (try simp only [Act.put, List.setIfInBounds_toArray, List.set_cons_zero, List.set_cons_succ])
            refine wpAnyH_take (i := 8) (oi := ({ dst := some 29, op := Op.move (Operand.tmp 37), type := 30, pos := "laws.go:1176", after := #[{ on := 7, ground := Ground.data }], guard := none } : Oper)) (v := ?_) rfl (by kernel_rfl) (by kernel_rfl) (by kernel_rfl) (fun _ _ _ h => h) (Or.inl ⟨by rfl, ?_⟩) (by assumption) ?_
            rotate_left
            · (intro wz hSw; (try dsimp only at hSw); obtain ⟨hs0, hs1⟩ := hSw; go_simp; first | done | with_reducible rfl)
            (try simp only [Act.put, List.setIfInBounds_toArray, List.set_cons_zero, List.set_cons_succ])
            refine wpAnyH_take (i := 9) (oi := ({ dst := some 38, op := Op.extract (Operand.tmp 29) 0, type := 25, pos := "laws.go:1176", after := #[{ on := 8, ground := Ground.data }], guard := none } : Oper)) (v := ?_) rfl (by kernel_rfl) (by kernel_rfl) (by kernel_rfl) (fun _ _ _ h => h) (Or.inl ⟨by rfl, ?_⟩) (by assumption) ?_
            rotate_left
            · (intro wz hSw; (try dsimp only at hSw); obtain ⟨hs0, hs1⟩ := hSw; go_simp; first | done | with_reducible rfl)
            (try simp only [Act.put, List.setIfInBounds_toArray, List.set_cons_zero, List.set_cons_succ])
            refine wpAnyH_take (i := 10) (oi := ({ dst := some 39, op := Op.extract (Operand.tmp 29) 1, type := 29, pos := "laws.go:1176", after := #[{ on := 8, ground := Ground.data }, { on := 13, ground := Ground.gcOnly Departure.lateStores }], guard := none } : Oper)) (v := ?_) rfl (by kernel_rfl) (by kernel_rfl) (by kernel_rfl) (fun _ _ _ h => h) (Or.inl ⟨by rfl, ?_⟩) (by assumption) ?_
            rotate_left
            · (intro wz hSw; (try dsimp only at hSw); obtain ⟨hs0, hs1⟩ := hSw; go_simp; first | done | with_reducible rfl)
            (try simp only [Act.put, List.setIfInBounds_toArray, List.set_cons_zero, List.set_cons_succ])
            refine wpAnyH_ready (rs := [11, 12]) (by kernel_rfl) (by simp) ?_
            refine AllReadyH.cons (o := ({ dst := some 6, op := Op.alloc 25, type := 0, pos := "laws.go:1176", after := #[], guard := none } : Oper)) rfl (fun K hK => ?_) (AllReadyH.cons (o := ({ dst := some 7, op := Op.alloc 29, type := 0, pos := "laws.go:1176", after := #[], guard := none } : Oper)) rfl (fun K hK => ?_) AllReadyH.nil)
            · clear hHeld
              go_simp
              have hb := al1 u1 (.cells #[.slice none 0 0] 25)
              have Xu2 : Hid ((u1.alloc (.cells #[.slice none 0 0] 25)).heap[u1.heap.size]? = some (.cells #[.slice none 0 0] 25) ∧ w1.heap.size < u1.heap.size) := ⟨new_block u1 _, Pu1.out.lt⟩
              generalize u1.alloc (.cells #[.slice none 0 0] 25) = u2 at hb Xu2 ⊢
              have Pu2 : Hid (MX w w1.heap.size (some ⟨b, o, none⟩) (n' + 1) cm L u2) := Pu1.out.below hb
              have Ou2 : Hid (u2.ownsRow 0 41 2 (.slice ax n' cx) n' (D.map (Value.int .i64))) := ownsRow_below Ou1.out hb
              clear Pu1 Ou1
              clear hb
              refine hK.out _ _ (Pu2.out.held hlt HKEY.out) (fun hHeld => ?_)
              clear hK K
              (try simp only [Act.put, List.setIfInBounds_toArray, List.set_cons_zero, List.set_cons_succ])
              refine wpAnyH_ready (rs := [12]) (by kernel_rfl) (by simp) ?_
              refine AllReadyH.cons (o := ({ dst := some 7, op := Op.alloc 29, type := 0, pos := "laws.go:1176", after := #[], guard := none } : Oper)) rfl (fun K hK => ?_) AllReadyH.nil
              · clear hHeld
                go_simp
                have hb := al1 u2 (.cells #[.int .i64 0, .int .i64 0] 29)
                have Yu3 : Hid ((u2.alloc (.cells #[.int .i64 0, .int .i64 0] 29)).heap[u2.heap.size]? = some (.cells #[.int .i64 0, .int .i64 0] 29) ∧ w1.heap.size < u2.heap.size) := ⟨new_block u2 _, Pu2.out.lt⟩
                generalize u2.alloc (.cells #[.int .i64 0, .int .i64 0] 29) = u3 at hb Yu3 ⊢
                have Pu3 : Hid (MX w w1.heap.size (some ⟨b, o, none⟩) (n' + 1) cm L u3) := Pu2.out.below hb
                have Ou3 : Hid (u3.ownsRow 0 41 2 (.slice ax n' cx) n' (D.map (Value.int .i64))) := ownsRow_below Ou2.out hb
                have Xu3 : Hid (u3.heap[u1.heap.size]? = some (.cells #[.slice none 0 0] 25) ∧ w1.heap.size < u1.heap.size) := ⟨block_kept hb Xu2.out.1, Xu2.out.2⟩
                clear Pu2 Ou2 Xu2
                clear hb
                refine hK.out _ _ (Pu3.out.held hlt HKEY.out) (fun hHeld => ?_)
                clear hK K
                (try simp only [Act.put, List.setIfInBounds_toArray, List.set_cons_zero, List.set_cons_succ])
                refine wpAnyH_ready (rs := [13]) (by kernel_rfl) (by simp) ?_
                refine AllReadyH.cons (o := ({ dst := none, op := Op.store 25 (Operand.tmp 6) (Operand.tmp 38), type := 0, pos := "laws.go:1176", after := #[{ on := 11, ground := Ground.data }, { on := 9, ground := Ground.data }, { on := 7, ground := Ground.chain }, { on := 0, ground := Ground.phase }, { on := 1, ground := Ground.phase }, { on := 2, ground := Ground.phase }, { on := 3, ground := Ground.phase }, { on := 4, ground := Ground.phase }, { on := 5, ground := Ground.phase }, { on := 6, ground := Ground.phase }, { on := 7, ground := Ground.phase }, { on := 8, ground := Ground.phase }, { on := 9, ground := Ground.phase }, { on := 10, ground := Ground.textOnly Departure.lateStores }, { on := 11, ground := Ground.phase }, { on := 12, ground := Ground.phase }], guard := none } : Oper)) rfl (fun K hK => ?_) AllReadyH.nil
                clear hHeld
                have hxy : Hid (u1.heap.size ≠ u2.heap.size) := fun e => by have h1 := Xu3.out.1; rw [e] at h1; exact absurd (cells_type h1 Yu3.out.1) (by decide)
                have hcell := cell_block0 Xu3.out.1
                have hfz := frozen_block Xu3.out.1 0
                go_simp
                clear hcell hfz
                have PS : Hid (MX w w1.heap.size (some ⟨b, o, none⟩) (n' + 1) cm L (u3.setCell ⟨u1.heap.size, 0, none⟩ (.slice ax n' cx))) := Pu3.out.store Xu3.out.1 (by decide) Xu3.out.2 0 _
                have OS := own_store Ou3.out Xu3.out.1 (by decide) 0 (.slice ax n' cx)
                have YS := block_store (j := 0) (u := .slice ax n' cx) Yu3.out.1 hxy.out.symm
                have XS : (u3.setCell ⟨u1.heap.size, 0, none⟩ (.slice ax n' cx)).heap[u1.heap.size]? = some (.cells #[.slice ax n' cx] 25) := by rw [Go.Joins.block_setCell Xu3.out.1]; rfl
                have hgx := Xu3.out.2
                have hgy := Yu3.out.2
                clear Xu3 Yu3 Pu3 Ou3
                have QS : Hid ((u3.setCell ⟨u1.heap.size, 0, none⟩ (.slice ax n' cx)).ownsRow 0 41 2 (.slice ax n' cx) n' (D.map (Value.int .i64)) ∧ (u3.setCell ⟨u1.heap.size, 0, none⟩ (.slice ax n' cx)).heap[u2.heap.size]? = some (.cells #[.int .i64 0, .int .i64 0] 29) ∧ (u3.setCell ⟨u1.heap.size, 0, none⟩ (.slice ax n' cx)).heap[u1.heap.size]? = some (.cells #[.slice ax n' cx] 25)) := ⟨OS, YS, XS⟩
                clear OS YS XS
                generalize u3.setCell ⟨u1.heap.size, 0, none⟩ (.slice ax n' cx) = wS at PS QS ⊢
                refine hK.out _ _ (PS.out.held hlt HKEY.out) (fun hHeld => ?_)
                clear hK K
                (try simp only [Act.put, List.setIfInBounds_toArray, List.set_cons_zero, List.set_cons_succ])
                refine wpAnyH_ready (rs := [14]) (by kernel_rfl) (by simp) ?_
                refine AllReadyH.cons (o := ({ dst := none, op := Op.store 29 (Operand.tmp 7) (Operand.tmp 39), type := 0, pos := "laws.go:1176", after := #[{ on := 12, ground := Ground.data }, { on := 10, ground := Ground.data }, { on := 13, ground := Ground.chain }, { on := 0, ground := Ground.phase }, { on := 1, ground := Ground.phase }, { on := 2, ground := Ground.phase }, { on := 3, ground := Ground.phase }, { on := 4, ground := Ground.phase }, { on := 5, ground := Ground.phase }, { on := 6, ground := Ground.phase }, { on := 7, ground := Ground.phase }, { on := 8, ground := Ground.phase }, { on := 9, ground := Ground.phase }, { on := 10, ground := Ground.phase }, { on := 11, ground := Ground.phase }, { on := 12, ground := Ground.phase }, { on := 13, ground := Ground.phase }], guard := none } : Oper)) rfl (fun K hK => ?_) AllReadyH.nil
                clear hHeld
                have hcell := cell_block0 QS.out.2.1
                have hcell1 := cell_block1 QS.out.2.1
                have hfz := frozen_block QS.out.2.1 0
                have hfz1 := frozen_block QS.out.2.1 1
                go_simp
                clear hcell hcell1 hfz hfz1
                have Y1 : (wS.setCell ⟨u2.heap.size, 0, none⟩ (.int .i64 C)).heap[u2.heap.size]? = some (.cells #[.int .i64 C, .int .i64 0] 29) := by rw [Go.Joins.block_setCell QS.out.2.1]; rfl
                have PT : Hid (MX w w1.heap.size (some ⟨b, o, none⟩) (n' + 1) cm L ((wS.setCell ⟨u2.heap.size, 0, none⟩ (.int .i64 C)).setCell ⟨u2.heap.size, 1, none⟩ (.int .i64 V))) := (PS.out.store QS.out.2.1 (by decide) hgy 0 _).store Y1 (by decide) hgy 1 _
                have QT : Hid (((wS.setCell ⟨u2.heap.size, 0, none⟩ (.int .i64 C)).setCell ⟨u2.heap.size, 1, none⟩ (.int .i64 V)).ownsRow 0 41 2 (.slice ax n' cx) n' (D.map (Value.int .i64)) ∧ ((wS.setCell ⟨u2.heap.size, 0, none⟩ (.int .i64 C)).setCell ⟨u2.heap.size, 1, none⟩ (.int .i64 V)).cell? ⟨u1.heap.size, 0, none⟩ = some (.slice ax n' cx)) := ⟨own_store (own_store QS.out.1 QS.out.2.1 (by decide) 0 _) Y1 (by decide) 1 _, cell_store (cell_store (cell_block0 QS.out.2.2) hxy.out) hxy.out⟩
                clear Y1 PS QS
                generalize ((wS.setCell ⟨u2.heap.size, 0, none⟩ (.int .i64 C)).setCell ⟨u2.heap.size, 1, none⟩ (.int .i64 V)) = wT at PT QT ⊢
                refine hK.out _ _ (PT.out.held hlt HKEY.out) (fun hHeld => ?_)
                clear hK K hxy hgy hgx
                (try simp only [Act.put, List.setIfInBounds_toArray, List.set_cons_zero, List.set_cons_succ])
                refine wpAnyH_done (by kernel_rfl) ?_ _
                clear hHeld
                generalize u1.heap.size = gX at QT ⊢
                generalize u2.heap.size = gY
                have p0 := PT.out.m
                have p1 := QT.out.2
                go_wp2_with fail
                refine (implMapOk_any (some ⟨b, o, none⟩) k cm (L.take (k * 2)) _ (sints_take (own2_sints PT.out.own) (by omega)) (by omega)).mono ?_
                rintro e wU ⟨rfl, hbU⟩
                rw [HA.out.2]
                have PU : Hid (MX w w1.heap.size (some ⟨b, o, none⟩) (n' + 1) cm L wU) := PT.out.below hbU
                have QU : Hid (wU.ownsRow 0 41 2 (.slice ax n' cx) n' (D.map (Value.int .i64)) ∧ wU.cell? ⟨gX, 0, none⟩ = some (.slice ax n' cx)) := ⟨ownsRow_below QT.out.1 hbU, cell_kept hbU QT.out.2⟩
                clear hbU PT QT p0 p1
                have p0 := PU.out.m
                have p1 := QU.out.2
                go_wp2_with fail
                refine (implMapOk_any ax n' cx D _ (own2_sints QU.out.1) (by omega)).mono ?_
                rintro e wV ⟨rfl, hbV⟩
                rw [HA.out.1]
                have PV : Hid (MX w w1.heap.size (some ⟨b, o, none⟩) (n' + 1) cm L wV) := PU.out.below hbV
                have p2 := cell_kept hbV QU.out.2
                clear hbV PU QU p0 p1
                have p0 := PV.out.m
                go_wp2
                go_roundw
                case rel => exact ⟨k + 1, by omega, by go_num, PV.out⟩
                case measure => simp [intOf]; omega
            · clear hHeld
              go_simp
              have hb := al1 u1 (.cells #[.int .i64 0, .int .i64 0] 29)
              have Yu2 : Hid ((u1.alloc (.cells #[.int .i64 0, .int .i64 0] 29)).heap[u1.heap.size]? = some (.cells #[.int .i64 0, .int .i64 0] 29) ∧ w1.heap.size < u1.heap.size) := ⟨new_block u1 _, Pu1.out.lt⟩
              generalize u1.alloc (.cells #[.int .i64 0, .int .i64 0] 29) = u2 at hb Yu2 ⊢
              have Pu2 : Hid (MX w w1.heap.size (some ⟨b, o, none⟩) (n' + 1) cm L u2) := Pu1.out.below hb
              have Ou2 : Hid (u2.ownsRow 0 41 2 (.slice ax n' cx) n' (D.map (Value.int .i64))) := ownsRow_below Ou1.out hb
              clear Pu1 Ou1
              clear hb
              refine hK.out _ _ (Pu2.out.held hlt HKEY.out) (fun hHeld => ?_)
              clear hK K
              (try simp only [Act.put, List.setIfInBounds_toArray, List.set_cons_zero, List.set_cons_succ])
              refine wpAnyH_ready (rs := [11]) (by kernel_rfl) (by simp) ?_
              refine AllReadyH.cons (o := ({ dst := some 6, op := Op.alloc 25, type := 0, pos := "laws.go:1176", after := #[], guard := none } : Oper)) rfl (fun K hK => ?_) AllReadyH.nil
              · clear hHeld
                go_simp
                have hb := al1 u2 (.cells #[.slice none 0 0] 25)
                have Xu3 : Hid ((u2.alloc (.cells #[.slice none 0 0] 25)).heap[u2.heap.size]? = some (.cells #[.slice none 0 0] 25) ∧ w1.heap.size < u2.heap.size) := ⟨new_block u2 _, Pu2.out.lt⟩
                generalize u2.alloc (.cells #[.slice none 0 0] 25) = u3 at hb Xu3 ⊢
                have Pu3 : Hid (MX w w1.heap.size (some ⟨b, o, none⟩) (n' + 1) cm L u3) := Pu2.out.below hb
                have Ou3 : Hid (u3.ownsRow 0 41 2 (.slice ax n' cx) n' (D.map (Value.int .i64))) := ownsRow_below Ou2.out hb
                have Yu3 : Hid (u3.heap[u1.heap.size]? = some (.cells #[.int .i64 0, .int .i64 0] 29) ∧ w1.heap.size < u1.heap.size) := ⟨block_kept hb Yu2.out.1, Yu2.out.2⟩
                clear Pu2 Ou2 Yu2
                clear hb
                refine hK.out _ _ (Pu3.out.held hlt HKEY.out) (fun hHeld => ?_)
                clear hK K
                (try simp only [Act.put, List.setIfInBounds_toArray, List.set_cons_zero, List.set_cons_succ])
                refine wpAnyH_ready (rs := [13]) (by kernel_rfl) (by simp) ?_
                refine AllReadyH.cons (o := ({ dst := none, op := Op.store 25 (Operand.tmp 6) (Operand.tmp 38), type := 0, pos := "laws.go:1176", after := #[{ on := 11, ground := Ground.data }, { on := 9, ground := Ground.data }, { on := 7, ground := Ground.chain }, { on := 0, ground := Ground.phase }, { on := 1, ground := Ground.phase }, { on := 2, ground := Ground.phase }, { on := 3, ground := Ground.phase }, { on := 4, ground := Ground.phase }, { on := 5, ground := Ground.phase }, { on := 6, ground := Ground.phase }, { on := 7, ground := Ground.phase }, { on := 8, ground := Ground.phase }, { on := 9, ground := Ground.phase }, { on := 10, ground := Ground.textOnly Departure.lateStores }, { on := 11, ground := Ground.phase }, { on := 12, ground := Ground.phase }], guard := none } : Oper)) rfl (fun K hK => ?_) AllReadyH.nil
                clear hHeld
                have hxy : Hid (u2.heap.size ≠ u1.heap.size) := fun e => by have h1 := Xu3.out.1; rw [e] at h1; exact absurd (cells_type h1 Yu3.out.1) (by decide)
                have hcell := cell_block0 Xu3.out.1
                have hfz := frozen_block Xu3.out.1 0
                go_simp
                clear hcell hfz
                have PS : Hid (MX w w1.heap.size (some ⟨b, o, none⟩) (n' + 1) cm L (u3.setCell ⟨u2.heap.size, 0, none⟩ (.slice ax n' cx))) := Pu3.out.store Xu3.out.1 (by decide) Xu3.out.2 0 _
                have OS := own_store Ou3.out Xu3.out.1 (by decide) 0 (.slice ax n' cx)
                have YS := block_store (j := 0) (u := .slice ax n' cx) Yu3.out.1 hxy.out.symm
                have XS : (u3.setCell ⟨u2.heap.size, 0, none⟩ (.slice ax n' cx)).heap[u2.heap.size]? = some (.cells #[.slice ax n' cx] 25) := by rw [Go.Joins.block_setCell Xu3.out.1]; rfl
                have hgx := Xu3.out.2
                have hgy := Yu3.out.2
                clear Xu3 Yu3 Pu3 Ou3
                have QS : Hid ((u3.setCell ⟨u2.heap.size, 0, none⟩ (.slice ax n' cx)).ownsRow 0 41 2 (.slice ax n' cx) n' (D.map (Value.int .i64)) ∧ (u3.setCell ⟨u2.heap.size, 0, none⟩ (.slice ax n' cx)).heap[u1.heap.size]? = some (.cells #[.int .i64 0, .int .i64 0] 29) ∧ (u3.setCell ⟨u2.heap.size, 0, none⟩ (.slice ax n' cx)).heap[u2.heap.size]? = some (.cells #[.slice ax n' cx] 25)) := ⟨OS, YS, XS⟩
                clear OS YS XS
                generalize u3.setCell ⟨u2.heap.size, 0, none⟩ (.slice ax n' cx) = wS at PS QS ⊢
                refine hK.out _ _ (PS.out.held hlt HKEY.out) (fun hHeld => ?_)
                clear hK K
                (try simp only [Act.put, List.setIfInBounds_toArray, List.set_cons_zero, List.set_cons_succ])
                refine wpAnyH_ready (rs := [14]) (by kernel_rfl) (by simp) ?_
                refine AllReadyH.cons (o := ({ dst := none, op := Op.store 29 (Operand.tmp 7) (Operand.tmp 39), type := 0, pos := "laws.go:1176", after := #[{ on := 12, ground := Ground.data }, { on := 10, ground := Ground.data }, { on := 13, ground := Ground.chain }, { on := 0, ground := Ground.phase }, { on := 1, ground := Ground.phase }, { on := 2, ground := Ground.phase }, { on := 3, ground := Ground.phase }, { on := 4, ground := Ground.phase }, { on := 5, ground := Ground.phase }, { on := 6, ground := Ground.phase }, { on := 7, ground := Ground.phase }, { on := 8, ground := Ground.phase }, { on := 9, ground := Ground.phase }, { on := 10, ground := Ground.phase }, { on := 11, ground := Ground.phase }, { on := 12, ground := Ground.phase }, { on := 13, ground := Ground.phase }], guard := none } : Oper)) rfl (fun K hK => ?_) AllReadyH.nil
                clear hHeld
                have hcell := cell_block0 QS.out.2.1
                have hcell1 := cell_block1 QS.out.2.1
                have hfz := frozen_block QS.out.2.1 0
                have hfz1 := frozen_block QS.out.2.1 1
                go_simp
                clear hcell hcell1 hfz hfz1
                have Y1 : (wS.setCell ⟨u1.heap.size, 0, none⟩ (.int .i64 C)).heap[u1.heap.size]? = some (.cells #[.int .i64 C, .int .i64 0] 29) := by rw [Go.Joins.block_setCell QS.out.2.1]; rfl
                have PT : Hid (MX w w1.heap.size (some ⟨b, o, none⟩) (n' + 1) cm L ((wS.setCell ⟨u1.heap.size, 0, none⟩ (.int .i64 C)).setCell ⟨u1.heap.size, 1, none⟩ (.int .i64 V))) := (PS.out.store QS.out.2.1 (by decide) hgy 0 _).store Y1 (by decide) hgy 1 _
                have QT : Hid (((wS.setCell ⟨u1.heap.size, 0, none⟩ (.int .i64 C)).setCell ⟨u1.heap.size, 1, none⟩ (.int .i64 V)).ownsRow 0 41 2 (.slice ax n' cx) n' (D.map (Value.int .i64)) ∧ ((wS.setCell ⟨u1.heap.size, 0, none⟩ (.int .i64 C)).setCell ⟨u1.heap.size, 1, none⟩ (.int .i64 V)).cell? ⟨u2.heap.size, 0, none⟩ = some (.slice ax n' cx)) := ⟨own_store (own_store QS.out.1 QS.out.2.1 (by decide) 0 _) Y1 (by decide) 1 _, cell_store (cell_store (cell_block0 QS.out.2.2) hxy.out) hxy.out⟩
                clear Y1 PS QS
                generalize ((wS.setCell ⟨u1.heap.size, 0, none⟩ (.int .i64 C)).setCell ⟨u1.heap.size, 1, none⟩ (.int .i64 V)) = wT at PT QT ⊢
                refine hK.out _ _ (PT.out.held hlt HKEY.out) (fun hHeld => ?_)
                clear hK K hxy hgy hgx
                (try simp only [Act.put, List.setIfInBounds_toArray, List.set_cons_zero, List.set_cons_succ])
                refine wpAnyH_done (by kernel_rfl) ?_ _
                clear hHeld
                generalize u2.heap.size = gX at QT ⊢
                generalize u1.heap.size = gY
                have p0 := PT.out.m
                have p1 := QT.out.2
                go_wp2_with fail
                refine (implMapOk_any (some ⟨b, o, none⟩) k cm (L.take (k * 2)) _ (sints_take (own2_sints PT.out.own) (by omega)) (by omega)).mono ?_
                rintro e wU ⟨rfl, hbU⟩
                rw [HA.out.2]
                have PU : Hid (MX w w1.heap.size (some ⟨b, o, none⟩) (n' + 1) cm L wU) := PT.out.below hbU
                have QU : Hid (wU.ownsRow 0 41 2 (.slice ax n' cx) n' (D.map (Value.int .i64)) ∧ wU.cell? ⟨gX, 0, none⟩ = some (.slice ax n' cx)) := ⟨ownsRow_below QT.out.1 hbU, cell_kept hbU QT.out.2⟩
                clear hbU PT QT p0 p1
                have p0 := PU.out.m
                have p1 := QU.out.2
                go_wp2_with fail
                refine (implMapOk_any ax n' cx D _ (own2_sints QU.out.1) (by omega)).mono ?_
                rintro e wV ⟨rfl, hbV⟩
                rw [HA.out.1]
                have PV : Hid (MX w w1.heap.size (some ⟨b, o, none⟩) (n' + 1) cm L wV) := PU.out.below hbV
                have p2 := cell_kept hbV QU.out.2
                clear hbV PU QU p0 p1
                have p0 := PV.out.m
                go_wp2
                go_roundw
                case rel => exact ⟨k + 1, by omega, by go_num, PV.out⟩
                case measure => simp [intOf]; omega
          · clear hHeld
            go_simp
            have hb := al1 u0 (.cells #[.slice none 0 0] 25)
            have Xu1 : Hid ((u0.alloc (.cells #[.slice none 0 0] 25)).heap[u0.heap.size]? = some (.cells #[.slice none 0 0] 25) ∧ w1.heap.size < u0.heap.size) := ⟨new_block u0 _, Pu0.out.lt⟩
            generalize u0.alloc (.cells #[.slice none 0 0] 25) = u1 at hb Xu1 ⊢
            have Pu1 : Hid (MX w w1.heap.size (some ⟨b, o, none⟩) (n' + 1) cm L u1) := Pu0.out.below hb
            clear Pu0 
            clear hb
            refine hK.out _ _ (Pu1.out.held hlt HKEY.out) (fun hHeld => ?_)
            clear hK K
            (try simp only [Act.put, List.setIfInBounds_toArray, List.set_cons_zero, List.set_cons_succ])
            refine wpAnyH_ready (rs := [7, 12]) (by kernel_rfl) (by simp) ?_
            refine AllReadyH.cons (o := ({ dst := some 37, op := Op.call { callee := Callee.value (Operand.func 18), args := #[Operand.tmp 30, Operand.tmp 36], argTypes := #[25, 3] }, type := 30, pos := "laws.go:1176", after := #[{ on := 0, ground := Ground.data }, { on := 6, ground := Ground.data }], guard := none } : Oper)) rfl (fun K hK => ?_) (AllReadyH.cons (o := ({ dst := some 7, op := Op.alloc 29, type := 0, pos := "laws.go:1176", after := #[], guard := none } : Oper)) rfl (fun K hK => ?_) AllReadyH.nil)
            · clear hHeld
              go_simp
              go_wp2_with fail
              refine (himpl.out _ (own2_sints Pu1.out.own)).mono ?_
              rintro e u2 ⟨ax, cx, rfl, hox, hb⟩
              have Ou2 : Hid (u2.ownsRow 0 41 2 (.slice ax n' cx) n' (D.map (Value.int .i64))) := own_mono hox (Nat.zero_le _)
              clear hox
              have Pu2 : Hid (MX w w1.heap.size (some ⟨b, o, none⟩) (n' + 1) cm L u2) := Pu1.out.below hb
              have Xu2 : Hid (u2.heap[u0.heap.size]? = some (.cells #[.slice none 0 0] 25) ∧ w1.heap.size < u0.heap.size) := ⟨block_kept hb Xu1.out.1, Xu1.out.2⟩
              clear Pu1 Xu1
              clear hb
              refine hK.out _ _ (Pu2.out.held hlt HKEY.out) (fun hHeld => ?_)
              clear hK K
              (try simp only [Act.put, List.setIfInBounds_toArray, List.set_cons_zero, List.set_cons_succ])
              refine wpAnyH_take (i := 8) (oi := ({ dst := some 29, op := Op.move (Operand.tmp 37), type := 30, pos := "laws.go:1176", after := #[{ on := 7, ground := Ground.data }], guard := none } : Oper)) (v := ?_) rfl (by kernel_rfl) (by kernel_rfl) (by kernel_rfl) (fun _ _ _ h => h) (Or.inl ⟨by rfl, ?_⟩) (by assumption) ?_
              rotate_left
              · (intro wz hSw; (try dsimp only at hSw); obtain ⟨hs0, hs1⟩ := hSw; go_simp; first | done | with_reducible rfl)
              (try simp only [Act.put, List.setIfInBounds_toArray, List.set_cons_zero, List.set_cons_succ])
              refine wpAnyH_take (i := 9) (oi := ({ dst := some 38, op := Op.extract (Operand.tmp 29) 0, type := 25, pos := "laws.go:1176", after := #[{ on := 8, ground := Ground.data }], guard := none } : Oper)) (v := ?_) rfl (by kernel_rfl) (by kernel_rfl) (by kernel_rfl) (fun _ _ _ h => h) (Or.inl ⟨by rfl, ?_⟩) (by assumption) ?_
              rotate_left
              · (intro wz hSw; (try dsimp only at hSw); obtain ⟨hs0, hs1⟩ := hSw; go_simp; first | done | with_reducible rfl)
              (try simp only [Act.put, List.setIfInBounds_toArray, List.set_cons_zero, List.set_cons_succ])
              refine wpAnyH_take (i := 10) (oi := ({ dst := some 39, op := Op.extract (Operand.tmp 29) 1, type := 29, pos := "laws.go:1176", after := #[{ on := 8, ground := Ground.data }, { on := 13, ground := Ground.gcOnly Departure.lateStores }], guard := none } : Oper)) (v := ?_) rfl (by kernel_rfl) (by kernel_rfl) (by kernel_rfl) (fun _ _ _ h => h) (Or.inl ⟨by rfl, ?_⟩) (by assumption) ?_
              rotate_left
              · (intro wz hSw; (try dsimp only at hSw); obtain ⟨hs0, hs1⟩ := hSw; go_simp; first | done | with_reducible rfl)
              (try simp only [Act.put, List.setIfInBounds_toArray, List.set_cons_zero, List.set_cons_succ])
              refine wpAnyH_ready (rs := [12]) (by kernel_rfl) (by simp) ?_
              refine AllReadyH.cons (o := ({ dst := some 7, op := Op.alloc 29, type := 0, pos := "laws.go:1176", after := #[], guard := none } : Oper)) rfl (fun K hK => ?_) AllReadyH.nil
              · clear hHeld
                go_simp
                have hb := al1 u2 (.cells #[.int .i64 0, .int .i64 0] 29)
                have Yu3 : Hid ((u2.alloc (.cells #[.int .i64 0, .int .i64 0] 29)).heap[u2.heap.size]? = some (.cells #[.int .i64 0, .int .i64 0] 29) ∧ w1.heap.size < u2.heap.size) := ⟨new_block u2 _, Pu2.out.lt⟩
                generalize u2.alloc (.cells #[.int .i64 0, .int .i64 0] 29) = u3 at hb Yu3 ⊢
                have Pu3 : Hid (MX w w1.heap.size (some ⟨b, o, none⟩) (n' + 1) cm L u3) := Pu2.out.below hb
                have Ou3 : Hid (u3.ownsRow 0 41 2 (.slice ax n' cx) n' (D.map (Value.int .i64))) := ownsRow_below Ou2.out hb
                have Xu3 : Hid (u3.heap[u0.heap.size]? = some (.cells #[.slice none 0 0] 25) ∧ w1.heap.size < u0.heap.size) := ⟨block_kept hb Xu2.out.1, Xu2.out.2⟩
                clear Pu2 Ou2 Xu2
                clear hb
                refine hK.out _ _ (Pu3.out.held hlt HKEY.out) (fun hHeld => ?_)
                clear hK K
                (try simp only [Act.put, List.setIfInBounds_toArray, List.set_cons_zero, List.set_cons_succ])
                refine wpAnyH_ready (rs := [13]) (by kernel_rfl) (by simp) ?_
                refine AllReadyH.cons (o := ({ dst := none, op := Op.store 25 (Operand.tmp 6) (Operand.tmp 38), type := 0, pos := "laws.go:1176", after := #[{ on := 11, ground := Ground.data }, { on := 9, ground := Ground.data }, { on := 7, ground := Ground.chain }, { on := 0, ground := Ground.phase }, { on := 1, ground := Ground.phase }, { on := 2, ground := Ground.phase }, { on := 3, ground := Ground.phase }, { on := 4, ground := Ground.phase }, { on := 5, ground := Ground.phase }, { on := 6, ground := Ground.phase }, { on := 7, ground := Ground.phase }, { on := 8, ground := Ground.phase }, { on := 9, ground := Ground.phase }, { on := 10, ground := Ground.textOnly Departure.lateStores }, { on := 11, ground := Ground.phase }, { on := 12, ground := Ground.phase }], guard := none } : Oper)) rfl (fun K hK => ?_) AllReadyH.nil
                clear hHeld
                have hxy : Hid (u0.heap.size ≠ u2.heap.size) := fun e => by have h1 := Xu3.out.1; rw [e] at h1; exact absurd (cells_type h1 Yu3.out.1) (by decide)
                have hcell := cell_block0 Xu3.out.1
                have hfz := frozen_block Xu3.out.1 0
                go_simp
                clear hcell hfz
                have PS : Hid (MX w w1.heap.size (some ⟨b, o, none⟩) (n' + 1) cm L (u3.setCell ⟨u0.heap.size, 0, none⟩ (.slice ax n' cx))) := Pu3.out.store Xu3.out.1 (by decide) Xu3.out.2 0 _
                have OS := own_store Ou3.out Xu3.out.1 (by decide) 0 (.slice ax n' cx)
                have YS := block_store (j := 0) (u := .slice ax n' cx) Yu3.out.1 hxy.out.symm
                have XS : (u3.setCell ⟨u0.heap.size, 0, none⟩ (.slice ax n' cx)).heap[u0.heap.size]? = some (.cells #[.slice ax n' cx] 25) := by rw [Go.Joins.block_setCell Xu3.out.1]; rfl
                have hgx := Xu3.out.2
                have hgy := Yu3.out.2
                clear Xu3 Yu3 Pu3 Ou3
                have QS : Hid ((u3.setCell ⟨u0.heap.size, 0, none⟩ (.slice ax n' cx)).ownsRow 0 41 2 (.slice ax n' cx) n' (D.map (Value.int .i64)) ∧ (u3.setCell ⟨u0.heap.size, 0, none⟩ (.slice ax n' cx)).heap[u2.heap.size]? = some (.cells #[.int .i64 0, .int .i64 0] 29) ∧ (u3.setCell ⟨u0.heap.size, 0, none⟩ (.slice ax n' cx)).heap[u0.heap.size]? = some (.cells #[.slice ax n' cx] 25)) := ⟨OS, YS, XS⟩
                clear OS YS XS
                generalize u3.setCell ⟨u0.heap.size, 0, none⟩ (.slice ax n' cx) = wS at PS QS ⊢
                refine hK.out _ _ (PS.out.held hlt HKEY.out) (fun hHeld => ?_)
                clear hK K
                (try simp only [Act.put, List.setIfInBounds_toArray, List.set_cons_zero, List.set_cons_succ])
                refine wpAnyH_ready (rs := [14]) (by kernel_rfl) (by simp) ?_
                refine AllReadyH.cons (o := ({ dst := none, op := Op.store 29 (Operand.tmp 7) (Operand.tmp 39), type := 0, pos := "laws.go:1176", after := #[{ on := 12, ground := Ground.data }, { on := 10, ground := Ground.data }, { on := 13, ground := Ground.chain }, { on := 0, ground := Ground.phase }, { on := 1, ground := Ground.phase }, { on := 2, ground := Ground.phase }, { on := 3, ground := Ground.phase }, { on := 4, ground := Ground.phase }, { on := 5, ground := Ground.phase }, { on := 6, ground := Ground.phase }, { on := 7, ground := Ground.phase }, { on := 8, ground := Ground.phase }, { on := 9, ground := Ground.phase }, { on := 10, ground := Ground.phase }, { on := 11, ground := Ground.phase }, { on := 12, ground := Ground.phase }, { on := 13, ground := Ground.phase }], guard := none } : Oper)) rfl (fun K hK => ?_) AllReadyH.nil
                clear hHeld
                have hcell := cell_block0 QS.out.2.1
                have hcell1 := cell_block1 QS.out.2.1
                have hfz := frozen_block QS.out.2.1 0
                have hfz1 := frozen_block QS.out.2.1 1
                go_simp
                clear hcell hcell1 hfz hfz1
                have Y1 : (wS.setCell ⟨u2.heap.size, 0, none⟩ (.int .i64 C)).heap[u2.heap.size]? = some (.cells #[.int .i64 C, .int .i64 0] 29) := by rw [Go.Joins.block_setCell QS.out.2.1]; rfl
                have PT : Hid (MX w w1.heap.size (some ⟨b, o, none⟩) (n' + 1) cm L ((wS.setCell ⟨u2.heap.size, 0, none⟩ (.int .i64 C)).setCell ⟨u2.heap.size, 1, none⟩ (.int .i64 V))) := (PS.out.store QS.out.2.1 (by decide) hgy 0 _).store Y1 (by decide) hgy 1 _
                have QT : Hid (((wS.setCell ⟨u2.heap.size, 0, none⟩ (.int .i64 C)).setCell ⟨u2.heap.size, 1, none⟩ (.int .i64 V)).ownsRow 0 41 2 (.slice ax n' cx) n' (D.map (Value.int .i64)) ∧ ((wS.setCell ⟨u2.heap.size, 0, none⟩ (.int .i64 C)).setCell ⟨u2.heap.size, 1, none⟩ (.int .i64 V)).cell? ⟨u0.heap.size, 0, none⟩ = some (.slice ax n' cx)) := ⟨own_store (own_store QS.out.1 QS.out.2.1 (by decide) 0 _) Y1 (by decide) 1 _, cell_store (cell_store (cell_block0 QS.out.2.2) hxy.out) hxy.out⟩
                clear Y1 PS QS
                generalize ((wS.setCell ⟨u2.heap.size, 0, none⟩ (.int .i64 C)).setCell ⟨u2.heap.size, 1, none⟩ (.int .i64 V)) = wT at PT QT ⊢
                refine hK.out _ _ (PT.out.held hlt HKEY.out) (fun hHeld => ?_)
                clear hK K hxy hgy hgx
                (try simp only [Act.put, List.setIfInBounds_toArray, List.set_cons_zero, List.set_cons_succ])
                refine wpAnyH_done (by kernel_rfl) ?_ _
                clear hHeld
                generalize u0.heap.size = gX at QT ⊢
                generalize u2.heap.size = gY
                have p0 := PT.out.m
                have p1 := QT.out.2
                go_wp2_with fail
                refine (implMapOk_any (some ⟨b, o, none⟩) k cm (L.take (k * 2)) _ (sints_take (own2_sints PT.out.own) (by omega)) (by omega)).mono ?_
                rintro e wU ⟨rfl, hbU⟩
                rw [HA.out.2]
                have PU : Hid (MX w w1.heap.size (some ⟨b, o, none⟩) (n' + 1) cm L wU) := PT.out.below hbU
                have QU : Hid (wU.ownsRow 0 41 2 (.slice ax n' cx) n' (D.map (Value.int .i64)) ∧ wU.cell? ⟨gX, 0, none⟩ = some (.slice ax n' cx)) := ⟨ownsRow_below QT.out.1 hbU, cell_kept hbU QT.out.2⟩
                clear hbU PT QT p0 p1
                have p0 := PU.out.m
                have p1 := QU.out.2
                go_wp2_with fail
                refine (implMapOk_any ax n' cx D _ (own2_sints QU.out.1) (by omega)).mono ?_
                rintro e wV ⟨rfl, hbV⟩
                rw [HA.out.1]
                have PV : Hid (MX w w1.heap.size (some ⟨b, o, none⟩) (n' + 1) cm L wV) := PU.out.below hbV
                have p2 := cell_kept hbV QU.out.2
                clear hbV PU QU p0 p1
                have p0 := PV.out.m
                go_wp2
                go_roundw
                case rel => exact ⟨k + 1, by omega, by go_num, PV.out⟩
                case measure => simp [intOf]; omega
            · clear hHeld
              go_simp
              have hb := al1 u1 (.cells #[.int .i64 0, .int .i64 0] 29)
              have Yu2 : Hid ((u1.alloc (.cells #[.int .i64 0, .int .i64 0] 29)).heap[u1.heap.size]? = some (.cells #[.int .i64 0, .int .i64 0] 29) ∧ w1.heap.size < u1.heap.size) := ⟨new_block u1 _, Pu1.out.lt⟩
              generalize u1.alloc (.cells #[.int .i64 0, .int .i64 0] 29) = u2 at hb Yu2 ⊢
              have Pu2 : Hid (MX w w1.heap.size (some ⟨b, o, none⟩) (n' + 1) cm L u2) := Pu1.out.below hb
              have Xu2 : Hid (u2.heap[u0.heap.size]? = some (.cells #[.slice none 0 0] 25) ∧ w1.heap.size < u0.heap.size) := ⟨block_kept hb Xu1.out.1, Xu1.out.2⟩
              clear Pu1 Xu1
              clear hb
              refine hK.out _ _ (Pu2.out.held hlt HKEY.out) (fun hHeld => ?_)
              clear hK K
              (try simp only [Act.put, List.setIfInBounds_toArray, List.set_cons_zero, List.set_cons_succ])
              refine wpAnyH_ready (rs := [7]) (by kernel_rfl) (by simp) ?_
              refine AllReadyH.cons (o := ({ dst := some 37, op := Op.call { callee := Callee.value (Operand.func 18), args := #[Operand.tmp 30, Operand.tmp 36], argTypes := #[25, 3] }, type := 30, pos := "laws.go:1176", after := #[{ on := 0, ground := Ground.data }, { on := 6, ground := Ground.data }], guard := none } : Oper)) rfl (fun K hK => ?_) AllReadyH.nil
              · clear hHeld
                go_simp
                go_wp2_with fail
                refine (himpl.out _ (own2_sints Pu2.out.own)).mono ?_
                rintro e u3 ⟨ax, cx, rfl, hox, hb⟩
                have Ou3 : Hid (u3.ownsRow 0 41 2 (.slice ax n' cx) n' (D.map (Value.int .i64))) := own_mono hox (Nat.zero_le _)
                clear hox
                have Pu3 : Hid (MX w w1.heap.size (some ⟨b, o, none⟩) (n' + 1) cm L u3) := Pu2.out.below hb
                have Xu3 : Hid (u3.heap[u0.heap.size]? = some (.cells #[.slice none 0 0] 25) ∧ w1.heap.size < u0.heap.size) := ⟨block_kept hb Xu2.out.1, Xu2.out.2⟩
                have Yu3 : Hid (u3.heap[u1.heap.size]? = some (.cells #[.int .i64 0, .int .i64 0] 29) ∧ w1.heap.size < u1.heap.size) := ⟨block_kept hb Yu2.out.1, Yu2.out.2⟩
                clear Pu2 Xu2 Yu2
                clear hb
                refine hK.out _ _ (Pu3.out.held hlt HKEY.out) (fun hHeld => ?_)
                clear hK K
                (try simp only [Act.put, List.setIfInBounds_toArray, List.set_cons_zero, List.set_cons_succ])
                refine wpAnyH_take (i := 8) (oi := ({ dst := some 29, op := Op.move (Operand.tmp 37), type := 30, pos := "laws.go:1176", after := #[{ on := 7, ground := Ground.data }], guard := none } : Oper)) (v := ?_) rfl (by kernel_rfl) (by kernel_rfl) (by kernel_rfl) (fun _ _ _ h => h) (Or.inl ⟨by rfl, ?_⟩) (by assumption) ?_
                rotate_left
                · (intro wz hSw; (try dsimp only at hSw); obtain ⟨hs0, hs1⟩ := hSw; go_simp; first | done | with_reducible rfl)
                (try simp only [Act.put, List.setIfInBounds_toArray, List.set_cons_zero, List.set_cons_succ])
                refine wpAnyH_take (i := 9) (oi := ({ dst := some 38, op := Op.extract (Operand.tmp 29) 0, type := 25, pos := "laws.go:1176", after := #[{ on := 8, ground := Ground.data }], guard := none } : Oper)) (v := ?_) rfl (by kernel_rfl) (by kernel_rfl) (by kernel_rfl) (fun _ _ _ h => h) (Or.inl ⟨by rfl, ?_⟩) (by assumption) ?_
                rotate_left
                · (intro wz hSw; (try dsimp only at hSw); obtain ⟨hs0, hs1⟩ := hSw; go_simp; first | done | with_reducible rfl)
                (try simp only [Act.put, List.setIfInBounds_toArray, List.set_cons_zero, List.set_cons_succ])
                refine wpAnyH_take (i := 10) (oi := ({ dst := some 39, op := Op.extract (Operand.tmp 29) 1, type := 29, pos := "laws.go:1176", after := #[{ on := 8, ground := Ground.data }, { on := 13, ground := Ground.gcOnly Departure.lateStores }], guard := none } : Oper)) (v := ?_) rfl (by kernel_rfl) (by kernel_rfl) (by kernel_rfl) (fun _ _ _ h => h) (Or.inl ⟨by rfl, ?_⟩) (by assumption) ?_
                rotate_left
                · (intro wz hSw; (try dsimp only at hSw); obtain ⟨hs0, hs1⟩ := hSw; go_simp; first | done | with_reducible rfl)
                (try simp only [Act.put, List.setIfInBounds_toArray, List.set_cons_zero, List.set_cons_succ])
                refine wpAnyH_ready (rs := [13]) (by kernel_rfl) (by simp) ?_
                refine AllReadyH.cons (o := ({ dst := none, op := Op.store 25 (Operand.tmp 6) (Operand.tmp 38), type := 0, pos := "laws.go:1176", after := #[{ on := 11, ground := Ground.data }, { on := 9, ground := Ground.data }, { on := 7, ground := Ground.chain }, { on := 0, ground := Ground.phase }, { on := 1, ground := Ground.phase }, { on := 2, ground := Ground.phase }, { on := 3, ground := Ground.phase }, { on := 4, ground := Ground.phase }, { on := 5, ground := Ground.phase }, { on := 6, ground := Ground.phase }, { on := 7, ground := Ground.phase }, { on := 8, ground := Ground.phase }, { on := 9, ground := Ground.phase }, { on := 10, ground := Ground.textOnly Departure.lateStores }, { on := 11, ground := Ground.phase }, { on := 12, ground := Ground.phase }], guard := none } : Oper)) rfl (fun K hK => ?_) AllReadyH.nil
                clear hHeld
                have hxy : Hid (u0.heap.size ≠ u1.heap.size) := fun e => by have h1 := Xu3.out.1; rw [e] at h1; exact absurd (cells_type h1 Yu3.out.1) (by decide)
                have hcell := cell_block0 Xu3.out.1
                have hfz := frozen_block Xu3.out.1 0
                go_simp
                clear hcell hfz
                have PS : Hid (MX w w1.heap.size (some ⟨b, o, none⟩) (n' + 1) cm L (u3.setCell ⟨u0.heap.size, 0, none⟩ (.slice ax n' cx))) := Pu3.out.store Xu3.out.1 (by decide) Xu3.out.2 0 _
                have OS := own_store Ou3.out Xu3.out.1 (by decide) 0 (.slice ax n' cx)
                have YS := block_store (j := 0) (u := .slice ax n' cx) Yu3.out.1 hxy.out.symm
                have XS : (u3.setCell ⟨u0.heap.size, 0, none⟩ (.slice ax n' cx)).heap[u0.heap.size]? = some (.cells #[.slice ax n' cx] 25) := by rw [Go.Joins.block_setCell Xu3.out.1]; rfl
                have hgx := Xu3.out.2
                have hgy := Yu3.out.2
                clear Xu3 Yu3 Pu3 Ou3
                have QS : Hid ((u3.setCell ⟨u0.heap.size, 0, none⟩ (.slice ax n' cx)).ownsRow 0 41 2 (.slice ax n' cx) n' (D.map (Value.int .i64)) ∧ (u3.setCell ⟨u0.heap.size, 0, none⟩ (.slice ax n' cx)).heap[u1.heap.size]? = some (.cells #[.int .i64 0, .int .i64 0] 29) ∧ (u3.setCell ⟨u0.heap.size, 0, none⟩ (.slice ax n' cx)).heap[u0.heap.size]? = some (.cells #[.slice ax n' cx] 25)) := ⟨OS, YS, XS⟩
                clear OS YS XS
                generalize u3.setCell ⟨u0.heap.size, 0, none⟩ (.slice ax n' cx) = wS at PS QS ⊢
                refine hK.out _ _ (PS.out.held hlt HKEY.out) (fun hHeld => ?_)
                clear hK K
                (try simp only [Act.put, List.setIfInBounds_toArray, List.set_cons_zero, List.set_cons_succ])
                refine wpAnyH_ready (rs := [14]) (by kernel_rfl) (by simp) ?_
                refine AllReadyH.cons (o := ({ dst := none, op := Op.store 29 (Operand.tmp 7) (Operand.tmp 39), type := 0, pos := "laws.go:1176", after := #[{ on := 12, ground := Ground.data }, { on := 10, ground := Ground.data }, { on := 13, ground := Ground.chain }, { on := 0, ground := Ground.phase }, { on := 1, ground := Ground.phase }, { on := 2, ground := Ground.phase }, { on := 3, ground := Ground.phase }, { on := 4, ground := Ground.phase }, { on := 5, ground := Ground.phase }, { on := 6, ground := Ground.phase }, { on := 7, ground := Ground.phase }, { on := 8, ground := Ground.phase }, { on := 9, ground := Ground.phase }, { on := 10, ground := Ground.phase }, { on := 11, ground := Ground.phase }, { on := 12, ground := Ground.phase }, { on := 13, ground := Ground.phase }], guard := none } : Oper)) rfl (fun K hK => ?_) AllReadyH.nil
                clear hHeld
                have hcell := cell_block0 QS.out.2.1
                have hcell1 := cell_block1 QS.out.2.1
                have hfz := frozen_block QS.out.2.1 0
                have hfz1 := frozen_block QS.out.2.1 1
                go_simp
                clear hcell hcell1 hfz hfz1
                have Y1 : (wS.setCell ⟨u1.heap.size, 0, none⟩ (.int .i64 C)).heap[u1.heap.size]? = some (.cells #[.int .i64 C, .int .i64 0] 29) := by rw [Go.Joins.block_setCell QS.out.2.1]; rfl
                have PT : Hid (MX w w1.heap.size (some ⟨b, o, none⟩) (n' + 1) cm L ((wS.setCell ⟨u1.heap.size, 0, none⟩ (.int .i64 C)).setCell ⟨u1.heap.size, 1, none⟩ (.int .i64 V))) := (PS.out.store QS.out.2.1 (by decide) hgy 0 _).store Y1 (by decide) hgy 1 _
                have QT : Hid (((wS.setCell ⟨u1.heap.size, 0, none⟩ (.int .i64 C)).setCell ⟨u1.heap.size, 1, none⟩ (.int .i64 V)).ownsRow 0 41 2 (.slice ax n' cx) n' (D.map (Value.int .i64)) ∧ ((wS.setCell ⟨u1.heap.size, 0, none⟩ (.int .i64 C)).setCell ⟨u1.heap.size, 1, none⟩ (.int .i64 V)).cell? ⟨u0.heap.size, 0, none⟩ = some (.slice ax n' cx)) := ⟨own_store (own_store QS.out.1 QS.out.2.1 (by decide) 0 _) Y1 (by decide) 1 _, cell_store (cell_store (cell_block0 QS.out.2.2) hxy.out) hxy.out⟩
                clear Y1 PS QS
                generalize ((wS.setCell ⟨u1.heap.size, 0, none⟩ (.int .i64 C)).setCell ⟨u1.heap.size, 1, none⟩ (.int .i64 V)) = wT at PT QT ⊢
                refine hK.out _ _ (PT.out.held hlt HKEY.out) (fun hHeld => ?_)
                clear hK K hxy hgy hgx
                (try simp only [Act.put, List.setIfInBounds_toArray, List.set_cons_zero, List.set_cons_succ])
                refine wpAnyH_done (by kernel_rfl) ?_ _
                clear hHeld
                generalize u0.heap.size = gX at QT ⊢
                generalize u1.heap.size = gY
                have p0 := PT.out.m
                have p1 := QT.out.2
                go_wp2_with fail
                refine (implMapOk_any (some ⟨b, o, none⟩) k cm (L.take (k * 2)) _ (sints_take (own2_sints PT.out.own) (by omega)) (by omega)).mono ?_
                rintro e wU ⟨rfl, hbU⟩
                rw [HA.out.2]
                have PU : Hid (MX w w1.heap.size (some ⟨b, o, none⟩) (n' + 1) cm L wU) := PT.out.below hbU
                have QU : Hid (wU.ownsRow 0 41 2 (.slice ax n' cx) n' (D.map (Value.int .i64)) ∧ wU.cell? ⟨gX, 0, none⟩ = some (.slice ax n' cx)) := ⟨ownsRow_below QT.out.1 hbU, cell_kept hbU QT.out.2⟩
                clear hbU PT QT p0 p1
                have p0 := PU.out.m
                have p1 := QU.out.2
                go_wp2_with fail
                refine (implMapOk_any ax n' cx D _ (own2_sints QU.out.1) (by omega)).mono ?_
                rintro e wV ⟨rfl, hbV⟩
                rw [HA.out.1]
                have PV : Hid (MX w w1.heap.size (some ⟨b, o, none⟩) (n' + 1) cm L wV) := PU.out.below hbV
                have p2 := cell_kept hbV QU.out.2
                clear hbV PU QU p0 p1
                have p0 := PV.out.m
                go_wp2
                go_roundw
                case rel => exact ⟨k + 1, by omega, by go_num, PV.out⟩
                case measure => simp [intOf]; omega
          · clear hHeld
            go_simp
            have hb := al1 u0 (.cells #[.int .i64 0, .int .i64 0] 29)
            have Yu1 : Hid ((u0.alloc (.cells #[.int .i64 0, .int .i64 0] 29)).heap[u0.heap.size]? = some (.cells #[.int .i64 0, .int .i64 0] 29) ∧ w1.heap.size < u0.heap.size) := ⟨new_block u0 _, Pu0.out.lt⟩
            generalize u0.alloc (.cells #[.int .i64 0, .int .i64 0] 29) = u1 at hb Yu1 ⊢
            have Pu1 : Hid (MX w w1.heap.size (some ⟨b, o, none⟩) (n' + 1) cm L u1) := Pu0.out.below hb
            clear Pu0 
            clear hb
            refine hK.out _ _ (Pu1.out.held hlt HKEY.out) (fun hHeld => ?_)
            clear hK K
            (try simp only [Act.put, List.setIfInBounds_toArray, List.set_cons_zero, List.set_cons_succ])
            refine wpAnyH_ready (rs := [7, 11]) (by kernel_rfl) (by simp) ?_
            refine AllReadyH.cons (o := ({ dst := some 37, op := Op.call { callee := Callee.value (Operand.func 18), args := #[Operand.tmp 30, Operand.tmp 36], argTypes := #[25, 3] }, type := 30, pos := "laws.go:1176", after := #[{ on := 0, ground := Ground.data }, { on := 6, ground := Ground.data }], guard := none } : Oper)) rfl (fun K hK => ?_) (AllReadyH.cons (o := ({ dst := some 6, op := Op.alloc 25, type := 0, pos := "laws.go:1176", after := #[], guard := none } : Oper)) rfl (fun K hK => ?_) AllReadyH.nil)
            · clear hHeld
              go_simp
              go_wp2_with fail
              refine (himpl.out _ (own2_sints Pu1.out.own)).mono ?_
              rintro e u2 ⟨ax, cx, rfl, hox, hb⟩
              have Ou2 : Hid (u2.ownsRow 0 41 2 (.slice ax n' cx) n' (D.map (Value.int .i64))) := own_mono hox (Nat.zero_le _)
              clear hox
              have Pu2 : Hid (MX w w1.heap.size (some ⟨b, o, none⟩) (n' + 1) cm L u2) := Pu1.out.below hb
              have Yu2 : Hid (u2.heap[u0.heap.size]? = some (.cells #[.int .i64 0, .int .i64 0] 29) ∧ w1.heap.size < u0.heap.size) := ⟨block_kept hb Yu1.out.1, Yu1.out.2⟩
              clear Pu1 Yu1
              clear hb
              refine hK.out _ _ (Pu2.out.held hlt HKEY.out) (fun hHeld => ?_)
              clear hK K
              (try simp only [Act.put, List.setIfInBounds_toArray, List.set_cons_zero, List.set_cons_succ])
              refine wpAnyH_take (i := 8) (oi := ({ dst := some 29, op := Op.move (Operand.tmp 37), type := 30, pos := "laws.go:1176", after := #[{ on := 7, ground := Ground.data }], guard := none } : Oper)) (v := ?_) rfl (by kernel_rfl) (by kernel_rfl) (by kernel_rfl) (fun _ _ _ h => h) (Or.inl ⟨by rfl, ?_⟩) (by assumption) ?_
              rotate_left
              · (intro wz hSw; (try dsimp only at hSw); obtain ⟨hs0, hs1⟩ := hSw; go_simp; first | done | with_reducible rfl)
              (try simp only [Act.put, List.setIfInBounds_toArray, List.set_cons_zero, List.set_cons_succ])
              refine wpAnyH_take (i := 9) (oi := ({ dst := some 38, op := Op.extract (Operand.tmp 29) 0, type := 25, pos := "laws.go:1176", after := #[{ on := 8, ground := Ground.data }], guard := none } : Oper)) (v := ?_) rfl (by kernel_rfl) (by kernel_rfl) (by kernel_rfl) (fun _ _ _ h => h) (Or.inl ⟨by rfl, ?_⟩) (by assumption) ?_
              rotate_left
              · (intro wz hSw; (try dsimp only at hSw); obtain ⟨hs0, hs1⟩ := hSw; go_simp; first | done | with_reducible rfl)
              (try simp only [Act.put, List.setIfInBounds_toArray, List.set_cons_zero, List.set_cons_succ])
              refine wpAnyH_take (i := 10) (oi := ({ dst := some 39, op := Op.extract (Operand.tmp 29) 1, type := 29, pos := "laws.go:1176", after := #[{ on := 8, ground := Ground.data }, { on := 13, ground := Ground.gcOnly Departure.lateStores }], guard := none } : Oper)) (v := ?_) rfl (by kernel_rfl) (by kernel_rfl) (by kernel_rfl) (fun _ _ _ h => h) (Or.inl ⟨by rfl, ?_⟩) (by assumption) ?_
              rotate_left
              · (intro wz hSw; (try dsimp only at hSw); obtain ⟨hs0, hs1⟩ := hSw; go_simp; first | done | with_reducible rfl)
              (try simp only [Act.put, List.setIfInBounds_toArray, List.set_cons_zero, List.set_cons_succ])
              refine wpAnyH_ready (rs := [11]) (by kernel_rfl) (by simp) ?_
              refine AllReadyH.cons (o := ({ dst := some 6, op := Op.alloc 25, type := 0, pos := "laws.go:1176", after := #[], guard := none } : Oper)) rfl (fun K hK => ?_) AllReadyH.nil
              · clear hHeld
                go_simp
                have hb := al1 u2 (.cells #[.slice none 0 0] 25)
                have Xu3 : Hid ((u2.alloc (.cells #[.slice none 0 0] 25)).heap[u2.heap.size]? = some (.cells #[.slice none 0 0] 25) ∧ w1.heap.size < u2.heap.size) := ⟨new_block u2 _, Pu2.out.lt⟩
                generalize u2.alloc (.cells #[.slice none 0 0] 25) = u3 at hb Xu3 ⊢
                have Pu3 : Hid (MX w w1.heap.size (some ⟨b, o, none⟩) (n' + 1) cm L u3) := Pu2.out.below hb
                have Ou3 : Hid (u3.ownsRow 0 41 2 (.slice ax n' cx) n' (D.map (Value.int .i64))) := ownsRow_below Ou2.out hb
                have Yu3 : Hid (u3.heap[u0.heap.size]? = some (.cells #[.int .i64 0, .int .i64 0] 29) ∧ w1.heap.size < u0.heap.size) := ⟨block_kept hb Yu2.out.1, Yu2.out.2⟩
                clear Pu2 Ou2 Yu2
                clear hb
                refine hK.out _ _ (Pu3.out.held hlt HKEY.out) (fun hHeld => ?_)
                clear hK K
                (try simp only [Act.put, List.setIfInBounds_toArray, List.set_cons_zero, List.set_cons_succ])
                refine wpAnyH_ready (rs := [13]) (by kernel_rfl) (by simp) ?_
                refine AllReadyH.cons (o := ({ dst := none, op := Op.store 25 (Operand.tmp 6) (Operand.tmp 38), type := 0, pos := "laws.go:1176", after := #[{ on := 11, ground := Ground.data }, { on := 9, ground := Ground.data }, { on := 7, ground := Ground.chain }, { on := 0, ground := Ground.phase }, { on := 1, ground := Ground.phase }, { on := 2, ground := Ground.phase }, { on := 3, ground := Ground.phase }, { on := 4, ground := Ground.phase }, { on := 5, ground := Ground.phase }, { on := 6, ground := Ground.phase }, { on := 7, ground := Ground.phase }, { on := 8, ground := Ground.phase }, { on := 9, ground := Ground.phase }, { on := 10, ground := Ground.textOnly Departure.lateStores }, { on := 11, ground := Ground.phase }, { on := 12, ground := Ground.phase }], guard := none } : Oper)) rfl (fun K hK => ?_) AllReadyH.nil
                clear hHeld
                have hxy : Hid (u2.heap.size ≠ u0.heap.size) := fun e => by have h1 := Xu3.out.1; rw [e] at h1; exact absurd (cells_type h1 Yu3.out.1) (by decide)
                have hcell := cell_block0 Xu3.out.1
                have hfz := frozen_block Xu3.out.1 0
                go_simp
                clear hcell hfz
                have PS : Hid (MX w w1.heap.size (some ⟨b, o, none⟩) (n' + 1) cm L (u3.setCell ⟨u2.heap.size, 0, none⟩ (.slice ax n' cx))) := Pu3.out.store Xu3.out.1 (by decide) Xu3.out.2 0 _
                have OS := own_store Ou3.out Xu3.out.1 (by decide) 0 (.slice ax n' cx)
                have YS := block_store (j := 0) (u := .slice ax n' cx) Yu3.out.1 hxy.out.symm
                have XS : (u3.setCell ⟨u2.heap.size, 0, none⟩ (.slice ax n' cx)).heap[u2.heap.size]? = some (.cells #[.slice ax n' cx] 25) := by rw [Go.Joins.block_setCell Xu3.out.1]; rfl
                have hgx := Xu3.out.2
                have hgy := Yu3.out.2
                clear Xu3 Yu3 Pu3 Ou3
                have QS : Hid ((u3.setCell ⟨u2.heap.size, 0, none⟩ (.slice ax n' cx)).ownsRow 0 41 2 (.slice ax n' cx) n' (D.map (Value.int .i64)) ∧ (u3.setCell ⟨u2.heap.size, 0, none⟩ (.slice ax n' cx)).heap[u0.heap.size]? = some (.cells #[.int .i64 0, .int .i64 0] 29) ∧ (u3.setCell ⟨u2.heap.size, 0, none⟩ (.slice ax n' cx)).heap[u2.heap.size]? = some (.cells #[.slice ax n' cx] 25)) := ⟨OS, YS, XS⟩
                clear OS YS XS
                generalize u3.setCell ⟨u2.heap.size, 0, none⟩ (.slice ax n' cx) = wS at PS QS ⊢
                refine hK.out _ _ (PS.out.held hlt HKEY.out) (fun hHeld => ?_)
                clear hK K
                (try simp only [Act.put, List.setIfInBounds_toArray, List.set_cons_zero, List.set_cons_succ])
                refine wpAnyH_ready (rs := [14]) (by kernel_rfl) (by simp) ?_
                refine AllReadyH.cons (o := ({ dst := none, op := Op.store 29 (Operand.tmp 7) (Operand.tmp 39), type := 0, pos := "laws.go:1176", after := #[{ on := 12, ground := Ground.data }, { on := 10, ground := Ground.data }, { on := 13, ground := Ground.chain }, { on := 0, ground := Ground.phase }, { on := 1, ground := Ground.phase }, { on := 2, ground := Ground.phase }, { on := 3, ground := Ground.phase }, { on := 4, ground := Ground.phase }, { on := 5, ground := Ground.phase }, { on := 6, ground := Ground.phase }, { on := 7, ground := Ground.phase }, { on := 8, ground := Ground.phase }, { on := 9, ground := Ground.phase }, { on := 10, ground := Ground.phase }, { on := 11, ground := Ground.phase }, { on := 12, ground := Ground.phase }, { on := 13, ground := Ground.phase }], guard := none } : Oper)) rfl (fun K hK => ?_) AllReadyH.nil
                clear hHeld
                have hcell := cell_block0 QS.out.2.1
                have hcell1 := cell_block1 QS.out.2.1
                have hfz := frozen_block QS.out.2.1 0
                have hfz1 := frozen_block QS.out.2.1 1
                go_simp
                clear hcell hcell1 hfz hfz1
                have Y1 : (wS.setCell ⟨u0.heap.size, 0, none⟩ (.int .i64 C)).heap[u0.heap.size]? = some (.cells #[.int .i64 C, .int .i64 0] 29) := by rw [Go.Joins.block_setCell QS.out.2.1]; rfl
                have PT : Hid (MX w w1.heap.size (some ⟨b, o, none⟩) (n' + 1) cm L ((wS.setCell ⟨u0.heap.size, 0, none⟩ (.int .i64 C)).setCell ⟨u0.heap.size, 1, none⟩ (.int .i64 V))) := (PS.out.store QS.out.2.1 (by decide) hgy 0 _).store Y1 (by decide) hgy 1 _
                have QT : Hid (((wS.setCell ⟨u0.heap.size, 0, none⟩ (.int .i64 C)).setCell ⟨u0.heap.size, 1, none⟩ (.int .i64 V)).ownsRow 0 41 2 (.slice ax n' cx) n' (D.map (Value.int .i64)) ∧ ((wS.setCell ⟨u0.heap.size, 0, none⟩ (.int .i64 C)).setCell ⟨u0.heap.size, 1, none⟩ (.int .i64 V)).cell? ⟨u2.heap.size, 0, none⟩ = some (.slice ax n' cx)) := ⟨own_store (own_store QS.out.1 QS.out.2.1 (by decide) 0 _) Y1 (by decide) 1 _, cell_store (cell_store (cell_block0 QS.out.2.2) hxy.out) hxy.out⟩
                clear Y1 PS QS
                generalize ((wS.setCell ⟨u0.heap.size, 0, none⟩ (.int .i64 C)).setCell ⟨u0.heap.size, 1, none⟩ (.int .i64 V)) = wT at PT QT ⊢
                refine hK.out _ _ (PT.out.held hlt HKEY.out) (fun hHeld => ?_)
                clear hK K hxy hgy hgx
                (try simp only [Act.put, List.setIfInBounds_toArray, List.set_cons_zero, List.set_cons_succ])
                refine wpAnyH_done (by kernel_rfl) ?_ _
                clear hHeld
                generalize u2.heap.size = gX at QT ⊢
                generalize u0.heap.size = gY
                have p0 := PT.out.m
                have p1 := QT.out.2
                go_wp2_with fail
                refine (implMapOk_any (some ⟨b, o, none⟩) k cm (L.take (k * 2)) _ (sints_take (own2_sints PT.out.own) (by omega)) (by omega)).mono ?_
                rintro e wU ⟨rfl, hbU⟩
                rw [HA.out.2]
                have PU : Hid (MX w w1.heap.size (some ⟨b, o, none⟩) (n' + 1) cm L wU) := PT.out.below hbU
                have QU : Hid (wU.ownsRow 0 41 2 (.slice ax n' cx) n' (D.map (Value.int .i64)) ∧ wU.cell? ⟨gX, 0, none⟩ = some (.slice ax n' cx)) := ⟨ownsRow_below QT.out.1 hbU, cell_kept hbU QT.out.2⟩
                clear hbU PT QT p0 p1
                have p0 := PU.out.m
                have p1 := QU.out.2
                go_wp2_with fail
                refine (implMapOk_any ax n' cx D _ (own2_sints QU.out.1) (by omega)).mono ?_
                rintro e wV ⟨rfl, hbV⟩
                rw [HA.out.1]
                have PV : Hid (MX w w1.heap.size (some ⟨b, o, none⟩) (n' + 1) cm L wV) := PU.out.below hbV
                have p2 := cell_kept hbV QU.out.2
                clear hbV PU QU p0 p1
                have p0 := PV.out.m
                go_wp2
                go_roundw
                case rel => exact ⟨k + 1, by omega, by go_num, PV.out⟩
                case measure => simp [intOf]; omega
            · clear hHeld
              go_simp
              have hb := al1 u1 (.cells #[.slice none 0 0] 25)
              have Xu2 : Hid ((u1.alloc (.cells #[.slice none 0 0] 25)).heap[u1.heap.size]? = some (.cells #[.slice none 0 0] 25) ∧ w1.heap.size < u1.heap.size) := ⟨new_block u1 _, Pu1.out.lt⟩
              generalize u1.alloc (.cells #[.slice none 0 0] 25) = u2 at hb Xu2 ⊢
              have Pu2 : Hid (MX w w1.heap.size (some ⟨b, o, none⟩) (n' + 1) cm L u2) := Pu1.out.below hb
              have Yu2 : Hid (u2.heap[u0.heap.size]? = some (.cells #[.int .i64 0, .int .i64 0] 29) ∧ w1.heap.size < u0.heap.size) := ⟨block_kept hb Yu1.out.1, Yu1.out.2⟩
              clear Pu1 Yu1
              clear hb
              refine hK.out _ _ (Pu2.out.held hlt HKEY.out) (fun hHeld => ?_)
              clear hK K
              (try simp only [Act.put, List.setIfInBounds_toArray, List.set_cons_zero, List.set_cons_succ])
              refine wpAnyH_ready (rs := [7]) (by kernel_rfl) (by simp) ?_
              refine AllReadyH.cons (o := ({ dst := some 37, op := Op.call { callee := Callee.value (Operand.func 18), args := #[Operand.tmp 30, Operand.tmp 36], argTypes := #[25, 3] }, type := 30, pos := "laws.go:1176", after := #[{ on := 0, ground := Ground.data }, { on := 6, ground := Ground.data }], guard := none } : Oper)) rfl (fun K hK => ?_) AllReadyH.nil
              · clear hHeld
                go_simp
                go_wp2_with fail
                refine (himpl.out _ (own2_sints Pu2.out.own)).mono ?_
                rintro e u3 ⟨ax, cx, rfl, hox, hb⟩
                have Ou3 : Hid (u3.ownsRow 0 41 2 (.slice ax n' cx) n' (D.map (Value.int .i64))) := own_mono hox (Nat.zero_le _)
                clear hox
                have Pu3 : Hid (MX w w1.heap.size (some ⟨b, o, none⟩) (n' + 1) cm L u3) := Pu2.out.below hb
                have Xu3 : Hid (u3.heap[u1.heap.size]? = some (.cells #[.slice none 0 0] 25) ∧ w1.heap.size < u1.heap.size) := ⟨block_kept hb Xu2.out.1, Xu2.out.2⟩
                have Yu3 : Hid (u3.heap[u0.heap.size]? = some (.cells #[.int .i64 0, .int .i64 0] 29) ∧ w1.heap.size < u0.heap.size) := ⟨block_kept hb Yu2.out.1, Yu2.out.2⟩
                clear Pu2 Xu2 Yu2
                clear hb
                refine hK.out _ _ (Pu3.out.held hlt HKEY.out) (fun hHeld => ?_)
                clear hK K
                (try simp only [Act.put, List.setIfInBounds_toArray, List.set_cons_zero, List.set_cons_succ])
                refine wpAnyH_take (i := 8) (oi := ({ dst := some 29, op := Op.move (Operand.tmp 37), type := 30, pos := "laws.go:1176", after := #[{ on := 7, ground := Ground.data }], guard := none } : Oper)) (v := ?_) rfl (by kernel_rfl) (by kernel_rfl) (by kernel_rfl) (fun _ _ _ h => h) (Or.inl ⟨by rfl, ?_⟩) (by assumption) ?_
                rotate_left
                · (intro wz hSw; (try dsimp only at hSw); obtain ⟨hs0, hs1⟩ := hSw; go_simp; first | done | with_reducible rfl)
                (try simp only [Act.put, List.setIfInBounds_toArray, List.set_cons_zero, List.set_cons_succ])
                refine wpAnyH_take (i := 9) (oi := ({ dst := some 38, op := Op.extract (Operand.tmp 29) 0, type := 25, pos := "laws.go:1176", after := #[{ on := 8, ground := Ground.data }], guard := none } : Oper)) (v := ?_) rfl (by kernel_rfl) (by kernel_rfl) (by kernel_rfl) (fun _ _ _ h => h) (Or.inl ⟨by rfl, ?_⟩) (by assumption) ?_
                rotate_left
                · (intro wz hSw; (try dsimp only at hSw); obtain ⟨hs0, hs1⟩ := hSw; go_simp; first | done | with_reducible rfl)
                (try simp only [Act.put, List.setIfInBounds_toArray, List.set_cons_zero, List.set_cons_succ])
                refine wpAnyH_take (i := 10) (oi := ({ dst := some 39, op := Op.extract (Operand.tmp 29) 1, type := 29, pos := "laws.go:1176", after := #[{ on := 8, ground := Ground.data }, { on := 13, ground := Ground.gcOnly Departure.lateStores }], guard := none } : Oper)) (v := ?_) rfl (by kernel_rfl) (by kernel_rfl) (by kernel_rfl) (fun _ _ _ h => h) (Or.inl ⟨by rfl, ?_⟩) (by assumption) ?_
                rotate_left
                · (intro wz hSw; (try dsimp only at hSw); obtain ⟨hs0, hs1⟩ := hSw; go_simp; first | done | with_reducible rfl)
                (try simp only [Act.put, List.setIfInBounds_toArray, List.set_cons_zero, List.set_cons_succ])
                refine wpAnyH_ready (rs := [13]) (by kernel_rfl) (by simp) ?_
                refine AllReadyH.cons (o := ({ dst := none, op := Op.store 25 (Operand.tmp 6) (Operand.tmp 38), type := 0, pos := "laws.go:1176", after := #[{ on := 11, ground := Ground.data }, { on := 9, ground := Ground.data }, { on := 7, ground := Ground.chain }, { on := 0, ground := Ground.phase }, { on := 1, ground := Ground.phase }, { on := 2, ground := Ground.phase }, { on := 3, ground := Ground.phase }, { on := 4, ground := Ground.phase }, { on := 5, ground := Ground.phase }, { on := 6, ground := Ground.phase }, { on := 7, ground := Ground.phase }, { on := 8, ground := Ground.phase }, { on := 9, ground := Ground.phase }, { on := 10, ground := Ground.textOnly Departure.lateStores }, { on := 11, ground := Ground.phase }, { on := 12, ground := Ground.phase }], guard := none } : Oper)) rfl (fun K hK => ?_) AllReadyH.nil
                clear hHeld
                have hxy : Hid (u1.heap.size ≠ u0.heap.size) := fun e => by have h1 := Xu3.out.1; rw [e] at h1; exact absurd (cells_type h1 Yu3.out.1) (by decide)
                have hcell := cell_block0 Xu3.out.1
                have hfz := frozen_block Xu3.out.1 0
                go_simp
                clear hcell hfz
                have PS : Hid (MX w w1.heap.size (some ⟨b, o, none⟩) (n' + 1) cm L (u3.setCell ⟨u1.heap.size, 0, none⟩ (.slice ax n' cx))) := Pu3.out.store Xu3.out.1 (by decide) Xu3.out.2 0 _
                have OS := own_store Ou3.out Xu3.out.1 (by decide) 0 (.slice ax n' cx)
                have YS := block_store (j := 0) (u := .slice ax n' cx) Yu3.out.1 hxy.out.symm
                have XS : (u3.setCell ⟨u1.heap.size, 0, none⟩ (.slice ax n' cx)).heap[u1.heap.size]? = some (.cells #[.slice ax n' cx] 25) := by rw [Go.Joins.block_setCell Xu3.out.1]; rfl
                have hgx := Xu3.out.2
                have hgy := Yu3.out.2
                clear Xu3 Yu3 Pu3 Ou3
                have QS : Hid ((u3.setCell ⟨u1.heap.size, 0, none⟩ (.slice ax n' cx)).ownsRow 0 41 2 (.slice ax n' cx) n' (D.map (Value.int .i64)) ∧ (u3.setCell ⟨u1.heap.size, 0, none⟩ (.slice ax n' cx)).heap[u0.heap.size]? = some (.cells #[.int .i64 0, .int .i64 0] 29) ∧ (u3.setCell ⟨u1.heap.size, 0, none⟩ (.slice ax n' cx)).heap[u1.heap.size]? = some (.cells #[.slice ax n' cx] 25)) := ⟨OS, YS, XS⟩
                clear OS YS XS
                generalize u3.setCell ⟨u1.heap.size, 0, none⟩ (.slice ax n' cx) = wS at PS QS ⊢
                refine hK.out _ _ (PS.out.held hlt HKEY.out) (fun hHeld => ?_)
                clear hK K
                (try simp only [Act.put, List.setIfInBounds_toArray, List.set_cons_zero, List.set_cons_succ])
                refine wpAnyH_ready (rs := [14]) (by kernel_rfl) (by simp) ?_
                refine AllReadyH.cons (o := ({ dst := none, op := Op.store 29 (Operand.tmp 7) (Operand.tmp 39), type := 0, pos := "laws.go:1176", after := #[{ on := 12, ground := Ground.data }, { on := 10, ground := Ground.data }, { on := 13, ground := Ground.chain }, { on := 0, ground := Ground.phase }, { on := 1, ground := Ground.phase }, { on := 2, ground := Ground.phase }, { on := 3, ground := Ground.phase }, { on := 4, ground := Ground.phase }, { on := 5, ground := Ground.phase }, { on := 6, ground := Ground.phase }, { on := 7, ground := Ground.phase }, { on := 8, ground := Ground.phase }, { on := 9, ground := Ground.phase }, { on := 10, ground := Ground.phase }, { on := 11, ground := Ground.phase }, { on := 12, ground := Ground.phase }, { on := 13, ground := Ground.phase }], guard := none } : Oper)) rfl (fun K hK => ?_) AllReadyH.nil
                clear hHeld
                have hcell := cell_block0 QS.out.2.1
                have hcell1 := cell_block1 QS.out.2.1
                have hfz := frozen_block QS.out.2.1 0
                have hfz1 := frozen_block QS.out.2.1 1
                go_simp
                clear hcell hcell1 hfz hfz1
                have Y1 : (wS.setCell ⟨u0.heap.size, 0, none⟩ (.int .i64 C)).heap[u0.heap.size]? = some (.cells #[.int .i64 C, .int .i64 0] 29) := by rw [Go.Joins.block_setCell QS.out.2.1]; rfl
                have PT : Hid (MX w w1.heap.size (some ⟨b, o, none⟩) (n' + 1) cm L ((wS.setCell ⟨u0.heap.size, 0, none⟩ (.int .i64 C)).setCell ⟨u0.heap.size, 1, none⟩ (.int .i64 V))) := (PS.out.store QS.out.2.1 (by decide) hgy 0 _).store Y1 (by decide) hgy 1 _
                have QT : Hid (((wS.setCell ⟨u0.heap.size, 0, none⟩ (.int .i64 C)).setCell ⟨u0.heap.size, 1, none⟩ (.int .i64 V)).ownsRow 0 41 2 (.slice ax n' cx) n' (D.map (Value.int .i64)) ∧ ((wS.setCell ⟨u0.heap.size, 0, none⟩ (.int .i64 C)).setCell ⟨u0.heap.size, 1, none⟩ (.int .i64 V)).cell? ⟨u1.heap.size, 0, none⟩ = some (.slice ax n' cx)) := ⟨own_store (own_store QS.out.1 QS.out.2.1 (by decide) 0 _) Y1 (by decide) 1 _, cell_store (cell_store (cell_block0 QS.out.2.2) hxy.out) hxy.out⟩
                clear Y1 PS QS
                generalize ((wS.setCell ⟨u0.heap.size, 0, none⟩ (.int .i64 C)).setCell ⟨u0.heap.size, 1, none⟩ (.int .i64 V)) = wT at PT QT ⊢
                refine hK.out _ _ (PT.out.held hlt HKEY.out) (fun hHeld => ?_)
                clear hK K hxy hgy hgx
                (try simp only [Act.put, List.setIfInBounds_toArray, List.set_cons_zero, List.set_cons_succ])
                refine wpAnyH_done (by kernel_rfl) ?_ _
                clear hHeld
                generalize u1.heap.size = gX at QT ⊢
                generalize u0.heap.size = gY
                have p0 := PT.out.m
                have p1 := QT.out.2
                go_wp2_with fail
                refine (implMapOk_any (some ⟨b, o, none⟩) k cm (L.take (k * 2)) _ (sints_take (own2_sints PT.out.own) (by omega)) (by omega)).mono ?_
                rintro e wU ⟨rfl, hbU⟩
                rw [HA.out.2]
                have PU : Hid (MX w w1.heap.size (some ⟨b, o, none⟩) (n' + 1) cm L wU) := PT.out.below hbU
                have QU : Hid (wU.ownsRow 0 41 2 (.slice ax n' cx) n' (D.map (Value.int .i64)) ∧ wU.cell? ⟨gX, 0, none⟩ = some (.slice ax n' cx)) := ⟨ownsRow_below QT.out.1 hbU, cell_kept hbU QT.out.2⟩
                clear hbU PT QT p0 p1
                have p0 := PU.out.m
                have p1 := QU.out.2
                go_wp2_with fail
                refine (implMapOk_any ax n' cx D _ (own2_sints QU.out.1) (by omega)).mono ?_
                rintro e wV ⟨rfl, hbV⟩
                rw [HA.out.1]
                have PV : Hid (MX w w1.heap.size (some ⟨b, o, none⟩) (n' + 1) cm L wV) := PU.out.below hbV
                have p2 := cell_kept hbV QU.out.2
                clear hbV PU QU p0 p1
                have p0 := PV.out.m
                go_wp2
                go_roundw
                case rel => exact ⟨k + 1, by omega, by go_num, PV.out⟩
                case measure => simp [intOf]; omega
        · obtain rfl : k = N := by omega
          go_wp2
          go_ret
          exact ⟨rfl, HP.out.bel⟩
  · have hn' : (1048576 : Int) < (n : Int) := by omega
    clear hs
    go_enter Try.func6, Try.ntmps6
    go_wp2
    go_ret
    exact ⟨rfl, Below.refl _ _⟩

set_option maxRecDepth 100000 in
theorem mapOk_lifted (os : Os) (started : os.Started) (H : Type) (enc : TypeId × Value → H) :
    ReturnsInHanded {} Try.checked os 6 .any (Rows.fnMapOkSpec.pre6 enc Try.prog Try.f6 Rows.fnMapOkRow.domain false) (Rows.fnMapOkSpec.post enc Try.prog Try.f6 false true false false) := by
  refine returnsInHanded_of_change (C := Try.checked) own started (by kernel_rfl) Try.func6
    (ChangeSpec.witness6 (enc := enc) (C := Try.checked) false ⟨#[], #[.slice none 0 0], []⟩ 8 (by kernel_rfl) (by kernel_rfl) (by kernel_rfl) (by kernel_rfl)) ?_
  intro W base args ds gs before hval0 hW hcnd _
  have hval : ∀ (j : Nat) t v, Try.f6.params[j]? = some t → args[j]? = some v → Value.okWide Try.prog W .any base t v := hval0
  have hW' := hW
  obtain ⟨p, q, hA0, hV, rfl, hfz, hnd⟩ := hW
  have hA : DataW.TrodAll enc Try.prog W 0 (fun _ => true) true Try.f6.params.toList args.toList ds p := hA0
  rw [Try.params6] at hA hval
  obtain ⟨v0, vs0, d0, ds0, p0, q0, hargs, rfl, rfl, h0, r0⟩ := trodAll_cons hA
  obtain ⟨rfl, rfl, rfl⟩ := trodAll_nil r0
  obtain rfl : args = #[v0] := by cases args; simp_all
  obtain ⟨rfl, rfl⟩ := trodVars_none hV
  obtain ⟨a0, len0, cap0, rfl⟩ := okWide_slice Try.underlying22 (hval 0 22 v0 rfl rfl)
  have k0 := h0
  have lt0 : ∀ x ∈ p0, x.block < W.heap.size := by obtain ⟨m, hm⟩ := k0; exact DataW.trod_lt m _ _ _ hm
  obtain ⟨hs, hc, hm⟩ := sbytes_of_open h0
  clear hA0 hval0
  refine (mapOk_walk a0 len0 cap0 W hs hc hm).mono fun e W' ⟨he, bel⟩ => ?_
  subst he
  exact ⟨_, rfl, _, _, _, [], _, [], hW', trodAll_mk1 (shut_bool Try.underlying4 _), (trodAll_cons_mk (Below.trod laidOut (by kernel_rfl) (of_decide_eq_true (by kernel_rfl)) k0 bel lt0) trodAll_mk0), rfl, bel.frame _, fun h => by cases h⟩

theorem mapOk_holds : Rows.FnMapOkSaid :=
  OpenClaim.holds_of_wide 6 Try.f6 rfl rfl rfl rfl rfl rfl rfl ⟨rfl, rfl, rfl, rfl, rfl⟩ rfl rfl rfl rfl rfl (by kernel_rfl) Try.func6 (by kernel_rfl)
    (of_decide_eq_true (by kernel_rfl)) (by unfold Func.isWrapper; first | (rw [if_pos (by decide +kernel)]; kernel_rfl) | (rw [if_neg (by decide +kernel)]; exact ⟨rfl, rfl⟩))
    (fun os started H enc _ => mapOk_lifted os started H enc)

#print axioms mapOk_holds

end Go.Proofs.Ytkfamlbalgolmaa
