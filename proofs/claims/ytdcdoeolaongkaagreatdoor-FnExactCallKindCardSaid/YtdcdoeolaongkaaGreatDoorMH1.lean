import Derived.Test.YtdcdoeolaongkaaGreatDoorMH
namespace Go.Proofs.YtdcdoeolaongkaaGreatDoor.Mp
open Go.MapKept Go.ChangeMaps
open Go.ChangeShapes Go.WideShapes Go.ChangeAt Go.RowKit
open Go.Proofs.YtdcdoeolaongkaaGreatDoor.Ok
set_option linter.unusedVariables false
set_option linter.unusedSimpArgs false
set_option maxRecDepth 100000
set_option maxHeartbeats 20000000 in
theorem sck_one (fn : Int) (x : Int) (a : Option Addr) (cap : Nat) (w : World) (hk : RIO w (.slice a [x].length cap) [x]) (h13 : fn = 1 ∨ fn = 2 ∨ fn = 3 ∨ fn = 4 ∨ fn = 5 ∨ fn = 6 ∨ fn = 7 ∨ fn = 8 ∨ fn = 9 ∨ fn = 10 ∨ fn = 11 ∨ fn = 12 ∨ fn = 13) :
    Calls Tryz.prog 9 #[.int .i64 fn, .slice a [x].length cap] w fun e w' => e = .returned (.int .i64 (ckK fn [x])) ∧ Below w.heap.size w w' := by
  obtain ⟨a', cap', hsl, hcells⟩ := hk
  simp only [Value.slice.injEq] at hsl
  obtain ⟨rfl, _, rfl⟩ := hsl
  simp only [List.length_cons, List.length_nil, Nat.zero_add, Nat.reduceAdd]
  go_enter Tryz.func9, Tryz.ntmps9
  go_wp2
  go_loop [6, 13] (fun _ i => ∃ k : Nat, k ≤ 1 ∧ i = .int .i64 k ∧ Hid (allK ([x].take k) = true)) (fun _ i => 1 - (intOf i).toNat)
  case atStart => exact ⟨0, Nat.zero_le _, rfl, (rfl : allK [] = true)⟩
  case round =>
    obtain ⟨k, hkl, rfl, HA⟩ := hrel
    by_cases hlt : k < 1
    · have hlti : (k : Int) < 1 := by omega
      have hlt' : k < [x].length := hlt
      obtain ⟨gb, o, rfl, hgb, hcs⟩ := hcells (by simp)
      have d1 := hcs k hlt'
      have HN : Hid (isK [x][k] = false → ckK fn [x] = -1) := fun h => ckK_no (allK_no hlt' h)
      have HY : Hid (isK [x][k] = true → allK ([x].take (k + 1)) = true) := fun h => allK_step hlt' HA.out h
      clear hcs hcells HA
      generalize [x][k] = xk at d1 HN HY
      have hcon := fun w => isKind_spec xk w
      cases hf : isK xk
      · have HN' : Hid (ckK fn [x] = -1) := HN.out hf
        clear HN HY
        rw [hf] at hcon
        go_wp2_with (go_at_call 36; refine (hcon _).mono ?_; rintro e w' ⟨rfl, rfl⟩)
        go_ret
        exact ⟨ret_int HN'.out.symm, Below.refl _ _⟩
      · have HY' : Hid (allK ([x].take (k + 1)) = true) := HY.out hf
        clear HN HY
        rw [hf] at hcon
        go_wp2_with (go_at_call 36; refine (hcon _).mono ?_; rintro e w' ⟨rfl, rfl⟩)
        go_round
        case rel => exact ⟨k + 1, by omega, by go_num, HY'⟩
        case measure => simp [intOf]; omega
    · have hkn : k = 1 := by omega
      subst hkn
      have hlti : ¬ (1 : Int) < 1 := by omega
      replace HA : Hid (allK [x] = true) := (HA.out : allK [x] = true)
      rcases h13 with rfl | rfl | rfl | rfl | rfl | rfl | rfl | rfl | rfl | rfl | rfl | rfl | rfl
      · obtain ⟨gb, o, rfl, hgb, hcs⟩ := hcells (by simp)
        have d0 : w.cell? ⟨gb, o, none⟩ = some (.int .i64 x) := by simpa using hcs 0 (by simp)
        clear hcs hcells
        have HR := ck_abs HA.out
        have HRR : Hid (ckK 1 [x] = if (x == 1) = true ∨ fitB x 2 = true then x else -1) := HR
        clear HR HA
        have hcon := fun w => fits_spec x 2 w
        cases e1 : (x == 1)
        · cases e2 : fitB x 2
          all_goals
            rw [e2] at hcon
            go_wp2_with (go_at_call 37; refine (hcon _).mono ?_; rintro e w' ⟨rfl, rfl⟩)
            go_ret
            exact ⟨ret_int (by rw [HRR.out, e1, e2]; simp), Below.refl _ _⟩
        · go_wp2_with (go_at_call 37; refine (hcon _).mono ?_; rintro e w' ⟨rfl, rfl⟩)
          go_ret
          exact ⟨ret_int (by rw [HRR.out, e1]; simp), Below.refl _ _⟩
      · obtain ⟨gb, o, rfl, hgb, hcs⟩ := hcells (by simp)
        have d0 : w.cell? ⟨gb, o, none⟩ = some (.int .i64 x) := by simpa using hcs 0 (by simp)
        clear hcs hcells
        have HRR : Hid (ckK 2 [x] = if fitB x 3 = true then 1 else -1) := ck_one HA.out (by omega) (by omega) (by decide) (by decide)
        clear HA
        have hcon := fun w => fits_spec x 3 w
        cases e2 : fitB x 3
        all_goals
          rw [e2] at hcon
          go_wp2_with (go_at_call 37; refine (hcon _).mono ?_; rintro e w' ⟨rfl, rfl⟩)
          go_ret
          exact ⟨ret_int (by rw [HRR.out, e2]; simp), Below.refl _ _⟩
      · obtain ⟨gb, o, rfl, hgb, hcs⟩ := hcells (by simp)
        have d0 : w.cell? ⟨gb, o, none⟩ = some (.int .i64 x) := by simpa using hcs 0 (by simp)
        clear hcs hcells
        have HRR : Hid (ckK 3 [x] = if fitB x 3 = true then 3 else -1) := ck_one HA.out (by omega) (by omega) (by decide) (by decide)
        clear HA
        have hcon := fun w => fits_spec x 3 w
        cases e2 : fitB x 3
        all_goals
          rw [e2] at hcon
          go_wp2_with (go_at_call 37; refine (hcon _).mono ?_; rintro e w' ⟨rfl, rfl⟩)
          go_ret
          exact ⟨ret_int (by rw [HRR.out, e2]; simp), Below.refl _ _⟩
      · obtain ⟨gb, o, rfl, hgb, hcs⟩ := hcells (by simp)
        have d0 : w.cell? ⟨gb, o, none⟩ = some (.int .i64 x) := by simpa using hcs 0 (by simp)
        clear hcs hcells
        have HRR : Hid (ckK 4 [x] = if fitB x 3 = true then 3 else -1) := ck_one HA.out (by omega) (by omega) (by decide) (by decide)
        clear HA
        have hcon := fun w => fits_spec x 3 w
        cases e2 : fitB x 3
        all_goals
          rw [e2] at hcon
          go_wp2_with (go_at_call 37; refine (hcon _).mono ?_; rintro e w' ⟨rfl, rfl⟩)
          go_ret
          exact ⟨ret_int (by rw [HRR.out, e2]; simp), Below.refl _ _⟩
      · have HR : Hid (ckK 5 [x] = -1) := ck_len (by intro h; first | omega | simp) (by intro h; first | omega | simp)
        clear HA hcells
        go_wp2
        go_ret
        exact ⟨ret_int HR.out.symm, Below.refl _ _⟩
      · have HR : Hid (ckK 6 [x] = -1) := ck_len (by intro h; first | omega | simp) (by intro h; first | omega | simp)
        clear HA hcells
        go_wp2
        go_quiet (fail)
        go_wp2
        go_ret
        exact ⟨ret_int HR.out.symm, below_drewN _ _⟩
      · obtain ⟨gb, o, rfl, hgb, hcs⟩ := hcells (by simp)
        have d0 : w.cell? ⟨gb, o, none⟩ = some (.int .i64 x) := by simpa using hcs 0 (by simp)
        clear hcs hcells
        have HRR : Hid (ckK 7 [x] = if fitB x 5 = true then 1 else -1) := ck_one HA.out (by omega) (by omega) (by decide) (by decide)
        clear HA
        have hcon := fun w => fits_spec x 5 w
        cases e2 : fitB x 5
        all_goals
          rw [e2] at hcon
          go_wp2_with (go_at_call 37; refine (hcon _).mono ?_; rintro e w' ⟨rfl, rfl⟩)
          go_ret
          exact ⟨ret_int (by rw [HRR.out, e2]; simp), Below.refl _ _⟩
      · obtain ⟨gb, o, rfl, hgb, hcs⟩ := hcells (by simp)
        have d0 : w.cell? ⟨gb, o, none⟩ = some (.int .i64 x) := by simpa using hcs 0 (by simp)
        clear hcs hcells
        have HRR : Hid (ckK 8 [x] = if fitB x 5 = true then 1 else -1) := ck_one HA.out (by omega) (by omega) (by decide) (by decide)
        clear HA
        have hcon := fun w => fits_spec x 5 w
        cases e2 : fitB x 5
        all_goals
          rw [e2] at hcon
          go_wp2_with (go_at_call 37; refine (hcon _).mono ?_; rintro e w' ⟨rfl, rfl⟩)
          go_ret
          exact ⟨ret_int (by rw [HRR.out, e2]; simp), Below.refl _ _⟩
      · obtain ⟨gb, o, rfl, hgb, hcs⟩ := hcells (by simp)
        have d0 : w.cell? ⟨gb, o, none⟩ = some (.int .i64 x) := by simpa using hcs 0 (by simp)
        clear hcs hcells
        have HRR : Hid (ckK 9 [x] = if fitB x 5 = true then 1 else -1) := ck_one HA.out (by omega) (by omega) (by decide) (by decide)
        clear HA
        have hcon := fun w => fits_spec x 5 w
        cases e2 : fitB x 5
        all_goals
          rw [e2] at hcon
          go_wp2_with (go_at_call 37; refine (hcon _).mono ?_; rintro e w' ⟨rfl, rfl⟩)
          go_ret
          exact ⟨ret_int (by rw [HRR.out, e2]; simp), Below.refl _ _⟩
      · obtain ⟨gb, o, rfl, hgb, hcs⟩ := hcells (by simp)
        have d0 : w.cell? ⟨gb, o, none⟩ = some (.int .i64 x) := by simpa using hcs 0 (by simp)
        clear hcs hcells
        have HRR : Hid (ckK 10 [x] = if fitB x 2 = true then 2 else -1) := ck_one HA.out (by omega) (by omega) (by decide) (by decide)
        clear HA
        have hcon := fun w => fits_spec x 2 w
        cases e2 : fitB x 2
        all_goals
          rw [e2] at hcon
          go_wp2_with (go_at_call 37; refine (hcon _).mono ?_; rintro e w' ⟨rfl, rfl⟩)
          go_ret
          exact ⟨ret_int (by rw [HRR.out, e2]; simp), Below.refl _ _⟩
      · obtain ⟨gb, o, rfl, hgb, hcs⟩ := hcells (by simp)
        have d0 : w.cell? ⟨gb, o, none⟩ = some (.int .i64 x) := by simpa using hcs 0 (by simp)
        clear hcs hcells
        have HRR : Hid (ckK 11 [x] = if fitB x 3 = true then 3 else -1) := ck_one HA.out (by omega) (by omega) (by decide) (by decide)
        clear HA
        have hcon := fun w => fits_spec x 3 w
        cases e2 : fitB x 3
        all_goals
          rw [e2] at hcon
          go_wp2_with (go_at_call 37; refine (hcon _).mono ?_; rintro e w' ⟨rfl, rfl⟩)
          go_ret
          exact ⟨ret_int (by rw [HRR.out, e2]; simp), Below.refl _ _⟩
      · have HR : Hid (ckK 12 [x] = -1) := ck_len (by intro h; first | omega | simp) (by intro h; first | omega | simp)
        clear HA hcells
        go_wp2
        go_quiet (fail)
        go_wp2
        go_ret
        exact ⟨ret_int HR.out.symm, below_drewN _ _⟩
      · have HR : Hid (ckK 13 [x] = -1) := ck_len (by intro h; first | omega | simp) (by intro h; first | omega | simp)
        clear HA hcells
        go_wp2
        go_quiet (fail)
        go_wp2
        go_ret
        exact ⟨ret_int HR.out.symm, below_drewN _ _⟩
end Go.Proofs.YtdcdoeolaongkaaGreatDoor.Mp
