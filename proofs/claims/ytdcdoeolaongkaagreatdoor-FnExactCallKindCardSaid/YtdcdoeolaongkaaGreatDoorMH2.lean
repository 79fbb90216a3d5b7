import Derived.Test.YtdcdoeolaongkaaGreatDoorMH
namespace Go.Proofs.YtdcdoeolaongkaaGreatDoor.Mp
open Go.MapKept Go.ChangeMaps
open Go.ChangeShapes Go.WideShapes Go.ChangeAt Go.RowKit
open Go.Proofs.YtdcdoeolaongkaaGreatDoor.Ok
set_option linter.unusedVariables false
set_option linter.unusedSimpArgs false
set_option maxRecDepth 100000
set_option maxHeartbeats 20000000 in
theorem sck_two (fn : Int) (x y : Int) (a : Option Addr) (cap : Nat) (w : World) (hk : RIO w (.slice a [x, y].length cap) [x, y]) (h13 : fn = 1 ∨ fn = 2 ∨ fn = 3 ∨ fn = 4 ∨ fn = 5 ∨ fn = 6 ∨ fn = 7 ∨ fn = 8 ∨ fn = 9 ∨ fn = 10 ∨ fn = 11 ∨ fn = 12 ∨ fn = 13) :
    Calls Tryz.prog 9 #[.int .i64 fn, .slice a [x, y].length cap] w fun e w' => e = .returned (.int .i64 (ckK fn [x, y])) ∧ Below w.heap.size w w' := by
  obtain ⟨a', cap', hsl, hcells⟩ := hk
  simp only [Value.slice.injEq] at hsl
  obtain ⟨rfl, _, rfl⟩ := hsl
  simp only [List.length_cons, List.length_nil, Nat.zero_add, Nat.reduceAdd]
  go_enter Tryz.func9, Tryz.ntmps9
  go_wp2
  go_loop [6, 13] (fun _ i => ∃ k : Nat, k ≤ 2 ∧ i = .int .i64 k ∧ Hid (allK ([x, y].take k) = true)) (fun _ i => 2 - (intOf i).toNat)
  case atStart => exact ⟨0, Nat.zero_le _, rfl, (rfl : allK [] = true)⟩
  case round =>
    obtain ⟨k, hkl, rfl, HA⟩ := hrel
    by_cases hlt : k < 2
    · have hlti : (k : Int) < 2 := by omega
      have hlt' : k < [x, y].length := hlt
      obtain ⟨gb, o, rfl, hgb, hcs⟩ := hcells (by simp)
      have d1 := hcs k hlt'
      have HN : Hid (isK [x, y][k] = false → ckK fn [x, y] = -1) := fun h => ckK_no (allK_no hlt' h)
      have HY : Hid (isK [x, y][k] = true → allK ([x, y].take (k + 1)) = true) := fun h => allK_step hlt' HA.out h
      clear hcs hcells HA
      generalize [x, y][k] = xk at d1 HN HY
      have hcon := fun w => isKind_spec xk w
      cases hf : isK xk
      · have HN' : Hid (ckK fn [x, y] = -1) := HN.out hf
        clear HN HY
        rw [hf] at hcon
        go_wp2_with (go_at_call 36; refine (hcon _).mono ?_; rintro e w' ⟨rfl, rfl⟩)
        go_ret
        exact ⟨ret_int HN'.out.symm, Below.refl _ _⟩
      · have HY' : Hid (allK ([x, y].take (k + 1)) = true) := HY.out hf
        clear HN HY
        rw [hf] at hcon
        go_wp2_with (go_at_call 36; refine (hcon _).mono ?_; rintro e w' ⟨rfl, rfl⟩)
        go_round
        case rel => exact ⟨k + 1, by omega, by go_num, HY'⟩
        case measure => simp [intOf]; omega
    · have hkn : k = 2 := by omega
      subst hkn
      have hlti : ¬ (2 : Int) < 2 := by omega
      replace HA : Hid (allK [x, y] = true) := (HA.out : allK [x, y] = true)
      rcases h13 with rfl | rfl | rfl | rfl | rfl | rfl | rfl | rfl | rfl | rfl | rfl | rfl | rfl
      · have HR : Hid (ckK 1 [x, y] = -1) := ck_len (by intro h; first | omega | simp) (by intro h; first | omega | simp)
        clear HA hcells
        go_wp2
        go_ret
        exact ⟨ret_int HR.out.symm, Below.refl _ _⟩
      · have HR : Hid (ckK 2 [x, y] = -1) := ck_len (by intro h; first | omega | simp) (by intro h; first | omega | simp)
        clear HA hcells
        go_wp2
        go_ret
        exact ⟨ret_int HR.out.symm, Below.refl _ _⟩
      · have HR : Hid (ckK 3 [x, y] = -1) := ck_len (by intro h; first | omega | simp) (by intro h; first | omega | simp)
        clear HA hcells
        go_wp2
        go_ret
        exact ⟨ret_int HR.out.symm, Below.refl _ _⟩
      · have HR : Hid (ckK 4 [x, y] = -1) := ck_len (by intro h; first | omega | simp) (by intro h; first | omega | simp)
        clear HA hcells
        go_wp2
        go_ret
        exact ⟨ret_int HR.out.symm, Below.refl _ _⟩
      · have HR : Hid (ckK 5 [x, y] = -1) := ck_len (by intro h; first | omega | simp) (by intro h; first | omega | simp)
        clear HA hcells
        go_wp2
        go_ret
        exact ⟨ret_int HR.out.symm, Below.refl _ _⟩
      · obtain ⟨gb, o, rfl, hgb, hcs⟩ := hcells (by simp)
        have d0 : w.cell? ⟨gb, o, none⟩ = some (.int .i64 x) := by simpa using hcs 0 (by simp)
        have d1 : w.cell? ⟨gb, o + 1, none⟩ = some (.int .i64 y) := by simpa using hcs 1 (by simp)
        clear hcs hcells
        have HRR : Hid (ckK 6 [x, y] = if 0 ≤ opk 7 x y then x else -1) := ck_nullif HA.out
        clear HA
        have hcon := fun w => opKind_spec 7 x y w
        generalize opk 7 x y = q at hcon HRR
        by_cases c : 0 ≤ q
        · have HV : Hid (ckK 6 [x, y] = x) := by have h := HRR.out; rw [if_pos c] at h; exact h
          go_wp2
          go_quiet ((go_at_call 38; exact Calls.quiet_of_same (hcon _)))
          go_wp2
          go_ret
          exact ⟨ret_int HV.out.symm, below_drewN _ _⟩
        · have HV : Hid (ckK 6 [x, y] = -1) := by have h := HRR.out; rw [if_neg c] at h; exact h
          have c' : decide (0 ≤ q) = false := by simpa using c
          go_wp2
          go_quiet ((go_at_call 38; exact Calls.quiet_of_same (hcon _)))
          go_wp2
          go_ret
          exact ⟨ret_int HV.out.symm, below_drewN _ _⟩
      · have HR : Hid (ckK 7 [x, y] = -1) := ck_len (by intro h; first | omega | simp) (by intro h; first | omega | simp)
        clear HA hcells
        go_wp2
        go_ret
        exact ⟨ret_int HR.out.symm, Below.refl _ _⟩
      · have HR : Hid (ckK 8 [x, y] = -1) := ck_len (by intro h; first | omega | simp) (by intro h; first | omega | simp)
        clear HA hcells
        go_wp2
        go_ret
        exact ⟨ret_int HR.out.symm, Below.refl _ _⟩
      · have HR : Hid (ckK 9 [x, y] = -1) := ck_len (by intro h; first | omega | simp) (by intro h; first | omega | simp)
        clear HA hcells
        go_wp2
        go_ret
        exact ⟨ret_int HR.out.symm, Below.refl _ _⟩
      · have HR : Hid (ckK 10 [x, y] = -1) := ck_len (by intro h; first | omega | simp) (by intro h; first | omega | simp)
        clear HA hcells
        go_wp2
        go_ret
        exact ⟨ret_int HR.out.symm, Below.refl _ _⟩
      · have HR : Hid (ckK 11 [x, y] = -1) := ck_len (by intro h; first | omega | simp) (by intro h; first | omega | simp)
        clear HA hcells
        go_wp2
        go_ret
        exact ⟨ret_int HR.out.symm, Below.refl _ _⟩
      · obtain ⟨gb, o, rfl, hgb, hcs⟩ := hcells (by simp)
        have d0 : w.cell? ⟨gb, o, none⟩ = some (.int .i64 x) := by simpa using hcs 0 (by simp)
        have d1 : w.cell? ⟨gb, o + 1, none⟩ = some (.int .i64 y) := by simpa using hcs 1 (by simp)
        clear hcs hcells
        have HRR : Hid (ckK 12 [x, y] = if fitB y x = true then x else if (x == 0) = true then y else -1) := ck_two (by omega) HA.out
        clear HA
        have hcon := fun w => fits_spec y x w
        cases e2 : fitB y x
        · rw [e2] at hcon
          cases e3 : (x == 0)
          all_goals
            go_wp2
            go_quiet ((go_at_call 37; exact Calls.quiet_of_same (hcon _)))
            go_wp2
            go_ret
            exact ⟨ret_int (by rw [HRR.out, e2, e3]; simp), below_drewN _ _⟩
        · rw [e2] at hcon
          go_wp2
          go_quiet ((go_at_call 37; exact Calls.quiet_of_same (hcon _)))
          go_wp2
          go_ret
          exact ⟨ret_int (by rw [HRR.out, e2]; simp), below_drewN _ _⟩
      · obtain ⟨gb, o, rfl, hgb, hcs⟩ := hcells (by simp)
        have d0 : w.cell? ⟨gb, o, none⟩ = some (.int .i64 x) := by simpa using hcs 0 (by simp)
        have d1 : w.cell? ⟨gb, o + 1, none⟩ = some (.int .i64 y) := by simpa using hcs 1 (by simp)
        clear hcs hcells
        have HRR : Hid (ckK 13 [x, y] = if fitB y x = true then x else if (x == 0) = true then y else -1) := ck_two (by omega) HA.out
        clear HA
        have hcon := fun w => fits_spec y x w
        cases e2 : fitB y x
        · rw [e2] at hcon
          cases e3 : (x == 0)
          all_goals
            go_wp2
            go_quiet ((go_at_call 37; exact Calls.quiet_of_same (hcon _)))
            go_wp2
            go_ret
            exact ⟨ret_int (by rw [HRR.out, e2, e3]; simp), below_drewN _ _⟩
        · rw [e2] at hcon
          go_wp2
          go_quiet ((go_at_call 37; exact Calls.quiet_of_same (hcon _)))
          go_wp2
          go_ret
          exact ⟨ret_int (by rw [HRR.out, e2]; simp), below_drewN _ _⟩
end Go.Proofs.YtdcdoeolaongkaaGreatDoor.Mp
