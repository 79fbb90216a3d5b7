import Derived.Test.YtdcdoeolaongkaaGreatDoorMH
namespace Go.Proofs.YtdcdoeolaongkaaGreatDoor.Mp
open Go.MapKept Go.ChangeMaps
open Go.ChangeShapes Go.WideShapes Go.ChangeAt Go.RowKit
open Go.Proofs.YtdcdoeolaongkaaGreatDoor.Ok
set_option linter.unusedVariables false
set_option linter.unusedSimpArgs false
set_option maxRecDepth 100000
set_option maxHeartbeats 20000000 in
theorem sck_three (fn : Int) (x y z : Int) (a : Option Addr) (cap : Nat) (w : World) (hk : RIO w (.slice a [x, y, z].length cap) [x, y, z]) (h13 : fn = 1 ∨ fn = 2 ∨ fn = 3 ∨ fn = 4 ∨ fn = 5 ∨ fn = 6 ∨ fn = 7 ∨ fn = 8 ∨ fn = 9 ∨ fn = 10 ∨ fn = 11 ∨ fn = 12 ∨ fn = 13) :
    Calls Tryz.prog 9 #[.int .i64 fn, .slice a [x, y, z].length cap] w fun e w' => e = .returned (.int .i64 (ckK fn [x, y, z])) ∧ Below w.heap.size w w' := by
  obtain ⟨a', cap', hsl, hcells⟩ := hk
  simp only [Value.slice.injEq] at hsl
  obtain ⟨rfl, _, rfl⟩ := hsl
  simp only [List.length_cons, List.length_nil, Nat.zero_add, Nat.reduceAdd]
  go_enter Tryz.func9, Tryz.ntmps9
  go_wp2
  go_loop [6, 13] (fun _ i => ∃ k : Nat, k ≤ 3 ∧ i = .int .i64 k ∧ Hid (allK ([x, y, z].take k) = true)) (fun _ i => 3 - (intOf i).toNat)
  case atStart => exact ⟨0, Nat.zero_le _, rfl, (rfl : allK [] = true)⟩
  case round =>
    obtain ⟨k, hkl, rfl, HA⟩ := hrel
    by_cases hlt : k < 3
    · have hlti : (k : Int) < 3 := by omega
      have hlt' : k < [x, y, z].length := hlt
      obtain ⟨gb, o, rfl, hgb, hcs⟩ := hcells (by simp)
      have d1 := hcs k hlt'
      have HN : Hid (isK [x, y, z][k] = false → ckK fn [x, y, z] = -1) := fun h => ckK_no (allK_no hlt' h)
      have HY : Hid (isK [x, y, z][k] = true → allK ([x, y, z].take (k + 1)) = true) := fun h => allK_step hlt' HA.out h
      clear hcs hcells HA
      generalize [x, y, z][k] = xk at d1 HN HY
      have hcon := fun w => isKind_spec xk w
      cases hf : isK xk
      · have HN' : Hid (ckK fn [x, y, z] = -1) := HN.out hf
        clear HN HY
        rw [hf] at hcon
        go_wp2_with (go_at_call 36; refine (hcon _).mono ?_; rintro e w' ⟨rfl, rfl⟩)
        go_ret
        exact ⟨ret_int HN'.out.symm, Below.refl _ _⟩
      · have HY' : Hid (allK ([x, y, z].take (k + 1)) = true) := HY.out hf
        clear HN HY
        rw [hf] at hcon
        go_wp2_with (go_at_call 36; refine (hcon _).mono ?_; rintro e w' ⟨rfl, rfl⟩)
        go_round
        case rel => exact ⟨k + 1, by omega, by go_num, HY'⟩
        case measure => simp [intOf]; omega
    · have hkn : k = 3 := by omega
      subst hkn
      have hlti : ¬ (3 : Int) < 3 := by omega
      replace HA : Hid (allK [x, y, z] = true) := (HA.out : allK [x, y, z] = true)
      rcases h13 with rfl | rfl | rfl | rfl | rfl | rfl | rfl | rfl | rfl | rfl | rfl | rfl | rfl
      · have HR : Hid (ckK 1 [x, y, z] = -1) := ck_len (by intro h; first | omega | simp) (by intro h; first | omega | simp)
        clear HA hcells
        go_wp2
        go_ret
        exact ⟨ret_int HR.out.symm, Below.refl _ _⟩
      · have HR : Hid (ckK 2 [x, y, z] = -1) := ck_len (by intro h; first | omega | simp) (by intro h; first | omega | simp)
        clear HA hcells
        go_wp2
        go_ret
        exact ⟨ret_int HR.out.symm, Below.refl _ _⟩
      · have HR : Hid (ckK 3 [x, y, z] = -1) := ck_len (by intro h; first | omega | simp) (by intro h; first | omega | simp)
        clear HA hcells
        go_wp2
        go_ret
        exact ⟨ret_int HR.out.symm, Below.refl _ _⟩
      · have HR : Hid (ckK 4 [x, y, z] = -1) := ck_len (by intro h; first | omega | simp) (by intro h; first | omega | simp)
        clear HA hcells
        go_wp2
        go_ret
        exact ⟨ret_int HR.out.symm, Below.refl _ _⟩
      · obtain ⟨gb, o, rfl, hgb, hcs⟩ := hcells (by simp)
        have d0 : w.cell? ⟨gb, o, none⟩ = some (.int .i64 x) := by simpa using hcs 0 (by simp)
        have d1 : w.cell? ⟨gb, o + 1, none⟩ = some (.int .i64 y) := by simpa using hcs 1 (by simp)
        have d2 : w.cell? ⟨gb, o + 2, none⟩ = some (.int .i64 z) := by simpa using hcs 2 (by simp)
        clear hcs hcells
        have HRR : Hid (ckK 5 [x, y, z] = if fitB x 3 = true ∧ fitB y 1 = true ∧ fitB z 1 = true then 3 else -1) := ck_three HA.out
        clear HA
        cases e1 : fitB x 3
        · go_wp2_with (go_at_call 37; refine (fits_spec _ _ _).mono ?_; rintro e w' ⟨rfl, rfl⟩)
          go_ret
          exact ⟨ret_int (by rw [HRR.out, e1]; simp), Below.refl _ _⟩
        cases e2 : fitB y 1
        · go_wp2_with (go_at_call 37; refine (fits_spec _ _ _).mono ?_; rintro e w' ⟨rfl, rfl⟩)
          go_ret
          exact ⟨ret_int (by rw [HRR.out, e2]; simp), Below.refl _ _⟩
        cases e3 : fitB z 1
        · go_wp2_with (go_at_call 37; refine (fits_spec _ _ _).mono ?_; rintro e w' ⟨rfl, rfl⟩)
          go_ret
          exact ⟨ret_int (by rw [HRR.out, e3]; simp), Below.refl _ _⟩
        · go_wp2_with (go_at_call 37; refine (fits_spec _ _ _).mono ?_; rintro e w' ⟨rfl, rfl⟩)
          go_ret
          exact ⟨ret_int (by rw [HRR.out, e1, e2, e3]; simp), Below.refl _ _⟩
      · have HR : Hid (ckK 6 [x, y, z] = -1) := ck_len (by intro h; first | omega | simp) (by intro h; first | omega | simp)
        clear HA hcells
        go_wp2
        go_quiet (fail)
        go_wp2
        go_ret
        exact ⟨ret_int HR.out.symm, below_drewN _ _⟩
      · have HR : Hid (ckK 7 [x, y, z] = -1) := ck_len (by intro h; first | omega | simp) (by intro h; first | omega | simp)
        clear HA hcells
        go_wp2
        go_ret
        exact ⟨ret_int HR.out.symm, Below.refl _ _⟩
      · have HR : Hid (ckK 8 [x, y, z] = -1) := ck_len (by intro h; first | omega | simp) (by intro h; first | omega | simp)
        clear HA hcells
        go_wp2
        go_ret
        exact ⟨ret_int HR.out.symm, Below.refl _ _⟩
      · have HR : Hid (ckK 9 [x, y, z] = -1) := ck_len (by intro h; first | omega | simp) (by intro h; first | omega | simp)
        clear HA hcells
        go_wp2
        go_ret
        exact ⟨ret_int HR.out.symm, Below.refl _ _⟩
      · have HR : Hid (ckK 10 [x, y, z] = -1) := ck_len (by intro h; first | omega | simp) (by intro h; first | omega | simp)
        clear HA hcells
        go_wp2
        go_ret
        exact ⟨ret_int HR.out.symm, Below.refl _ _⟩
      · have HR : Hid (ckK 11 [x, y, z] = -1) := ck_len (by intro h; first | omega | simp) (by intro h; first | omega | simp)
        clear HA hcells
        go_wp2
        go_ret
        exact ⟨ret_int HR.out.symm, Below.refl _ _⟩
      · have HR : Hid (ckK 12 [x, y, z] = -1) := ck_len (by intro h; first | omega | simp) (by intro h; first | omega | simp)
        clear HA hcells
        go_wp2
        go_quiet (fail)
        go_wp2
        go_ret
        exact ⟨ret_int HR.out.symm, below_drewN _ _⟩
      · have HR : Hid (ckK 13 [x, y, z] = -1) := ck_len (by intro h; first | omega | simp) (by intro h; first | omega | simp)
        clear HA hcells
        go_wp2
        go_quiet (fail)
        go_wp2
        go_ret
        exact ⟨ret_int HR.out.symm, below_drewN _ _⟩
end Go.Proofs.YtdcdoeolaongkaaGreatDoor.Mp
