import Derived.Test.YtdcdoeolaongkaaGreatDoorMH
namespace Go.Proofs.YtdcdoeolaongkaaGreatDoor.Mp
open Go.MapKept Go.ChangeMaps
open Go.ChangeShapes Go.WideShapes Go.ChangeAt Go.RowKit
open Go.Proofs.YtdcdoeolaongkaaGreatDoor.Ok
set_option linter.unusedVariables false
set_option linter.unusedSimpArgs false
set_option maxRecDepth 100000
set_option maxHeartbeats 20000000 in
theorem sck_other (fn : Int) (ks : List Int) (a : Option Addr) (cap : Nat) (w : World) (hk : RIO w (.slice a ks.length cap) ks) (h13 : fn = 1 ∨ fn = 2 ∨ fn = 3 ∨ fn = 4 ∨ fn = 5 ∨ fn = 6 ∨ fn = 7 ∨ fn = 8 ∨ fn = 9 ∨ fn = 10 ∨ fn = 11 ∨ fn = 12 ∨ fn = 13) (h8 : ks.length ≤ 8) (hl1 : ks.length ≠ 1) (hl2 : ks.length ≠ 2) (hl3 : ks.length ≠ 3) :
    Calls Tryz.prog 9 #[.int .i64 fn, .slice a ks.length cap] w fun e w' => e = .returned (.int .i64 (ckK fn ks)) ∧ Below w.heap.size w w' := by
  obtain ⟨a', cap', hsl, hcells⟩ := hk
  simp only [Value.slice.injEq] at hsl
  obtain ⟨rfl, _, rfl⟩ := hsl
  go_enter Tryz.func9, Tryz.ntmps9
  go_wp2
  go_loop [6, 13] (fun _ i => ∃ k : Nat, k ≤ ks.length ∧ i = .int .i64 k ∧ Hid (allK (ks.take k) = true)) (fun _ i => ks.length - (intOf i).toNat)
  case atStart => exact ⟨0, Nat.zero_le _, rfl, (rfl : allK [] = true)⟩
  case round =>
    obtain ⟨k, hkl, rfl, HA⟩ := hrel
    by_cases hlt : k < ks.length
    · have hlti : (k : Int) < ks.length := by omega
      have hlt' : k < ks.length := hlt
      obtain ⟨gb, o, rfl, hgb, hcs⟩ := hcells (by omega)
      have d1 := hcs k hlt'
      have HN : Hid (isK ks[k] = false → ckK fn ks = -1) := fun h => ckK_no (allK_no hlt' h)
      have HY : Hid (isK ks[k] = true → allK (ks.take (k + 1)) = true) := fun h => allK_step hlt' HA.out h
      clear hcs hcells HA
      generalize ks[k] = x at d1 HN HY
      have hcon := fun w => isKind_spec x w
      cases hf : isK x
      · have HN' : Hid (ckK fn ks = -1) := HN.out hf
        clear HN HY
        rw [hf] at hcon
        go_wp2_with (go_at_call 36; refine (hcon _).mono ?_; rintro e w' ⟨rfl, rfl⟩)
        go_ret
        exact ⟨ret_int HN'.out.symm, Below.refl _ _⟩
      · have HY' : Hid (allK (ks.take (k + 1)) = true) := HY.out hf
        clear HN HY
        rw [hf] at hcon
        go_wp2_with (go_at_call 36; refine (hcon _).mono ?_; rintro e w' ⟨rfl, rfl⟩)
        go_round
        case rel => exact ⟨k + 1, by omega, by go_num, HY'⟩
        case measure => simp [intOf]; omega
    · have hkn : k = ks.length := by omega
      subst hkn
      have hlti : ¬ (ks.length : Int) < ks.length := by omega
      replace HA : Hid (allK ks = true) := (by have h := HA.out; rw [List.take_length] at h; exact h : allK ks = true)
      have HR : Hid (ckK fn ks = -1) := ck_len (by intro _; split <;> omega) (by intro _; omega)
      clear HA hcells
      have l1 : ((ks.length : Int) == 1) = false := by simp; omega
      have l2 : ((ks.length : Int) == 2) = false := by simp; omega
      have l3 : ((ks.length : Int) == 3) = false := by simp; omega
      rcases h13 with rfl | rfl | rfl | rfl | rfl | rfl | rfl | rfl | rfl | rfl | rfl | rfl | rfl
      · go_wp2
        go_ret
        exact ⟨ret_int HR.out.symm, Below.refl _ _⟩
      · go_wp2
        go_ret
        exact ⟨ret_int HR.out.symm, Below.refl _ _⟩
      · go_wp2
        go_ret
        exact ⟨ret_int HR.out.symm, Below.refl _ _⟩
      · go_wp2
        go_ret
        exact ⟨ret_int HR.out.symm, Below.refl _ _⟩
      · go_wp2
        go_ret
        exact ⟨ret_int HR.out.symm, Below.refl _ _⟩
      · go_wp2
        go_quiet (fail)
        go_wp2
        go_ret
        exact ⟨ret_int HR.out.symm, below_drewN _ _⟩
      · go_wp2
        go_ret
        exact ⟨ret_int HR.out.symm, Below.refl _ _⟩
      · go_wp2
        go_ret
        exact ⟨ret_int HR.out.symm, Below.refl _ _⟩
      · go_wp2
        go_ret
        exact ⟨ret_int HR.out.symm, Below.refl _ _⟩
      · go_wp2
        go_ret
        exact ⟨ret_int HR.out.symm, Below.refl _ _⟩
      · go_wp2
        go_ret
        exact ⟨ret_int HR.out.symm, Below.refl _ _⟩
      · go_wp2
        go_quiet (fail)
        go_wp2
        go_ret
        exact ⟨ret_int HR.out.symm, below_drewN _ _⟩
      · go_wp2
        go_quiet (fail)
        go_wp2
        go_ret
        exact ⟨ret_int HR.out.symm, below_drewN _ _⟩
set_option maxHeartbeats 20000000 in
theorem sck_none (fn : Int) (ks : List Int) (a : Option Addr) (cap : Nat) (w : World) (hk : RIO w (.slice a ks.length cap) ks) (hno : fn < 1 ∨ 13 < fn) (h8 : ks.length ≤ 8) :
    Calls Tryz.prog 9 #[.int .i64 fn, .slice a ks.length cap] w fun e w' => e = .returned (.int .i64 (ckK fn ks)) ∧ Below w.heap.size w w' := by
  obtain ⟨a', cap', hsl, hcells⟩ := hk
  simp only [Value.slice.injEq] at hsl
  obtain ⟨rfl, _, rfl⟩ := hsl
  go_enter Tryz.func9, Tryz.ntmps9
  go_wp2
  go_loop [6, 13] (fun _ i => ∃ k : Nat, k ≤ ks.length ∧ i = .int .i64 k ∧ Hid (allK (ks.take k) = true)) (fun _ i => ks.length - (intOf i).toNat)
  case atStart => exact ⟨0, Nat.zero_le _, rfl, (rfl : allK [] = true)⟩
  case round =>
    obtain ⟨k, hkl, rfl, HA⟩ := hrel
    by_cases hlt : k < ks.length
    · have hlti : (k : Int) < ks.length := by omega
      have hlt' : k < ks.length := hlt
      obtain ⟨gb, o, rfl, hgb, hcs⟩ := hcells (by omega)
      have d1 := hcs k hlt'
      have HN : Hid (isK ks[k] = false → ckK fn ks = -1) := fun h => ckK_no (allK_no hlt' h)
      have HY : Hid (isK ks[k] = true → allK (ks.take (k + 1)) = true) := fun h => allK_step hlt' HA.out h
      clear hcs hcells HA
      generalize ks[k] = x at d1 HN HY
      have hcon := fun w => isKind_spec x w
      cases hf : isK x
      · have HN' : Hid (ckK fn ks = -1) := HN.out hf
        clear HN HY
        rw [hf] at hcon
        go_wp2_with (go_at_call 36; refine (hcon _).mono ?_; rintro e w' ⟨rfl, rfl⟩)
        go_ret
        exact ⟨ret_int HN'.out.symm, Below.refl _ _⟩
      · have HY' : Hid (allK (ks.take (k + 1)) = true) := HY.out hf
        clear HN HY
        rw [hf] at hcon
        go_wp2_with (go_at_call 36; refine (hcon _).mono ?_; rintro e w' ⟨rfl, rfl⟩)
        go_round
        case rel => exact ⟨k + 1, by omega, by go_num, HY'⟩
        case measure => simp [intOf]; omega
    · have hkn : k = ks.length := by omega
      subst hkn
      have hlti : ¬ (ks.length : Int) < ks.length := by omega
      replace HA : Hid (allK ks = true) := (by have h := HA.out; rw [List.take_length] at h; exact h : allK ks = true)
      have HR : Hid (ckK fn ks = -1) := (by unfold ckK; rw [if_pos hno] : ckK fn ks = -1)
      clear HA hcells
      have g1 : (fn == 1) = false := by simp; omega
      have g2 : (fn == 2) = false := by simp; omega
      have g3 : (fn == 3) = false := by simp; omega
      have g4 : (fn == 4) = false := by simp; omega
      have g5 : (fn == 5) = false := by simp; omega
      have g6 : (fn == 6) = false := by simp; omega
      have g7 : (fn == 7) = false := by simp; omega
      have g8 : (fn == 8) = false := by simp; omega
      have g9 : (fn == 9) = false := by simp; omega
      have g10 : (fn == 10) = false := by simp; omega
      have g11 : (fn == 11) = false := by simp; omega
      have g12 : (fn == 12) = false := by simp; omega
      have g13 : (fn == 13) = false := by simp; omega
      go_wp2
      go_ret
      exact ⟨ret_int HR.out.symm, Below.refl _ _⟩
end Go.Proofs.YtdcdoeolaongkaaGreatDoor.Mp
