import Derived.Test.YtdcdoeolaongkaaGreatDoorR6
namespace Go.Proofs.YtdcdoeolaongkaaGreatDoor.Rd
open Go.ChangeShapes Go.WideShapes Go.ChangeAt Go.RowKit Go.Shelf
set_option linter.unusedVariables false
set_option linter.unusedSimpArgs false
set_option maxRecDepth 100000
set_option maxHeartbeats 8000000 in
theorem readDec_nil (s : ByteArray) (w : World) (hs : s.size ≤ 1048576) (h0 : ¬ 0 < s.size) (rdV : Int × Bool) (HVN : okD (ptL s.data.toList) = false → rdV = (0, false)) (HVY : okD (ptL s.data.toList) = true → rdV = ((unitsL (ptL s.data.toList).1 (ptL s.data.toList).2.1 : Int), true)) :
    Calls Tryz.prog 130 #[.string s] w fun e w' => e = .returned (.tuple #[.int .i64 rdV.1, .bool rdV.2]) ∧ Below w.heap.size w w' := by
  have h0i : ¬ (0 : Int) < s.size := by omega
  have ht : s.size ≤ 1048576 := by have := tail_size s; omega
  go_enter Tryz.func130, Tryz.ntmps130
  go_wp2
  go_loop [5, 6, 7] (fun a b i => ∃ k : Nat, k ≤ s.size ∧ a = .string s ∧ b = .string ⟨#[48]⟩ ∧ i = .int .i64 k ∧ Hid (∀ j, j < k → s.data.toList[j]? ≠ some 46)) (fun _ _ i => s.size - (intOf i).toNat)
  case atStart => exact ⟨0, Nat.zero_le _, rfl, rfl, rfl, fun j h => absurd h (Nat.not_lt_zero _)⟩
  case round =>
    obtain ⟨k, hkl, rfl, rfl, rfl, HA⟩ := hrel
    by_cases hp : k < s.size
    · have hlti : (k : Int) < s.size := by omega
      by_cases hd : ((s[k]'hp).toNat : Int) = 46
      · have HW : Hid (WP s (s.extract 0 k) (s.extract (k + 1) s.size)) := WP_hit hp HA.out hd
        have hdb : (((s[k]'hp).toNat : Int) == 46) = true := by rw [beq_iff_eq]; exact hd
        clear hd HA
        have hk1 : k + 1 ≤ s.size := hp
        have hk2 : (k : Int) + 1 ≤ s.size := by omega
        generalize hwh : s.extract 0 k = wh at *
        generalize hpa : s.extract (k + 1) s.size = pa at *
        have HWH : Hid (s.extract 0 k = wh) := hwh
        have HPA : Hid (s.extract (k + 1) s.size = pa) := hpa
        clear hwh hpa
        obtain ⟨z1, z2⟩ := WP_le HW.out ht
        obtain ⟨HO1, HO2⟩ := WP_ok HW.out
        have HV1 : Hid (okD (ptL s.data.toList) = false → rdV = (0, false)) := HVN
        have HV2 : Hid (okD (ptL s.data.toList) = true → rdV = ((unitsL (ptL s.data.toList).1 (ptL s.data.toList).2.1 : Int), true)) := HVY
        rw [HO1] at HV1 HV2
        have hw1 := fun w => digits_spec wh 14 w z1 (by omega)
        have hp1 := fun w => digits_spec pa 4 w z2 (by omega)
        generalize unitsL (ptL s.data.toList).1 (ptL s.data.toList).2.1 = U at *
        generalize dgN wh.data.toList 14 = xa at *
        generalize dgN pa.data.toList 4 = xb at *
        generalize arD wh.data.toList 14 = o1 at *
        generalize arD pa.data.toList 4 = o2 at *
        clear HW HO1 HVN HVY
        cases o1
        · have HV : Hid (rdV = (0, false)) := HV1.out rfl
          clear HV1 HV2 HO2
          go_wp2_with (go_at_call 177; fail)
          rw [HWH.out]
          refine (hw1 _).mono ?_
          rintro e w1 ⟨rfl, hw⟩
          rw [hw]
          clear hw w1
          go_wp2_with (go_at_call 177; fail)
          rw [HPA.out]
          refine (hp1 _).mono ?_
          rintro e w1 ⟨rfl, hw⟩
          rw [hw]
          clear hw w1
          go_wp2
          go_ret2
          exact ⟨ret_nb (by rw [HV.out]) (by rw [HV.out]), Below.refl _ _⟩
        cases o2
        · have HV : Hid (rdV = (0, false)) := HV1.out rfl
          clear HV1 HV2 HO2
          go_wp2_with (go_at_call 177; fail)
          rw [HWH.out]
          refine (hw1 _).mono ?_
          rintro e w1 ⟨rfl, hw⟩
          rw [hw]
          clear hw w1
          go_wp2_with (go_at_call 177; fail)
          rw [HPA.out]
          refine (hp1 _).mono ?_
          rintro e w1 ⟨rfl, hw⟩
          rw [hw]
          clear hw w1
          go_wp2
          go_ret2
          exact ⟨ret_nb (by rw [HV.out]) (by rw [HV.out]), Below.refl _ _⟩
        · have HV : Hid (rdV = ((U : Int), true)) := HV2.out rfl
          obtain ⟨q1, q2, q3, q4, q5⟩ := HO2 rfl
          have HU : Hid (U = xa * 10000 + xb * 10 ^ (4 - pa.size)) := q1
          have HB : Hid (xb < 10 ^ pa.size) := q5
          have HQ3 : Hid (pa.size ≤ 4) := q3
          clear HV1 HV2 HO2 q1 q2 q3 q5
          have hxa : (xa : Int) < 100000000000000 := by omega
          clear q4
          go_wp2_with (go_at_call 177; fail)
          rw [HWH.out]
          refine (hw1 _).mono ?_
          rintro e w1 ⟨rfl, hw⟩
          rw [hw]
          clear hw w1
          go_wp2_with (go_at_call 177; fail)
          rw [HPA.out]
          refine (hp1 _).mono ?_
          rintro e w1 ⟨rfl, hw⟩
          rw [hw]
          clear hw w1
          clear hw1 hp1
          clear HPA HWH
          go_wp2
          go_loop [10, 12] (fun b i => ∃ k x : Nat, pa.size ≤ k ∧ k ≤ 4 ∧ i = .int .i64 k ∧ b = .int .u64 x ∧ Hid (x = xb * 10 ^ (k - pa.size))) (fun _ i => 4 - (intOf i).toNat)
          case atStart => exact ⟨pa.size, xb, Nat.le_refl _, HQ3.out, rfl, rfl, (by simp : xb = xb * 10 ^ (pa.size - pa.size))⟩
          case round =>
            obtain ⟨k, x, hk1, hk2, rfl, rfl, HX⟩ := hrel
            have hx : x < 10000 := by rw [HX.out]; exact part_lt HB.out hk1 hk2
            have hxi : (x : Int) < 10000 := by omega
            by_cases hlt : k < 4
            · have hlti : (k : Int) < 4 := by omega
              have HX2 : Hid (x * 10 = xb * 10 ^ (k + 1 - pa.size)) := (by rw [HX.out]; rcases pow_step (b := xb) (p := pa.size) hlt with h | h; exact h; omega : x * 10 = xb * 10 ^ (k + 1 - pa.size))
              clear HX
              go_wp2
              go_round
              case rel => exact ⟨k + 1, x * 10, by omega, by omega, by go_num, by go_light; congr 1; omega, HX2⟩
              case measure => simp [intOf]; omega
            · have hk4 : k = 4 := by omega
              subst hk4
              have hlti : ¬ ((4 : Nat) : Int) < 4 := by omega
              have HUU : Hid ((U : Int) = xa * 10000 + x) := (by rw [HU.out, HX.out]; push_cast; rfl : (U : Int) = xa * 10000 + x)
              clear HX HU HB
              go_wp2
              go_ret2
              exact ⟨ret_nb (by rw [HV.out]; simp only; rw [HUU.out]) (by rw [HV.out]), Below.refl _ _⟩
      · have HN : Hid (∀ j, j < k + 1 → s.data.toList[j]? ≠ some 46) := step_no hp HA.out hd
        have hdb : (((s[k]'hp).toNat : Int) == 46) = false := by rw [beq_eq_false_iff_ne]; exact hd
        clear hd HA
        go_wp2
        go_round
        case rel => exact ⟨k + 1, by omega, rfl, rfl, by go_num, HN⟩
        case measure => simp [intOf]; omega
    · have hkn : k = s.size := by omega
      subst hkn
      have hlti : ¬ (s.size : Int) < s.size := by omega
      have HW : Hid (WP s s ⟨#[48]⟩) := WP_none HA.out
      clear HA
      obtain ⟨z1, z2⟩ := WP_le HW.out ht
      obtain ⟨HO1, HO2⟩ := WP_ok HW.out
      have HV1 : Hid (okD (ptL s.data.toList) = false → rdV = (0, false)) := HVN
      have HV2 : Hid (okD (ptL s.data.toList) = true → rdV = ((unitsL (ptL s.data.toList).1 (ptL s.data.toList).2.1 : Int), true)) := HVY
      rw [HO1] at HV1 HV2
      have hw1 := fun w => digits_spec s 14 w z1 (by omega)
      have hp1 := fun w => digits_spec (⟨#[48]⟩ : ByteArray) 4 w z2 (by omega)
      generalize unitsL (ptL s.data.toList).1 (ptL s.data.toList).2.1 = U at *
      generalize dgN s.data.toList 14 = xa at *
      generalize dgN (⟨#[48]⟩ : ByteArray).data.toList 4 = xb at *
      generalize arD s.data.toList 14 = o1 at *
      generalize arD (⟨#[48]⟩ : ByteArray).data.toList 4 = o2 at *
      clear HW HO1 HVN HVY
      cases o1
      · have HV : Hid (rdV = (0, false)) := HV1.out rfl
        clear HV1 HV2 HO2
        go_wp2_with (go_at_call 177; fail)
        refine (hw1 _).mono ?_
        rintro e w1 ⟨rfl, hw⟩
        rw [hw]
        clear hw w1
        go_wp2_with (go_at_call 177; fail)
        refine (hp1 _).mono ?_
        rintro e w1 ⟨rfl, hw⟩
        rw [hw]
        clear hw w1
        go_wp2
        go_ret2
        exact ⟨ret_nb (by rw [HV.out]) (by rw [HV.out]), Below.refl _ _⟩
      cases o2
      · have HV : Hid (rdV = (0, false)) := HV1.out rfl
        clear HV1 HV2 HO2
        go_wp2_with (go_at_call 177; fail)
        refine (hw1 _).mono ?_
        rintro e w1 ⟨rfl, hw⟩
        rw [hw]
        clear hw w1
        go_wp2_with (go_at_call 177; fail)
        refine (hp1 _).mono ?_
        rintro e w1 ⟨rfl, hw⟩
        rw [hw]
        clear hw w1
        go_wp2
        go_ret2
        exact ⟨ret_nb (by rw [HV.out]) (by rw [HV.out]), Below.refl _ _⟩
      · have HV : Hid (rdV = ((U : Int), true)) := HV2.out rfl
        obtain ⟨q1, q2, q3, q4, q5⟩ := HO2 rfl
        have HU : Hid (U = xa * 10000 + xb * 10 ^ (4 - 1)) := q1
        have HB : Hid (xb < 10 ^ 1) := q5
        have HQ3 : Hid (1 ≤ 4) := q3
        clear HV1 HV2 HO2 q1 q2 q3 q5
        have hxa : (xa : Int) < 100000000000000 := by omega
        clear q4
        go_wp2_with (go_at_call 177; fail)
        refine (hw1 _).mono ?_
        rintro e w1 ⟨rfl, hw⟩
        rw [hw]
        clear hw w1
        go_wp2_with (go_at_call 177; fail)
        refine (hp1 _).mono ?_
        rintro e w1 ⟨rfl, hw⟩
        rw [hw]
        clear hw w1
        clear hw1 hp1
        go_wp2
        go_loop [10, 12] (fun b i => ∃ k x : Nat, 1 ≤ k ∧ k ≤ 4 ∧ i = .int .i64 k ∧ b = .int .u64 x ∧ Hid (x = xb * 10 ^ (k - 1))) (fun _ i => 4 - (intOf i).toNat)
        case atStart => exact ⟨1, xb, Nat.le_refl _, HQ3.out, rfl, rfl, (by simp : xb = xb * 10 ^ (1 - 1))⟩
        case round =>
          obtain ⟨k, x, hk1, hk2, rfl, rfl, HX⟩ := hrel
          have hx : x < 10000 := by rw [HX.out]; exact part_lt HB.out hk1 hk2
          have hxi : (x : Int) < 10000 := by omega
          by_cases hlt : k < 4
          · have hlti : (k : Int) < 4 := by omega
            have HX2 : Hid (x * 10 = xb * 10 ^ (k + 1 - 1)) := (by rw [HX.out]; rcases pow_step (b := xb) (p := 1) hlt with h | h; exact h; omega : x * 10 = xb * 10 ^ (k + 1 - 1))
            clear HX
            go_wp2
            go_round
            case rel => exact ⟨k + 1, x * 10, by omega, by omega, by go_num, by go_light; congr 1; omega, HX2⟩
            case measure => simp [intOf]; omega
          · have hk4 : k = 4 := by omega
            subst hk4
            have hlti : ¬ ((4 : Nat) : Int) < 4 := by omega
            have HUU : Hid ((U : Int) = xa * 10000 + x) := (by rw [HU.out, HX.out]; push_cast; rfl : (U : Int) = xa * 10000 + x)
            clear HX HU HB
            go_wp2
            go_ret2
            exact ⟨ret_nb (by rw [HV.out]; simp only; rw [HUU.out]) (by rw [HV.out]), Below.refl _ _⟩
end Go.Proofs.YtdcdoeolaongkaaGreatDoor.Rd
