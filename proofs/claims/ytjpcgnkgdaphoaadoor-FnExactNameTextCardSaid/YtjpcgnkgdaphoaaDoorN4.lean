import Derived.Test.YtjpcgnkgdaphoaaDoorX1
namespace Go.Proofs.YtjpcgnkgdaphoaaDoor
open Go.ChangeShapes Go.WideShapes Go.ChangeAt Go.RowKit Go.Shelf
set_option linter.unusedVariables false
set_option linter.unusedSimpArgs false
set_option maxRecDepth 100000
set_option maxHeartbeats 800000 in
theorem isName_any (s : ByteArray) (w : World) (hs : s.size ≤ maxLen) :
    Calls Tryd.prog 10 #[.string s] w fun e w' => e = .returned (.bool (isNameL s.data.toList)) ∧ w' = w := by
  have hsl : s.data.toList.length = s.size := by simp
  have hp := fun w => printable_any s w hs
  have HE : isNameL s.data.toList = (decide (1 ≤ s.size) && decide (s.size ≤ 30) && decide (runN priI s.data.toList = s.size)) := by unfold isNameL; rw [hsl]
  have HE' : Hid (isNameL s.data.toList = (decide (1 ≤ s.size) && decide (s.size ≤ 30) && decide (runN priI s.data.toList = s.size))) := HE
  clear HE
  unfold maxLen at hs
  generalize decide (runN priI s.data.toList = s.size) = b at *
  by_cases h1 : 1 ≤ s.size
  · have h1i : (1 : Int) ≤ s.size := by omega
    by_cases h30 : s.size ≤ 30
    · have h30i : (s.size : Int) ≤ 30 := by omega
      go_enter Tryd.func10, Tryd.ntmps10
      go_wp2_with (go_at_call 15; refine (hp _).mono ?_; rintro e w' ⟨rfl, rfl⟩)
      go_ret
      exact ⟨ret_bool (by rw [HE'.out]; simp [h1, h30]), rfl⟩
    · have h30i : ¬ (s.size : Int) ≤ 30 := by omega
      go_enter Tryd.func10, Tryd.ntmps10
      go_wp2_with (go_at_call 15; refine (hp _).mono ?_; rintro e w' ⟨rfl, rfl⟩)
      go_ret
      exact ⟨ret_bool (by rw [HE'.out]; simp [h30]), rfl⟩
  · have h1i : ¬ (1 : Int) ≤ s.size := by omega
    go_enter Tryd.func10, Tryd.ntmps10
    go_wp2_with (go_at_call 15; refine (hp _).mono ?_; rintro e w' ⟨rfl, rfl⟩)
    go_ret
    exact ⟨ret_bool (by rw [HE'.out]; simp [h1]), rfl⟩
set_option maxHeartbeats 1600000 in
theorem isWord_any (s : ByteArray) (w : World) (hs : s.size ≤ maxLen) :
    Calls Tryd.prog 11 #[.string s] w fun e w' => e = .returned (.bool (isWordL s.data.toList)) ∧ w' = w := by
  have hsl : s.data.toList.length = s.size := by simp
  have HE' : Hid (isWordL s.data.toList = (decide (1 ≤ s.size) && decide (s.size ≤ 30) && isLet s.data.toList[0]? && decide (runN smI s.data.toList = s.size))) := by show _ = _; unfold isWordL; rw [hsl]
  unfold maxLen at hs
  by_cases h1 : 1 ≤ s.size
  · have h1i : ¬ (s.size : Int) < 1 := by omega
    by_cases h30 : s.size ≤ 30
    · have h30i : ¬ (30 : Int) < s.size := by omega
      have h0 : 0 < s.size := by omega
      have h0i : (0 : Int) < s.size := by omega
      have HL : Hid (isLet s.data.toList[0]? = wdI ((s[0]'h0).toNat : Int)) := by show _ = _; rw [bl_get s 0 h0]; rfl
      have hl0 := fun w => letter_any ((s[0]'h0).toNat : Int) w
      cases hw : wdI ((s[0]'h0).toNat : Int)
      · rw [hw] at hl0
        have HF : Hid (isWordL s.data.toList = false) := by show _ = _; rw [HE'.out, HL.out, hw]; simp
        clear hw HL HE'
        go_enter Tryd.func11, Tryd.ntmps11
        go_wp2_with (go_at_call 16; refine (hl0 _).mono ?_; rintro e w' ⟨rfl, rfl⟩)
        go_ret
        exact ⟨ret_bool HF.out.symm, rfl⟩
      · rw [hw] at hl0
        have HF : Hid (isWordL s.data.toList = decide (runN smI s.data.toList = s.size)) := by show _ = _; rw [HE'.out, HL.out, hw]; simp [h1, h30]
        clear hw HL HE'
        go_enter Tryd.func11, Tryd.ntmps11
        go_wp2_with (go_at_call 16; refine (hl0 _).mono ?_; rintro e w' ⟨rfl, rfl⟩)
        go_loop [3] (fun i => ∃ k : Nat, k ≤ s.size ∧ k ≤ runN smI s.data.toList ∧ i = .int .i64 k) (fun i => s.size - (intOf i).toNat)
        case atStart => exact ⟨0, Nat.zero_le _, Nat.zero_le _, rfl⟩
        case round =>
          obtain ⟨k, hk, hr, rfl⟩ := hrel
          by_cases hlt : k < s.size
          · have hlti : (k : Int) < s.size := by omega
            have hst := runN_step smI s.data.toList k _ hr (bl_get s k hlt)
            obtain ⟨c, hc⟩ : ∃ c : Int, ((s[k]'hlt).toNat : Int) = c := ⟨_, rfl⟩
            rw [hc] at hst
            have hle := fun w => letter_any c w
            have hdi := fun w => digit_any c w
            have hsm : smI c = ((wdI c || digI c) && !(decide (65 ≤ c) && decide (c ≤ 90))) := rfl
            have HN : smI c = false → Hid (isWordL s.data.toList = false) := fun z => by show _ = _; rw [HF.out, hst.2 z]; simp; omega
            have HY : smI c = true → Hid (k + 1 ≤ runN smI s.data.toList) := fun z => hst.1 z
            clear hst
            cases hwc : wdI c <;> cases hdc : digI c
            · have HQ := HN (by rw [hsm, hwc, hdc]; rfl)
              rw [hwc] at hle
              rw [hdc] at hdi
              clear HN HY hsm hwc hdc
              go_wp2_with (first | (go_at_call 16; refine (hle _).mono ?_; rintro e w' ⟨rfl, rfl⟩) | (go_at_call 17; refine (hdi _).mono ?_; rintro e w' ⟨rfl, rfl⟩))
              go_ret
              exact ⟨ret_bool HQ.out.symm, rfl⟩
            all_goals
              rw [hwc] at hle
              rw [hdc] at hdi
              by_cases u1 : 65 ≤ c
              · by_cases u2 : c ≤ 90
                · have HQ := HN (by rw [hsm, hwc, hdc]; simp [u1, u2])
                  clear HN HY hsm hwc hdc
                  go_wp2_with (first | (go_at_call 16; refine (hle _).mono ?_; rintro e w' ⟨rfl, rfl⟩) | (go_at_call 17; refine (hdi _).mono ?_; rintro e w' ⟨rfl, rfl⟩))
                  go_ret
                  exact ⟨ret_bool HQ.out.symm, rfl⟩
                · have HQ := HY (by rw [hsm, hwc, hdc]; simp [u2])
                  clear HN HY hsm hwc hdc
                  go_wp2_with (first | (go_at_call 16; refine (hle _).mono ?_; rintro e w' ⟨rfl, rfl⟩) | (go_at_call 17; refine (hdi _).mono ?_; rintro e w' ⟨rfl, rfl⟩))
                  go_round
                  case rel => exact ⟨k + 1, by omega, HQ.out, by go_num⟩
                  case measure => simp [intOf]; omega
              · have HQ := HY (by rw [hsm, hwc, hdc]; simp [u1])
                clear HN HY hsm hwc hdc
                go_wp2_with (first | (go_at_call 16; refine (hle _).mono ?_; rintro e w' ⟨rfl, rfl⟩) | (go_at_call 17; refine (hdi _).mono ?_; rintro e w' ⟨rfl, rfl⟩))
                go_round
                case rel => exact ⟨k + 1, by omega, HQ.out, by go_num⟩
                case measure => simp [intOf]; omega
          · have hfull := runN_end smI s.data.toList k hr (by simp; omega)
            have HQ : Hid (isWordL s.data.toList = true) := by
              show _ = _
              rw [HF.out, hfull]; simp; omega
            clear hfull hr
            have hlti : ¬ (k : Int) < s.size := by omega
            go_wp2
            go_ret
            exact ⟨ret_bool HQ.out.symm, rfl⟩
    · have h30i : (30 : Int) < s.size := by omega
      have HF : Hid (isWordL s.data.toList = false) := by show _ = _; rw [HE'.out]; simp [h30]
      go_enter Tryd.func11, Tryd.ntmps11
      go_wp2
      go_ret
      exact ⟨ret_bool HF.out.symm, rfl⟩
  · have h1i : (s.size : Int) < 1 := by omega
    have HF : Hid (isWordL s.data.toList = false) := by show _ = _; rw [HE'.out]; simp [h1]
    go_enter Tryd.func11, Tryd.ntmps11
    go_wp2
    go_ret
    exact ⟨ret_bool HF.out.symm, rfl⟩
end Go.Proofs.YtjpcgnkgdaphoaaDoor
