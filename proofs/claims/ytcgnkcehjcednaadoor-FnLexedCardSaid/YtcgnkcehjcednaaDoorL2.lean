import Derived.Test.YtcgnkcehjcednaaDoorL1
namespace Go.Proofs.YtcgnkcehjcednaaDoor
open Go.ChangeShapes Go.WideShapes Go.ChangeAt Go.RowKit Go.Shelf
set_option linter.unusedVariables false
set_option linter.unusedSimpArgs false
set_option maxHeartbeats 400000 in
theorem countAhead_any (g : Nat) (p : Int → Bool) (hg : Sorts g p) (s : ByteArray) (w : World) (hs : s.size ≤ maxLen) :
    Calls Tryd.prog 99 #[.string s, .func (.func g) #[] #[]] w fun e w' => e = .returned (.int .i64 (runN p s.data.toList)) ∧ w' = w := by
  unfold maxLen at hs
  have eg := hg.1
  have hc := hg.2
  go_enter Tryd.func99, Tryd.ntmps99
  go_wp2
  go_loop [5] (fun i => ∃ k : Nat, k ≤ s.size ∧ k ≤ runN p s.data.toList ∧ i = .int .i64 k) (fun i => s.size - (intOf i).toNat)
  case atStart => exact ⟨0, Nat.zero_le _, Nat.zero_le _, rfl⟩
  case round =>
    obtain ⟨k, hk, hr, rfl⟩ := hrel
    by_cases hlt : k < s.size
    · have hst := runN_step p s.data.toList k _ hr (bl_get s k hlt)
      cases hp : p ((s[k]'hlt).toNat : Int)
      · have h2 : Hid (runN p s.data.toList = k) := hst.2 hp
        clear hst
        have hc' := fun w => hc ((s[k]'hlt).toNat : Int) w
        rw [hp] at hc'
        go_wp2_with (go_at_fn g; refine (hc' _).mono ?_; rintro e w' ⟨rfl, rfl⟩)
        go_ret
        exact ⟨ret_int (by rw [h2.out]), rfl⟩
      · have h2 : Hid (k + 1 ≤ runN p s.data.toList) := hst.1 hp
        clear hst
        have hc' := fun w => hc ((s[k]'hlt).toNat : Int) w
        rw [hp] at hc'
        go_wp2_with (go_at_fn g; refine (hc' _).mono ?_; rintro e w' ⟨rfl, rfl⟩)
        go_round
        case rel => exact ⟨k + 1, by omega, h2.out, by go_num⟩
        case measure => simp [intOf]; omega
    · go_wp2
      go_ret
      refine ⟨ret_int ?_, rfl⟩
      have := runN_end p s.data.toList k hr (by simp; omega)
      rw [this]
      have : k = s.size := by omega
      rw [this]
set_option maxHeartbeats 800000 in
theorem run_any (s : ByteArray) (a : Nat) (h : Bool) (w : World) (hs : s.size ≤ maxLen) (ha : a ≤ s.size) :
    Calls Tryd.prog 93 #[.string s, .int .i64 a, .int .i64 (if h then 0 else 1)] w fun e w' => e = .returned (.int .i64 (runN (if h then goI else digI) (s.data.toList.drop a))) ∧ w' = w := by
  unfold maxLen at hs
  cases h
  all_goals
    simp only [Bool.false_eq_true, if_false, if_true]
    go_enter Tryd.func93, Tryd.ntmps93
    go_wp2
  · go_loop [7] (fun i => ∃ k : Nat, a + k ≤ s.size ∧ k ≤ runN digI (s.data.toList.drop a) ∧ i = .int .i64 k) (fun i => s.size - a - (intOf i).toNat)
    case atStart => exact ⟨0, by omega, Nat.zero_le _, rfl⟩
    case round =>
      obtain ⟨k, hk, hr, rfl⟩ := hrel
      by_cases hlt : a + k < s.size
      · have hst := runN_step digI _ k _ hr (bl_drop s a k hlt)
        cases hp : digI ((s[a + k]'hlt).toNat : Int)
        · have h2 : Hid (runN digI (s.data.toList.drop a) = k) := hst.2 hp
          clear hst
          have hc' := fun w => digit_any ((s[a + k]'hlt).toNat : Int) w
          rw [hp] at hc'
          go_wp2_with (go_at_call 91; refine (hc' _).mono ?_; rintro e w' ⟨rfl, rfl⟩)
          go_ret
          exact ⟨ret_int (by rw [h2.out]), rfl⟩
        · have h2 : Hid (k + 1 ≤ runN digI (s.data.toList.drop a)) := hst.1 hp
          clear hst
          have hc' := fun w => digit_any ((s[a + k]'hlt).toNat : Int) w
          rw [hp] at hc'
          go_wp2_with (go_at_call 91; refine (hc' _).mono ?_; rintro e w' ⟨rfl, rfl⟩)
          go_round
          case rel => exact ⟨k + 1, by omega, h2.out, by go_num⟩
          case measure => simp [intOf]; omega
      · go_wp2
        go_ret
        refine ⟨ret_int ?_, rfl⟩
        have := runN_end digI (s.data.toList.drop a) k hr (by simp; omega)
        rw [this]
  · go_loop [7] (fun i => ∃ k : Nat, a + k ≤ s.size ∧ k ≤ runN goI (s.data.toList.drop a) ∧ i = .int .i64 k) (fun i => s.size - a - (intOf i).toNat)
    case atStart => exact ⟨0, by omega, Nat.zero_le _, rfl⟩
    case round =>
      obtain ⟨k, hk, hr, rfl⟩ := hrel
      by_cases hlt : a + k < s.size
      · have hst := runN_step goI _ k _ hr (bl_drop s a k hlt)
        have hgo : goI ((s[a + k]'hlt).toNat : Int) = (wdI ((s[a + k]'hlt).toNat : Int) || digI ((s[a + k]'hlt).toNat : Int)) := rfl
        cases hp : digI ((s[a + k]'hlt).toNat : Int) <;> cases hq : wdI ((s[a + k]'hlt).toNat : Int)
        · have h2 : Hid (runN goI (s.data.toList.drop a) = k) := hst.2 (by rw [hgo, hp, hq]; rfl)
          clear hst hgo
          have hc' := fun w => digit_any ((s[a + k]'hlt).toNat : Int) w
          rw [hp] at hc'
          have hd' := fun w => letter_any ((s[a + k]'hlt).toNat : Int) w
          rw [hq] at hd'
          go_wp2_with (first | (go_at_call 91; refine (hc' _).mono ?_; rintro e w' ⟨rfl, rfl⟩) | (go_at_call 90; refine (hd' _).mono ?_; rintro e w' ⟨rfl, rfl⟩))
          go_ret
          exact ⟨ret_int (by rw [h2.out]), rfl⟩
        all_goals
          have h2 : Hid (k + 1 ≤ runN goI (s.data.toList.drop a)) := hst.1 (by rw [hgo, hp, hq]; rfl)
          clear hst hgo
          have hc' := fun w => digit_any ((s[a + k]'hlt).toNat : Int) w
          rw [hp] at hc'
          have hd' := fun w => letter_any ((s[a + k]'hlt).toNat : Int) w
          rw [hq] at hd'
          go_wp2_with (first | (go_at_call 91; refine (hc' _).mono ?_; rintro e w' ⟨rfl, rfl⟩) | (go_at_call 90; refine (hd' _).mono ?_; rintro e w' ⟨rfl, rfl⟩))
          go_round
          case rel => exact ⟨k + 1, by omega, h2.out, by go_num⟩
          case measure => simp [intOf]; omega
      · go_wp2
        go_ret
        refine ⟨ret_int ?_, rfl⟩
        have := runN_end goI (s.data.toList.drop a) k hr (by simp; omega)
        rw [this]
end Go.Proofs.YtcgnkcehjcednaaDoor
