import Derived.Test.YtdcdoeolaongkaaGreatDoorD3
namespace Go.Proofs.YtdcdoeolaongkaaGreatDoor.Days
open Go.ChangeShapes Go.WideShapes Go.ChangeAt Go.RowKit
set_option maxHeartbeats 1000000 in
theorem dateOf_spec_no (y m d : Int) (w : World) (h : ¬ vld y m d) : Calls Tryz.prog 178 #[.int .i64 y, .int .i64 m, .int .i64 d] w fun e w' => e = .returned (.tuple #[.int .i64 0, .int .i64 15]) ∧ w' = w := by
  unfold vld at h
  have e : y < 1 ∨ (1 ≤ y ∧ 9999 < y) ∨ (1 ≤ y ∧ y ≤ 9999 ∧ m < 1) ∨ (1 ≤ y ∧ y ≤ 9999 ∧ 1 ≤ m ∧ 12 < m) ∨ (1 ≤ y ∧ y ≤ 9999 ∧ 1 ≤ m ∧ m ≤ 12 ∧ d < 1) ∨ (1 ≤ y ∧ y ≤ 9999 ∧ 1 ≤ m ∧ m ≤ 12 ∧ 1 ≤ d ∧ mdays y m < d) := by omega
  clear h
  rcases e with h | ⟨h1, h2⟩ | ⟨h1, h2, h3⟩ | ⟨h1, h2, h3, h4⟩ | ⟨h1, h2, h3, h4, h5⟩ | ⟨h1, h2, h3, h4, h5, h6⟩
  all_goals
    go_enter Tryz.func178, Tryz.ntmps178
    go_wp2_with (go_at_call 147; refine (mdays_spec _ _ _ (by omega) (by omega)).mono ?_; rintro e w' ⟨rfl, rfl⟩)
    go_ret2
    exact ⟨rfl, rfl⟩
set_option maxHeartbeats 1000000 in
theorem dateOf_impl_no (y m d : Int) (w : World) (h : ¬ vld y m d) : Calls Tryz.prog 19 #[.int .i64 y, .int .i64 m, .int .i64 d] w fun e w' => e = .returned (.tuple #[.int .i64 0, .int .i64 15]) ∧ w' = w := by
  unfold vld at h
  have e : y < 1 ∨ (1 ≤ y ∧ 9999 < y) ∨ (1 ≤ y ∧ y ≤ 9999 ∧ m < 1) ∨ (1 ≤ y ∧ y ≤ 9999 ∧ 1 ≤ m ∧ 12 < m) ∨ (1 ≤ y ∧ y ≤ 9999 ∧ 1 ≤ m ∧ m ≤ 12 ∧ d < 1) ∨ (1 ≤ y ∧ y ≤ 9999 ∧ 1 ≤ m ∧ m ≤ 12 ∧ 1 ≤ d ∧ mdays y m < d) := by omega
  clear h
  rcases e with h | ⟨h1, h2⟩ | ⟨h1, h2, h3⟩ | ⟨h1, h2, h3, h4⟩ | ⟨h1, h2, h3, h4, h5⟩ | ⟨h1, h2, h3, h4, h5, h6⟩
  all_goals
    try (have hx : decide (d ≤ mdays y m) = false := by simp; omega)
    go_enter Tryz.func19, Tryz.ntmps19
    go_wp2_with (first | (go_at_call 54; refine (mdays_impl _ _ _ (by omega) (by omega)).mono ?_; rintro e w' ⟨rfl, rfl⟩) | go_in)
    go_ret2
    exact ⟨rfl, rfl⟩
set_option maxHeartbeats 1000000 in
theorem dateOf_spec_yes (y m d : Int) (w : World) (h : vld y m d) : Calls Tryz.prog 178 #[.int .i64 y, .int .i64 m, .int .i64 d] w fun e w' => e = .returned (.tuple #[.int .i64 (num y m d), .int .i64 0]) ∧ w' = w := by
  obtain ⟨⟨h1, h2⟩, ⟨h3, h4⟩, h5, h6⟩ := h
  have hb := dbef_bd y h1 (by omega)
  have hm := mdays_bd y m
  go_enter Tryz.func178, Tryz.ntmps178
  go_wp2_with (first | (go_at_call 147; refine (mdays_spec _ _ _ (by omega) (by omega)).mono ?_; rintro e w' ⟨rfl, rfl⟩) | (go_at_call 146; refine (dbef_spec _ _ (by omega) (by omega)).mono ?_; rintro e w' ⟨rfl, rfl⟩))
  go_loop [8, 9] (fun n i => ∃ k : Nat, 1 ≤ k ∧ (k : Int) ≤ m ∧ i = .int .i64 k ∧ n = .int .i64 (-719162 + dbef y + d - 1 + cumTo y (k - 1))) (fun _ i => (m - intOf i).toNat)
  case atStart => exact ⟨1, by omega, by omega, rfl, by simp [cumTo]⟩
  case round =>
    obtain ⟨k, hk1, hk2, rfl, rfl⟩ := hrel
    have hc := cumTo_bd y (k - 1)
    have hmd := mdays_bd y k
    by_cases hlt : (k : Int) < m
    · have HS : Hid (cumTo y k = cumTo y (k - 1) + mdays y k) := cum_step y k hk1
      go_wp2_with (go_at_call 147; refine (mdays_spec _ _ _ (by omega) (by omega)).mono ?_; rintro e w' ⟨rfl, rfl⟩)
      go_round
      case rel => exact ⟨k + 1, by omega, by omega, by go_num, by simp only [Nat.add_sub_cancel]; rw [HS.out]; go_num⟩
      case measure => simp [intOf]; omega
    · have HE : Hid ((m - 1).toNat = k - 1) := (by omega : (m - 1).toNat = k - 1)
      go_wp2
      go_ret2
      exact ⟨ret_two (by unfold num; rw [HE.out]) rfl, rfl⟩
set_option maxHeartbeats 1000000 in
theorem dateOf_impl_yes (y m d : Int) (w : World) (h : vld y m d) : Calls Tryz.prog 19 #[.int .i64 y, .int .i64 m, .int .i64 d] w fun e w' => e = .returned (.tuple #[.int .i64 (num y m d), .int .i64 0]) ∧ w' = w := by
  obtain ⟨⟨h1, h2⟩, ⟨h3, h4⟩, h5, h6⟩ := h
  have hb := dbef_bd y h1 (by omega)
  have hm := mdays_bd y m
  have hx : decide (d ≤ mdays y m) = true := by simp; omega
  go_enter Tryz.func19, Tryz.ntmps19
  go_wp2_with (first | (go_at_call 54; refine (mdays_impl _ _ _ (by omega) (by omega)).mono ?_; rintro e w' ⟨rfl, rfl⟩) | (go_at_call 53; refine (dbef_impl _ _ (by omega) (by omega)).mono ?_; rintro e w' ⟨rfl, rfl⟩) | go_in)
  go_loop [8, 9] (fun n i => ∃ k : Nat, 1 ≤ k ∧ (k : Int) ≤ m ∧ i = .int .i64 k ∧ n = .int .i64 (-719162 + dbef y + d - 1 + cumTo y (k - 1))) (fun _ i => (m - intOf i).toNat)
  case atStart => exact ⟨1, by omega, by omega, rfl, by simp [cumTo]⟩
  case round =>
    obtain ⟨k, hk1, hk2, rfl, rfl⟩ := hrel
    have hc := cumTo_bd y (k - 1)
    have hmd := mdays_bd y k
    by_cases hlt : (k : Int) < m
    · have HS : Hid (cumTo y k = cumTo y (k - 1) + mdays y k) := cum_step y k hk1
      go_wp2_with (go_at_call 54; refine (mdays_impl _ _ _ (by omega) (by omega)).mono ?_; rintro e w' ⟨rfl, rfl⟩)
      go_round
      case rel => exact ⟨k + 1, by omega, by omega, by go_num, by simp only [Nat.add_sub_cancel]; rw [HS.out]; go_num⟩
      case measure => simp [intOf]; omega
    · have HE : Hid ((m - 1).toNat = k - 1) := (by omega : (m - 1).toNat = k - 1)
      go_wp2
      go_ret2
      exact ⟨ret_two (by unfold num; rw [HE.out]) rfl, rfl⟩
end Go.Proofs.YtdcdoeolaongkaaGreatDoor.Days
