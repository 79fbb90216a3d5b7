import Derived.Test.YtdcdoeolaongkaaGreatDoorD2
namespace Go.Proofs.YtdcdoeolaongkaaGreatDoor.Days
open Go.ChangeShapes Go.WideShapes Go.ChangeAt Go.RowKit
set_option linter.unusedVariables false
theorem results_tmp4 {fn : Func} {t u v x : Tmp} (h : fn.results = #[.tmp t, .tmp u, .tmp v, .tmp x]) (tmps : Array Value) (P : Program) (w : World) :
    (results fn tmps).run P w = .ok (.tuple #[tmps.getD t undef, tmps.getD u undef, tmps.getD v undef, tmps.getD x undef]) w := by
  simp [results, h]
theorem dbef_succ (y : Int) (h : 1 ≤ y) : dbef (y + 1) = dbef y + cumTo y 12 := by
  simp only [cumTo, mdays, dbef]
  simp
  split <;> omega
theorem cum_mono (y : Int) (a b : Nat) (h : a ≤ b) : cumTo y a ≤ cumTo y b := by
  induction b with
  | zero => have : a = 0 := by omega
            subst this; exact Int.le_refl _
  | succ b ih =>
    by_cases e : a = b + 1
    · subst e; exact Int.le_refl _
    · have := ih (by omega); have := mdays_bd y (b + 1); simp only [cumTo]; omega
theorem dbef_mono (a b : Int) (h0 : 1 ≤ a) (h : a ≤ b) : dbef a ≤ dbef b := by unfold dbef; omega
theorem num_in (y m d : Int) (h : vld y m d) : 0 ≤ num y m d + 719162 - dbef y - cumTo y (m - 1).toNat ∧ num y m d + 719162 - dbef y < cumTo y m.toNat ∧ num y m d + 719162 < dbef (y + 1) ∧ dbef y ≤ num y m d + 719162 := by
  obtain ⟨⟨h1, h2⟩, ⟨h3, h4⟩, h5, h6⟩ := h
  have e := cum_step y m.toNat (by omega)
  have e1 : m.toNat - 1 = (m - 1).toNat := by omega
  have e2 : (m.toNat : Int) = m := by omega
  rw [e1, e2] at e
  have c := cum_mono y m.toNat 12 (by omega)
  have s := dbef_succ y h1
  have b := cumTo_bd y (m - 1).toNat
  unfold num
  omega
theorem num_inj (y m d y' m' d' : Int) (h : vld y m d) (h' : vld y' m' d') (e : num y m d = num y' m' d') : y = y' ∧ m = m' ∧ d = d' := by
  have a := num_in y m d h
  have a' := num_in y' m' d' h'
  have ey : y = y' := by
    obtain ⟨⟨h1, h2⟩, _⟩ := h
    obtain ⟨⟨h1', h2'⟩, _⟩ := h'
    by_cases l : y < y'
    · have := dbef_mono (y + 1) y' (by omega) (by omega); omega
    · by_cases l' : y' < y
      · have := dbef_mono (y' + 1) y (by omega) (by omega); omega
      · omega
  subst ey
  have em : m = m' := by
    obtain ⟨_, ⟨h3, h4⟩, _⟩ := h
    obtain ⟨_, ⟨h3', h4'⟩, _⟩ := h'
    by_cases l : m < m'
    · have := cum_mono y m.toNat (m' - 1).toNat (by omega); omega
    · by_cases l' : m' < m
      · have := cum_mono y m'.toNat (m - 1).toNat (by omega); omega
      · omega
  subst em
  refine ⟨rfl, rfl, ?_⟩
  unfold num at e
  omega
theorem num_of (n y : Int) (k : Nat) : num y k (n + 719162 - dbef y - cumTo y (k - 1) + 1) = n := by
  have : ((k : Int) - 1).toNat = k - 1 := by omega
  unfold num; rw [this]; omega
theorem ret_four {k : IntKind} {a b c d a' b' c' d' : Int} (h1 : a = a') (h2 : b = b') (h3 : c = c') (h4 : d = d') : Ending.returned (.tuple #[.int k a, .int k b, .int k c, .int k d]) = .returned (.tuple #[.int k a', .int k b', .int k c', .int k d']) := by rw [h1, h2, h3, h4]
set_option maxHeartbeats 1000000 in
theorem parts_spec_no (n : Int) (w : World) (h : n < -719162 ∨ 2932896 < n) : Calls Tryz.prog 79 #[.int .i64 n] w fun e w' => e = .returned (.tuple #[.int .i64 0, .int .i64 0, .int .i64 0, .int .i64 15]) ∧ w' = w := by
  have h' : n < -719162 ∨ (-719162 ≤ n ∧ 2932896 < n) := by omega
  clear h
  rcases h' with h | ⟨h, g⟩
  all_goals
    go_enter Tryz.func79, Tryz.ntmps79
    go_wp2
    refine bodyPost_ret (results_tmp4 rfl _ _ _) rfl ?_
    exact ⟨rfl, rfl⟩
set_option maxHeartbeats 1000000 in
theorem parts_impl_no (n : Int) (w : World) (h : n < -719162 ∨ 2932896 < n) : Calls Tryz.prog 18 #[.int .i64 n] w fun e w' => e = .returned (.tuple #[.int .i64 0, .int .i64 0, .int .i64 0, .int .i64 15]) ∧ w' = w := by
  have h' : n < -719162 ∨ (-719162 ≤ n ∧ 2932896 < n) := by omega
  clear h
  rcases h' with h | ⟨h, g⟩
  all_goals
    try (have hx : decide (n ≤ 2932896) = false := by simp; omega)
    go_enter Tryz.func18, Tryz.ntmps18
    go_wp2
    refine bodyPost_ret (results_tmp4 rfl _ _ _) rfl ?_
    exact ⟨rfl, rfl⟩
theorem guess (n : Int) (h1 : -719162 ≤ n) (h2 : n ≤ 2932896) : 1 ≤ (n + 719162) / 366 + 1 ∧ (n + 719162) / 366 + 1 ≤ 9999 ∧ dbef ((n + 719162) / 366 + 1) ≤ n + 719162 := by unfold dbef; omega
theorem dbef_top : dbef 10000 = 3652059 := by decide
theorem cum_top (y : Int) : cumTo y 12 ≤ 366 := by
  simp only [cumTo, mdays]; simp; split <;> omega
set_option maxHeartbeats 2000000 in
theorem parts_spec (n : Int) (w : World) (h1 : -719162 ≤ n) (h2 : n ≤ 2932896) : Calls Tryz.prog 79 #[.int .i64 n] w fun e w' => ∃ y m d : Int, e = .returned (.tuple #[.int .i64 y, .int .i64 m, .int .i64 d, .int .i64 0]) ∧ vld y m d ∧ num y m d = n ∧ w' = w := by
  have g0 := guess n h1 h2
  go_enter Tryz.func79, Tryz.ntmps79
  go_wp2
  go_loop [7] (fun t => ∃ y : Int, 1 ≤ y ∧ y ≤ 9999 ∧ dbef y ≤ n + 719162 ∧ t = .int .i64 y) (fun t => (9999 - intOf t).toNat)
  case atStart => exact ⟨_, g0.1, g0.2.1, g0.2.2, by go_num⟩
  case round =>
    obtain ⟨y, hy1, hy2, hy3, rfl⟩ := hrel
    clear g0
    have hb := dbef_bd (y + 1) (by omega) (by omega)
    by_cases hd : dbef (y + 1) ≤ n + 719162
    · have hlt : y < 9999 := by
        by_cases e : y = 9999
        · have := dbef_top; rw [e] at hd; have e2 : dbef (9999 + 1) = dbef 10000 := rfl; omega
        · omega
      go_wp2_with (go_at_call 146; refine (dbef_spec _ _ (by omega) (by omega)).mono ?_; rintro e w' ⟨rfl, rfl⟩)
      go_round
      case rel => exact ⟨y + 1, by omega, by omega, hd, rfl⟩
      case measure => simp [intOf]; omega
    · have hb2 := dbef_bd y hy1 (by omega)
      have hct := cum_top y
      have hs : n + 719162 - dbef y < cumTo y 12 := by have := dbef_succ y hy1; omega
      go_wp2_with (go_at_call 146; refine (dbef_spec _ _ (by omega) (by omega)).mono ?_; rintro e w' ⟨rfl, rfl⟩)
      go_loop [6, 8] (fun r k => ∃ m : Nat, 1 ≤ m ∧ m ≤ 12 ∧ k = .int .i64 m ∧ 0 ≤ n + 719162 - dbef y - cumTo y (m - 1) ∧ r = .int .i64 (n + 719162 - dbef y - cumTo y (m - 1))) (fun _ k => (12 - intOf k).toNat)
      case atStart => exact ⟨1, by omega, by omega, rfl, by simp [cumTo]; omega, by simp [cumTo]⟩
      case round =>
        obtain ⟨m, hm1, hm2, rfl, hr, rfl⟩ := hrel
        have cb := cumTo_bd y (m - 1)
        have db := mdays_bd y m
        have HS : Hid (cumTo y m = cumTo y (m - 1) + mdays y m) := cum_step y m hm1
        by_cases hc : mdays y m ≤ n + 719162 - dbef y - cumTo y (m - 1)
        · have hm : m < 12 := by
            by_cases e : m = 12
            · have := HS.out; rw [e] at this hc; omega
            · omega
          go_wp2_with (go_at_call 147; refine (mdays_spec _ _ _ (by omega) (by omega)).mono ?_; rintro e w' ⟨rfl, rfl⟩)
          go_round
          case rel => exact ⟨m + 1, by omega, by omega, by go_num, by simp only [Nat.add_sub_cancel]; rw [HS.out]; omega, by simp only [Nat.add_sub_cancel]; rw [HS.out]; go_num⟩
          case measure => simp [intOf]; omega
        · go_wp2_with (go_at_call 147; refine (mdays_spec _ _ _ (by omega) (by omega)).mono ?_; rintro e w' ⟨rfl, rfl⟩)
          refine bodyPost_ret (results_tmp4 rfl _ _ _) rfl ?_
          exact ⟨y, m, _, rfl, ⟨⟨hy1, hy2⟩, ⟨by omega, by omega⟩, by omega, by omega⟩, num_of n y m, rfl⟩
theorem within_yes (n a b : Int) (w : World) (h1 : a ≤ n) (h2 : n ≤ b) : Calls Tryz.prog 52 #[.int .i64 n, .int .i64 a, .int .i64 b] w fun e w' => e = .returned (.bool true) ∧ w' = w := by
  have hx : decide (n ≤ b) = true := by simpa using h2
  go_enter Tryz.func52, Tryz.ntmps52
  go_wp2
  go_ret
  exact ⟨rfl, rfl⟩
set_option maxHeartbeats 2000000 in
theorem parts_impl (n : Int) (w : World) (h1 : -719162 ≤ n) (h2 : n ≤ 2932896) : Calls Tryz.prog 18 #[.int .i64 n] w fun e w' => ∃ y m d : Int, e = .returned (.tuple #[.int .i64 y, .int .i64 m, .int .i64 d, .int .i64 0]) ∧ vld y m d ∧ num y m d = n ∧ w' = w := by
  have g0 := guess n h1 h2
  go_enter Tryz.func18, Tryz.ntmps18
  go_wp2_with (go_at_call 52; refine (within_yes _ _ _ _ h1 h2).mono ?_; rintro e w' ⟨rfl, rfl⟩)
  go_loop [7] (fun t => ∃ y : Int, 1 ≤ y ∧ y ≤ 9999 ∧ dbef y ≤ n + 719162 ∧ t = .int .i64 y) (fun t => (9999 - intOf t).toNat)
  case atStart => exact ⟨_, g0.1, g0.2.1, g0.2.2, by go_num⟩
  case round =>
    obtain ⟨y, hy1, hy2, hy3, rfl⟩ := hrel
    clear g0
    have hb := dbef_bd (y + 1) (by omega) (by omega)
    by_cases hd : dbef (y + 1) ≤ n + 719162
    · have hlt : y < 9999 := by
        by_cases e : y = 9999
        · have := dbef_top; rw [e] at hd; have e2 : dbef (9999 + 1) = dbef 10000 := rfl; omega
        · omega
      go_wp2_with (go_at_call 53; refine (dbef_impl _ _ (by omega) (by omega)).mono ?_; rintro e w' ⟨rfl, rfl⟩)
      go_round
      case rel => exact ⟨y + 1, by omega, by omega, hd, rfl⟩
      case measure => simp [intOf]; omega
    · have hb2 := dbef_bd y hy1 (by omega)
      have hct := cum_top y
      have hs : n + 719162 - dbef y < cumTo y 12 := by have := dbef_succ y hy1; omega
      go_wp2_with (go_at_call 53; refine (dbef_impl _ _ (by omega) (by omega)).mono ?_; rintro e w' ⟨rfl, rfl⟩)
      go_loop [6, 8] (fun r k => ∃ m : Nat, 1 ≤ m ∧ m ≤ 12 ∧ k = .int .i64 m ∧ 0 ≤ n + 719162 - dbef y - cumTo y (m - 1) ∧ r = .int .i64 (n + 719162 - dbef y - cumTo y (m - 1))) (fun _ k => (12 - intOf k).toNat)
      case atStart => exact ⟨1, by omega, by omega, rfl, by simp [cumTo]; omega, by simp [cumTo]⟩
      case round =>
        obtain ⟨m, hm1, hm2, rfl, hr, rfl⟩ := hrel
        have cb := cumTo_bd y (m - 1)
        have db := mdays_bd y m
        have HS : Hid (cumTo y m = cumTo y (m - 1) + mdays y m) := cum_step y m hm1
        by_cases hc : mdays y m ≤ n + 719162 - dbef y - cumTo y (m - 1)
        · have hm : m < 12 := by
            by_cases e : m = 12
            · have := HS.out; rw [e] at this hc; omega
            · omega
          go_wp2_with (go_at_call 54; refine (mdays_impl _ _ _ (by omega) (by omega)).mono ?_; rintro e w' ⟨rfl, rfl⟩)
          go_round
          case rel => exact ⟨m + 1, by omega, by omega, by go_num, by simp only [Nat.add_sub_cancel]; rw [HS.out]; omega, by simp only [Nat.add_sub_cancel]; rw [HS.out]; go_num⟩
          case measure => simp [intOf]; omega
        · go_wp2_with (go_at_call 54; refine (mdays_impl _ _ _ (by omega) (by omega)).mono ?_; rintro e w' ⟨rfl, rfl⟩)
          refine bodyPost_ret (results_tmp4 rfl _ _ _) rfl ?_
          exact ⟨y, m, _, rfl, ⟨⟨hy1, hy2⟩, ⟨by omega, by omega⟩, by omega, by omega⟩, num_of n y m, rfl⟩
end Go.Proofs.YtdcdoeolaongkaaGreatDoor.Days
