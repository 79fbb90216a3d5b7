import Derived.Test.YtdcdoeolaongkaaGreatDoorK3
namespace Go.Proofs.YtdcdoeolaongkaaGreatDoor.Ok
open Go.ChangeShapes Go.WideShapes Go.ChangeAt Go.RowKit
set_option linter.unusedVariables false
theorem within_any (n a b : Int) (w : World) : Calls Tryz.prog 52 #[.int .i64 n, .int .i64 a, .int .i64 b] w fun e w' => e = .returned (.bool (decide (a ≤ n) && decide (n ≤ b))) ∧ w' = w := by
  go_enter Tryz.func52, Tryz.ntmps52
  go_wp2
  all_goals
    go_ret
    refine ⟨ret_bool ?_, rfl⟩
    go_light
    grind
theorem clo_1 (bp bq : Nat) (op b k : Int) (w : World) (h1 : 1 ≤ op) (h2 : op ≤ 15) (hc1 : w.cell? ⟨bp, 0, none⟩ = some (.int .i64 op)) (hc2 : w.cell? ⟨bq, 0, none⟩ = some (.int .i64 b)) :
    Calls Tryz.prog 116 #[.int .i64 k, .pointer (some ⟨bp, 0, none⟩), .pointer (some ⟨bq, 0, none⟩)] w fun e w' => e = .returned (.int .i64 (binK op k b)) ∧ w' = w := by
  go_enter Tryz.func116, Tryz.ntmps116
  go_wp2_with (go_at_call 117; refine (binaryKind _ _ _ _ h1 h2).mono ?_; rintro e w' ⟨rfl, rfl⟩)
  go_ret
  exact ⟨rfl, rfl⟩
set_option maxRecDepth 100000 in
set_option maxHeartbeats 1000000 in
theorem first_1 (bp bq : Nat) (op b : Int) (w : World) (h1 : 1 ≤ op) (h2 : op ≤ 15) (hc1 : w.cell? ⟨bp, 0, none⟩ = some (.int .i64 op)) (hc2 : w.cell? ⟨bq, 0, none⟩ = some (.int .i64 b)) :
    Calls Tryz.prog 115 #[.func (.func 116) #[] #[.pointer (some ⟨bp, 0, none⟩), .pointer (some ⟨bq, 0, none⟩)]] w fun e w' => e = .returned (.int .i64 (firstK (fun k => binK op k b))) ∧ w' = w := by
  go_enter Tryz.func115, Tryz.ntmps115
  go_wp2
  go_loop [3, 4] (fun k _ => ∃ j : Nat, 1 ≤ j ∧ j ≤ 6 ∧ k = .int .i64 j ∧ ∀ k : Int, 1 ≤ k → k < j → binK op k b < 0) (fun k _ => (6 - intOf k).toNat)
  case atStart => exact ⟨1, by omega, by omega, rfl, fun i h h' => by omega⟩
  case round =>
    obtain ⟨j, hj1, hj2, rfl, hno⟩ := hrel
    have HN : Hid (∀ k : Int, 1 ≤ k → k < j → binK op k b < 0) := hno
    clear hno
    by_cases hlt : j ≤ 5
    · by_cases hr : 0 ≤ binK op j b
      · have hr' : (binK op j b != -1) = true := by rw [bne_iff_ne]; omega
        go_wp2_with (go_at_call 116; refine (clo_1 _ _ _ _ _ _ h1 h2 hc1 hc2).mono ?_; rintro e w' ⟨rfl, rfl⟩)
        go_ret
        refine ⟨ret_int ?_, rfl⟩
        rw [firstK_at (fun k => binK op k b) j (by omega) (by omega) HN.out hr]
      · have hr' : (binK op j b != -1) = false := by rw [binK_cases _ _ _ hr]; rfl
        go_wp2_with (go_at_call 116; refine (clo_1 _ _ _ _ _ _ h1 h2 hc1 hc2).mono ?_; rintro e w' ⟨rfl, rfl⟩)
        go_round
        case rel =>
          refine ⟨j + 1, by omega, by omega, by go_num, fun i h h' => ?_⟩
          by_cases e : i = j
          · rw [e]; omega
          · exact HN.out i h (by omega)
        case measure => simp [intOf]; omega
    · go_wp2
      go_ret
      refine ⟨ret_int ?_, rfl⟩
      rw [firstK_none _ (fun i h h' => HN.out i h (by omega))]
theorem clo_2 (bp bq : Nat) (op b k : Int) (w : World) (h1 : 1 ≤ op) (h2 : op ≤ 15) (hc1 : w.cell? ⟨bp, 0, none⟩ = some (.int .i64 op)) (hc2 : w.cell? ⟨bq, 0, none⟩ = some (.int .i64 b)) :
    Calls Tryz.prog 118 #[.int .i64 k, .pointer (some ⟨bp, 0, none⟩), .pointer (some ⟨bq, 0, none⟩)] w fun e w' => e = .returned (.int .i64 (binK op b k)) ∧ w' = w := by
  go_enter Tryz.func118, Tryz.ntmps118
  go_wp2_with (go_at_call 117; refine (binaryKind _ _ _ _ h1 h2).mono ?_; rintro e w' ⟨rfl, rfl⟩)
  go_ret
  exact ⟨rfl, rfl⟩
set_option maxRecDepth 100000 in
set_option maxHeartbeats 1000000 in
theorem first_2 (bp bq : Nat) (op b : Int) (w : World) (h1 : 1 ≤ op) (h2 : op ≤ 15) (hc1 : w.cell? ⟨bp, 0, none⟩ = some (.int .i64 op)) (hc2 : w.cell? ⟨bq, 0, none⟩ = some (.int .i64 b)) :
    Calls Tryz.prog 115 #[.func (.func 118) #[] #[.pointer (some ⟨bp, 0, none⟩), .pointer (some ⟨bq, 0, none⟩)]] w fun e w' => e = .returned (.int .i64 (firstK (fun k => binK op b k))) ∧ w' = w := by
  go_enter Tryz.func115, Tryz.ntmps115
  go_wp2
  go_loop [3, 4] (fun k _ => ∃ j : Nat, 1 ≤ j ∧ j ≤ 6 ∧ k = .int .i64 j ∧ ∀ k : Int, 1 ≤ k → k < j → binK op b k < 0) (fun k _ => (6 - intOf k).toNat)
  case atStart => exact ⟨1, by omega, by omega, rfl, fun i h h' => by omega⟩
  case round =>
    obtain ⟨j, hj1, hj2, rfl, hno⟩ := hrel
    have HN : Hid (∀ k : Int, 1 ≤ k → k < j → binK op b k < 0) := hno
    clear hno
    by_cases hlt : j ≤ 5
    · by_cases hr : 0 ≤ binK op b j
      · have hr' : (binK op b j != -1) = true := by rw [bne_iff_ne]; omega
        go_wp2_with (go_at_call 118; refine (clo_2 _ _ _ _ _ _ h1 h2 hc1 hc2).mono ?_; rintro e w' ⟨rfl, rfl⟩)
        go_ret
        refine ⟨ret_int ?_, rfl⟩
        rw [firstK_at (fun k => binK op b k) j (by omega) (by omega) HN.out hr]
      · have hr' : (binK op b j != -1) = false := by rw [binK_cases _ _ _ hr]; rfl
        go_wp2_with (go_at_call 118; refine (clo_2 _ _ _ _ _ _ h1 h2 hc1 hc2).mono ?_; rintro e w' ⟨rfl, rfl⟩)
        go_round
        case rel =>
          refine ⟨j + 1, by omega, by omega, by go_num, fun i h h' => ?_⟩
          by_cases e : i = j
          · rw [e]; omega
          · exact HN.out i h (by omega)
        case measure => simp [intOf]; omega
    · go_wp2
      go_ret
      refine ⟨ret_int ?_, rfl⟩
      rw [firstK_none _ (fun i h h' => HN.out i h (by omega))]

theorem firstK_const (r : Int) (h : 0 ≤ r ∨ r = -1) : firstK (fun _ => r) = r := by
  simp only [firstK]; grind
theorem opk_E {op a b : Int} (h1 : 1 ≤ op) (h2 : op ≤ 15) (ha : isK a = true) (hb : isK b = true) (ea : (a == 0) = true) (eb : (b == 0) = false) : firstK (fun k => binK op k b) = opk op a b := by
  have ea : a = 0 := by simpa using ea
  have eb : ¬ b = 0 := by simpa using eb
  rw [opk_loop h1 h2 (isK_yes ha) (isK_yes hb) (by omega)]
  congr 1; funext k; simp [put0, ea, eb]
theorem opk_F {op a b : Int} (h1 : 1 ≤ op) (h2 : op ≤ 15) (ha : isK a = true) (hb : isK b = true) (ea : (a == 0) = false) (eb : (b == 0) = true) : firstK (fun k => binK op a k) = opk op a b := by
  have ea : ¬ a = 0 := by simpa using ea
  have eb : b = 0 := by simpa using eb
  rw [opk_loop h1 h2 (isK_yes ha) (isK_yes hb) (by omega)]
  congr 1; funext k; simp [put0, ea, eb]
theorem opk_G {op a b : Int} (h1 : 1 ≤ op) (h2 : op ≤ 15) (ha : isK a = true) (hb : isK b = true) (ea : (a == 0) = false) (eb : (b == 0) = false) : binK op a b = opk op a b := by
  have ea : ¬ a = 0 := by simpa using ea
  have eb : ¬ b = 0 := by simpa using eb
  rw [opk_loop h1 h2 (isK_yes ha) (isK_yes hb) (by omega)]
  have : (fun k => binK op (put0 a k) (put0 b k)) = fun _ => binK op a b := by funext k; simp [put0, ea, eb]
  rw [this, firstK_const]
  by_cases h : 0 ≤ binK op a b
  · exact .inl h
  · exact .inr (binK_cases _ _ _ h)
set_option maxRecDepth 100000 in
set_option maxHeartbeats 1000000 in
theorem opKind_impl_loop (op a b : Int) (w : World) (h1 : 1 ≤ op) (h2 : op ≤ 15) (ha : isK a = true) (hb : isK b = true) (hn : ¬ (a = 0 ∧ b = 0)) : Calls Tryz.prog 56 #[.int .i64 op, .int .i64 a, .int .i64 b] w fun e w' => e = .returned (.int .i64 (opk op a b)) ∧ Below w.heap.size w w' := by
  have k1 : decide (16 ≤ op) = false := by simp; omega
  have k2 : decide (1 ≤ op) = true := by simp; omega
  have k3 : decide (op ≤ 15) = true := by simp; omega
  have cs : ((a == 0) = true ∧ (b == 0) = false) ∨ ((a == 0) = false ∧ (b == 0) = true) ∨ ((a == 0) = false ∧ (b == 0) = false) := by
    simp only [beq_iff_eq, beq_eq_false_iff_ne, ne_eq]; omega
  clear hn
  rcases cs with ⟨ea, eb⟩ | ⟨ea, eb⟩ | ⟨ea, eb⟩
  · have HO : Hid (firstK (fun k => binK op k b) = opk op a b) := opk_E h1 h2 ha hb ea eb
    go_enter Tryz.func56, Tryz.ntmps56
    go_wp2_with (first | (go_at_call 40; refine (isKind_impl _ _).mono ?_; rintro e w' ⟨rfl, rfl⟩) | (go_at_call 52; refine (within_any _ _ _ _).mono ?_; rintro e w' ⟨rfl, rfl⟩))
    refine (first_1 _ _ op b _ h1 h2 ?_ ?_).mono ?_
    · simp [go_sem]
    · simp [go_sem]
    rintro e w' ⟨rfl, rfl⟩
    go_wp2
    go_ret
    exact ⟨ret_int HO.out, by repeat (first | exact Below.refl _ _ | refine Below.alloc ?_ (by simp; try omega) _)⟩
  · have HO : Hid (firstK (fun k => binK op a k) = opk op a b) := opk_F h1 h2 ha hb ea eb
    go_enter Tryz.func56, Tryz.ntmps56
    go_wp2_with (first | (go_at_call 40; refine (isKind_impl _ _).mono ?_; rintro e w' ⟨rfl, rfl⟩) | (go_at_call 52; refine (within_any _ _ _ _).mono ?_; rintro e w' ⟨rfl, rfl⟩))
    refine (first_2 _ _ op a _ h1 h2 ?_ ?_).mono ?_
    · simp [go_sem]
    · simp [go_sem]
    rintro e w' ⟨rfl, rfl⟩
    go_wp2
    go_ret
    exact ⟨ret_int HO.out, by repeat (first | exact Below.refl _ _ | refine Below.alloc ?_ (by simp; try omega) _)⟩
  · have HO : Hid (binK op a b = opk op a b) := opk_G h1 h2 ha hb ea eb
    go_enter Tryz.func56, Tryz.ntmps56
    go_wp2_with (first | (go_at_call 40; refine (isKind_impl _ _).mono ?_; rintro e w' ⟨rfl, rfl⟩) | (go_at_call 52; refine (within_any _ _ _ _).mono ?_; rintro e w' ⟨rfl, rfl⟩) | (go_at_call 117; refine (binaryKind _ _ _ _ h1 h2).mono ?_; rintro e w' ⟨rfl, rfl⟩))
    go_ret
    exact ⟨ret_int HO.out, by repeat (first | exact Below.refl _ _ | refine Below.alloc ?_ (by simp; try omega) _)⟩
set_option maxRecDepth 100000 in
set_option maxHeartbeats 1000000 in
theorem opKind_impl (op a b : Int) (w : World) : Calls Tryz.prog 56 #[.int .i64 op, .int .i64 a, .int .i64 b] w fun e w' => e = .returned (.int .i64 (opk op a b)) ∧ Below w.heap.size w w' := by
  by_cases hc : ((1 ≤ op ∧ op ≤ 15) ∧ isK a = true ∧ isK b = true) ∧ ¬ (a = 0 ∧ b = 0)
  · exact opKind_impl_loop op a b w hc.1.1.1 hc.1.1.2 hc.1.2.1 hc.1.2.2 hc.2
  · have cs : isK a = false ∨ (isK a = true ∧ decide (16 ≤ op) = true ∧ decide (op ≤ 18) = true) ∨ (isK a = true ∧ decide (16 ≤ op) = false ∧ decide (1 ≤ op) = false) ∨ (isK a = true ∧ decide (16 ≤ op) = true ∧ decide (op ≤ 18) = false ∧ decide (1 ≤ op) = true ∧ decide (op ≤ 15) = false) ∨ (isK a = true ∧ isK b = false ∧ decide (16 ≤ op) = false ∧ decide (1 ≤ op) = true ∧ decide (op ≤ 15) = true) ∨ (isK a = true ∧ isK b = true ∧ decide (16 ≤ op) = false ∧ decide (1 ≤ op) = true ∧ decide (op ≤ 15) = true ∧ (a == 0) = true ∧ (b == 0) = true) := by
      simp only [beq_iff_eq, decide_eq_true_eq, decide_eq_false_iff_not]
      grind
    clear hc
    rcases cs with ha | ⟨ha, k1, k2⟩ | ⟨ha, k1, k2⟩ | ⟨ha, k1, k2, k3, k4⟩ | ⟨ha, hb, k1, k2, k3⟩ | ⟨ha, hb, k1, k2, k3, ea, eb⟩
    all_goals
      go_enter Tryz.func56, Tryz.ntmps56
      go_wp2_with (first | (go_at_call 40; refine (isKind_impl _ _).mono ?_; rintro e w' ⟨rfl, rfl⟩) | (go_at_call 52; refine (within_any _ _ _ _).mono ?_; rintro e w' ⟨rfl, rfl⟩) | go_in)
      all_goals
        go_ret
        refine ⟨ret_int ?_, by repeat (first | exact Below.refl _ _ | refine Below.alloc ?_ (by simp; try omega) _)⟩
        go_light
        try simp only [isK] at ha
        try simp only [isK] at hb
        simp only [opk, unK, nullsK]
        grind
end Go.Proofs.YtdcdoeolaongkaaGreatDoor.Ok
