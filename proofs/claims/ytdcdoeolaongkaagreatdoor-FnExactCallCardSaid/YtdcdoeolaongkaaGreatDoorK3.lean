import Derived.Test.YtdcdoeolaongkaaGreatDoorK2
namespace Go.Proofs.YtdcdoeolaongkaaGreatDoor.Ok
open Go.ChangeShapes Go.WideShapes Go.ChangeAt Go.RowKit
set_option linter.unusedVariables false
def firstK (f : Int → Int) : Int := if 0 ≤ f 1 then f 1 else if 0 ≤ f 2 then f 2 else if 0 ≤ f 3 then f 3 else if 0 ≤ f 4 then f 4 else if 0 ≤ f 5 then f 5 else -1
def put0 (a k : Int) : Int := if a = 0 then k else a
def nullsK (op : Int) : Int := if op ≤ 5 then 0 else if op = 6 then 3 else 4
def unK (op a : Int) : Int := if op = 18 then 4 else if op = 16 then (if a = 4 ∨ a = 0 then 4 else -1) else (if a = 1 ∨ a = 2 ∨ a = 0 then a else -1)
def opk (op a b : Int) : Int :=
  if a < 0 ∨ 5 < a then -1
  else if 16 ≤ op ∧ op ≤ 18 then unK op a
  else if op < 1 ∨ 18 < op ∨ b < 0 ∨ 5 < b then -1
  else if a = 0 ∧ b = 0 then nullsK op
  else firstK (fun k => binK op (put0 a k) (put0 b k))
theorem firstK_at (f : Int → Int) (k : Int) (h1 : 1 ≤ k) (h2 : k ≤ 5) (hn : ∀ j : Int, 1 ≤ j → j < k → f j < 0) (h : 0 ≤ f k) : firstK f = f k := by
  have e : k = 1 ∨ k = 2 ∨ k = 3 ∨ k = 4 ∨ k = 5 := by omega
  have k1 := hn 1; have k2 := hn 2; have k3 := hn 3; have k4 := hn 4
  rcases e with rfl | rfl | rfl | rfl | rfl <;> simp only [firstK] <;> grind
theorem firstK_none (f : Int → Int) (hn : ∀ j : Int, 1 ≤ j → j < 6 → f j < 0) : firstK f = -1 := by
  have k1 := hn 1; have k2 := hn 2; have k3 := hn 3; have k4 := hn 4; have k5 := hn 5
  simp only [firstK]; grind

def isK (k : Int) : Bool := decide (0 ≤ k) && decide (k ≤ 5)
theorem isK_yes {k : Int} (h : isK k = true) : 0 ≤ k ∧ k ≤ 5 := by simpa [isK] using h
theorem isK_no {k : Int} (h : isK k = false) : k < 0 ∨ 5 < k := by simp [isK] at h; omega
theorem isKind_spec (k : Int) (w : World) : Calls Tryz.prog 36 #[.int .i64 k] w fun e w' => e = .returned (.bool (isK k)) ∧ w' = w := by
  go_enter Tryz.func36, Tryz.ntmps36
  go_wp2
  all_goals
    go_ret
    refine ⟨ret_bool ?_, rfl⟩
    go_light
    simp only [isK]
    grind
theorem isKind_impl (k : Int) (w : World) : Calls Tryz.prog 40 #[.int .i64 k] w fun e w' => e = .returned (.bool (isK k)) ∧ w' = w := by
  go_enter Tryz.func40, Tryz.ntmps40
  go_wp2
  all_goals
    go_ret
    refine ⟨ret_bool ?_, rfl⟩
    go_light
    simp only [isK]
    grind
theorem binK_cases (op a b : Int) (h : ¬ 0 ≤ binK op a b) : binK op a b = -1 := by
  revert h; simp only [binK, numK]; grind
theorem opk_loop {op a b : Int} (h1 : 1 ≤ op) (h2 : op ≤ 15) (ha : 0 ≤ a ∧ a ≤ 5) (hb : 0 ≤ b ∧ b ≤ 5) (hn : ¬ (a = 0 ∧ b = 0)) : opk op a b = firstK (fun k => binK op (put0 a k) (put0 b k)) := by
  unfold opk
  rw [if_neg (by omega), if_neg (by omega), if_neg (by omega), if_neg hn]
set_option maxRecDepth 100000 in
set_option maxHeartbeats 1000000 in
theorem opKind_spec_loop (op a b : Int) (w : World) (h1 : 1 ≤ op) (h2 : op ≤ 15) (ha : isK a = true) (hb : isK b = true) (hn : ¬ (a = 0 ∧ b = 0)) : Calls Tryz.prog 38 #[.int .i64 op, .int .i64 a, .int .i64 b] w fun e w' => e = .returned (.int .i64 (opk op a b)) ∧ w' = w := by
  have HO : Hid (opk op a b = firstK (fun k => binK op (put0 a k) (put0 b k))) := opk_loop h1 h2 (isK_yes ha) (isK_yes hb) hn
  have cs : ((a == 0) = true ∧ (b == 0) = false) ∨ ((a == 0) = false ∧ (b == 0) = true) ∨ ((a == 0) = false ∧ (b == 0) = false) := by
    simp only [beq_iff_eq, beq_eq_false_iff_ne, ne_eq]; omega
  clear hn
  rcases cs with ⟨ea, eb⟩ | ⟨ea, eb⟩ | ⟨ea, eb⟩
  · have ea' : Hid (a = 0) := (by simpa using ea : a = 0)
    have eb' : Hid (¬ b = 0) := (by simpa using eb : ¬ b = 0)
    go_enter Tryz.func38, Tryz.ntmps38
    go_wp2_with (first | (go_at_call 36; refine (isKind_spec _ _).mono ?_; rintro e w' ⟨rfl, rfl⟩))
    go_loop [7, 8, 9, 10] (fun k _ _ _ => ∃ j : Nat, 1 ≤ j ∧ j ≤ 6 ∧ k = .int .i64 j ∧ ∀ i : Int, 1 ≤ i → i < j → binK op (put0 a i) (put0 b i) < 0) (fun k _ _ _ => (6 - intOf k).toNat)
    case atStart => exact ⟨1, by omega, by omega, rfl, fun i h h' => by omega⟩
    case round =>
      obtain ⟨j, hj1, hj2, rfl, hno⟩ := hrel
      have HN : Hid (∀ i : Int, 1 ≤ i → i < j → binK op (put0 a i) (put0 b i) < 0) := hno
      clear hno
      have HE : Hid (binK op (put0 a j) (put0 b j) = binK op j b) := (by simp [put0, ea'.out, eb'.out] : binK op (put0 a j) (put0 b j) = binK op j b)
      by_cases hlt : j ≤ 5
      · by_cases hr : 0 ≤ binK op j b
        · go_wp2_with (first | (go_at_call 81; refine (plain2 _ _ _ _ h1 h2).mono ?_; rintro e w' ⟨rfl, rfl⟩))
          go_ret
          refine ⟨ret_int ?_, rfl⟩
          rw [HO.out, firstK_at _ j (by omega) (by omega) HN.out (by show 0 ≤ binK op (put0 a j) (put0 b j); rw [HE.out]; exact hr)]
          exact HE.out.symm
        · go_wp2_with (first | (go_at_call 81; refine (plain2 _ _ _ _ h1 h2).mono ?_; rintro e w' ⟨rfl, rfl⟩))
          go_round
          case rel =>
            refine ⟨j + 1, by omega, by omega, by go_num, fun i h h' => ?_⟩
            by_cases e : i = j
            · rw [e, HE.out]; omega
            · exact HN.out i h (by omega)
          case measure => simp [intOf]; omega
      · go_wp2
        go_ret
        refine ⟨ret_int ?_, rfl⟩
        rw [HO.out, firstK_none _ (fun i h h' => HN.out i h (by omega))]
  · have ea' : Hid (¬ a = 0) := (by simpa using ea : ¬ a = 0)
    have eb' : Hid (b = 0) := (by simpa using eb : b = 0)
    go_enter Tryz.func38, Tryz.ntmps38
    go_wp2_with (first | (go_at_call 36; refine (isKind_spec _ _).mono ?_; rintro e w' ⟨rfl, rfl⟩))
    go_loop [7, 8, 9, 10] (fun k _ _ _ => ∃ j : Nat, 1 ≤ j ∧ j ≤ 6 ∧ k = .int .i64 j ∧ ∀ i : Int, 1 ≤ i → i < j → binK op (put0 a i) (put0 b i) < 0) (fun k _ _ _ => (6 - intOf k).toNat)
    case atStart => exact ⟨1, by omega, by omega, rfl, fun i h h' => by omega⟩
    case round =>
      obtain ⟨j, hj1, hj2, rfl, hno⟩ := hrel
      have HN : Hid (∀ i : Int, 1 ≤ i → i < j → binK op (put0 a i) (put0 b i) < 0) := hno
      clear hno
      have HE : Hid (binK op (put0 a j) (put0 b j) = binK op a j) := (by simp [put0, ea'.out, eb'.out] : binK op (put0 a j) (put0 b j) = binK op a j)
      by_cases hlt : j ≤ 5
      · by_cases hr : 0 ≤ binK op a j
        · go_wp2_with (first | (go_at_call 81; refine (plain2 _ _ _ _ h1 h2).mono ?_; rintro e w' ⟨rfl, rfl⟩))
          go_ret
          refine ⟨ret_int ?_, rfl⟩
          rw [HO.out, firstK_at _ j (by omega) (by omega) HN.out (by show 0 ≤ binK op (put0 a j) (put0 b j); rw [HE.out]; exact hr)]
          exact HE.out.symm
        · go_wp2_with (first | (go_at_call 81; refine (plain2 _ _ _ _ h1 h2).mono ?_; rintro e w' ⟨rfl, rfl⟩))
          go_round
          case rel =>
            refine ⟨j + 1, by omega, by omega, by go_num, fun i h h' => ?_⟩
            by_cases e : i = j
            · rw [e, HE.out]; omega
            · exact HN.out i h (by omega)
          case measure => simp [intOf]; omega
      · go_wp2
        go_ret
        refine ⟨ret_int ?_, rfl⟩
        rw [HO.out, firstK_none _ (fun i h h' => HN.out i h (by omega))]
  · have ea' : Hid (¬ a = 0) := (by simpa using ea : ¬ a = 0)
    have eb' : Hid (¬ b = 0) := (by simpa using eb : ¬ b = 0)
    go_enter Tryz.func38, Tryz.ntmps38
    go_wp2_with (first | (go_at_call 36; refine (isKind_spec _ _).mono ?_; rintro e w' ⟨rfl, rfl⟩))
    go_loop [7, 8, 9, 10] (fun k _ _ _ => ∃ j : Nat, 1 ≤ j ∧ j ≤ 6 ∧ k = .int .i64 j ∧ ∀ i : Int, 1 ≤ i → i < j → binK op (put0 a i) (put0 b i) < 0) (fun k _ _ _ => (6 - intOf k).toNat)
    case atStart => exact ⟨1, by omega, by omega, rfl, fun i h h' => by omega⟩
    case round =>
      obtain ⟨j, hj1, hj2, rfl, hno⟩ := hrel
      have HN : Hid (∀ i : Int, 1 ≤ i → i < j → binK op (put0 a i) (put0 b i) < 0) := hno
      clear hno
      have HE : Hid (binK op (put0 a j) (put0 b j) = binK op a b) := (by simp [put0, ea'.out, eb'.out] : binK op (put0 a j) (put0 b j) = binK op a b)
      by_cases hlt : j ≤ 5
      · by_cases hr : 0 ≤ binK op a b
        · go_wp2_with (first | (go_at_call 81; refine (plain2 _ _ _ _ h1 h2).mono ?_; rintro e w' ⟨rfl, rfl⟩))
          go_ret
          refine ⟨ret_int ?_, rfl⟩
          rw [HO.out, firstK_at _ j (by omega) (by omega) HN.out (by show 0 ≤ binK op (put0 a j) (put0 b j); rw [HE.out]; exact hr)]
          exact HE.out.symm
        · go_wp2_with (first | (go_at_call 81; refine (plain2 _ _ _ _ h1 h2).mono ?_; rintro e w' ⟨rfl, rfl⟩))
          go_round
          case rel =>
            refine ⟨j + 1, by omega, by omega, by go_num, fun i h h' => ?_⟩
            by_cases e : i = j
            · rw [e, HE.out]; omega
            · exact HN.out i h (by omega)
          case measure => simp [intOf]; omega
      · go_wp2
        go_ret
        refine ⟨ret_int ?_, rfl⟩
        rw [HO.out, firstK_none _ (fun i h h' => HN.out i h (by omega))]

set_option maxRecDepth 100000 in
set_option maxHeartbeats 1000000 in
theorem opKind_spec (op a b : Int) (w : World) : Calls Tryz.prog 38 #[.int .i64 op, .int .i64 a, .int .i64 b] w fun e w' => e = .returned (.int .i64 (opk op a b)) ∧ w' = w := by
  by_cases hc : ((1 ≤ op ∧ op ≤ 15) ∧ isK a = true ∧ isK b = true) ∧ ¬ (a = 0 ∧ b = 0)
  · exact opKind_spec_loop op a b w hc.1.1.1 hc.1.1.2 hc.1.2.1 hc.1.2.2 hc.2
  · have cs : op < 1 ∨ (1 ≤ op ∧ 18 < op) ∨ (1 ≤ op ∧ op ≤ 18 ∧ isK a = false) ∨ (16 ≤ op ∧ op ≤ 18 ∧ isK a = true) ∨ (1 ≤ op ∧ op ≤ 15 ∧ isK a = true ∧ isK b = false) ∨ (1 ≤ op ∧ op ≤ 15 ∧ isK a = true ∧ isK b = true ∧ (a == 0) = true ∧ (b == 0) = true) := by
      simp only [beq_iff_eq]
      grind
    clear hc
    rcases cs with h | ⟨h, h'⟩ | ⟨h, h', ha⟩ | ⟨h, h', ha⟩ | ⟨h, h', ha, hb⟩ | ⟨h, h', ha, hb, ea, eb⟩
    all_goals
      go_enter Tryz.func38, Tryz.ntmps38
      go_wp2_with (first | (go_at_call 36; refine (isKind_spec _ _).mono ?_; rintro e w' ⟨rfl, rfl⟩) | go_in)
      all_goals
        go_ret
        refine ⟨ret_int ?_, rfl⟩
        go_light
        try simp only [isK] at ha
        try simp only [isK] at hb
        simp only [opk, unK, nullsK]
        grind
end Go.Proofs.YtdcdoeolaongkaaGreatDoor.Ok
