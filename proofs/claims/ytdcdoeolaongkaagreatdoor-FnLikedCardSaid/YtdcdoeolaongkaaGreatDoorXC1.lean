import Derived.Test.YtdcdoeolaongkaaGreatDoorU1
import Derived.Test.YtdcdoeolaongkaaGreatDoorK4
import Derived.Test.YtdcdoeolaongkaaGreatDoorP3
import Derived.Test.YtdcdoeolaongkaaGreatDoorS2
namespace Go.Proofs.YtdcdoeolaongkaaGreatDoor
open Go.ChangeShapes Go.WideShapes Go.ChangeAt Go.RowKit Go.Shelf
set_option linter.unusedVariables false
set_option linter.unusedSimpArgs false
set_option maxRecDepth 100000
def sgn (a b : Int) : Int := if a < b then -1 else if b < a then 1 else 0
def cmpID (n u : Int) : Int := sgn (n * 10000) u
theorem sgn_bd (a b : Int) : -1 ≤ sgn a b ∧ sgn a b ≤ 1 := by unfold sgn; split <;> (try split) <;> omega
theorem sign_any (a b : Int) (w : World) : Calls Tryz.prog 143 #[.int .i64 a, .int .i64 b] w fun e w' => e = .returned (.int .i64 (sgn a b)) ∧ w' = w := by
  go_enter Tryz.func143, Tryz.ntmps143
  go_wp2
  all_goals
    go_ret
    refine ⟨ret_int ?_, rfl⟩
    go_light
    unfold sgn
    split <;> (try split) <;> omega
theorem cmpInt_any (a b : Int) (w : World) : Calls Tryz.prog 120 #[.int .i64 a, .int .i64 b] w fun e w' => e = .returned (.int .i64 (sgn a b)) ∧ w' = w := by
  go_enter Tryz.func120, Tryz.ntmps120
  go_wp2
  all_goals
    go_ret
    refine ⟨ret_int ?_, rfl⟩
    go_light
    unfold sgn
    split <;> (try split) <;> (try simp_all) <;> omega
def dU (n : Int) : Int × Int := if -99999999999999 ≤ n ∧ n ≤ 99999999999999 then (n * 10000, 0) else (0, 13)
theorem decUnits_any (n : Int) (w : World) : Calls Tryz.prog 48 #[.int .i64 n] w fun e w' => e = .returned (.tuple #[.int .i64 (dU n).1, .int .i64 (dU n).2]) ∧ w' = w := by
  by_cases h : -99999999999999 ≤ n ∧ n ≤ 99999999999999
  · have HD : Hid (dU n = (n * 10000, 0)) := (by unfold dU; rw [if_pos h] : dU n = (n * 10000, 0))
    obtain ⟨h1, h2⟩ := h
    have d1 : decide (-99999999999999 ≤ n) = true := by simpa using h1
    have d2 : decide (n ≤ 99999999999999) = true := by simpa using h2
    rw [HD.out]
    go_enter Tryz.func48, Tryz.ntmps48
    go_wp2_with (go_at_call 52; refine (within_any _ _ _ _).mono ?_; rintro e w' ⟨rfl, rfl⟩)
    go_ret2
    exact ⟨rfl, rfl⟩
  · have HD : Hid (dU n = (0, 13)) := (by unfold dU; rw [if_neg h] : dU n = (0, 13))
    rw [HD.out]
    have hd : (decide (-99999999999999 ≤ n) && decide (n ≤ 99999999999999)) = false := by simp; omega
    clear h
    go_enter Tryz.func48, Tryz.ntmps48
    go_wp2_with (go_at_call 52; refine (within_any _ _ _ _).mono ?_; rw [hd]; rintro e w' ⟨rfl, rfl⟩)
    go_ret2
    exact ⟨rfl, rfl⟩
theorem intDec_impl (n u : Int) (w : World) (hu : -999999999999999999 ≤ u ∧ u ≤ 999999999999999999) : Calls Tryz.prog 121 #[.int .i64 n, .int .i64 u] w fun e w' => e = .returned (.int .i64 (cmpID n u)) ∧ w' = w := by
  by_cases h : -99999999999999 ≤ n ∧ n ≤ 99999999999999
  · have HD : Hid (dU n = (n * 10000, 0)) := (by unfold dU; rw [if_pos h] : dU n = (n * 10000, 0))
    clear h
    go_enter Tryz.func121, Tryz.ntmps121
    go_wp2_with (first | (go_at_call 48; refine (decUnits_any _ _).mono ?_; rw [HD.out]; rintro e w' ⟨rfl, rfl⟩) | (go_at_call 120; refine (cmpInt_any _ _ _).mono ?_; rintro e w' ⟨rfl, rfl⟩))
    go_ret
    exact ⟨rfl, rfl⟩
  · have HD : Hid (dU n = (0, 13)) := (by unfold dU; rw [if_neg h] : dU n = (0, 13))
    have HC : Hid (sgn n 0 = cmpID n u) := (by unfold cmpID sgn; split <;> split <;> (try split) <;> (try split) <;> omega : sgn n 0 = cmpID n u)
    clear h hu
    go_enter Tryz.func121, Tryz.ntmps121
    go_wp2_with (first | (go_at_call 48; refine (decUnits_any _ _).mono ?_; rw [HD.out]; rintro e w' ⟨rfl, rfl⟩) | (go_at_call 120; refine (cmpInt_any _ _ _).mono ?_; rintro e w' ⟨rfl, rfl⟩))
    go_ret
    exact ⟨ret_int HC.out, rfl⟩
theorem tqC (u : Int) : u = u.tdiv 10000 * 10000 + u.tmod 10000 ∧ u.tmod 10000 < 10000 ∧ -10000 < u.tmod 10000 ∧ (0 ≤ u → 0 ≤ u.tmod 10000) ∧ (u ≤ 0 → u.tmod 10000 ≤ 0) := by
  have h1 := Int.mul_tdiv_add_tmod u 10000
  have h2 := Int.tmod_lt_of_pos u (show (0 : Int) < 10000 by decide)
  have h3 : 0 ≤ u → 0 ≤ u.tmod 10000 := fun h => Int.tmod_nonneg _ h
  have h4 : u ≤ 0 → u.tmod 10000 ≤ 0 := fun h => by
    have e := Int.neg_tmod (-u) 10000
    rw [Int.neg_neg] at e
    have := Int.tmod_nonneg 10000 (show 0 ≤ -u by omega)
    omega
  have h5 : -10000 < u.tmod 10000 := by
    have e := Int.neg_tmod (-u) 10000
    rw [Int.neg_neg] at e
    have := Int.tmod_lt_of_pos (-u) (show (0 : Int) < 10000 by decide)
    omega
  exact ⟨by omega, h2, h5, h3, h4⟩
theorem intDec_spec (n u : Int) (w : World) (hu : -999999999999999999 ≤ u ∧ u ≤ 999999999999999999) : Calls Tryz.prog 145 #[.int .i64 n, .int .i64 u] w fun e w' => e = .returned (.int .i64 (cmpID n u)) ∧ w' = w := by
  obtain ⟨h1, h2⟩ := hu
  go_enter Tryz.func145, Tryz.ntmps145
  go_wp2_with (go_at_call 143; refine (sign_any _ _ _).mono ?_; rintro e w' ⟨rfl, rfl⟩)
  all_goals
    go_ret
    refine ⟨ret_int ?_, rfl⟩
    go_light
    have ht := tqC u
    try unfold wrap64 at *
    unfold cmpID sgn
    generalize u.tdiv 10000 = q at *
    generalize u.tmod 10000 = r at *
    simp only [bne_iff_ne, ne_eq, bne_eq_false_iff_eq] at *
    repeat' split
    all_goals omega
/-- The order of two values that go together. -/
def ordV (k1 n1 : Int) (s1 : ByteArray) (k2 n2 : Int) (s2 : ByteArray) : Int :=
  if k1 = 3 ∧ k2 = 3 then Lib.compareBytes s1.data.toList s2.data.toList
  else if k1 = k2 then sgn n1 n2
  else if k1 = 0 then -1
  else if k2 = 0 then 1
  else if k1 = 1 then cmpID n1 n2
  else - cmpID n2 n1
def together (k1 k2 : Int) : Bool := k1 == 0 || k2 == 0 || k1 == k2 || (k1 == 1 && k2 == 2) || (k1 == 2 && k2 == 1)
theorem opk_eq (k1 k2 : Int) (h1 : 0 ≤ k1 ∧ k1 ≤ 5) (h2 : 0 ≤ k2 ∧ k2 ≤ 5) : Ok.opk 7 k1 k2 = if together k1 k2 then 4 else -1 := by
  have e1 : k1 = 0 ∨ k1 = 1 ∨ k1 = 2 ∨ k1 = 3 ∨ k1 = 4 ∨ k1 = 5 := by omega
  have e2 : k2 = 0 ∨ k2 = 1 ∨ k2 = 2 ∨ k2 = 3 ∨ k2 = 4 ∨ k2 = 5 := by omega
  rcases e1 with rfl | rfl | rfl | rfl | rfl | rfl <;> rcases e2 with rfl | rfl | rfl | rfl | rfl | rfl <;> decide
end Go.Proofs.YtdcdoeolaongkaaGreatDoor
