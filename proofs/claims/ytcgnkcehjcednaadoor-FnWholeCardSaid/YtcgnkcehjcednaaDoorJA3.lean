import Derived.Test.YtcgnkcehjcednaaDoorJA2
namespace Go.Proofs.YtcgnkcehjcednaaDoor
open Go.ChangeShapes Go.WideShapes Go.ChangeAt Go.RowKit Go.Shelf
set_option linter.unusedVariables false
set_option linter.unusedSimpArgs false
set_option maxRecDepth 100000
namespace Ar
def bd (x : Int) : Int × Int := if -999999999999999999 ≤ x ∧ x ≤ 999999999999999999 then (x, 0) else (0, 13)
/-- It is a Dec's number of units. -/
def inD (x : Int) : Prop := -999999999999999999 ≤ x ∧ x ≤ 999999999999999999
/-- Add, Sub, Mod of Decs. -/
def dR (op a b : Int) : Int × Int :=
  if op = 1 then bd (a + b) else if op = 2 then bd (a - b) else if b = 0 then (0, 14) else (a.tmod b, 0)
theorem tmod_le {a b : Int} (ba : inD a) : inD (a.tmod b) := by
  unfold inD at *
  have e : (a.tmod b).natAbs = a.natAbs % b.natAbs := Int.natAbs_tmod a b
  have h1 : a.natAbs % b.natAbs ≤ a.natAbs := Nat.mod_le _ _
  omega
theorem bounded_any (x : Int) (w : World) : Calls Tryd.prog 164 #[.int .i64 x] w fun e w' => e = .returned (.tuple #[.int .i64 (bd x).1, .int .i64 (bd x).2]) ∧ w' = w := by
  by_cases h : -999999999999999999 ≤ x ∧ x ≤ 999999999999999999
  · have HD : Hid (bd x = (x, 0)) := (by unfold bd; rw [if_pos h] : bd x = (x, 0))
    have hd : (decide (-999999999999999999 ≤ x) && decide (x ≤ 999999999999999999)) = true := by simp; omega
    rw [HD.out]
    clear h
    go_enter Tryd.func164, Tryd.ntmps164
    go_wp2_with (go_at_call 77; refine (within_any _ _ _ _).mono ?_; rw [hd]; rintro e w' ⟨rfl, rfl⟩)
    go_ret2
    exact ⟨rfl, rfl⟩
  · have HD : Hid (bd x = (0, 13)) := (by unfold bd; rw [if_neg h] : bd x = (0, 13))
    have hd : (decide (-999999999999999999 ≤ x) && decide (x ≤ 999999999999999999)) = false := by simp; omega
    rw [HD.out]
    clear h
    go_enter Tryd.func164, Tryd.ntmps164
    go_wp2_with (go_at_call 77; refine (within_any _ _ _ _).mono ?_; rw [hd]; rintro e w' ⟨rfl, rfl⟩)
    go_ret2
    exact ⟨rfl, rfl⟩
set_option maxHeartbeats 4000000 in
theorem decArith_any (op a b : Int) (w : World) (ho : op = 1 ∨ op = 2 ∨ op = 5) (ba : inD a) (bb : inD b) : Calls Tryd.prog 136 #[.int .i64 op, .int .i64 a, .int .i64 b] w fun e w' => e = .returned (.tuple #[.int .i64 (dR op a b).1, .int .i64 (dR op a b).2]) ∧ w' = w := by
  have B1 := ba
  have B2 := bb
  unfold inD at B1 B2
  rcases ho with rfl | rfl | rfl
  · have HR : Hid (dR 1 a b = bd (a + b)) := (by simp [dR] : dR 1 a b = bd (a + b))
    rw [HR.out]
    go_enter Tryd.func136, Tryd.ntmps136
    go_wp2_with (go_at_call 164; refine (bounded_any (a + b) _).mono ?_; rintro e w' ⟨rfl, rfl⟩)
    go_ret2
    exact ⟨rfl, rfl⟩
  · have HR : Hid (dR 2 a b = bd (a - b)) := (by simp [dR] : dR 2 a b = bd (a - b))
    rw [HR.out]
    go_enter Tryd.func136, Tryd.ntmps136
    go_wp2_with (go_at_call 164; refine (bounded_any (a - b) _).mono ?_; rintro e w' ⟨rfl, rfl⟩)
    go_ret2
    exact ⟨rfl, rfl⟩
  · by_cases b0 : b = 0
    · subst b0
      have HR : Hid (dR 5 a 0 = (0, 14)) := (by simp [dR] : dR 5 a 0 = (0, 14))
      rw [HR.out]
      go_enter Tryd.func136, Tryd.ntmps136
      go_wp2
      go_ret2
      exact ⟨rfl, rfl⟩
    · have e0 : (b == 0) = false := by simpa using b0
      have HR : Hid (dR 5 a b = (a.tmod b, 0)) := (by simp [dR, b0] : dR 5 a b = (a.tmod b, 0))
      have HB : Hid (inD (a.tmod b)) := tmod_le ba
      rw [HR.out]
      go_enter Tryd.func136, Tryd.ntmps136
      go_wp2
      go_ret2
      refine ⟨ret_two ?_ rfl, rfl⟩
      go_light
      have := HB.out
      unfold inD at this
      first | (simp only [wrap64]; omega) | rfl
set_option maxHeartbeats 4000000 in
theorem l01Ints_any (op a b : Int) (w : World) (ho : op = 1 ∨ op = 4 ∨ op = 5) (ba : inI a) (bb : inI b) : Calls Tryd.prog 75 #[.int .i64 op, .int .i64 a, .int .i64 b] w fun e w' => e = .returned (.tuple #[.int .i64 (iR op a b).1, .int .i64 (iR op a b).2]) ∧ w' = w := by
  have B1 := ba
  have B2 := bb
  unfold inI at B1 B2
  rcases ho with rfl | rfl | rfl
  · have HR : Hid (iR 1 a b = add64 a b) := (by simp [iR] : iR 1 a b = add64 a b)
    rw [HR.out]
    by_cases hr : -9223372036854775808 ≤ a + b ∧ a + b ≤ 9223372036854775807
    · have HA : Hid (add64 a b = (a + b, 0)) := (by unfold add64; rw [if_pos hr] : add64 a b = (a + b, 0))
      obtain ⟨r1, r2⟩ := hr
      rw [HA.out]
      by_cases ha : 0 ≤ a
      · have d1 : decide (0 ≤ a) = true := by simpa using ha
        by_cases hb : 0 ≤ b
        · have d2 : decide (0 ≤ b) = true := by simpa using hb
          have d3 : decide (0 ≤ a + b) = true := by simp; omega
          go_enter Tryd.func75, Tryd.ntmps75
          go_wp2
          go_ret2
          exact ⟨rfl, rfl⟩
        · have d2 : decide (0 ≤ b) = false := by simpa using hb
          go_enter Tryd.func75, Tryd.ntmps75
          go_wp2
          go_ret2
          exact ⟨rfl, rfl⟩
      · have d1 : decide (0 ≤ a) = false := by simpa using ha
        by_cases hb : 0 ≤ b
        · have d2 : decide (0 ≤ b) = true := by simpa using hb
          go_enter Tryd.func75, Tryd.ntmps75
          go_wp2
          go_ret2
          exact ⟨rfl, rfl⟩
        · have d2 : decide (0 ≤ b) = false := by simpa using hb
          have d3 : decide (0 ≤ a + b) = false := by simp; omega
          go_enter Tryd.func75, Tryd.ntmps75
          go_wp2
          go_ret2
          exact ⟨rfl, rfl⟩
    · have HA : Hid (add64 a b = (0, 13)) := (by unfold add64; rw [if_neg hr] : add64 a b = (0, 13))
      rw [HA.out]
      by_cases ha : 0 ≤ a
      · have hb : 0 ≤ b := by omega
        have d1 : decide (0 ≤ a) = true := by simpa using ha
        have d2 : decide (0 ≤ b) = true := by simpa using hb
        have d3 : decide (0 ≤ wrap64 (a + b)) = false := by simp; unfold wrap64; omega
        have d4 : ¬ (0 ≤ wrap64 (a + b)) := by unfold wrap64; omega
        clear hr
        go_enter Tryd.func75, Tryd.ntmps75
        go_wp2
        go_ret2
        exact ⟨rfl, rfl⟩
      · have hb : ¬ 0 ≤ b := by omega
        have d1 : decide (0 ≤ a) = false := by simpa using ha
        have d2 : decide (0 ≤ b) = false := by simpa using hb
        have d3 : decide (0 ≤ wrap64 (a + b)) = true := by simp; unfold wrap64; omega
        have d4 : 0 ≤ wrap64 (a + b) := by unfold wrap64; omega
        clear hr
        go_enter Tryd.func75, Tryd.ntmps75
        go_wp2
        go_ret2
        exact ⟨rfl, rfl⟩
  · by_cases b0 : b = 0
    · subst b0
      have HR : Hid (iR 4 a 0 = (0, 14)) := (by simp [iR] : iR 4 a 0 = (0, 14))
      rw [HR.out]
      go_enter Tryd.func75, Tryd.ntmps75
      go_wp2
      go_ret2
      exact ⟨rfl, rfl⟩
    · have e0 : (b == 0) = false := by simpa using b0
      by_cases b1 : b = -1
      · subst b1
        by_cases am : a = -9223372036854775808
        · subst am
          have HR : Hid (iR 4 (-9223372036854775808) (-1) = (0, 13)) := (by simp [iR, sub64] : iR 4 (-9223372036854775808) (-1) = (0, 13))
          rw [HR.out]
          go_enter Tryd.func75, Tryd.ntmps75
          go_wp2
          go_ret2
          exact ⟨rfl, rfl⟩
        · have HR : Hid (iR 4 a (-1) = (-a, 0)) := (by simp only [iR]; simp; unfold sub64; rw [if_pos (by omega)]; simp : iR 4 a (-1) = (-a, 0))
          have e1 : (a == -9223372036854775808) = false := by simpa using am
          rw [HR.out]
          go_enter Tryd.func75, Tryd.ntmps75
          go_wp2
          go_ret2
          refine ⟨ret_two ?_ rfl, rfl⟩
          go_light
          first | (simp only [wrap64]; omega) | omega | rfl
      · have e1 : (b == -1) = false := by simpa using b1
        have HR : Hid (iR 4 a b = (a.tdiv b, 0)) := (by simp [iR, b0, b1] : iR 4 a b = (a.tdiv b, 0))
        have HB : Hid (inI (a.tdiv b)) := tdiv_bd ba b0 b1
        rw [HR.out]
        go_enter Tryd.func75, Tryd.ntmps75
        go_wp2
        go_ret2
        refine ⟨ret_two ?_ rfl, rfl⟩
        go_light
        have := HB.out
        unfold inI at this
        first | (simp only [wrap64]; omega) | rfl
  · by_cases b0 : b = 0
    · subst b0
      have HR : Hid (iR 5 a 0 = (0, 14)) := (by simp [iR] : iR 5 a 0 = (0, 14))
      rw [HR.out]
      go_enter Tryd.func75, Tryd.ntmps75
      go_wp2
      go_ret2
      exact ⟨rfl, rfl⟩
    · have e0 : (b == 0) = false := by simpa using b0
      by_cases b1 : b = -1
      · subst b1
        have HR : Hid (iR 5 a (-1) = (0, 0)) := (by simp [iR, Int.tmod_neg] : iR 5 a (-1) = (0, 0))
        rw [HR.out]
        go_enter Tryd.func75, Tryd.ntmps75
        go_wp2
        go_ret2
        exact ⟨rfl, rfl⟩
      · have e1 : (b == -1) = false := by simpa using b1
        have HR : Hid (iR 5 a b = (a.tmod b, 0)) := (by simp [iR, b0] : iR 5 a b = (a.tmod b, 0))
        have HB : Hid (inI (a.tmod b)) := tmod_bd ba
        rw [HR.out]
        go_enter Tryd.func75, Tryd.ntmps75
        go_wp2
        go_ret2
        refine ⟨ret_two ?_ rfl, rfl⟩
        go_light
        have := HB.out
        unfold inI at this
        first | (simp only [wrap64]; omega) | rfl
end Ar
end Go.Proofs.YtcgnkcehjcednaaDoor
