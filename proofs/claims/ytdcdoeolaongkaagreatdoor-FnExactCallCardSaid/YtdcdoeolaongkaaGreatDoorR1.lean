import Derived.Test.YtdcdoeolaongkaaGreatDoorR0
import Derived.Test.YtdcdoeolaongkaaGreatDoorG5
import Derived.Deep.QuietTactic
import Derived.BigQuiet
namespace Go.Proofs.YtdcdoeolaongkaaGreatDoor.Rd
open Go.ChangeShapes Go.WideShapes Go.ChangeAt Go.RowKit Go.Shelf
set_option linter.unusedVariables false
set_option linter.unusedSimpArgs false
set_option maxRecDepth 100000
def bd (x : Int) : Int × Int := if -999999999999999999 ≤ x ∧ x ≤ 999999999999999999 then (x, 0) else (0, 13)
def sgR (x : Nat) (neg : Bool) : Int × Int := if neg then (if x ≤ 9223372036854775808 then (-(x : Int), 0) else (0, 13)) else (if x < 9223372036854775808 then ((x : Int), 0) else (0, 13))
theorem signed_any (x : Nat) (neg : Bool) (w : World) (hx : x < 18446744073709551616) : Calls Tryz.prog 158 #[.int .u64 (x : Nat), .bool neg] w fun e w' => e = .returned (.tuple #[.int .i64 (sgR x neg).1, .int .i64 (sgR x neg).2]) ∧ w' = w := by
  cases neg with
  | true =>
    by_cases h : (x : Int) ≤ 9223372036854775808
    · have HR : Hid (sgR x true = (-(x : Int), 0)) := (by simp only [sgR, if_true]; rw [if_pos (by omega)] : sgR x true = (-(x : Int), 0))
      rw [HR.out]
      go_enter Tryz.func158, Tryz.ntmps158
      go_wp2
      go_ret2
      refine ⟨ret_two ?_ rfl, rfl⟩
      go_light
      simp only [IntKind.wrap_u64, IntKind.wrap_i64, wrap64] at *
      omega
    · have HR : Hid (sgR x true = (0, 13)) := (by simp only [sgR, if_true]; rw [if_neg (by omega)] : sgR x true = (0, 13))
      rw [HR.out]
      go_enter Tryz.func158, Tryz.ntmps158
      go_wp2
      go_ret2
      exact ⟨rfl, rfl⟩
  | false =>
    by_cases h : (x : Int) < 9223372036854775808
    · have HR : Hid (sgR x false = ((x : Int), 0)) := (by simp only [sgR, Bool.false_eq_true, if_false]; rw [if_pos (by omega)] : sgR x false = ((x : Int), 0))
      rw [HR.out]
      go_enter Tryz.func158, Tryz.ntmps158
      go_wp2
      go_ret2
      refine ⟨ret_two ?_ rfl, rfl⟩
      go_light
      first | rfl | (simp only [IntKind.wrap_u64, IntKind.wrap_i64] at *; omega)
    · have HR : Hid (sgR x false = (0, 13)) := (by simp only [sgR, Bool.false_eq_true, if_false]; rw [if_neg (by omega)] : sgR x false = (0, 13))
      rw [HR.out]
      go_enter Tryz.func158, Tryz.ntmps158
      go_wp2
      go_ret2
      exact ⟨rfl, rfl⟩
theorem bounded_any (x : Int) (w : World) : Calls Tryz.prog 169 #[.int .i64 x] w fun e w' => e = .returned (.tuple #[.int .i64 (bd x).1, .int .i64 (bd x).2]) ∧ w' = w := by
  by_cases h : -999999999999999999 ≤ x ∧ x ≤ 999999999999999999
  · have HD : Hid (bd x = (x, 0)) := (by unfold bd; rw [if_pos h] : bd x = (x, 0))
    have hd : (decide (-999999999999999999 ≤ x) && decide (x ≤ 999999999999999999)) = true := by simp; omega
    rw [HD.out]
    clear h
    go_enter Tryz.func169, Tryz.ntmps169
    go_wp2_with (go_at_call 52; refine (within_any _ _ _ _).mono ?_; rw [hd]; rintro e w' ⟨rfl, rfl⟩)
    go_ret2
    exact ⟨rfl, rfl⟩
  · have HD : Hid (bd x = (0, 13)) := (by unfold bd; rw [if_neg h] : bd x = (0, 13))
    have hd : (decide (-999999999999999999 ≤ x) && decide (x ≤ 999999999999999999)) = false := by simp; omega
    rw [HD.out]
    clear h
    go_enter Tryz.func169, Tryz.ntmps169
    go_wp2_with (go_at_call 52; refine (within_any _ _ _ _).mono ?_; rw [hd]; rintro e w' ⟨rfl, rfl⟩)
    go_ret2
    exact ⟨rfl, rfl⟩
/-- A Dec's units rounded to a whole number. -/
def rndN (m : Nat) : Nat := (m + 5000) / 10000
def rndI (n : Int) : Int := if n < 0 then -(rndN n.natAbs : Int) else rndN n.natAbs
theorem drew_below (w : World) (n : Nat) : Below w.heap.size w (w.drewN n) := ⟨rfl, rfl, rfl, Nat.le_refl _, fun _ _ => rfl⟩
set_option maxHeartbeats 1000000 in
theorem div64_zero (m : Nat) (w : World) (hm : m ≤ 999999999999999999) : Calls Tryz.prog 168 #[.int .u64 0, .int .u64 m, .int .u64 10000] w fun e w' => e = .returned (.tuple #[.int .u64 ((m / 10000 : Nat) : Int), .int .u64 ((m % 10000 : Nat) : Int)]) ∧ Below w.heap.size w w' := by
  have hmi : (m : Int) ≤ 999999999999999999 := by omega
  go_enter Tryz.func168, Tryz.ntmps168
  go_wp2
  go_quiet (fail)
  go_wp2
  go_ret2
  refine ⟨ret_two ?_ ?_, drew_below _ _⟩
  · go_light; omega
  · go_light; omega
theorem sgT {x : Nat} (h : x ≤ 100000000000000) : sgR x true = (-(x : Int), 0) := by unfold sgR; rw [if_pos rfl, if_pos (by omega)]
theorem sgF {x : Nat} (h : x ≤ 100000000000000) : sgR x false = ((x : Int), 0) := by unfold sgR; rw [if_neg (by decide), if_pos (by omega)]
theorem bdI {x : Int} (h1 : -100000000000000 ≤ x) (h2 : x ≤ 100000000000000) : bd x = (x, 0) := by unfold bd; rw [if_pos (by omega)]
def sgV (neg : Bool) (x : Nat) : Int := if neg = true then -(x : Int) else x
theorem rnd_hi {m : Nat} (h : 5000 ≤ m % 10000) : rndN m = m / 10000 + 1 := by unfold rndN; omega
theorem rnd_lo {m : Nat} (h : ¬ 5000 ≤ m % 10000) : rndN m = m / 10000 := by unfold rndN; omega
set_option maxHeartbeats 2000000 in
theorem rq_true (m : Nat) (w : World) (hm : m ≤ 999999999999999999) : Calls Tryz.prog 109 #[.int .u64 0, .int .u64 m, .int .u64 10000, .bool true] w fun e w' => e = .returned (.tuple #[.int .i64 (-(rndN m : Int)), .int .i64 0]) ∧ Below w.heap.size w w' := by
  have hdv := fun w => div64_zero m w hm
  have hq : m / 10000 ≤ 99999999999999 := by omega
  have hr : m % 10000 < 10000 := by omega
  by_cases h5 : 5000 ≤ m % 10000
  · rw [rnd_hi h5]
    generalize m / 10000 = q at *
    generalize m % 10000 = r at *
    have c1 : (r : Int) ≥ 10000 - r := by omega
    have hqi : (q : Int) ≤ 99999999999999 := by omega
    have hri : (r : Int) < 10000 := by omega
    have s1 := fun w => signed_any (q + 1) true w (by omega)
    rw [sgT (by omega)] at s1
    have s2 := fun w => bounded_any (-((q + 1 : Nat) : Int)) w
    rw [bdI (by omega) (by omega)] at s2
    simp only at s1 s2
    have eq1 : ((q + 1 : Nat) : Int) = (q : Int) + 1 := by omega
    rw [eq1] at s1 s2 ⊢
    clear eq1 h5
    go_enter Tryz.func109, Tryz.ntmps109
    go_wp2_with (first | (go_at_call 168; refine (hdv _).mono ?_; rintro e w1 ⟨rfl, b1⟩) | (go_at_call 158; refine (s1 _).mono ?_; rintro e w2 ⟨rfl, rfl⟩) | (go_at_call 169; refine (s2 _).mono ?_; rintro e w3 ⟨rfl, rfl⟩))
    go_ret2
    exact ⟨rfl, b1⟩
  · rw [rnd_lo h5]
    generalize m / 10000 = q at *
    generalize m % 10000 = r at *
    have c1 : ¬ (r : Int) ≥ 10000 - r := by omega
    have hqi : (q : Int) ≤ 99999999999999 := by omega
    have hri : (r : Int) < 10000 := by omega
    have s1 := fun w => signed_any q true w (by omega)
    rw [sgT (by omega)] at s1
    have s2 := fun w => bounded_any (-(q : Int)) w
    rw [bdI (by omega) (by omega)] at s2
    simp only at s1 s2
    clear h5
    go_enter Tryz.func109, Tryz.ntmps109
    go_wp2_with (first | (go_at_call 168; refine (hdv _).mono ?_; rintro e w1 ⟨rfl, b1⟩) | (go_at_call 158; refine (s1 _).mono ?_; rintro e w2 ⟨rfl, rfl⟩) | (go_at_call 169; refine (s2 _).mono ?_; rintro e w3 ⟨rfl, rfl⟩))
    go_ret2
    exact ⟨rfl, b1⟩
set_option maxHeartbeats 2000000 in
theorem rq_false (m : Nat) (w : World) (hm : m ≤ 999999999999999999) : Calls Tryz.prog 109 #[.int .u64 0, .int .u64 m, .int .u64 10000, .bool false] w fun e w' => e = .returned (.tuple #[.int .i64 ((rndN m : Int)), .int .i64 0]) ∧ Below w.heap.size w w' := by
  have hdv := fun w => div64_zero m w hm
  have hq : m / 10000 ≤ 99999999999999 := by omega
  have hr : m % 10000 < 10000 := by omega
  by_cases h5 : 5000 ≤ m % 10000
  · rw [rnd_hi h5]
    generalize m / 10000 = q at *
    generalize m % 10000 = r at *
    have c1 : (r : Int) ≥ 10000 - r := by omega
    have hqi : (q : Int) ≤ 99999999999999 := by omega
    have hri : (r : Int) < 10000 := by omega
    have s1 := fun w => signed_any (q + 1) false w (by omega)
    rw [sgF (by omega)] at s1
    have s2 := fun w => bounded_any (((q + 1 : Nat) : Int)) w
    rw [bdI (by omega) (by omega)] at s2
    simp only at s1 s2
    have eq1 : ((q + 1 : Nat) : Int) = (q : Int) + 1 := by omega
    rw [eq1] at s1 s2 ⊢
    clear eq1 h5
    go_enter Tryz.func109, Tryz.ntmps109
    go_wp2_with (first | (go_at_call 168; refine (hdv _).mono ?_; rintro e w1 ⟨rfl, b1⟩) | (go_at_call 158; refine (s1 _).mono ?_; rintro e w2 ⟨rfl, rfl⟩) | (go_at_call 169; refine (s2 _).mono ?_; rintro e w3 ⟨rfl, rfl⟩))
    go_ret2
    exact ⟨rfl, b1⟩
  · rw [rnd_lo h5]
    generalize m / 10000 = q at *
    generalize m % 10000 = r at *
    have c1 : ¬ (r : Int) ≥ 10000 - r := by omega
    have hqi : (q : Int) ≤ 99999999999999 := by omega
    have hri : (r : Int) < 10000 := by omega
    have s1 := fun w => signed_any q false w (by omega)
    rw [sgF (by omega)] at s1
    have s2 := fun w => bounded_any ((q : Int)) w
    rw [bdI (by omega) (by omega)] at s2
    simp only at s1 s2
    clear h5
    go_enter Tryz.func109, Tryz.ntmps109
    go_wp2_with (first | (go_at_call 168; refine (hdv _).mono ?_; rintro e w1 ⟨rfl, b1⟩) | (go_at_call 158; refine (s1 _).mono ?_; rintro e w2 ⟨rfl, rfl⟩) | (go_at_call 169; refine (s2 _).mono ?_; rintro e w3 ⟨rfl, rfl⟩))
    go_ret2
    exact ⟨rfl, b1⟩
theorem rndI_eq (n : Int) : rndI n = if (decide (n < 0)) = true then -(rndN n.natAbs : Int) else rndN n.natAbs := by unfold rndI; simp
set_option maxHeartbeats 1000000 in
theorem wholeOf_any (n : Int) (w : World) (h1 : -999999999999999999 ≤ n) (h2 : n ≤ 999999999999999999) : Calls Tryz.prog 50 #[.int .i64 n] w fun e w' => e = .returned (.int .i64 (rndI n)) ∧ Below w.heap.size w w' := by
  have hmg := fun w => mag_any n w (in_wf (by omega) (by omega))
  have hrt := fun w => rq_true n.natAbs w (by omega)
  have hrf := fun w => rq_false n.natAbs w (by omega)
  by_cases hn : n < 0
  · have HV : Hid (rndI n = -(rndN n.natAbs : Int)) := (by unfold rndI; rw [if_pos hn] : rndI n = -(rndN n.natAbs : Int))
    have hd : decide (n < 0) = true := by simpa using hn
    generalize rndN n.natAbs = R at *
    generalize n.natAbs = m at *
    clear hrf h1 h2
    go_enter Tryz.func50, Tryz.ntmps50
    go_wp2_with (first | (go_at_call 110; refine (hmg _).mono ?_; rintro e w1 ⟨rfl, rfl⟩) | (go_at_call 109; refine (hrt _).mono ?_; rintro e w2 ⟨rfl, b1⟩))
    go_ret
    exact ⟨ret_int HV.out.symm, b1⟩
  · have HV : Hid (rndI n = (rndN n.natAbs : Int)) := (by unfold rndI; rw [if_neg hn] : rndI n = (rndN n.natAbs : Int))
    have hd : decide (n < 0) = false := by simpa using hn
    generalize rndN n.natAbs = R at *
    generalize n.natAbs = m at *
    clear hrt h1 h2
    go_enter Tryz.func50, Tryz.ntmps50
    go_wp2_with (first | (go_at_call 110; refine (hmg _).mono ?_; rintro e w1 ⟨rfl, rfl⟩) | (go_at_call 109; refine (hrf _).mono ?_; rintro e w2 ⟨rfl, b1⟩))
    go_ret
    exact ⟨ret_int HV.out.symm, b1⟩
set_option maxHeartbeats 1000000 in
theorem round_spec (n : Int) (w : World) (h1 : -999999999999999999 ≤ n) (h2 : n ≤ 999999999999999999) : Calls Tryz.prog 66 #[.int .i64 n] w fun e w' => e = .returned (.int .i64 (rndI n)) ∧ w' = w := by
  have hmg := fun w => size_any n w (in_wf (by omega) (by omega))
  have HE : Hid (rndI n = if n < 0 then -(((n.natAbs + 5000) / 10000 : Nat) : Int) else (((n.natAbs + 5000) / 10000 : Nat) : Int)) := (by unfold rndI rndN; rfl : rndI n = if n < 0 then -(((n.natAbs + 5000) / 10000 : Nat) : Int) else (((n.natAbs + 5000) / 10000 : Nat) : Int))
  have hm : n.natAbs ≤ 999999999999999999 := by omega
  generalize n.natAbs = m at *
  have hmi : (m : Int) ≤ 999999999999999999 := by omega
  by_cases hn : n < 0
  · have HV : Hid (rndI n = -(((m + 5000) / 10000 : Nat) : Int)) := by have := HE.out; rw [if_pos hn] at this; exact this
    clear HE
    go_enter Tryz.func66, Tryz.ntmps66
    go_wp2_with (go_at_call 133; refine (hmg _).mono ?_; rintro e w1 ⟨rfl, rfl⟩)
    go_ret
    refine ⟨ret_int ?_, rfl⟩
    rw [HV.out]
    go_light
    omega
  · have HV : Hid (rndI n = (((m + 5000) / 10000 : Nat) : Int)) := by have := HE.out; rw [if_neg hn] at this; exact this
    clear HE
    go_enter Tryz.func66, Tryz.ntmps66
    go_wp2_with (go_at_call 133; refine (hmg _).mono ?_; rintro e w1 ⟨rfl, rfl⟩)
    go_ret
    refine ⟨ret_int ?_, rfl⟩
    rw [HV.out]
    go_light
    omega
/-- An Int's units. -/
def toU (n : Int) : Int × Int := if -99999999999999 ≤ n ∧ n ≤ 99999999999999 then (n * 10000, 0) else (0, 13)
theorem decUnits_any (n : Int) (w : World) : Calls Tryz.prog 48 #[.int .i64 n] w fun e w' => e = .returned (.tuple #[.int .i64 (toU n).1, .int .i64 (toU n).2]) ∧ w' = w := by
  by_cases h : -99999999999999 ≤ n ∧ n ≤ 99999999999999
  · have HR : Hid (toU n = (n * 10000, 0)) := (by unfold toU; rw [if_pos h] : toU n = (n * 10000, 0))
    have hd : (decide (-99999999999999 ≤ n) && decide (n ≤ 99999999999999)) = true := by simp; omega
    rw [HR.out]
    obtain ⟨h1, h2⟩ := h
    go_enter Tryz.func48, Tryz.ntmps48
    go_wp2_with (go_at_call 52; refine (within_any _ _ _ _).mono ?_; rw [hd]; rintro e w' ⟨rfl, rfl⟩)
    go_ret2
    exact ⟨rfl, rfl⟩
  · have HR : Hid (toU n = (0, 13)) := (by unfold toU; rw [if_neg h] : toU n = (0, 13))
    have hd : (decide (-99999999999999 ≤ n) && decide (n ≤ 99999999999999)) = false := by simp; omega
    rw [HR.out]
    clear h
    go_enter Tryz.func48, Tryz.ntmps48
    go_wp2_with (go_at_call 52; refine (within_any _ _ _ _).mono ?_; rw [hd]; rintro e w' ⟨rfl, rfl⟩)
    go_ret2
    exact ⟨rfl, rfl⟩
theorem toDec_int (n : Int) (s : ByteArray) (w : World) : Calls Tryz.prog 67 #[.agg #[.int .i64 1, .int .i64 n, .string s]] w fun e w' => e = .returned (.tuple #[.int .i64 (toU n).1, .bool ((toU n).2 == 0)]) ∧ Below w.heap.size w w' := by
  by_cases h : -99999999999999 ≤ n ∧ n ≤ 99999999999999
  · have HR : Hid (toU n = (n * 10000, 0)) := (by unfold toU; rw [if_pos h] : toU n = (n * 10000, 0))
    rw [HR.out]
    have h1 : ¬ 99999999999999 < n := by omega
    have h2 : ¬ n < -99999999999999 := by omega
    obtain ⟨h3, h4⟩ := h
    go_enter Tryz.func67, Tryz.ntmps67
    go_wp2
    go_ret2
    exact ⟨rfl, below_alloc _ _⟩
  · have HR : Hid (toU n = (0, 13)) := (by unfold toU; rw [if_neg h] : toU n = (0, 13))
    rw [HR.out]
    by_cases h1 : 99999999999999 < n
    · clear h
      go_enter Tryz.func67, Tryz.ntmps67
      go_wp2
      go_ret2
      exact ⟨rfl, below_alloc _ _⟩
    · have h2 : n < -99999999999999 := by omega
      clear h
      go_enter Tryz.func67, Tryz.ntmps67
      go_wp2
      go_ret2
      exact ⟨rfl, below_alloc _ _⟩
end Go.Proofs.YtdcdoeolaongkaaGreatDoor.Rd
