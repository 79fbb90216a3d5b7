import Derived.Test.YtfgjleifhjegkaaDoorKV
import Derived.Laws.Bits64
import Derived.Lib.EndianBits
namespace Go.Proofs.YtfgjleifhjegkaaDoor
open Go.ChangeShapes Go.WideShapes Go.ChangeAt Go.RowKit
set_option linter.unusedVariables false
set_option linter.unusedSimpArgs false
set_option maxRecDepth 100000
/-- Bytes put behind others. -/
def Onto (b : Nat) (w : World) (zs : List Int) (e : Ending) (w' : World) : Prop := (∃ v, e = .returned v ∧ YOut 5 b w' v zs) ∧ Below b w w'
theorem xor_top_low {u : Nat} (h : u < 2 ^ 63) : u ^^^ 2 ^ 63 = 2 ^ 63 + u := by
  apply Nat.eq_of_testBit_eq
  intro i
  rw [Nat.testBit_xor, Nat.testBit_two_pow]
  rcases Nat.lt_trichotomy i 63 with hi | hi | hi
  · rw [Nat.testBit_two_pow_add_gt hi]
    have : decide (63 = i) = false := by simp; omega
    rw [this]
    simp
  · subst hi
    rw [Nat.testBit_two_pow_add_eq]
    have := Nat.testBit_lt_two_pow h
    rw [this]
    simp
  · have h1 : u.testBit i = false := Nat.testBit_lt_two_pow (Nat.lt_of_lt_of_le h (Nat.pow_le_pow_right (by decide) (by omega)))
    have h2 : (2 ^ 63 + u).testBit i = false := Nat.testBit_lt_two_pow (Nat.lt_of_lt_of_le (by omega : 2 ^ 63 + u < 2 ^ 64) (Nat.pow_le_pow_right (by decide) (by omega)))
    rw [h1, h2]
    simp; omega
theorem xor_top_high {u : Nat} (h : 2 ^ 63 ≤ u) (h2 : u < 2 ^ 64) : u ^^^ 2 ^ 63 = u - 2 ^ 63 := by
  have e : u = (u - 2 ^ 63) ^^^ 2 ^ 63 := by rw [xor_top_low (by omega)]; omega
  conv => lhs; rw [e]
  rw [Nat.xor_assoc, Nat.xor_self, Nat.xor_zero]
/-- A number with its sign turned. -/
def turnN (n : Int) : Int := if n < 0 then n + 9223372036854775808 else n - 9223372036854775808
theorem bits_turn {n : Int} (h0 : -9223372036854775808 ≤ n) (h1 : n ≤ 9223372036854775807) : bits .xor .i64 n (-9223372036854775808) = turnN n := by
  show IntKind.i64.wrap ((BitVec.ofInt 64 n ^^^ BitVec.ofInt 64 (-9223372036854775808)).toNat : Int) = _
  have e1 : (BitVec.ofInt 64 (-9223372036854775808)).toNat = 2 ^ 63 := by decide
  have e2 : (BitVec.ofInt 64 n).toNat = (n % 18446744073709551616).toNat := by rw [BitVec.toNat_ofInt]; rfl
  rw [BitVec.toNat_xor, e1, e2, IntKind.wrap_i64]
  unfold turnN
  by_cases h : n < 0
  · rw [if_pos h]
    have : (n % 18446744073709551616).toNat = (n + 18446744073709551616).toNat := by omega
    rw [this, xor_top_high (by omega) (by omega)]
    omega
  · rw [if_neg h]
    have : (n % 18446744073709551616).toNat = n.toNat := by omega
    rw [this, xor_top_low (by omega)]
    omega
theorem xor_ones (b : Nat) (hb : b < 2 ^ 64) : b ^^^ (2 ^ 64 - 1) = 2 ^ 64 - 1 - b := by
  apply Nat.eq_of_testBit_eq
  intro i
  rw [Nat.testBit_xor, Nat.testBit_two_pow_sub_one, show 2 ^ 64 - 1 - b = 2 ^ 64 - (b + 1) by omega, Nat.testBit_two_pow_sub_succ hb]
  by_cases hi : i < 64
  · simp [hi]
  · have : b.testBit i = false := Nat.testBit_lt_two_pow (Nat.lt_of_lt_of_le hb (Nat.pow_le_pow_right (by decide) (by omega)))
    simp [hi, this]
theorem fold_neg {n : Int} (h0 : -9223372036854775808 ≤ n) (h : n < 0) : bits .xor .u64 (2 * n + 18446744073709551616) 18446744073709551615 = foldN n := by
  have e1 : 2 * n + 18446744073709551616 = (((2 * n + 18446744073709551616).toNat : Nat) : Int) := by omega
  have e2 : (18446744073709551615 : Int) = ((18446744073709551615 : Nat) : Int) := rfl
  rw [e1, e2, bits_xor_u64_nat _ _ (by omega) (by decide)]
  have := xor_ones (2 * n + 18446744073709551616).toNat (by omega)
  rw [show (18446744073709551615 : Nat) = 2 ^ 64 - 1 from rfl, this]
  unfold foldN
  rw [if_pos h]
  omega
theorem fold_pos {n : Int} (h0 : 0 ≤ n) (h : n ≤ 9223372036854775807) : bits .xor .u64 (2 * n) 0 = foldN n := by
  have e1 : 2 * n = (((2 * n).toNat : Nat) : Int) := by omega
  have e2 : (0 : Int) = ((0 : Nat) : Int) := rfl
  rw [e1, e2, bits_xor_u64_nat _ _ (by omega) (by decide), Nat.xor_zero]
  unfold foldN
  rw [if_neg (by omega)]
  omega
theorem turned_impl (n : Int) (w : World) (h0 : -9223372036854775808 ≤ n) (h1 : n ≤ 9223372036854775807) :
    Calls Tryd.prog 56 #[.int .i64 n] w fun e w' => e = .returned (.int .i64 (turnN n)) ∧ w' = w := by
  have hb := bits_turn h0 h1
  go_enter Tryd.func56, Tryd.ntmps56
  go_wp2
  go_ret
  exact ⟨by rfl, rfl⟩
theorem fold_impl (n : Int) (w : World) (h0 : -9223372036854775808 ≤ n) (h1 : n ≤ 9223372036854775807) :
    Calls Tryd.prog 59 #[.int .i64 n] w fun e w' => e = .returned (.int .u64 (foldN n)) ∧ w' = w := by
  by_cases h : n < 0
  · have e1 : IntKind.u64.wrap (IntKind.u64.wrap n * 2) = 2 * n + 18446744073709551616 := by simp only [IntKind.wrap_u64]; omega
    have e2 : IntKind.u64.wrap (n / 9223372036854775808) = 18446744073709551615 := by simp only [IntKind.wrap_u64]; omega
    have e3 := fold_neg h0 h
    go_enter Tryd.func59, Tryd.ntmps59
    go_wp2
    go_ret
    exact ⟨ret_i (by first | rfl | (rw [e1, e2, e3]) | (rw [Int.mul_comm n 2]; exact e3)), rfl⟩
  · have e1 : IntKind.u64.wrap (IntKind.u64.wrap n * 2) = 2 * n := by simp only [IntKind.wrap_u64]; omega
    have e2 : IntKind.u64.wrap (n / 9223372036854775808) = 0 := by simp only [IntKind.wrap_u64]; omega
    have e3 := fold_pos (by omega) h1
    go_enter Tryd.func59, Tryd.ntmps59
    go_wp2
    go_ret
    exact ⟨ret_i (by first | rfl | (rw [e1, e2, e3]) | (rw [Int.mul_comm n 2]; exact e3)), rfl⟩
end Go.Proofs.YtfgjleifhjegkaaDoor
