import Derived.Test.YtfgjleifhjegkaaDoorIPqr
import Derived.Test.YtfgjleifhjegkaaDoorKR
namespace Go.Proofs.YtfgjleifhjegkaaDoor
open Go.ChangeShapes Go.WideShapes Go.ChangeAt Go.RowKit
set_option linter.unusedVariables false
set_option linter.unusedSimpArgs false
set_option maxRecDepth 100000
/-- What a fold was made of. -/
def unfN (n : Nat) : Int := if n % 2 = 1 then -((n / 2 : Nat) : Int) - 1 else ((n / 2 : Nat) : Int)
theorem unf_fold {n : Int} : unfN (foldN n).toNat = n := by
  unfold unfN foldN
  by_cases h : n < 0
  · rw [if_pos h, if_pos (by omega)]; omega
  · rw [if_neg h, if_neg (by omega)]; omega
theorem unf_range {n : Nat} (h : n < 18446744073709551616) : -9223372036854775808 ≤ unfN n ∧ unfN n ≤ 9223372036854775807 := by
  unfold unfN
  split <;> omega
/-- A varint off the front: what it tells, and what is left (the program's way). -/
def viF : Nat → Nat → Nat → List Int → Nat × List Int
  | 0, _, n, l => (n, l)
  | f + 1, j, n, l => if nmI (pcL l 1).1 < 128 then (n + (nmI (pcL l 1).1 % 128).toNat * 2 ^ (7 * j) % 18446744073709551616, (pcL l 1).2) else viF f (j + 1) (n + (nmI (pcL l 1).1 % 128).toNat * 2 ^ (7 * j) % 18446744073709551616) (pcL l 1).2
def viI (l : List Int) : Nat × List Int := viF 10 0 0 l
/-- A varint off the front: what it tells, and how many bytes it has (the given way). -/
def rvF : Nat → Nat → Nat → List Int → Nat × Nat
  | 0, _, _, _ => (0, 0)
  | _ + 1, _, _, [] => (0, 0)
  | f + 1, j, n, b :: r => if b < 128 then ((n + (b % 128).toNat * (128 ^ j % 18446744073709551616) % 18446744073709551616) % 18446744073709551616, j + 1) else rvF f (j + 1) ((n + (b % 128).toNat * (128 ^ j % 18446744073709551616) % 18446744073709551616) % 18446744073709551616) r
def rvI (l : List Int) : Nat × Nat := rvF 10 0 0 l
theorem pow7 (j : Nat) : 2 ^ (7 * j) = 128 ^ j := by rw [Nat.pow_mul]
theorem vi_var (R : List Int) : ∀ (f j n m : Nat), n + m * 128 ^ j < 18446744073709551616 → m < 2 * 128 ^ f → viF (f + 1) j n (varF f m ++ R) = (n + m * 128 ^ j, R)
  | 0, j, n, m, h1, h2 => by
    have hm : m < 128 := by simp at h2; omega
    have hv : varF 0 m = [(m : Int)] := rfl
    rw [hv, List.singleton_append, viF, pc_one]
    simp only
    rw [nm_one (by omega) (by omega), if_pos (by omega)]
    have e : ((m : Int) % 128).toNat = m := by omega
    rw [e, pow7, Nat.mod_eq_of_lt (by omega)]
  | f + 1, j, n, m, h1, h2 => by
    by_cases hm : m < 128
    · rw [varF_small hm, List.singleton_append, viF, pc_one]
      simp only
      rw [nm_one (by omega) (by omega), if_pos (by omega)]
      have e : ((m : Int) % 128).toNat = m := by omega
      rw [e, pow7, Nat.mod_eq_of_lt (by omega)]
    · have hm2 : m / 128 < 2 * 128 ^ f := Nat.div_lt_of_lt_mul (by rw [Nat.pow_succ] at h2; omega)
      have key : m % 128 * 128 ^ j + m / 128 * 128 ^ (j + 1) = m * 128 ^ j := by
        rw [Nat.pow_succ]
        have : m / 128 * (128 ^ j * 128) = m / 128 * 128 * 128 ^ j := by rw [Nat.mul_comm (128 ^ j) 128, ← Nat.mul_assoc]
        rw [this, ← Nat.add_mul, Nat.mod_add_div' m 128]
      rw [varF_big hm, List.cons_append, viF, pc_one]
      simp only
      rw [nm_one (by omega) (by omega), if_neg (by omega)]
      have e : (((m % 128 + 128 : Nat) : Int) % 128).toNat = m % 128 := by omega
      rw [e, pow7, Nat.mod_eq_of_lt (by omega), vi_var R f (j + 1) (n + m % 128 * 128 ^ j) (m / 128) (by omega) hm2]
      rw [Nat.add_assoc, key]
theorem vi_row (m : Nat) (R : List Int) (h : m < 18446744073709551616) : viI (varF 9 m ++ R) = (m, R) := by
  have e : 2 * 128 ^ 9 = 18446744073709551616 := by decide
  have := vi_var R 9 0 0 m (by simp; omega) (by omega)
  unfold viI
  rw [this]
  simp
theorem rv_var (R : List Int) : ∀ (f j n m : Nat), n + m * 128 ^ j < 18446744073709551616 → m < 2 * 128 ^ f → rvF (f + 1) j n (varF f m ++ R) = (n + m * 128 ^ j, j + (varF f m).length)
  | 0, j, n, m, h1, h2 => by
    have hm : m < 128 := by simp at h2; omega
    have hv : varF 0 m = [(m : Int)] := rfl
    rw [hv, List.singleton_append, rvF, if_pos (by omega)]
    have e : ((m : Int) % 128).toNat = m := by omega
    rw [e, Nat.mul_mod_mod, Nat.mod_eq_of_lt (by omega : m * 128 ^ j < 18446744073709551616), Nat.mod_eq_of_lt h1]
    simp
  | f + 1, j, n, m, h1, h2 => by
    by_cases hm : m < 128
    · rw [varF_small hm, List.singleton_append, rvF, if_pos (by omega)]
      have e : ((m : Int) % 128).toNat = m := by omega
      rw [e, Nat.mul_mod_mod, Nat.mod_eq_of_lt (by omega : m * 128 ^ j < 18446744073709551616), Nat.mod_eq_of_lt h1]
      simp
    · have hm2 : m / 128 < 2 * 128 ^ f := Nat.div_lt_of_lt_mul (by rw [Nat.pow_succ] at h2; omega)
      have key : m % 128 * 128 ^ j + m / 128 * 128 ^ (j + 1) = m * 128 ^ j := by
        rw [Nat.pow_succ]
        have : m / 128 * (128 ^ j * 128) = m / 128 * 128 * 128 ^ j := by rw [Nat.mul_comm (128 ^ j) 128, ← Nat.mul_assoc]
        rw [this, ← Nat.add_mul, Nat.mod_add_div' m 128]
      rw [varF_big hm, List.cons_append, rvF, if_neg (by omega)]
      have e : (((m % 128 + 128 : Nat) : Int) % 128).toNat = m % 128 := by omega
      rw [e, Nat.mul_mod_mod, Nat.mod_eq_of_lt (by omega : m % 128 * 128 ^ j < 18446744073709551616), Nat.mod_eq_of_lt (by omega : n + m % 128 * 128 ^ j < 18446744073709551616), rv_var R f (j + 1) (n + m % 128 * 128 ^ j) (m / 128) (by omega) hm2]
      rw [Nat.add_assoc, key]
      simp
      omega
theorem rv_row (m : Nat) (R : List Int) (h : m < 18446744073709551616) : rvI (varF 9 m ++ R) = (m, (varF 9 m).length) := by
  have e : 2 * 128 ^ 9 = 18446744073709551616 := by decide
  have := rv_var R 9 0 0 m (by simp; omega) (by omega)
  unfold rvI
  rw [this]
  simp
theorem vi_lt : ∀ (f j n : Nat) (l : List Int), j + f = 10 → n < 128 ^ j → n < 18446744073709551616 → (viF f j n l).1 < 18446744073709551616
  | 0, j, n, l, _, _, h => by simpa [viF] using h
  | f + 1, j, n, l, hj, hn, h => by
    have e64 : 18446744073709551616 = 2 ^ (7 * j) * 2 ^ (64 - 7 * j) := by rw [← Nat.pow_add, show 7 * j + (64 - 7 * j) = 64 by omega]
    have hb : (nmI (pcL l 1).1 % 128).toNat < 128 := by omega
    have key : n + (nmI (pcL l 1).1 % 128).toNat * 2 ^ (7 * j) % 18446744073709551616 < 18446744073709551616 ∧ n + (nmI (pcL l 1).1 % 128).toNat * 2 ^ (7 * j) % 18446744073709551616 < 128 ^ (j + 1) := by
      generalize (nmI (pcL l 1).1 % 128).toNat = x at *
      rw [e64, Nat.mul_comm x, Nat.mul_mod_mul_left]
      rw [← pow7] at hn
      have h1 : x % 2 ^ (64 - 7 * j) < 2 ^ (64 - 7 * j) := Nat.mod_lt _ (Nat.two_pow_pos _)
      have h2 : x % 2 ^ (64 - 7 * j) ≤ x := Nat.mod_le _ _
      have h3 : 2 ^ (7 * j) * (x % 2 ^ (64 - 7 * j) + 1) ≤ 2 ^ (7 * j) * 2 ^ (64 - 7 * j) := Nat.mul_le_mul_left _ (by omega)
      have h4 : 2 ^ (7 * j) * (x % 2 ^ (64 - 7 * j) + 1) ≤ 2 ^ (7 * j) * 128 := Nat.mul_le_mul_left _ (by omega)
      rw [Nat.mul_add, Nat.mul_one] at h3 h4
      rw [Nat.pow_succ, ← pow7]
      omega
    rw [viF]
    split
    · exact key.1
    · exact vi_lt f (j + 1) _ _ (by omega) key.2 key.1
theorem vi_range (l : List Int) : (viI l).1 < 18446744073709551616 := vi_lt 10 0 0 l rfl (by decide) (by decide)
theorem rv_lt : ∀ (f j n : Nat) (l : List Int), (rvF f j n l).1 < 18446744073709551616
  | 0, _, _, _ => by simp [rvF]
  | _ + 1, _, _, [] => by simp [rvF]
  | f + 1, j, n, b :: r => by
    rw [rvF]
    split
    · exact Nat.mod_lt _ (by decide)
    · exact rv_lt f _ _ r
theorem rv_range (l : List Int) : (rvI l).1 < 18446744073709551616 := rv_lt 10 0 0 l
theorem rv_cnt : ∀ (f j n : Nat) (l : List Int), (rvF f j n l).2 = 0 ∨ (j < (rvF f j n l).2 ∧ (rvF f j n l).2 ≤ j + l.length)
  | 0, _, _, _ => by simp [rvF]
  | _ + 1, _, _, [] => by simp [rvF]
  | f + 1, j, n, b :: r => by
    rw [rvF]
    split
    · right; simp
    · have := rv_cnt f (j + 1) ((n + (b % 128).toNat * (128 ^ j % 18446744073709551616) % 18446744073709551616) % 18446744073709551616) r
      rcases this with h | ⟨h1, h2⟩
      · left; exact h
      · right; rw [List.length_cons]; omega
theorem vi_len : ∀ (f j n : Nat) (l : List Int), (viF f j n l).2.length ≤ l.length
  | 0, _, _, _ => by simp [viF]
  | f + 1, j, n, l => by
    have h1 : (pcL l 1).2.length ≤ l.length := by
      unfold pcL
      split
      · rw [List.length_drop]; omega
      · simp
    rw [viF]
    split
    · exact h1
    · have := vi_len f (j + 1) (n + (nmI (pcL l 1).1 % 128).toNat * 2 ^ (7 * j) % 18446744073709551616) (pcL l 1).2
      omega
theorem vi_byt : ∀ (f j n : Nat) (l : List Int), Byt l → Byt (viF f j n l).2
  | 0, _, _, _, h => by simpa [viF] using h
  | f + 1, j, n, l, h => by
    rw [viF]
    split
    · exact (byt_pc h 1).2
    · exact vi_byt f (j + 1) _ _ (byt_pc h 1).2
end Go.Proofs.YtfgjleifhjegkaaDoor
