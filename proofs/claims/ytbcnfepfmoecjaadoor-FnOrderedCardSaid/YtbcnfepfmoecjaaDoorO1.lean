import Derived.Test.YtbcnfepfmoecjaaDoorC2
namespace Go.Proofs.YtbcnfepfmoecjaaDoor
open Go.ChangeShapes Go.WideShapes Go.ChangeAt Go.RowKit Go.Shelf
set_option linter.unusedVariables false
set_option linter.unusedSimpArgs false
theorem cb_bd : ∀ a b : List UInt8, -1 ≤ Lib.compareBytes a b ∧ Lib.compareBytes a b ≤ 1
  | [], [] => by simp [Lib.compareBytes]
  | [], _ :: _ => by simp [Lib.compareBytes]
  | _ :: _, [] => by simp [Lib.compareBytes]
  | a :: al, b :: bl => by
    have := cb_bd al bl
    simp only [Lib.compareBytes]
    split <;> (try split) <;> omega
theorem cb_anti : ∀ a b : List UInt8, Lib.compareBytes b a = - Lib.compareBytes a b
  | [], [] => by simp [Lib.compareBytes]
  | [], _ :: _ => by simp [Lib.compareBytes]
  | _ :: _, [] => by simp [Lib.compareBytes]
  | a :: al, b :: bl => by
    have := cb_anti al bl
    simp only [Lib.compareBytes, UInt8.lt_iff_toNat_lt]
    repeat' split
    all_goals omega
/-- What the law asks of three orders. -/
def Ord3 (ab bc ac : Int) : Prop := 0 < ab ∨ 0 < bc ∨ (ac ≤ 0 ∧ (ac = 0 ↔ ab = 0 ∧ bc = 0))
theorem cb_trans : ∀ a b c : List UInt8, Ord3 (Lib.compareBytes a b) (Lib.compareBytes b c) (Lib.compareBytes a c)
  | [], [], [] => by simp [Ord3, Lib.compareBytes]
  | [], [], _ :: _ => by simp [Ord3, Lib.compareBytes]
  | [], _ :: _, [] => by simp [Ord3, Lib.compareBytes]
  | [], _ :: _, _ :: _ => by simp [Ord3, Lib.compareBytes]
  | _ :: _, [], _ => by simp [Ord3, Lib.compareBytes]
  | _ :: _, _ :: _, [] => by simp [Ord3, Lib.compareBytes]
  | a :: al, b :: bl, c :: cl => by
    have := cb_trans al bl cl
    unfold Ord3 at *
    simp only [Lib.compareBytes, UInt8.lt_iff_toNat_lt]
    repeat' split
    all_goals omega
/-- A number's place among its like. -/
def nkey (k n : Int) : Int := if k = 1 then n * 10000 else n
theorem sgn_ten (a b : Int) : sgn (a * 10000) (b * 10000) = sgn a b := by
  unfold sgn
  repeat' split
  all_goals omega
theorem sgn_anti (a b : Int) : sgn b a = - sgn a b := by
  unfold sgn
  repeat' split
  all_goals omega
theorem ordV_num (k1 n1 : Int) (s1 : ByteArray) (k2 n2 : Int) (s2 : ByteArray) (ht : together k1 k2 = true) (h1 : k1 ≠ 0) (h2 : k2 ≠ 0) (h3 : k1 ≠ 3) : ordV k1 n1 s1 k2 n2 s2 = sgn (nkey k1 n1) (nkey k2 n2) := by
  unfold ordV
  rw [if_neg (by omega)]
  by_cases e : k1 = k2
  · rw [if_pos e]
    subst e
    unfold nkey
    by_cases f : k1 = 1
    · rw [if_pos f, if_pos f, sgn_ten]
    · rw [if_neg f, if_neg f]
  · rw [if_neg e, if_neg h1, if_neg h2]
    have hk : (k1 = 1 ∧ k2 = 2) ∨ (k1 = 2 ∧ k2 = 1) := by
      simp [together] at ht; omega
    rcases hk with ⟨rfl, rfl⟩ | ⟨rfl, rfl⟩
    · simp [nkey, cmpID]
    · simp only [nkey, cmpID, if_neg (show ¬ (2 : Int) = 1 by decide), if_pos (show (1 : Int) = 1 from rfl)]
      exact (sgn_anti _ _).symm
theorem together_symm (k1 k2 : Int) : together k2 k1 = together k1 k2 := by
  unfold together
  rw [Bool.eq_iff_iff]
  simp
  omega
theorem ordV_bd (k1 n1 : Int) (s1 : ByteArray) (k2 n2 : Int) (s2 : ByteArray) : -1 ≤ ordV k1 n1 s1 k2 n2 s2 ∧ ordV k1 n1 s1 k2 n2 s2 ≤ 1 := by
  have a1 := sgn_bd n1 n2
  have a2 := sgn_bd (n1 * 10000) n2
  have a3 := sgn_bd (n2 * 10000) n1
  have a4 := cb_bd s1.data.toList s2.data.toList
  unfold ordV cmpID
  repeat' split
  all_goals omega
theorem ordV_anti (k1 n1 : Int) (s1 : ByteArray) (k2 n2 : Int) (s2 : ByteArray) (ht : together k1 k2 = true) : ordV k2 n2 s2 k1 n1 s1 = - ordV k1 n1 s1 k2 n2 s2 := by
  by_cases h3 : k1 = 3 ∧ k2 = 3
  · unfold ordV
    rw [if_pos ⟨h3.2, h3.1⟩, if_pos h3, cb_anti]
  · by_cases e : k1 = k2
    · unfold ordV
      rw [if_neg (by omega), if_pos e.symm, if_neg h3, if_pos e, sgn_anti]
    · by_cases h1 : k1 = 0
      · unfold ordV
        rw [if_neg (by omega), if_neg (by omega), if_neg (by omega), if_pos h1, if_neg h3, if_neg e, if_pos h1]; rfl
      · by_cases h2 : k2 = 0
        · unfold ordV
          rw [if_neg (by omega), if_neg (by omega), if_pos h2, if_neg h3, if_neg e, if_neg h1, if_pos h2]
        · have hk : (k1 = 1 ∧ k2 = 2) ∨ (k1 = 2 ∧ k2 = 1) := by
            simp [together] at ht; omega
          rw [ordV_num k1 n1 s1 k2 n2 s2 ht h1 h2 (by omega), ordV_num k2 n2 s2 k1 n1 s1 (by rw [together_symm]; exact ht) h2 h1 (by omega), sgn_anti]
theorem sgn_trans (a b c : Int) : Ord3 (sgn a b) (sgn b c) (sgn a c) := by
  unfold Ord3 sgn
  repeat' split
  all_goals omega
theorem ordV_nl (n1 : Int) (s1 : ByteArray) (k2 n2 : Int) (s2 : ByteArray) (h : k2 ≠ 0) : ordV 0 n1 s1 k2 n2 s2 = -1 := by
  unfold ordV
  rw [if_neg (by omega), if_neg (by omega), if_pos rfl]
theorem ordV_nr (k1 n1 : Int) (s1 : ByteArray) (n2 : Int) (s2 : ByteArray) (h : k1 ≠ 0) : ordV k1 n1 s1 0 n2 s2 = 1 := by
  unfold ordV
  rw [if_neg (by omega), if_neg (by omega), if_neg h, if_pos rfl]
theorem ordV_nn (n1 : Int) (s1 : ByteArray) (n2 : Int) (s2 : ByteArray) (h1 : n1 = 0) (h2 : n2 = 0) : ordV 0 n1 s1 0 n2 s2 = 0 := by
  unfold ordV
  rw [if_neg (by omega), if_pos rfl, h1, h2]; rfl
theorem ordV_trans (k1 n1 : Int) (s1 : ByteArray) (k2 n2 : Int) (s2 : ByteArray) (k3 n3 : Int) (s3 : ByteArray) (z1 : k1 = 0 → n1 = 0) (z2 : k2 = 0 → n2 = 0) (z3 : k3 = 0 → n3 = 0)
    (t12 : together k1 k2 = true) (t23 : together k2 k3 = true) (t13 : together k1 k3 = true) : Ord3 (ordV k1 n1 s1 k2 n2 s2) (ordV k2 n2 s2 k3 n3 s3) (ordV k1 n1 s1 k3 n3 s3) := by
  by_cases h2 : k2 = 0
  · subst h2
    by_cases h1 : k1 = 0
    · subst h1
      rw [ordV_nn _ _ _ _ (z1 rfl) (z2 rfl)]
      by_cases h3 : k3 = 0
      · subst h3
        rw [ordV_nn _ _ _ _ (z2 rfl) (z3 rfl), ordV_nn _ _ _ _ (z1 rfl) (z3 rfl)]
        unfold Ord3; omega
      · rw [ordV_nl _ _ _ _ _ h3, ordV_nl _ _ _ _ _ h3]
        unfold Ord3; omega
    · rw [ordV_nr _ _ _ _ _ h1]
      unfold Ord3; omega
  · by_cases h3 : k3 = 0
    · subst h3
      rw [ordV_nr _ _ _ _ _ h2]
      unfold Ord3; omega
    · by_cases h1 : k1 = 0
      · subst h1
        rw [ordV_nl _ _ _ _ _ h2, ordV_nl _ _ _ _ _ h3]
        unfold Ord3; omega
      · by_cases e : k1 = 3
        · have e2 : k2 = 3 := by simp [together] at t12; omega
          have e3 : k3 = 3 := by simp [together] at t13; omega
          subst e e2 e3
          simpa [ordV] using cb_trans s1.data.toList s2.data.toList s3.data.toList
        · have e2 : k2 ≠ 3 := by simp [together] at t12; omega
          rw [ordV_num _ _ _ _ _ _ t12 h1 h2 e, ordV_num _ _ _ _ _ _ t23 h2 h3 e2, ordV_num _ _ _ _ _ _ t13 h1 h3 e]
          exact sgn_trans _ _ _
end Go.Proofs.YtbcnfepfmoecjaaDoor
