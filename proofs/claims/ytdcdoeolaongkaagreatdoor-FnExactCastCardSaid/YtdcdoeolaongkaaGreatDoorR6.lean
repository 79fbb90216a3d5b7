import Derived.Test.YtdcdoeolaongkaaGreatDoorR3
import Derived.Test.YtdcdoeolaongkaaGreatDoorR4
namespace Go.Proofs.YtdcdoeolaongkaaGreatDoor.Rd
open Go.ChangeShapes Go.WideShapes Go.ChangeAt Go.RowKit Go.Shelf
set_option linter.unusedVariables false
set_option linter.unusedSimpArgs false
set_option maxRecDepth 100000
theorem ext_take (t : ByteArray) (i : Nat) : (t.extract 0 i).data.toList = t.data.toList.take i := by rw [Lib.extract_data]; simp
theorem ext_drop (t : ByteArray) (i : Nat) : (t.extract i t.size).data.toList = t.data.toList.drop i := by
  rw [Lib.extract_data, List.take_of_length_le (by rw [List.length_drop, len_eq]; exact Nat.le_refl _)]
/-- What the given text's whole and part are. -/
def WP (t wh pa : ByteArray) : Prop := (ptL t.data.toList = (wh.data.toList, pa.data.toList, true)) ∨ (ptL t.data.toList = (t.data.toList, [], false) ∧ wh = t ∧ pa = ⟨#[48]⟩)
theorem WP_hit {t : ByteArray} {i : Nat} (hi : i < t.size) (hn : ∀ j, j < i → t.data.toList[j]? ≠ some 46) (hb : ((t[i]'hi).toNat : Int) = 46) : WP t (t.extract 0 i) (t.extract (i + 1) t.size) := by
  left
  have e : t.data.toList[i]? = some 46 := by
    rw [List.getElem?_eq_getElem (by rw [len_eq]; exact hi)]
    have : t[i] = 46 := UInt8.toNat_inj.1 (by have : (46 : UInt8).toNat = 46 := rfl; omega)
    exact congrArg some this
  rw [ptL_hit hn e, ext_take, ext_drop]
theorem WP_none {t : ByteArray} (hn : ∀ j, j < t.size → t.data.toList[j]? ≠ some 46) : WP t t ⟨#[48]⟩ :=
  .inr ⟨ptL_none (fun j hj => hn j (by rw [← len_eq]; exact hj)), rfl, rfl⟩
theorem step_no {t : ByteArray} {i : Nat} (hi : i < t.size) (hn : ∀ j, j < i → t.data.toList[j]? ≠ some 46) (hb : ¬ ((t[i]'hi).toNat : Int) = 46) : ∀ j, j < i + 1 → t.data.toList[j]? ≠ some 46 := by
  intro j hj
  by_cases e : j = i
  · subst e
    rw [List.getElem?_eq_getElem (by rw [len_eq]; exact hi)]
    intro h
    have h2 : t[j] = 46 := Option.some.inj h
    rw [h2] at hb
    exact hb rfl
  · exact hn j (by omega)
theorem WP_le {t wh pa : ByteArray} (h : WP t wh pa) (ht : t.size ≤ 1048576) : wh.size ≤ 1048576 ∧ pa.size ≤ 1048576 := by
  rcases h with h | ⟨_, rfl, rfl⟩
  · have hl := ptL_le t.data.toList
    rw [h] at hl
    simp only [len_eq] at hl
    omega
  · exact ⟨ht, by decide⟩
/-- What the parts make. -/
theorem WP_ok {t wh pa : ByteArray} (h : WP t wh pa) : okD (ptL t.data.toList) = (arD wh.data.toList 14 && arD pa.data.toList 4) ∧ ((arD wh.data.toList 14 && arD pa.data.toList 4) = true → (unitsL (ptL t.data.toList).1 (ptL t.data.toList).2.1 = dgN wh.data.toList 14 * 10000 + dgN pa.data.toList 4 * 10 ^ (4 - pa.size) ∧ 1 ≤ pa.size ∧ pa.size ≤ 4 ∧ dgN wh.data.toList 14 < 100000000000000 ∧ dgN pa.data.toList 4 < 10 ^ pa.size)) := by
  have key : ∀ l : List UInt8, ∀ k, arD l k = true → dgN l k = numL l := fun l k h => by unfold dgN; rw [if_pos h]
  have big : (10 : Nat) ^ 14 = 100000000000000 := by decide
  rcases h with h | ⟨h, rfl, rfl⟩
  · rw [h]
    refine ⟨by simp [okD], fun g => ?_⟩
    rw [Bool.and_eq_true] at g
    have g1 := arD_is g.2
    rw [len_eq] at g1
    rw [key _ _ g.1, key _ _ g.2]
    have h14 := pow_le g.1
    have hpa := numL_lt g1.1
    rw [len_eq] at hpa
    rw [big] at h14
    refine ⟨by unfold unitsL; rw [len_eq], g1.2.1, g1.2.2, h14, hpa⟩
  · rw [h]
    have e0 : arD (⟨#[48]⟩ : ByteArray).data.toList 4 = true := by decide
    refine ⟨by simp [okD, e0], fun g => ?_⟩
    rw [Bool.and_eq_true] at g
    rw [key _ _ g.1, key _ _ g.2]
    have h14 := pow_le g.1
    rw [big] at h14
    have e1 : numL (⟨#[48]⟩ : ByteArray).data.toList = 0 := by decide
    rw [e1]
    refine ⟨by unfold unitsL; simp [numL], by decide, by decide, h14, by decide⟩
theorem pow_step {b : Nat} {p k : Nat} (h : k < 4) : b * 10 ^ (k - p) * 10 = b * 10 ^ (k + 1 - p) ∨ k < p := by
  by_cases c : k < p
  · exact .inr c
  · left
    rw [show k + 1 - p = (k - p) + 1 by omega, Nat.pow_succ, Nat.mul_assoc]
theorem part_lt {b p k : Nat} (hb : b < 10 ^ p) (hp : p ≤ k) (hk : k ≤ 4) : b * 10 ^ (k - p) < 10000 := by
  have h1 : 10 ^ p * 10 ^ (k - p) = 10 ^ k := by rw [← Nat.pow_add, show p + (k - p) = k by omega]
  have h2 : (b + 1) * 10 ^ (k - p) ≤ 10 ^ p * 10 ^ (k - p) := Nat.mul_le_mul_right _ hb
  have h3 : (10 : Nat) ^ k ≤ 10 ^ 4 := Nat.pow_le_pow_right (by omega) hk
  have h4 : 1 ≤ 10 ^ (k - p) := Nat.pow_pos (by omega)
  rw [h1, Nat.add_mul, Nat.one_mul] at h2
  have h5 : (10 : Nat) ^ 4 = 10000 := by decide
  omega
end Go.Proofs.YtdcdoeolaongkaaGreatDoor.Rd
