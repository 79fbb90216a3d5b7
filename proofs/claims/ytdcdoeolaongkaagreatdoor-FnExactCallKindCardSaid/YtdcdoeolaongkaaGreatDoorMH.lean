import Derived.Test.YtdcdoeolaongkaaGreatDoorMG
namespace Go.Proofs.YtdcdoeolaongkaaGreatDoor.Mp
open Go.MapKept Go.ChangeMaps
open Go.ChangeShapes Go.WideShapes Go.ChangeAt Go.RowKit
open Go.Proofs.YtdcdoeolaongkaaGreatDoor.Ok
set_option linter.unusedVariables false
set_option linter.unusedSimpArgs false
set_option maxRecDepth 100000
theorem opk_neg {op a b : Int} (h : ¬ 0 ≤ opk op a b) : opk op a b = -1 := by
  unfold opk at h ⊢
  split
  · rfl
  rename_i c1
  rw [if_neg c1] at h
  split
  · rename_i c2
    rw [if_pos c2] at h
    unfold unK at h ⊢
    (repeat' split) <;> grind
  rename_i c2
  rw [if_neg c2] at h
  split
  · rfl
  rename_i c3
  rw [if_neg c3] at h
  split
  · rename_i c4
    rw [if_pos c4] at h
    unfold nullsK at h ⊢
    grind
  rename_i c4
  rw [if_neg c4] at h
  unfold firstK at h ⊢
  grind
theorem ckK_long {fn : Int} {ks : List Int} (h1 : ks.length ≠ 1) (h2 : ks.length ≠ 2) (h3 : ks.length ≠ 3) : ckK fn ks = -1 := by
  unfold ckK
  split
  · rfl
  split
  · unfold gvK
    rw [absK_no h1, nullifK_no h2, twoK_no h2]
    have e : allFit ks (wantK fn) = false := allFit_len (by unfold wantK; (repeat' split) <;> simp <;> omega)
    simp [takeK, e]
  · rfl
theorem all1 {x : Int} (h : allK [x] = true) : isK x = true := by simpa [allK] using h
theorem all2 {x y : Int} (h : allK [x, y] = true) : isK x = true ∧ isK y = true := by simpa [allK] using h
theorem ck_abs {x : Int} (h : allK [x] = true) : ckK 1 [x] = if (x == 1) = true ∨ fitB x 2 = true then x else -1 := by
  have h2 := isK_yes (all1 h)
  rw [ckK_yes (by omega) h]
  simp only [gvK, absK, opk, unK, fitB]
  by_cases e1 : x = 1 <;> by_cases e2 : x = 2 <;> by_cases e3 : x = 0 <;> simp_all <;> omega
theorem ck_one {fn x : Int} (h : allK [x] = true) (h1 : 1 ≤ fn ∧ fn ≤ 13) (h2 : ¬ fn = 1 ∧ ¬ fn = 6 ∧ ¬ (fn = 12 ∨ fn = 13)) {r k : Int} (hr : resK fn = r) (hw : wantK fn = [k]) : ckK fn [x] = if fitB x k = true then r else -1 := by
  rw [ckK_yes h1 h]
  unfold gvK
  rw [if_neg h2.1, if_neg h2.2.1, if_neg h2.2.2, hr, hw]
  simp [takeK, allFit]
theorem ck_three {x y z : Int} (h : allK [x, y, z] = true) : ckK 5 [x, y, z] = if fitB x 3 = true ∧ fitB y 1 = true ∧ fitB z 1 = true then 3 else -1 := by
  rw [ckK_yes (by omega) h]
  simp [gvK, takeK, resK, wantK, allFit]
theorem ck_nullif {x y : Int} (h : allK [x, y] = true) : ckK 6 [x, y] = if 0 ≤ opk 7 x y then x else -1 := by
  rw [ckK_yes (by omega) h]
  simp only [gvK, nullifK]
  by_cases c : 0 ≤ opk 7 x y
  · have : ¬ opk 7 x y = -1 := by omega
    simp [c, this]
  · simp [c, opk_neg c]
theorem ck_two {fn x y : Int} (hf : fn = 12 ∨ fn = 13) (h : allK [x, y] = true) : ckK fn [x, y] = if fitB y x = true then x else if (x == 0) = true then y else -1 := by
  have ⟨hx, hy⟩ := all2 h
  have hx := isK_yes hx
  have hy := isK_yes hy
  rw [ckK_yes (by omega) h]
  unfold gvK
  rw [if_neg (by omega), if_neg (by omega), if_pos hf]
  simp only [twoK, fitB]
  by_cases c1 : x = y <;> by_cases c2 : y = 0 <;> by_cases c3 : x = 0 <;> simp_all <;> omega
theorem ck_len {fn : Int} {ks : List Int} (h1 : ¬ (fn = 6 ∨ fn = 12 ∨ fn = 13) → ks.length ≠ (if fn = 5 then 3 else 1)) (h2 : (fn = 6 ∨ fn = 12 ∨ fn = 13) → ks.length ≠ 2) : ckK fn ks = -1 := by
  unfold ckK
  split
  · rfl
  split
  · rename_i c _
    unfold gvK
    by_cases e1 : fn = 1
    · rw [if_pos e1]; exact absK_no (by have := h1 (by omega); rw [if_neg (by omega)] at this; exact this)
    rw [if_neg e1]
    by_cases e2 : fn = 6
    · rw [if_pos e2]; exact nullifK_no (h2 (by omega))
    rw [if_neg e2]
    by_cases e3 : fn = 12 ∨ fn = 13
    · rw [if_pos e3]; exact twoK_no (h2 (by omega))
    rw [if_neg e3]
    have hh := h1 (by omega)
    have e : allFit ks (wantK fn) = false := allFit_len (by
      by_cases e5 : fn = 5
      · rw [if_pos e5] at hh; simp [wantK, e5]; exact hh
      · rw [if_neg e5] at hh; unfold wantK; rw [if_neg e5]; (repeat' split) <;> simpa using hh)
    simp [takeK, e]
  · rfl
end Go.Proofs.YtdcdoeolaongkaaGreatDoor.Mp
