import Derived.Test.YtghdjagomdgnfaaDoorHBJ
namespace Go.Proofs.YtghdjagomdgnfaaDoor
open Go.ChangeShapes Go.WideShapes Go.ChangeAt Go.RowKit
set_option linter.unusedVariables false
set_option linter.unusedSimpArgs false
set_option maxRecDepth 100000
open K
theorem g_32n (t : Nd) (x0 : Int) (hop : t.op = 32) (hr : ∀ x ∈ ([x0] : List Int), 0 ≤ x ∧ x ≤ 64) :
    (x0 == 27 && isNm t.name && only t true false false false false) = nodG t [x0] := by
  obtain ⟨a0, b0⟩ := hr x0 (by simp)
  unfold nodG
  rw [hop]
  simp only [formD, fldB, choG, hop, alw0, alw1, alw2, fit11n, fit11c, fit01n, fit01c, fit0n, fit0c, has_27 x0 a0 b0, only, flg, isTrm, isSrc]
  generalize noS t.name = z65505
  generalize noS t.qual = z81970
  generalize isNm t.name = z3179
  generalize isNm t.qual = z63496
  generalize noV t = z88319
  rw [Bool.eq_iff_iff]
  simp
  grind
end Go.Proofs.YtghdjagomdgnfaaDoor
namespace Go.Proofs.YtghdjagomdgnfaaDoor
open Go.ChangeShapes Go.WideShapes Go.ChangeAt Go.RowKit
set_option linter.unusedVariables false
set_option linter.unusedSimpArgs false
set_option maxRecDepth 100000
open K
theorem g_32o (t : Nd) (ops : List Int) (hop : t.op = 32) (hno : ((ops.length : Int) == 1) = false) :
    false = nodG t ops := by
  have hf : ∀ f, formD t.op t.n = some f → fit ops f.kids = false := by
    intro f hf
    rw [hop] at hf
    obtain rfl := Option.some.inj hf
    show fit ops _ = false
    match ops, hno with
    | [], _ => simp [fit11n]
    | [a], h => simp at h
    | a :: b :: r, _ => simp [fit11n, fit11c, fit0c]
  unfold nodG
  cases h : formD t.op t.n with
  | none => rfl
  | some f => simp [hf f h]
end Go.Proofs.YtghdjagomdgnfaaDoor
namespace Go.Proofs.YtghdjagomdgnfaaDoor
open Go.ChangeShapes Go.WideShapes Go.ChangeAt Go.RowKit
set_option linter.unusedVariables false
set_option linter.unusedSimpArgs false
set_option maxRecDepth 100000
open K
theorem g_33a (t : Nd) (x0 x1 : Int) (hop : t.op = 33) (hr : ∀ x ∈ ([x0, x1] : List Int), 0 ≤ x ∧ x ≤ 64) :
    (isSrc x0 && isSrc x1 && !(x1 == 33) && only t false false true false false && t.n == 3) = nodG t [x0, x1] := by
  obtain ⟨a0, b0⟩ := hr x0 (by simp)
  obtain ⟨a1, b1⟩ := hr x1 (by simp)
  by_cases hn : t.n = 3
  · have hf : formD t.op t.n = some ⟨0, 0, 1, 3, 0, 0, [(setI [31, 32, 33], 1, 1), (setI [31, 32], 1, 1)]⟩ := by rw [hop, hn]; rfl
    unfold nodG
    rw [hf]
    simp only [fldB, choG, hop, alw0, fit11n, fit11c, fit0n, fit0c, has_31_32_33 x0 a0 b0, has_31_32 x1 a1 b1, only, isSrc]
    generalize noS t.name = z0
    generalize noS t.qual = z1
    generalize noV t = z2
    rw [Bool.eq_iff_iff]
    simp
    grind
  · have hf : formD t.op t.n = some ⟨0, 0, 1, 3, 0, 0, [(setI [31, 32, 33], 1, 1), (setI [31, 32], 1, 1), (262142, 1, 1)]⟩ := by rw [hop]; simp only [formD]; rw [if_neg hn]
    unfold nodG
    rw [hf]
    simp only [fldB, choG, hop, alw0, fit11n, fit11c, fit0n, fit0c, has_31_32_33 x0 a0 b0, has_31_32 x1 a1 b1, only, isSrc]
    generalize noS t.name = z0
    generalize noS t.qual = z1
    generalize noV t = z2
    rw [Bool.eq_iff_iff]
    simp
    grind
end Go.Proofs.YtghdjagomdgnfaaDoor
namespace Go.Proofs.YtghdjagomdgnfaaDoor
open Go.ChangeShapes Go.WideShapes Go.ChangeAt Go.RowKit
set_option linter.unusedVariables false
set_option linter.unusedSimpArgs false
set_option maxRecDepth 100000
open K
theorem g_33b (t : Nd) (x0 x1 x2 : Int) (hop : t.op = 33) (hr : ∀ x ∈ ([x0, x1, x2] : List Int), 0 ≤ x ∧ x ≤ 64) :
    (isSrc x0 && isSrc x1 && !(x1 == 33) && only t false false true false false && (t.n == 1 || t.n == 2) && isE x2) = nodG t [x0, x1, x2] := by
  obtain ⟨a0, b0⟩ := hr x0 (by simp)
  obtain ⟨a1, b1⟩ := hr x1 (by simp)
  obtain ⟨a2, b2⟩ := hr x2 (by simp)
  by_cases hn : t.n = 3
  · have hf : formD t.op t.n = some ⟨0, 0, 1, 3, 0, 0, [(setI [31, 32, 33], 1, 1), (setI [31, 32], 1, 1)]⟩ := by rw [hop, hn]; rfl
    unfold nodG
    rw [hf]
    simp only [fldB, choG, hop, alw0, fit11n, fit11c, fit0n, fit0c, has_31_32_33 x0 a0 b0, has_31_32 x1 a1 b1, hasE x2 a2 b2, only, isSrc]
    generalize noS t.name = z0
    generalize noS t.qual = z1
    generalize noV t = z2
    rw [Bool.eq_iff_iff]
    simp
    grind
  · have hf : formD t.op t.n = some ⟨0, 0, 1, 3, 0, 0, [(setI [31, 32, 33], 1, 1), (setI [31, 32], 1, 1), (262142, 1, 1)]⟩ := by rw [hop]; simp only [formD]; rw [if_neg hn]
    unfold nodG
    rw [hf]
    simp only [fldB, choG, hop, alw0, fit11n, fit11c, fit0n, fit0c, has_31_32_33 x0 a0 b0, has_31_32 x1 a1 b1, hasE x2 a2 b2, only, isSrc]
    generalize noS t.name = z0
    generalize noS t.qual = z1
    generalize noV t = z2
    rw [Bool.eq_iff_iff]
    simp
    grind
end Go.Proofs.YtghdjagomdgnfaaDoor
namespace Go.Proofs.YtghdjagomdgnfaaDoor
open Go.ChangeShapes Go.WideShapes Go.ChangeAt Go.RowKit
set_option linter.unusedVariables false
set_option linter.unusedSimpArgs false
set_option maxRecDepth 100000
open K
theorem g_33o (t : Nd) (ops : List Int) (hop : t.op = 33) (hno : (ops.length : Int) < 2) :
    false = nodG t ops := by
  have hf : ∀ f, formD t.op t.n = some f → fit ops f.kids = false := by
    intro f hf
    rw [hop] at hf
    simp only [formD] at hf
    split at hf
    all_goals
      obtain rfl := Option.some.inj hf
      show fit ops _ = false
      match ops, hno with
      | [], _ => simp [fit11n]
      | [a], _ => simp [fit11n, fit11c]
      | a :: b :: r, h => simp at h; omega
  unfold nodG
  cases h : formD t.op t.n with
  | none => rfl
  | some f => simp [hf f h]
end Go.Proofs.YtghdjagomdgnfaaDoor
namespace Go.Proofs.YtghdjagomdgnfaaDoor
open Go.ChangeShapes Go.WideShapes Go.ChangeAt Go.RowKit
set_option linter.unusedVariables false
set_option linter.unusedSimpArgs false
set_option maxRecDepth 100000
open K
theorem g_33q (t : Nd) (ops : List Int) (hop : t.op = 33) (hno : 4 ≤ ops.length) :
    false = nodG t ops := by
  have hf : ∀ f, formD t.op t.n = some f → fit ops f.kids = false := by
    intro f hf
    rw [hop] at hf
    simp only [formD] at hf
    split at hf
    all_goals
      obtain rfl := Option.some.inj hf
      show fit ops _ = false
      match ops, hno with
      | [], h => simp at h
      | [a], h => simp at h
      | [a, b], h => simp at h
      | [a, b, c], h => simp at h
      | a :: b :: c :: d :: r, _ => simp [fit11n, fit11c, fit0c]
  unfold nodG
  cases h : formD t.op t.n with
  | none => rfl
  | some f => simp [hf f h]
end Go.Proofs.YtghdjagomdgnfaaDoor
namespace Go.Proofs.YtghdjagomdgnfaaDoor
open Go.ChangeShapes Go.WideShapes Go.ChangeAt Go.RowKit
set_option linter.unusedVariables false
set_option linter.unusedSimpArgs false
set_option maxRecDepth 100000
open K
theorem g_40a (t : Nd) (x0 : Int) (hop : t.op = 40) (hr : ∀ x ∈ ([x0] : List Int), 0 ≤ x ∧ x ≤ 64) :
    ((isNm t.name && only t true false false false false) && (x0 == 43 || x0 == 27)) = nodG t [x0] := by
  obtain ⟨a0, b0⟩ := hr x0 (by simp)
  unfold nodG
  rw [hop]
  simp only [formD, fldB, choG, hop, alw0, alw1, alw2, fit11n, fit11c, fit01n, fit01c, fit0n, fit0c, has_41 x0 a0 b0, has_43_27 x0 a0 b0, only, flg, isTrm, isSrc]
  generalize noS t.name = z65505
  generalize noS t.qual = z81970
  generalize isNm t.name = z3179
  generalize isNm t.qual = z63496
  generalize noV t = z88319
  rw [Bool.eq_iff_iff]
  simp
  grind
end Go.Proofs.YtghdjagomdgnfaaDoor
namespace Go.Proofs.YtghdjagomdgnfaaDoor
open Go.ChangeShapes Go.WideShapes Go.ChangeAt Go.RowKit
set_option linter.unusedVariables false
set_option linter.unusedSimpArgs false
set_option maxRecDepth 100000
open K
theorem g_40b (t : Nd) (x0 x1 : Int) (hop : t.op = 40) (hr : ∀ x ∈ ([x0, x1] : List Int), 0 ≤ x ∧ x ≤ 64) :
    (x0 == 41 && (isNm t.name && only t true false false false false) && (x1 == 43 || x1 == 27)) = nodG t [x0, x1] := by
  obtain ⟨a0, b0⟩ := hr x0 (by simp)
  obtain ⟨a1, b1⟩ := hr x1 (by simp)
  unfold nodG
  rw [hop]
  simp only [formD, fldB, choG, hop, alw0, alw1, alw2, fit11n, fit11c, fit01n, fit01c, fit0n, fit0c, has_41 x0 a0 b0, has_43_27 x0 a0 b0, has_43_27 x1 a1 b1, only, flg, isTrm, isSrc]
  generalize noS t.name = z65505
  generalize noS t.qual = z81970
  generalize isNm t.name = z3179
  generalize isNm t.qual = z63496
  generalize noV t = z88319
  rw [Bool.eq_iff_iff]
  simp
  grind
end Go.Proofs.YtghdjagomdgnfaaDoor
namespace Go.Proofs.YtghdjagomdgnfaaDoor
open Go.ChangeShapes Go.WideShapes Go.ChangeAt Go.RowKit
set_option linter.unusedVariables false
set_option linter.unusedSimpArgs false
set_option maxRecDepth 100000
open K
theorem g_40o (t : Nd) (ops : List Int) (hop : t.op = 40) (hno1 : ((ops.length : Int) == 1) = false) (hno : ((ops.length : Int) == 2) = false) :
    false = nodG t ops := by
  have hf : ∀ f, formD t.op t.n = some f → fit ops f.kids = false := by
    intro f hf
    rw [hop] at hf
    obtain rfl := Option.some.inj hf
    show fit ops _ = false
    match ops, hno1, hno with
    | [], _, _ => simp [fit11n, fit01n]
    | [a], h, _ => simp at h
    | [a, b], _, h => simp at h
    | a :: b :: c :: r, _, _ => simp [fit11n, fit11c, fit01n, fit01c, fit0c]
  unfold nodG
  cases h : formD t.op t.n with
  | none => rfl
  | some f => simp [hf f h]
end Go.Proofs.YtghdjagomdgnfaaDoor
namespace Go.Proofs.YtghdjagomdgnfaaDoor
open Go.ChangeShapes Go.WideShapes Go.ChangeAt Go.RowKit
set_option linter.unusedVariables false
set_option linter.unusedSimpArgs false
set_option maxRecDepth 100000
open K
theorem g_41 (t : Nd) (ops : List Int) (hop : t.op = 41) (hr : ∀ x ∈ ops, 0 ≤ x ∧ x ≤ 64) (hl : ops.length ≤ 6000) :
    ((ops.all (· == 42) && decide ((0 : Int) < ops.length)) && only t false false false false false) = nodG t ops := by
  unfold nodG
  rw [hop]
  simp only [formD, fldB, choG, hop, alw0, alw1, alw2, fit_part _ _ _ _ (by decide : (0 : Int) ≤ 6000), all_has has_42 hr, only, flg]
  generalize ops.all isE = z70303
  generalize ops.all isV = z17806
  generalize noS t.name = z33329
  generalize noS t.qual = z35676
  generalize isNm t.name = z78092
  generalize isNm t.qual = z23341
  generalize mayN t.name = z66883
  generalize mayN t.qual = z64349
  generalize noV t = z51718
  generalize vok t.vk t.vn t.vs = z77501
  rw [Bool.eq_iff_iff]
  simp
  grind
end Go.Proofs.YtghdjagomdgnfaaDoor
namespace Go.Proofs.YtghdjagomdgnfaaDoor
open Go.ChangeShapes Go.WideShapes Go.ChangeAt Go.RowKit
set_option linter.unusedVariables false
set_option linter.unusedSimpArgs false
set_option maxRecDepth 100000
open K
theorem g_42 (t : Nd) (ops : List Int) (hop : t.op = 42) (hr : ∀ x ∈ ops, 0 ≤ x ∧ x ≤ 64) (hl : ops.length ≤ 6000) :
    (((ops.length : Int) == 0) && (isNm t.name && only t true false false false false)) = nodG t ops := by
  unfold nodG
  rw [hop]
  simp only [formD, fldB, choG, hop, alw0, alw1, alw2, fit_none, only, flg]
  generalize ops.all isE = z70303
  generalize ops.all isV = z17806
  generalize noS t.name = z33329
  generalize noS t.qual = z35676
  generalize isNm t.name = z78092
  generalize isNm t.qual = z23341
  generalize mayN t.name = z66883
  generalize mayN t.qual = z64349
  generalize noV t = z51718
  generalize vok t.vk t.vn t.vs = z77501
  rw [Bool.eq_iff_iff]
  simp
  grind
end Go.Proofs.YtghdjagomdgnfaaDoor
namespace Go.Proofs.YtghdjagomdgnfaaDoor
open Go.ChangeShapes Go.WideShapes Go.ChangeAt Go.RowKit
set_option linter.unusedVariables false
set_option linter.unusedSimpArgs false
set_option maxRecDepth 100000
open K
theorem g_43 (t : Nd) (ops : List Int) (hop : t.op = 43) (hr : ∀ x ∈ ops, 0 ≤ x ∧ x ≤ 64) (hl : ops.length ≤ 6000) :
    ((ops.all (· == 44) && decide ((0 : Int) < ops.length)) && only t false false false false false) = nodG t ops := by
  unfold nodG
  rw [hop]
  simp only [formD, fldB, choG, hop, alw0, alw1, alw2, fit_part _ _ _ _ (by decide : (0 : Int) ≤ 6000), all_has has_44 hr, only, flg]
  generalize ops.all isE = z70303
  generalize ops.all isV = z17806
  generalize noS t.name = z33329
  generalize noS t.qual = z35676
  generalize isNm t.name = z78092
  generalize isNm t.qual = z23341
  generalize mayN t.name = z66883
  generalize mayN t.qual = z64349
  generalize noV t = z51718
  generalize vok t.vk t.vn t.vs = z77501
  rw [Bool.eq_iff_iff]
  simp
  grind
end Go.Proofs.YtghdjagomdgnfaaDoor
namespace Go.Proofs.YtghdjagomdgnfaaDoor
open Go.ChangeShapes Go.WideShapes Go.ChangeAt Go.RowKit
set_option linter.unusedVariables false
set_option linter.unusedSimpArgs false
set_option maxRecDepth 100000
open K
theorem g_44 (t : Nd) (ops : List Int) (hop : t.op = 44) (hr : ∀ x ∈ ops, 0 ≤ x ∧ x ≤ 64) (hl : ops.length ≤ 6000) :
    ((ops.all isV && decide (1 ≤ (ops.length : Int))) && only t false false false false false) = nodG t ops := by
  unfold nodG
  rw [hop]
  simp only [formD, fldB, choG, hop, alw0, alw1, alw2, fit_part _ _ _ _ (by decide : (0 : Int) ≤ 6000), all_has hasV hr, only, flg]
  generalize ops.all isE = z70303
  generalize ops.all isV = z17806
  generalize noS t.name = z33329
  generalize noS t.qual = z35676
  generalize isNm t.name = z78092
  generalize isNm t.qual = z23341
  generalize mayN t.name = z66883
  generalize mayN t.qual = z64349
  generalize noV t = z51718
  generalize vok t.vk t.vn t.vs = z77501
  rw [Bool.eq_iff_iff]
  simp
  grind
end Go.Proofs.YtghdjagomdgnfaaDoor
namespace Go.Proofs.YtghdjagomdgnfaaDoor
open Go.ChangeShapes Go.WideShapes Go.ChangeAt Go.RowKit
set_option linter.unusedVariables false
set_option linter.unusedSimpArgs false
set_option maxRecDepth 100000
open K
theorem g_45 (t : Nd) (ops : List Int) (hop : t.op = 45) (hr : ∀ x ∈ ops, 0 ≤ x ∧ x ≤ 64) (hl : ops.length ≤ 6000) :
    (((ops.length : Int) == 0) && only t false false false false false) = nodG t ops := by
  unfold nodG
  rw [hop]
  simp only [formD, fldB, choG, hop, alw0, alw1, alw2, fit_none, only, flg]
  generalize ops.all isE = z70303
  generalize ops.all isV = z17806
  generalize noS t.name = z33329
  generalize noS t.qual = z35676
  generalize isNm t.name = z78092
  generalize isNm t.qual = z23341
  generalize mayN t.name = z66883
  generalize mayN t.qual = z64349
  generalize noV t = z51718
  generalize vok t.vk t.vn t.vs = z77501
  rw [Bool.eq_iff_iff]
  simp
  grind
end Go.Proofs.YtghdjagomdgnfaaDoor
namespace Go.Proofs.YtghdjagomdgnfaaDoor
open Go.ChangeShapes Go.WideShapes Go.ChangeAt Go.RowKit
set_option linter.unusedVariables false
set_option linter.unusedSimpArgs false
set_option maxRecDepth 100000
open K
theorem g_47 (t : Nd) (ops : List Int) (hop : t.op = 47) (hr : ∀ x ∈ ops, 0 ≤ x ∧ x ≤ 64) (hl : ops.length ≤ 6000) :
    ((isNm t.name && only t true false false false false) && ((ops.length : Int) == 1) && (ops.all isV && decide (1 ≤ (ops.length : Int)))) = nodG t ops := by
  unfold nodG
  rw [hop]
  simp only [formD, fldB, choG, hop, alw0, alw1, alw2, fit_part _ _ _ _ (by decide : (0 : Int) ≤ 1), all_has hasV hr, only, flg]
  generalize ops.all isE = z70303
  generalize ops.all isV = z17806
  generalize noS t.name = z33329
  generalize noS t.qual = z35676
  generalize isNm t.name = z78092
  generalize isNm t.qual = z23341
  generalize mayN t.name = z66883
  generalize mayN t.qual = z64349
  generalize noV t = z51718
  generalize vok t.vk t.vn t.vs = z77501
  rw [Bool.eq_iff_iff]
  simp
  grind
end Go.Proofs.YtghdjagomdgnfaaDoor
namespace Go.Proofs.YtghdjagomdgnfaaDoor
open Go.ChangeShapes Go.WideShapes Go.ChangeAt Go.RowKit
set_option linter.unusedVariables false
set_option linter.unusedSimpArgs false
set_option maxRecDepth 100000
open K
theorem some22 (ops : List Int) (hr : ∀ x ∈ ops, 0 ≤ x ∧ x ≤ 64) : fit ops [(setI [22], 0, 1)] = someL [22] ops 0 := by
  match ops, hr with
  | [], _ => rfl
  | [a], hr =>
    obtain ⟨a0, b0⟩ := hr a (by simp)
    rw [fit01c, has_22 a a0 b0]
    cases h : (a == 22)
    · have h2 : ¬ 22 = a := by intro e; subst e; simp at h
      simp [fit0c, someL, h2]
    · have h2 : a = 22 := by simpa using h
      subst h2
      simp [fit0n, someL]
  | a :: b :: r, hr =>
    obtain ⟨a0, b0⟩ := hr a (by simp)
    rw [fit01c, has_22 a a0 b0]
    cases h : (a == 22)
    · have h2 : ¬ 22 = a := by intro e; subst e; simp at h
      simp [fit0c, someL, h2]
    · have h2 : a = 22 := by simpa using h
      subst h2
      simp [fit0c, someL]
theorem g_48 (t : Nd) (ops : List Int) (hop : t.op = 48) (hr : ∀ x ∈ ops, 0 ≤ x ∧ x ≤ 64) :
    ((isNm t.name && only t true false false false false) && someL [22] ops 0) = nodG t ops := by
  unfold nodG
  rw [hop]
  simp only [formD, fldB, choG, hop, alw0, alw1, alw2, some22 ops hr, only]
  generalize someL [22] ops 0 = sm
  generalize noS t.qual = b
  generalize isNm t.name = d
  generalize noV t = c
  rw [Bool.eq_iff_iff]
  simp
  grind
end Go.Proofs.YtghdjagomdgnfaaDoor
