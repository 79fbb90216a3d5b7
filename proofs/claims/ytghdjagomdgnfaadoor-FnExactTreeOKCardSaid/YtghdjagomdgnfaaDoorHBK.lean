import Derived.Test.YtghdjagomdgnfaaDoorHBJ
namespace Go.Proofs.YtghdjagomdgnfaaDoor
open Go.ChangeShapes Go.WideShapes Go.ChangeAt Go.RowKit
set_option linter.unusedVariables false
set_option linter.unusedSimpArgs false
set_option maxRecDepth 100000
open K
theorem g_1 (t : Nd) (ops : List Int) (hop : t.op = 1) (hr : ∀ x ∈ ops, 0 ≤ x ∧ x ≤ 64) (hl : ops.length ≤ 6000) :
    (((ops.length : Int) == 0) && only t false false false false true && vok t.vk t.vn t.vs && ((t.vk != 1 && t.vk != 2) || decide (0 ≤ t.vn))) = nodG t ops := by
  unfold nodG
  rw [hop]
  simp only [formD, fldB, choG, hop, alw0, alw1, alw2, fit_none, only, flg]
  generalize ops.all isE = z70303
  generalize ops.all isV = z17806
  generalize noS t.name = z33329
  generalize noS t.qual = z35676
  generalize isNm t.name = z78092
  generalize isNm t.qual = z23341
  generalize mayN t.name = z66883
  generalize mayN t.qual = z64349
  generalize noV t = z51718
  generalize vok t.vk t.vn t.vs = z77501
  rw [Bool.eq_iff_iff]
  simp
  grind
end Go.Proofs.YtghdjagomdgnfaaDoor
namespace Go.Proofs.YtghdjagomdgnfaaDoor
open Go.ChangeShapes Go.WideShapes Go.ChangeAt Go.RowKit
set_option linter.unusedVariables false
set_option linter.unusedSimpArgs false
set_option maxRecDepth 100000
open K
theorem g_10 (t : Nd) (ops : List Int) (hop : t.op = 10) (hr : ∀ x ∈ ops, 0 ≤ x ∧ x ≤ 64) (hl : ops.length ≤ 6000) :
    (((ops.length : Int) == 3) && ops.all isE && flg t.n && only t false false true false false) = nodG t ops := by
  unfold nodG
  rw [hop]
  simp only [formD, fldB, choG, hop, alw0, alw1, alw2, fit_part _ _ _ _ (by decide : (0 : Int) ≤ 3), all_hasE hr, only, flg]
  generalize ops.all isE = z70303
  generalize ops.all isV = z17806
  generalize noS t.name = z33329
  generalize noS t.qual = z35676
  generalize isNm t.name = z78092
  generalize isNm t.qual = z23341
  generalize mayN t.name = z66883
  generalize mayN t.qual = z64349
  generalize noV t = z51718
  generalize vok t.vk t.vn t.vs = z77501
  rw [Bool.eq_iff_iff]
  simp
  grind
end Go.Proofs.YtghdjagomdgnfaaDoor
namespace Go.Proofs.YtghdjagomdgnfaaDoor
open Go.ChangeShapes Go.WideShapes Go.ChangeAt Go.RowKit
set_option linter.unusedVariables false
set_option linter.unusedSimpArgs false
set_option maxRecDepth 100000
open K
theorem g_11 (t : Nd) (ops : List Int) (hop : t.op = 11) (hr : ∀ x ∈ ops, 0 ≤ x ∧ x ≤ 64) (hl : ops.length ≤ 6000) :
    (((ops.length : Int) == 2) && ops.all isE && flg t.n && only t false false true false false) = nodG t ops := by
  unfold nodG
  rw [hop]
  simp only [formD, fldB, choG, hop, alw0, alw1, alw2, fit_part _ _ _ _ (by decide : (0 : Int) ≤ 2), all_hasE hr, only, flg]
  generalize ops.all isE = z70303
  generalize ops.all isV = z17806
  generalize noS t.name = z33329
  generalize noS t.qual = z35676
  generalize isNm t.name = z78092
  generalize isNm t.qual = z23341
  generalize mayN t.name = z66883
  generalize mayN t.qual = z64349
  generalize noV t = z51718
  generalize vok t.vk t.vn t.vs = z77501
  rw [Bool.eq_iff_iff]
  simp
  grind
end Go.Proofs.YtghdjagomdgnfaaDoor
namespace Go.Proofs.YtghdjagomdgnfaaDoor
open Go.ChangeShapes Go.WideShapes Go.ChangeAt Go.RowKit
set_option linter.unusedVariables false
set_option linter.unusedSimpArgs false
set_option maxRecDepth 100000
open K
theorem g_12 (t : Nd) (ops : List Int) (hop : t.op = 12) (hr : ∀ x ∈ ops, 0 ≤ x ∧ x ≤ 64) (hl : ops.length ≤ 6000) :
    (flg t.n && flg t.m && ops.all isE && (decide (2 ≤ (ops.length : Int) - t.n - t.m) && ((ops.length : Int) - t.n - t.m) % 2 == 0) && only t false false true true false) = nodG t ops := by
  unfold nodG
  rw [hop]
  simp only [formD, fldB, choG, hop, alw0, alw1, alw2, fit_part _ _ _ _ (by decide : (0 : Int) ≤ 6000), all_hasE hr, only, flg]
  generalize ops.all isE = z70303
  generalize ops.all isV = z17806
  generalize noS t.name = z33329
  generalize noS t.qual = z35676
  generalize isNm t.name = z78092
  generalize isNm t.qual = z23341
  generalize mayN t.name = z66883
  generalize mayN t.qual = z64349
  generalize noV t = z51718
  generalize vok t.vk t.vn t.vs = z77501
  rw [Bool.eq_iff_iff]
  simp
  grind
end Go.Proofs.YtghdjagomdgnfaaDoor
namespace Go.Proofs.YtghdjagomdgnfaaDoor
open Go.ChangeShapes Go.WideShapes Go.ChangeAt Go.RowKit
set_option linter.unusedVariables false
set_option linter.unusedSimpArgs false
set_option maxRecDepth 100000
open K
theorem g_14 (t : Nd) (ops : List Int) (hop : t.op = 14) (hr : ∀ x ∈ ops, 0 ≤ x ∧ x ≤ 64) (hl : ops.length ≤ 6000) :
    (ops.all isE && isNm t.name && only t true false false false false) = nodG t ops := by
  unfold nodG
  rw [hop]
  simp only [formD, fldB, choG, hop, alw0, alw1, alw2, fit_part _ _ _ _ (by decide : (0 : Int) ≤ 6000), all_hasE hr, only, flg]
  generalize ops.all isE = z70303
  generalize ops.all isV = z17806
  generalize noS t.name = z33329
  generalize noS t.qual = z35676
  generalize isNm t.name = z78092
  generalize isNm t.qual = z23341
  generalize mayN t.name = z66883
  generalize mayN t.qual = z64349
  generalize noV t = z51718
  generalize vok t.vk t.vn t.vs = z77501
  rw [Bool.eq_iff_iff]
  simp
  grind
end Go.Proofs.YtghdjagomdgnfaaDoor
namespace Go.Proofs.YtghdjagomdgnfaaDoor
open Go.ChangeShapes Go.WideShapes Go.ChangeAt Go.RowKit
set_option linter.unusedVariables false
set_option linter.unusedSimpArgs false
set_option maxRecDepth 100000
open K
theorem g_15a (t : Nd) (ops : List Int) (hop : t.op = 15) (h1 : t.n = 1) (hr : ∀ x ∈ ops, 0 ≤ x ∧ x ≤ 64) (hl : ops.length ≤ 6000) :
    (((ops.length : Int) == 0) && only t false false true false false) = nodG t ops := by
  have hf : formD t.op t.n = some ⟨0, 0, 1, 1, 0, 0, []⟩ := by rw [hop, h1]; rfl
  unfold nodG
  rw [hf]
  simp only [fldB, choG, hop, alw0, alw1, alw2, fit_none, only, flg]
  generalize ops.all isE = z64176
  generalize noS t.name = z88216
  generalize noS t.qual = z16762
  generalize noV t = z24816
  rw [Bool.eq_iff_iff]
  simp
  grind
end Go.Proofs.YtghdjagomdgnfaaDoor
namespace Go.Proofs.YtghdjagomdgnfaaDoor
open Go.ChangeShapes Go.WideShapes Go.ChangeAt Go.RowKit
set_option linter.unusedVariables false
set_option linter.unusedSimpArgs false
set_option maxRecDepth 100000
open K
theorem g_15b (t : Nd) (ops : List Int) (hop : t.op = 15) (h1 : (t.n == 1) = false) (hr : ∀ x ∈ ops, 0 ≤ x ∧ x ≤ 64) (hl : ops.length ≤ 6000) :
    (decide (1 < t.n) && decide (t.n ≤ 6) && ((ops.length : Int) == 1) && ops.all isE && flg t.m && only t false false true true false) = nodG t ops := by
  have h1' : ¬ t.n = 1 := by simpa using h1
  have hf : formD t.op t.n = some ⟨0, 0, 2, 6, 0, 1, [(262142, 1, 1)]⟩ := by rw [hop]; simp only [formD]; rw [if_neg h1']
  unfold nodG
  rw [hf]
  simp only [fldB, choG, hop, alw0, alw1, alw2, fit_part _ _ _ _ (by decide : (0 : Int) ≤ 1), all_hasE hr, only, flg]
  generalize ops.all isE = z64176
  generalize noS t.name = z88216
  generalize noS t.qual = z16762
  generalize noV t = z24816
  rw [Bool.eq_iff_iff]
  simp
  grind
end Go.Proofs.YtghdjagomdgnfaaDoor
namespace Go.Proofs.YtghdjagomdgnfaaDoor
open Go.ChangeShapes Go.WideShapes Go.ChangeAt Go.RowKit
set_option linter.unusedVariables false
set_option linter.unusedSimpArgs false
set_option maxRecDepth 100000
open K
theorem g_16n (t : Nd) (x0 : Int) (hop : t.op = 16) (hr : ∀ x ∈ ([x0] : List Int), 0 ≤ x ∧ x ≤ 64) :
    (x0 == 27 && only t false false false false false) = nodG t [x0] := by
  obtain ⟨a0, b0⟩ := hr x0 (by simp)
  unfold nodG
  rw [hop]
  simp only [formD, fldB, choG, hop, alw0, alw1, alw2, fit11n, fit11c, fit01n, fit01c, fit0n, fit0c, has_27 x0 a0 b0, only, flg, isTrm, isSrc]
  generalize noS t.name = z65505
  generalize noS t.qual = z81970
  generalize isNm t.name = z3179
  generalize isNm t.qual = z63496
  generalize noV t = z88319
  rw [Bool.eq_iff_iff]
  simp
  grind
end Go.Proofs.YtghdjagomdgnfaaDoor
namespace Go.Proofs.YtghdjagomdgnfaaDoor
open Go.ChangeShapes Go.WideShapes Go.ChangeAt Go.RowKit
set_option linter.unusedVariables false
set_option linter.unusedSimpArgs false
set_option maxRecDepth 100000
open K
theorem g_16o (t : Nd) (ops : List Int) (hop : t.op = 16) (hno : ((ops.length : Int) == 1) = false) :
    false = nodG t ops := by
  have hf : ∀ f, formD t.op t.n = some f → fit ops f.kids = false := by
    intro f hf
    rw [hop] at hf
    obtain rfl := Option.some.inj hf
    show fit ops _ = false
    match ops, hno with
    | [], _ => simp [fit11n]
    | [a], h => simp at h
    | a :: b :: r, _ => simp [fit11n, fit11c, fit0c]
  unfold nodG
  cases h : formD t.op t.n with
  | none => rfl
  | some f => simp [hf f h]
end Go.Proofs.YtghdjagomdgnfaaDoor
namespace Go.Proofs.YtghdjagomdgnfaaDoor
open Go.ChangeShapes Go.WideShapes Go.ChangeAt Go.RowKit
set_option linter.unusedVariables false
set_option linter.unusedSimpArgs false
set_option maxRecDepth 100000
open K
theorem g_17n (t : Nd) (x0 : Int) (hop : t.op = 17) (hr : ∀ x ∈ ([x0] : List Int), 0 ≤ x ∧ x ≤ 64) :
    (x0 == 27 && only t false false false false false) = nodG t [x0] := by
  obtain ⟨a0, b0⟩ := hr x0 (by simp)
  unfold nodG
  rw [hop]
  simp only [formD, fldB, choG, hop, alw0, alw1, alw2, fit11n, fit11c, fit01n, fit01c, fit0n, fit0c, has_27 x0 a0 b0, only, flg, isTrm, isSrc]
  generalize noS t.name = z65505
  generalize noS t.qual = z81970
  generalize isNm t.name = z3179
  generalize isNm t.qual = z63496
  generalize noV t = z88319
  rw [Bool.eq_iff_iff]
  simp
  grind
end Go.Proofs.YtghdjagomdgnfaaDoor
namespace Go.Proofs.YtghdjagomdgnfaaDoor
open Go.ChangeShapes Go.WideShapes Go.ChangeAt Go.RowKit
set_option linter.unusedVariables false
set_option linter.unusedSimpArgs false
set_option maxRecDepth 100000
open K
theorem g_17o (t : Nd) (ops : List Int) (hop : t.op = 17) (hno : ((ops.length : Int) == 1) = false) :
    false = nodG t ops := by
  have hf : ∀ f, formD t.op t.n = some f → fit ops f.kids = false := by
    intro f hf
    rw [hop] at hf
    obtain rfl := Option.some.inj hf
    show fit ops _ = false
    match ops, hno with
    | [], _ => simp [fit11n]
    | [a], h => simp at h
    | a :: b :: r, _ => simp [fit11n, fit11c, fit0c]
  unfold nodG
  cases h : formD t.op t.n with
  | none => rfl
  | some f => simp [hf f h]
end Go.Proofs.YtghdjagomdgnfaaDoor
namespace Go.Proofs.YtghdjagomdgnfaaDoor
open Go.ChangeShapes Go.WideShapes Go.ChangeAt Go.RowKit
set_option linter.unusedVariables false
set_option linter.unusedSimpArgs false
set_option maxRecDepth 100000
open K
theorem g_2 (t : Nd) (ops : List Int) (hop : t.op = 2) (hr : ∀ x ∈ ops, 0 ≤ x ∧ x ≤ 64) (hl : ops.length ≤ 6000) :
    (((ops.length : Int) == 0) && only t true true false false false && isNm t.name && mayN t.qual) = nodG t ops := by
  unfold nodG
  rw [hop]
  simp only [formD, fldB, choG, hop, alw0, alw1, alw2, fit_none, only, flg]
  generalize ops.all isE = z70303
  generalize ops.all isV = z17806
  generalize noS t.name = z33329
  generalize noS t.qual = z35676
  generalize isNm t.name = z78092
  generalize isNm t.qual = z23341
  generalize mayN t.name = z66883
  generalize mayN t.qual = z64349
  generalize noV t = z51718
  generalize vok t.vk t.vn t.vs = z77501
  rw [Bool.eq_iff_iff]
  simp
  grind
end Go.Proofs.YtghdjagomdgnfaaDoor
namespace Go.Proofs.YtghdjagomdgnfaaDoor
open Go.ChangeShapes Go.WideShapes Go.ChangeAt Go.RowKit
set_option linter.unusedVariables false
set_option linter.unusedSimpArgs false
set_option maxRecDepth 100000
open K
theorem g_4 (t : Nd) (ops : List Int) (hop : t.op = 4) (hr : ∀ x ∈ ops, 0 ≤ x ∧ x ≤ 64) (hl : ops.length ≤ 6000) :
    (((ops.length : Int) == 1) && ops.all isE && only t false false false false false) = nodG t ops := by
  unfold nodG
  rw [hop]
  simp only [formD, fldB, choG, hop, alw0, alw1, alw2, fit_part _ _ _ _ (by decide : (0 : Int) ≤ 1), all_hasE hr, only, flg]
  generalize ops.all isE = z70303
  generalize ops.all isV = z17806
  generalize noS t.name = z33329
  generalize noS t.qual = z35676
  generalize isNm t.name = z78092
  generalize isNm t.qual = z23341
  generalize mayN t.name = z66883
  generalize mayN t.qual = z64349
  generalize noV t = z51718
  generalize vok t.vk t.vn t.vs = z77501
  rw [Bool.eq_iff_iff]
  simp
  grind
end Go.Proofs.YtghdjagomdgnfaaDoor
namespace Go.Proofs.YtghdjagomdgnfaaDoor
open Go.ChangeShapes Go.WideShapes Go.ChangeAt Go.RowKit
set_option linter.unusedVariables false
set_option linter.unusedSimpArgs false
set_option maxRecDepth 100000
open K
theorem g_5 (t : Nd) (ops : List Int) (hop : t.op = 5) (hr : ∀ x ∈ ops, 0 ≤ x ∧ x ≤ 64) (hl : ops.length ≤ 6000) :
    (((ops.length : Int) == 2) && ops.all isE && ((decide (1 ≤ t.n) && decide (t.n ≤ 12)) || t.n == 14 || t.n == 15) && only t false false true false false) = nodG t ops := by
  unfold nodG
  rw [hop]
  simp only [formD, fldB, choG, hop, alw0, alw1, alw2, fit_part _ _ _ _ (by decide : (0 : Int) ≤ 2), all_hasE hr, only, flg]
  generalize ops.all isE = z70303
  generalize ops.all isV = z17806
  generalize noS t.name = z33329
  generalize noS t.qual = z35676
  generalize isNm t.name = z78092
  generalize isNm t.qual = z23341
  generalize mayN t.name = z66883
  generalize mayN t.qual = z64349
  generalize noV t = z51718
  generalize vok t.vk t.vn t.vs = z77501
  rw [Bool.eq_iff_iff]
  simp
  grind
end Go.Proofs.YtghdjagomdgnfaaDoor
namespace Go.Proofs.YtghdjagomdgnfaaDoor
open Go.ChangeShapes Go.WideShapes Go.ChangeAt Go.RowKit
set_option linter.unusedVariables false
set_option linter.unusedSimpArgs false
set_option maxRecDepth 100000
open K
theorem g_6 (t : Nd) (ops : List Int) (hop : t.op = 6) (hr : ∀ x ∈ ops, 0 ≤ x ∧ x ≤ 64) (hl : ops.length ≤ 6000) :
    (((ops.length : Int) == 1) && ops.all isE && flg t.n && only t false false true false false) = nodG t ops := by
  unfold nodG
  rw [hop]
  simp only [formD, fldB, choG, hop, alw0, alw1, alw2, fit_part _ _ _ _ (by decide : (0 : Int) ≤ 1), all_hasE hr, only, flg]
  generalize ops.all isE = z70303
  generalize ops.all isV = z17806
  generalize noS t.name = z33329
  generalize noS t.qual = z35676
  generalize isNm t.name = z78092
  generalize isNm t.qual = z23341
  generalize mayN t.name = z66883
  generalize mayN t.qual = z64349
  generalize noV t = z51718
  generalize vok t.vk t.vn t.vs = z77501
  rw [Bool.eq_iff_iff]
  simp
  grind
end Go.Proofs.YtghdjagomdgnfaaDoor
namespace Go.Proofs.YtghdjagomdgnfaaDoor
open Go.ChangeShapes Go.WideShapes Go.ChangeAt Go.RowKit
set_option linter.unusedVariables false
set_option linter.unusedSimpArgs false
set_option maxRecDepth 100000
open K
theorem g_7 (t : Nd) (ops : List Int) (hop : t.op = 7) (hr : ∀ x ∈ ops, 0 ≤ x ∧ x ≤ 64) (hl : ops.length ≤ 6000) :
    (((ops.length : Int) == 2) && ops.all isE && flg t.n && only t false false true false false) = nodG t ops := by
  unfold nodG
  rw [hop]
  simp only [formD, fldB, choG, hop, alw0, alw1, alw2, fit_part _ _ _ _ (by decide : (0 : Int) ≤ 2), all_hasE hr, only, flg]
  generalize ops.all isE = z70303
  generalize ops.all isV = z17806
  generalize noS t.name = z33329
  generalize noS t.qual = z35676
  generalize isNm t.name = z78092
  generalize isNm t.qual = z23341
  generalize mayN t.name = z66883
  generalize mayN t.qual = z64349
  generalize noV t = z51718
  generalize vok t.vk t.vn t.vs = z77501
  rw [Bool.eq_iff_iff]
  simp
  grind
end Go.Proofs.YtghdjagomdgnfaaDoor
