import Derived.Test.YtghdjagomdgnfaaDoorHBE
import Derived.Test.YtghdjagomdgnfaaDoorHBJ
namespace Go.Proofs.YtghdjagomdgnfaaDoor
open Go.ChangeShapes Go.WideShapes Go.ChangeAt Go.RowKit
set_option linter.unusedVariables false
set_option linter.unusedSimpArgs false
set_option maxRecDepth 100000
open K
theorem g_49 (t : Nd) (ops : List Int) (hop : t.op = 49) (hr : ∀ x ∈ ops, 0 ≤ x ∧ x ≤ 64) (hl : ops.length ≤ 6000) :
    (ops.all is49 && (isNm t.name && only t true false false false false) && decide (1 ≤ (ops.length : Int))) = nodG t ops := by
  unfold nodG
  rw [hop]
  simp only [formD, fldB, choG, hop, alw0, alw1, alw2, fit_part _ _ _ _ (by decide : (0 : Int) ≤ 6000), all_has (p := is49) has_50_52_53_54 hr, only, flg]
  generalize ops.all is49 = zp
  generalize ops.all isE = z64176
  generalize ops.all isV = z7597
  generalize noS t.name = z88216
  generalize noS t.qual = z16762
  generalize isNm t.name = z74393
  generalize isNm t.qual = z34904
  generalize mayN t.name = z95284
  generalize mayN t.qual = z68489
  generalize noV t = z24816
  generalize vok t.vk t.vn t.vs = z80788
  rw [Bool.eq_iff_iff]
  simp
  grind
end Go.Proofs.YtghdjagomdgnfaaDoor
namespace Go.Proofs.YtghdjagomdgnfaaDoor
open Go.ChangeShapes Go.WideShapes Go.ChangeAt Go.RowKit
set_option linter.unusedVariables false
set_option linter.unusedSimpArgs false
set_option maxRecDepth 100000
open K
theorem g_50 (t : Nd) (ops : List Int) (hop : t.op = 50) (hr : ∀ x ∈ ops, 0 ≤ x ∧ x ≤ 64) (hl : ops.length ≤ 6000) :
    (ops.all is50 && isNm t.name && decide (1 ≤ t.n) && decide (t.n ≤ 5) && decide (0 ≤ t.m) && decide (t.m ≤ 7) && only t true false true true false) = nodG t ops := by
  unfold nodG
  rw [hop]
  simp only [formD, fldB, choG, hop, alw0, alw1, alw2, fit_part _ _ _ _ (by decide : (0 : Int) ≤ 6000), all_has (p := is50) has_51_52 hr, only, flg]
  generalize ops.all is50 = zp
  generalize ops.all isE = z64176
  generalize ops.all isV = z7597
  generalize noS t.name = z88216
  generalize noS t.qual = z16762
  generalize isNm t.name = z74393
  generalize isNm t.qual = z34904
  generalize mayN t.name = z95284
  generalize mayN t.qual = z68489
  generalize noV t = z24816
  generalize vok t.vk t.vn t.vs = z80788
  rw [Bool.eq_iff_iff]
  simp
  grind
end Go.Proofs.YtghdjagomdgnfaaDoor
namespace Go.Proofs.YtghdjagomdgnfaaDoor
open Go.ChangeShapes Go.WideShapes Go.ChangeAt Go.RowKit
set_option linter.unusedVariables false
set_option linter.unusedSimpArgs false
set_option maxRecDepth 100000
open K
theorem g_51 (t : Nd) (ops : List Int) (hop : t.op = 51) (hr : ∀ x ∈ ops, 0 ≤ x ∧ x ≤ 64) (hl : ops.length ≤ 6000) :
    (((ops.length : Int) == 1) && ops.all isE && only t false false false false false) = nodG t ops := by
  unfold nodG
  rw [hop]
  simp only [formD, fldB, choG, hop, alw0, alw1, alw2, fit_part _ _ _ _ (by decide : (0 : Int) ≤ 1), all_hasE hr, only, flg]
  generalize ops.all isE = z70303
  generalize ops.all isV = z17806
  generalize noS t.name = z33329
  generalize noS t.qual = z35676
  generalize isNm t.name = z78092
  generalize isNm t.qual = z23341
  generalize mayN t.name = z66883
  generalize mayN t.qual = z64349
  generalize noV t = z51718
  generalize vok t.vk t.vn t.vs = z77501
  rw [Bool.eq_iff_iff]
  simp
  grind
end Go.Proofs.YtghdjagomdgnfaaDoor
namespace Go.Proofs.YtghdjagomdgnfaaDoor
open Go.ChangeShapes Go.WideShapes Go.ChangeAt Go.RowKit
set_option linter.unusedVariables false
set_option linter.unusedSimpArgs false
set_option maxRecDepth 100000
open K
theorem g_52 (t : Nd) (ops : List Int) (hop : t.op = 52) (hr : ∀ x ∈ ops, 0 ≤ x ∧ x ≤ 64) (hl : ops.length ≤ 6000) :
    (((ops.length : Int) == 1) && ops.all isE && only t false false false false false) = nodG t ops := by
  unfold nodG
  rw [hop]
  simp only [formD, fldB, choG, hop, alw0, alw1, alw2, fit_part _ _ _ _ (by decide : (0 : Int) ≤ 1), all_hasE hr, only, flg]
  generalize ops.all isE = z70303
  generalize ops.all isV = z17806
  generalize noS t.name = z33329
  generalize noS t.qual = z35676
  generalize isNm t.name = z78092
  generalize isNm t.qual = z23341
  generalize mayN t.name = z66883
  generalize mayN t.qual = z64349
  generalize noV t = z51718
  generalize vok t.vk t.vn t.vs = z77501
  rw [Bool.eq_iff_iff]
  simp
  grind
end Go.Proofs.YtghdjagomdgnfaaDoor
namespace Go.Proofs.YtghdjagomdgnfaaDoor
open Go.ChangeShapes Go.WideShapes Go.ChangeAt Go.RowKit
set_option linter.unusedVariables false
set_option linter.unusedSimpArgs false
set_option maxRecDepth 100000
open K
theorem g_53 (t : Nd) (ops : List Int) (hop : t.op = 53) (hr : ∀ x ∈ ops, 0 ≤ x ∧ x ≤ 64) (hl : ops.length ≤ 6000) :
    ((ops.all (· == 42) && decide ((0 : Int) < ops.length)) && only t false false false false false) = nodG t ops := by
  unfold nodG
  rw [hop]
  simp only [formD, fldB, choG, hop, alw0, alw1, alw2, fit_part _ _ _ _ (by decide : (0 : Int) ≤ 6000), all_has has_42 hr, only, flg]
  generalize ops.all isE = z70303
  generalize ops.all isV = z17806
  generalize noS t.name = z33329
  generalize noS t.qual = z35676
  generalize isNm t.name = z78092
  generalize isNm t.qual = z23341
  generalize mayN t.name = z66883
  generalize mayN t.qual = z64349
  generalize noV t = z51718
  generalize vok t.vk t.vn t.vs = z77501
  rw [Bool.eq_iff_iff]
  simp
  grind
end Go.Proofs.YtghdjagomdgnfaaDoor
namespace Go.Proofs.YtghdjagomdgnfaaDoor
open Go.ChangeShapes Go.WideShapes Go.ChangeAt Go.RowKit
set_option linter.unusedVariables false
set_option linter.unusedSimpArgs false
set_option maxRecDepth 100000
open K
theorem g_54 (t : Nd) (ops : List Int) (hop : t.op = 54) (hr : ∀ x ∈ ops, 0 ≤ x ∧ x ≤ 64) (hl : ops.length ≤ 6000) :
    ((ops.all (· == 42) && decide ((0 : Int) < ops.length)) && only t false false false false false) = nodG t ops := by
  unfold nodG
  rw [hop]
  simp only [formD, fldB, choG, hop, alw0, alw1, alw2, fit_part _ _ _ _ (by decide : (0 : Int) ≤ 6000), all_has has_42 hr, only, flg]
  generalize ops.all isE = z70303
  generalize ops.all isV = z17806
  generalize noS t.name = z33329
  generalize noS t.qual = z35676
  generalize isNm t.name = z78092
  generalize isNm t.qual = z23341
  generalize mayN t.name = z66883
  generalize mayN t.qual = z64349
  generalize noV t = z51718
  generalize vok t.vk t.vn t.vs = z77501
  rw [Bool.eq_iff_iff]
  simp
  grind
end Go.Proofs.YtghdjagomdgnfaaDoor
namespace Go.Proofs.YtghdjagomdgnfaaDoor
open Go.ChangeShapes Go.WideShapes Go.ChangeAt Go.RowKit
set_option linter.unusedVariables false
set_option linter.unusedSimpArgs false
set_option maxRecDepth 100000
open K
theorem g_55 (t : Nd) (ops : List Int) (hop : t.op = 55) (hr : ∀ x ∈ ops, 0 ≤ x ∧ x ≤ 64) (hl : ops.length ≤ 6000) :
    (isNm t.name && isNm t.qual && flg t.n && (ops.all (· == 42) && decide ((0 : Int) < ops.length)) && only t true true true false false) = nodG t ops := by
  unfold nodG
  rw [hop]
  simp only [formD, fldB, choG, hop, alw0, alw1, alw2, fit_part _ _ _ _ (by decide : (0 : Int) ≤ 6000), all_has has_42 hr, only, flg]
  generalize ops.all isE = z70303
  generalize ops.all isV = z17806
  generalize noS t.name = z33329
  generalize noS t.qual = z35676
  generalize isNm t.name = z78092
  generalize isNm t.qual = z23341
  generalize mayN t.name = z66883
  generalize mayN t.qual = z64349
  generalize noV t = z51718
  generalize vok t.vk t.vn t.vs = z77501
  rw [Bool.eq_iff_iff]
  simp
  grind
end Go.Proofs.YtghdjagomdgnfaaDoor
namespace Go.Proofs.YtghdjagomdgnfaaDoor
open Go.ChangeShapes Go.WideShapes Go.ChangeAt Go.RowKit
set_option linter.unusedVariables false
set_option linter.unusedSimpArgs false
set_option maxRecDepth 100000
open K
theorem g_56 (t : Nd) (ops : List Int) (hop : t.op = 56) (hr : ∀ x ∈ ops, 0 ≤ x ∧ x ≤ 64) (hl : ops.length ≤ 6000) :
    (((ops.length : Int) == 0) && (isNm t.name && only t true false false false false)) = nodG t ops := by
  unfold nodG
  rw [hop]
  simp only [formD, fldB, choG, hop, alw0, alw1, alw2, fit_none, only, flg]
  generalize ops.all isE = z70303
  generalize ops.all isV = z17806
  generalize noS t.name = z33329
  generalize noS t.qual = z35676
  generalize isNm t.name = z78092
  generalize isNm t.qual = z23341
  generalize mayN t.name = z66883
  generalize mayN t.qual = z64349
  generalize noV t = z51718
  generalize vok t.vk t.vn t.vs = z77501
  rw [Bool.eq_iff_iff]
  simp
  grind
end Go.Proofs.YtghdjagomdgnfaaDoor
namespace Go.Proofs.YtghdjagomdgnfaaDoor
open Go.ChangeShapes Go.WideShapes Go.ChangeAt Go.RowKit
set_option linter.unusedVariables false
set_option linter.unusedSimpArgs false
set_option maxRecDepth 100000
open K
theorem g_57 (t : Nd) (ops : List Int) (hop : t.op = 57) (hr : ∀ x ∈ ops, 0 ≤ x ∧ x ≤ 64) (hl : ops.length ≤ 6000) :
    (((ops.length : Int) == 0) && (isNm t.name && only t true false false false false)) = nodG t ops := by
  unfold nodG
  rw [hop]
  simp only [formD, fldB, choG, hop, alw0, alw1, alw2, fit_none, only, flg]
  generalize ops.all isE = z70303
  generalize ops.all isV = z17806
  generalize noS t.name = z33329
  generalize noS t.qual = z35676
  generalize isNm t.name = z78092
  generalize isNm t.qual = z23341
  generalize mayN t.name = z66883
  generalize mayN t.qual = z64349
  generalize noV t = z51718
  generalize vok t.vk t.vn t.vs = z77501
  rw [Bool.eq_iff_iff]
  simp
  grind
end Go.Proofs.YtghdjagomdgnfaaDoor
namespace Go.Proofs.YtghdjagomdgnfaaDoor
open Go.ChangeShapes Go.WideShapes Go.ChangeAt Go.RowKit
set_option linter.unusedVariables false
set_option linter.unusedSimpArgs false
set_option maxRecDepth 100000
open K
theorem g_58 (t : Nd) (ops : List Int) (hop : t.op = 58) (hr : ∀ x ∈ ops, 0 ≤ x ∧ x ≤ 64) (hl : ops.length ≤ 6000) :
    (((ops.length : Int) == 0) && decide (0 ≤ t.n) && decide (t.n ≤ 2) && only t false false true false false) = nodG t ops := by
  unfold nodG
  rw [hop]
  simp only [formD, fldB, choG, hop, alw0, alw1, alw2, fit_none, only, flg]
  generalize ops.all isE = z70303
  generalize ops.all isV = z17806
  generalize noS t.name = z33329
  generalize noS t.qual = z35676
  generalize isNm t.name = z78092
  generalize isNm t.qual = z23341
  generalize mayN t.name = z66883
  generalize mayN t.qual = z64349
  generalize noV t = z51718
  generalize vok t.vk t.vn t.vs = z77501
  rw [Bool.eq_iff_iff]
  simp
  grind
end Go.Proofs.YtghdjagomdgnfaaDoor
namespace Go.Proofs.YtghdjagomdgnfaaDoor
open Go.ChangeShapes Go.WideShapes Go.ChangeAt Go.RowKit
set_option linter.unusedVariables false
set_option linter.unusedSimpArgs false
set_option maxRecDepth 100000
open K
theorem g_59 (t : Nd) (ops : List Int) (hop : t.op = 59) (hr : ∀ x ∈ ops, 0 ≤ x ∧ x ≤ 64) (hl : ops.length ≤ 6000) :
    (((ops.length : Int) == 0) && only t false false false false false) = nodG t ops := by
  unfold nodG
  rw [hop]
  simp only [formD, fldB, choG, hop, alw0, alw1, alw2, fit_none, only, flg]
  generalize ops.all isE = z70303
  generalize ops.all isV = z17806
  generalize noS t.name = z33329
  generalize noS t.qual = z35676
  generalize isNm t.name = z78092
  generalize isNm t.qual = z23341
  generalize mayN t.name = z66883
  generalize mayN t.qual = z64349
  generalize noV t = z51718
  generalize vok t.vk t.vn t.vs = z77501
  rw [Bool.eq_iff_iff]
  simp
  grind
end Go.Proofs.YtghdjagomdgnfaaDoor
namespace Go.Proofs.YtghdjagomdgnfaaDoor
open Go.ChangeShapes Go.WideShapes Go.ChangeAt Go.RowKit
set_option linter.unusedVariables false
set_option linter.unusedSimpArgs false
set_option maxRecDepth 100000
open K
theorem g_60 (t : Nd) (ops : List Int) (hop : t.op = 60) (hr : ∀ x ∈ ops, 0 ≤ x ∧ x ≤ 64) (hl : ops.length ≤ 6000) :
    (((ops.length : Int) == 0) && mayN t.name && only t true false false false false) = nodG t ops := by
  unfold nodG
  rw [hop]
  simp only [formD, fldB, choG, hop, alw0, alw1, alw2, fit_none, only, flg]
  generalize ops.all isE = z70303
  generalize ops.all isV = z17806
  generalize noS t.name = z33329
  generalize noS t.qual = z35676
  generalize isNm t.name = z78092
  generalize isNm t.qual = z23341
  generalize mayN t.name = z66883
  generalize mayN t.qual = z64349
  generalize noV t = z51718
  generalize vok t.vk t.vn t.vs = z77501
  rw [Bool.eq_iff_iff]
  simp
  grind
end Go.Proofs.YtghdjagomdgnfaaDoor
namespace Go.Proofs.YtghdjagomdgnfaaDoor
open Go.ChangeShapes Go.WideShapes Go.ChangeAt Go.RowKit
set_option linter.unusedVariables false
set_option linter.unusedSimpArgs false
set_option maxRecDepth 100000
open K
theorem g_61 (t : Nd) (ops : List Int) (hop : t.op = 61) (hr : ∀ x ∈ ops, 0 ≤ x ∧ x ≤ 64) (hl : ops.length ≤ 6000) :
    (((ops.length : Int) == 0) && (isNm t.name && only t true false false false false)) = nodG t ops := by
  unfold nodG
  rw [hop]
  simp only [formD, fldB, choG, hop, alw0, alw1, alw2, fit_none, only, flg]
  generalize ops.all isE = z70303
  generalize ops.all isV = z17806
  generalize noS t.name = z33329
  generalize noS t.qual = z35676
  generalize isNm t.name = z78092
  generalize isNm t.qual = z23341
  generalize mayN t.name = z66883
  generalize mayN t.qual = z64349
  generalize noV t = z51718
  generalize vok t.vk t.vn t.vs = z77501
  rw [Bool.eq_iff_iff]
  simp
  grind
end Go.Proofs.YtghdjagomdgnfaaDoor
namespace Go.Proofs.YtghdjagomdgnfaaDoor
open Go.ChangeShapes Go.WideShapes Go.ChangeAt Go.RowKit
set_option linter.unusedVariables false
set_option linter.unusedSimpArgs false
set_option maxRecDepth 100000
open K
theorem g_62 (t : Nd) (ops : List Int) (hop : t.op = 62) (hr : ∀ x ∈ ops, 0 ≤ x ∧ x ≤ 64) (hl : ops.length ≤ 6000) :
    (((ops.length : Int) == 0) && (isNm t.name && only t true false false false false)) = nodG t ops := by
  unfold nodG
  rw [hop]
  simp only [formD, fldB, choG, hop, alw0, alw1, alw2, fit_none, only, flg]
  generalize ops.all isE = z70303
  generalize ops.all isV = z17806
  generalize noS t.name = z33329
  generalize noS t.qual = z35676
  generalize isNm t.name = z78092
  generalize isNm t.qual = z23341
  generalize mayN t.name = z66883
  generalize mayN t.qual = z64349
  generalize noV t = z51718
  generalize vok t.vk t.vn t.vs = z77501
  rw [Bool.eq_iff_iff]
  simp
  grind
end Go.Proofs.YtghdjagomdgnfaaDoor
namespace Go.Proofs.YtghdjagomdgnfaaDoor
open Go.ChangeShapes Go.WideShapes Go.ChangeAt Go.RowKit
set_option linter.unusedVariables false
set_option linter.unusedSimpArgs false
set_option maxRecDepth 100000
open K
theorem g_63n (t : Nd) (x0 : Int) (hop : t.op = 63) (hr : ∀ x ∈ ([x0] : List Int), 0 ≤ x ∧ x ≤ 64) :
    (x0 == 27 && only t false false false false false) = nodG t [x0] := by
  obtain ⟨a0, b0⟩ := hr x0 (by simp)
  unfold nodG
  rw [hop]
  simp only [formD, fldB, choG, hop, alw0, alw1, alw2, fit11n, fit11c, fit01n, fit01c, fit0n, fit0c, has_27 x0 a0 b0, only, flg, isTrm, isSrc]
  generalize noS t.name = z65505
  generalize noS t.qual = z81970
  generalize isNm t.name = z3179
  generalize isNm t.qual = z63496
  generalize noV t = z88319
  rw [Bool.eq_iff_iff]
  simp
  grind
end Go.Proofs.YtghdjagomdgnfaaDoor
namespace Go.Proofs.YtghdjagomdgnfaaDoor
open Go.ChangeShapes Go.WideShapes Go.ChangeAt Go.RowKit
set_option linter.unusedVariables false
set_option linter.unusedSimpArgs false
set_option maxRecDepth 100000
open K
theorem g_63o (t : Nd) (ops : List Int) (hop : t.op = 63) (hno : ((ops.length : Int) == 1) = false) :
    false = nodG t ops := by
  have hf : ∀ f, formD t.op t.n = some f → fit ops f.kids = false := by
    intro f hf
    rw [hop] at hf
    obtain rfl := Option.some.inj hf
    show fit ops _ = false
    match ops, hno with
    | [], _ => simp [fit11n]
    | [a], h => simp at h
    | a :: b :: r, _ => simp [fit11n, fit11c, fit0c]
  unfold nodG
  cases h : formD t.op t.n with
  | none => rfl
  | some f => simp [hf f h]
end Go.Proofs.YtghdjagomdgnfaaDoor
