import Derived.Test.YtghdjagomdgnfaaDoorHBJ
import Derived.Test.YtghdjagomdgnfaaDoorHAX
namespace Go.Proofs.YtghdjagomdgnfaaDoor
open Go.ChangeShapes Go.WideShapes Go.ChangeAt Go.RowKit
set_option linter.unusedVariables false
set_option linter.unusedSimpArgs false
set_option maxRecDepth 100000
open K
theorem g_8 (t : Nd) (ops : List Int) (hop : t.op = 8) (hr : ∀ x ∈ ops, 0 ≤ x ∧ x ≤ 64) (hl : ops.length ≤ 6000) :
    (decide (2 ≤ (ops.length : Int)) && ops.all isE && flg t.n && only t false false true false false) = nodG t ops := by
  unfold nodG
  rw [hop]
  simp only [formD, fldB, choG, hop, alw0, alw1, alw2, fit_part _ _ _ _ (by decide : (0 : Int) ≤ 6000), all_hasE hr, only, flg]
  generalize ops.all isE = z70303
  generalize ops.all isV = z17806
  generalize noS t.name = z33329
  generalize noS t.qual = z35676
  generalize isNm t.name = z78092
  generalize isNm t.qual = z23341
  generalize mayN t.name = z66883
  generalize mayN t.qual = z64349
  generalize noV t = z51718
  generalize vok t.vk t.vn t.vs = z77501
  rw [Bool.eq_iff_iff]
  simp
  grind
end Go.Proofs.YtghdjagomdgnfaaDoor
namespace Go.Proofs.YtghdjagomdgnfaaDoor
open Go.ChangeShapes Go.WideShapes Go.ChangeAt Go.RowKit
set_option linter.unusedVariables false
set_option linter.unusedSimpArgs false
set_option maxRecDepth 100000
open K
theorem g_9n (t : Nd) (x0 x1 : Int) (hop : t.op = 9) (hr : ∀ x ∈ ([x0, x1] : List Int), 0 ≤ x ∧ x ≤ 64) :
    (isE x0 && x1 == 27 && flg t.n && only t false false true false false) = nodG t [x0, x1] := by
  obtain ⟨a0, b0⟩ := hr x0 (by simp)
  obtain ⟨a1, b1⟩ := hr x1 (by simp)
  unfold nodG
  rw [hop]
  simp only [formD, fldB, choG, hop, alw0, alw1, alw2, fit11n, fit11c, fit01n, fit01c, fit0n, fit0c, hasE x0 a0 b0, has_27 x1 a1 b1, only, flg, isTrm, isSrc]
  generalize noS t.name = z65505
  generalize noS t.qual = z81970
  generalize isNm t.name = z3179
  generalize isNm t.qual = z63496
  generalize noV t = z88319
  rw [Bool.eq_iff_iff]
  simp
  grind
end Go.Proofs.YtghdjagomdgnfaaDoor
namespace Go.Proofs.YtghdjagomdgnfaaDoor
open Go.ChangeShapes Go.WideShapes Go.ChangeAt Go.RowKit
set_option linter.unusedVariables false
set_option linter.unusedSimpArgs false
set_option maxRecDepth 100000
open K
theorem g_9o (t : Nd) (ops : List Int) (hop : t.op = 9) (hno : ((ops.length : Int) == 2) = false) :
    false = nodG t ops := by
  have hf : ∀ f, formD t.op t.n = some f → fit ops f.kids = false := by
    intro f hf
    rw [hop] at hf
    obtain rfl := Option.some.inj hf
    show fit ops _ = false
    match ops, hno with
    | [], _ => simp [fit11n]
    | [a], _ => simp [fit11n, fit11c]
    | [a, b], h => simp at h
    | a :: b :: c :: r, _ => simp [fit11n, fit11c, fit0c]
  unfold nodG
  cases h : formD t.op t.n with
  | none => rfl
  | some f => simp [hf f h]
end Go.Proofs.YtghdjagomdgnfaaDoor
namespace Go.Proofs.YtghdjagomdgnfaaDoor
open Go.ChangeShapes Go.WideShapes Go.ChangeAt Go.RowKit
set_option linter.unusedVariables false
set_option linter.unusedSimpArgs false
set_option maxRecDepth 100000
open K
theorem g_18 (t : Nd) (ops : List Int) (hop : t.op = 18) (hr : ∀ x ∈ ops, 0 ≤ x ∧ x ≤ 64) (hl : ops.length ≤ 6000) :
    (((ops.length : Int) == 0) && mayN t.qual && only t false true false false false) = nodG t ops := by
  unfold nodG
  rw [hop]
  simp only [formD, fldB, choG, hop, alw0, alw1, alw2, fit_none, only, flg]
  generalize ops.all isE = z70303
  generalize ops.all isV = z17806
  generalize noS t.name = z33329
  generalize noS t.qual = z35676
  generalize isNm t.name = z78092
  generalize isNm t.qual = z23341
  generalize mayN t.name = z66883
  generalize mayN t.qual = z64349
  generalize noV t = z51718
  generalize vok t.vk t.vn t.vs = z77501
  rw [Bool.eq_iff_iff]
  simp
  grind
end Go.Proofs.YtghdjagomdgnfaaDoor
namespace Go.Proofs.YtghdjagomdgnfaaDoor
open Go.ChangeShapes Go.WideShapes Go.ChangeAt Go.RowKit
set_option linter.unusedVariables false
set_option linter.unusedSimpArgs false
set_option maxRecDepth 100000
open K
theorem g_19 (t : Nd) (ops : List Int) (hop : t.op = 19) (hr : ∀ x ∈ ops, 0 ≤ x ∧ x ≤ 64) (hl : ops.length ≤ 6000) :
    (((ops.length : Int) == 1) && ops.all isE && mayN t.name && only t true false false false false) = nodG t ops := by
  unfold nodG
  rw [hop]
  simp only [formD, fldB, choG, hop, alw0, alw1, alw2, fit_part _ _ _ _ (by decide : (0 : Int) ≤ 1), all_hasE hr, only, flg]
  generalize ops.all isE = z70303
  generalize ops.all isV = z17806
  generalize noS t.name = z33329
  generalize noS t.qual = z35676
  generalize isNm t.name = z78092
  generalize isNm t.qual = z23341
  generalize mayN t.name = z66883
  generalize mayN t.qual = z64349
  generalize noV t = z51718
  generalize vok t.vk t.vn t.vs = z77501
  rw [Bool.eq_iff_iff]
  simp
  grind
end Go.Proofs.YtghdjagomdgnfaaDoor
namespace Go.Proofs.YtghdjagomdgnfaaDoor
open Go.ChangeShapes Go.WideShapes Go.ChangeAt Go.RowKit
set_option linter.unusedVariables false
set_option linter.unusedSimpArgs false
set_option maxRecDepth 100000
open K
theorem g_20 (t : Nd) (ops : List Int) (hop : t.op = 20) (hr : ∀ x ∈ ops, 0 ≤ x ∧ x ≤ 64) (hl : ops.length ≤ 6000) :
    (ops.all is20 && decide (1 ≤ (ops.length : Int)) && only t false false false false false) = nodG t ops := by
  unfold nodG
  rw [hop]
  simp only [formD, fldB, choG, hop, alw0, alw1, alw2, fit_part _ _ _ _ (by decide : (0 : Int) ≤ 6000), all_has (p := is20) has_18_19 hr, only, flg]
  generalize ops.all is20 = zp
  generalize ops.all isE = z64176
  generalize ops.all isV = z7597
  generalize noS t.name = z88216
  generalize noS t.qual = z16762
  generalize isNm t.name = z74393
  generalize isNm t.qual = z34904
  generalize mayN t.name = z95284
  generalize mayN t.qual = z68489
  generalize noV t = z24816
  generalize vok t.vk t.vn t.vs = z80788
  rw [Bool.eq_iff_iff]
  simp
  grind
end Go.Proofs.YtghdjagomdgnfaaDoor
namespace Go.Proofs.YtghdjagomdgnfaaDoor
open Go.ChangeShapes Go.WideShapes Go.ChangeAt Go.RowKit
set_option linter.unusedVariables false
set_option linter.unusedSimpArgs false
set_option maxRecDepth 100000
open K
theorem g_21 (t : Nd) (ops : List Int) (hop : t.op = 21) (hr : ∀ x ∈ ops, 0 ≤ x ∧ x ≤ 64) (hl : ops.length ≤ 6000) :
    (ops.all isSrc && decide (1 ≤ (ops.length : Int)) && only t false false false false false) = nodG t ops := by
  unfold nodG
  rw [hop]
  simp only [formD, fldB, choG, hop, alw0, alw1, alw2, fit_part _ _ _ _ (by decide : (0 : Int) ≤ 6000), all_has (p := isSrc) has_31_32_33 hr, only, flg]
  generalize ops.all isSrc = zp
  generalize ops.all isE = z64176
  generalize ops.all isV = z7597
  generalize noS t.name = z88216
  generalize noS t.qual = z16762
  generalize isNm t.name = z74393
  generalize isNm t.qual = z34904
  generalize mayN t.name = z95284
  generalize mayN t.qual = z68489
  generalize noV t = z24816
  generalize vok t.vk t.vn t.vs = z80788
  rw [Bool.eq_iff_iff]
  simp
  grind
end Go.Proofs.YtghdjagomdgnfaaDoor
namespace Go.Proofs.YtghdjagomdgnfaaDoor
open Go.ChangeShapes Go.WideShapes Go.ChangeAt Go.RowKit
set_option linter.unusedVariables false
set_option linter.unusedSimpArgs false
set_option maxRecDepth 100000
open K
theorem g_22 (t : Nd) (ops : List Int) (hop : t.op = 22) (hr : ∀ x ∈ ops, 0 ≤ x ∧ x ≤ 64) (hl : ops.length ≤ 6000) :
    (((ops.length : Int) == 1) && ops.all isE && only t false false false false false) = nodG t ops := by
  unfold nodG
  rw [hop]
  simp only [formD, fldB, choG, hop, alw0, alw1, alw2, fit_part _ _ _ _ (by decide : (0 : Int) ≤ 1), all_hasE hr, only, flg]
  generalize ops.all isE = z70303
  generalize ops.all isV = z17806
  generalize noS t.name = z33329
  generalize noS t.qual = z35676
  generalize isNm t.name = z78092
  generalize isNm t.qual = z23341
  generalize mayN t.name = z66883
  generalize mayN t.qual = z64349
  generalize noV t = z51718
  generalize vok t.vk t.vn t.vs = z77501
  rw [Bool.eq_iff_iff]
  simp
  grind
end Go.Proofs.YtghdjagomdgnfaaDoor
namespace Go.Proofs.YtghdjagomdgnfaaDoor
open Go.ChangeShapes Go.WideShapes Go.ChangeAt Go.RowKit
set_option linter.unusedVariables false
set_option linter.unusedSimpArgs false
set_option maxRecDepth 100000
open K
theorem g_23 (t : Nd) (ops : List Int) (hop : t.op = 23) (hr : ∀ x ∈ ops, 0 ≤ x ∧ x ≤ 64) (hl : ops.length ≤ 6000) :
    (decide (1 ≤ (ops.length : Int)) && ops.all isE && only t false false false false false) = nodG t ops := by
  unfold nodG
  rw [hop]
  simp only [formD, fldB, choG, hop, alw0, alw1, alw2, fit_part _ _ _ _ (by decide : (0 : Int) ≤ 6000), all_hasE hr, only, flg]
  generalize ops.all isE = z70303
  generalize ops.all isV = z17806
  generalize noS t.name = z33329
  generalize noS t.qual = z35676
  generalize isNm t.name = z78092
  generalize isNm t.qual = z23341
  generalize mayN t.name = z66883
  generalize mayN t.qual = z64349
  generalize noV t = z51718
  generalize vok t.vk t.vn t.vs = z77501
  rw [Bool.eq_iff_iff]
  simp
  grind
end Go.Proofs.YtghdjagomdgnfaaDoor
namespace Go.Proofs.YtghdjagomdgnfaaDoor
open Go.ChangeShapes Go.WideShapes Go.ChangeAt Go.RowKit
set_option linter.unusedVariables false
set_option linter.unusedSimpArgs false
set_option maxRecDepth 100000
open K
theorem g_24 (t : Nd) (ops : List Int) (hop : t.op = 24) (hr : ∀ x ∈ ops, 0 ≤ x ∧ x ≤ 64) (hl : ops.length ≤ 6000) :
    (((ops.length : Int) == 1) && ops.all isE && only t false false false false false) = nodG t ops := by
  unfold nodG
  rw [hop]
  simp only [formD, fldB, choG, hop, alw0, alw1, alw2, fit_part _ _ _ _ (by decide : (0 : Int) ≤ 1), all_hasE hr, only, flg]
  generalize ops.all isE = z70303
  generalize ops.all isV = z17806
  generalize noS t.name = z33329
  generalize noS t.qual = z35676
  generalize isNm t.name = z78092
  generalize isNm t.qual = z23341
  generalize mayN t.name = z66883
  generalize mayN t.qual = z64349
  generalize noV t = z51718
  generalize vok t.vk t.vn t.vs = z77501
  rw [Bool.eq_iff_iff]
  simp
  grind
end Go.Proofs.YtghdjagomdgnfaaDoor
namespace Go.Proofs.YtghdjagomdgnfaaDoor
open Go.ChangeShapes Go.WideShapes Go.ChangeAt Go.RowKit
set_option linter.unusedVariables false
set_option linter.unusedSimpArgs false
set_option maxRecDepth 100000
open K
theorem g_26n (t : Nd) (x0 x1 : Int) (hop : t.op = 26) (hr : ∀ x ∈ ([x0, x1] : List Int), 0 ≤ x ∧ x ≤ 64) :
    ((isTrm x0 || x0 == 26) && isTrm x1 && (t.n == 1 || t.n == 2) && flg t.m && only t false false true true false) = nodG t [x0, x1] := by
  obtain ⟨a0, b0⟩ := hr x0 (by simp)
  obtain ⟨a1, b1⟩ := hr x1 (by simp)
  unfold nodG
  rw [hop]
  simp only [formD, fldB, choG, hop, alw0, alw1, alw2, fit11n, fit11c, fit01n, fit01c, fit0n, fit0c, has_25_26_27 x0 a0 b0, has_25_27 x1 a1 b1, only, flg, isTrm, isSrc]
  generalize noS t.name = z65505
  generalize noS t.qual = z81970
  generalize isNm t.name = z3179
  generalize isNm t.qual = z63496
  generalize noV t = z88319
  rw [Bool.eq_iff_iff]
  simp
  grind
end Go.Proofs.YtghdjagomdgnfaaDoor
namespace Go.Proofs.YtghdjagomdgnfaaDoor
open Go.ChangeShapes Go.WideShapes Go.ChangeAt Go.RowKit
set_option linter.unusedVariables false
set_option linter.unusedSimpArgs false
set_option maxRecDepth 100000
open K
theorem g_26o (t : Nd) (ops : List Int) (hop : t.op = 26) (hno : ((ops.length : Int) == 2) = false) :
    false = nodG t ops := by
  have hf : ∀ f, formD t.op t.n = some f → fit ops f.kids = false := by
    intro f hf
    rw [hop] at hf
    obtain rfl := Option.some.inj hf
    show fit ops _ = false
    match ops, hno with
    | [], _ => simp [fit11n]
    | [a], _ => simp [fit11n, fit11c]
    | [a, b], h => simp at h
    | a :: b :: c :: r, _ => simp [fit11n, fit11c, fit0c]
  unfold nodG
  cases h : formD t.op t.n with
  | none => rfl
  | some f => simp [hf f h]
end Go.Proofs.YtghdjagomdgnfaaDoor
namespace Go.Proofs.YtghdjagomdgnfaaDoor
open Go.ChangeShapes Go.WideShapes Go.ChangeAt Go.RowKit
set_option linter.unusedVariables false
set_option linter.unusedSimpArgs false
set_option maxRecDepth 100000
open K
theorem g_28 (t : Nd) (ops : List Int) (hop : t.op = 28) (hr : ∀ x ∈ ops, 0 ≤ x ∧ x ≤ 64) (hl : ops.length ≤ 6000) :
    ((ops.all (· == 29) && decide ((0 : Int) < ops.length)) && only t false false false false false) = nodG t ops := by
  unfold nodG
  rw [hop]
  simp only [formD, fldB, choG, hop, alw0, alw1, alw2, fit_part _ _ _ _ (by decide : (0 : Int) ≤ 6000), all_has has_29 hr, only, flg]
  generalize ops.all isE = z70303
  generalize ops.all isV = z17806
  generalize noS t.name = z33329
  generalize noS t.qual = z35676
  generalize isNm t.name = z78092
  generalize isNm t.qual = z23341
  generalize mayN t.name = z66883
  generalize mayN t.qual = z64349
  generalize noV t = z51718
  generalize vok t.vk t.vn t.vs = z77501
  rw [Bool.eq_iff_iff]
  simp
  grind
end Go.Proofs.YtghdjagomdgnfaaDoor
namespace Go.Proofs.YtghdjagomdgnfaaDoor
open Go.ChangeShapes Go.WideShapes Go.ChangeAt Go.RowKit
set_option linter.unusedVariables false
set_option linter.unusedSimpArgs false
set_option maxRecDepth 100000
open K
theorem g_29 (t : Nd) (ops : List Int) (hop : t.op = 29) (hr : ∀ x ∈ ops, 0 ≤ x ∧ x ≤ 64) (hl : ops.length ≤ 6000) :
    (((ops.length : Int) == 1) && ops.all isE && flg t.n && decide (0 ≤ t.m) && decide (t.m ≤ 2) && only t false false true true false) = nodG t ops := by
  unfold nodG
  rw [hop]
  simp only [formD, fldB, choG, hop, alw0, alw1, alw2, fit_part _ _ _ _ (by decide : (0 : Int) ≤ 1), all_hasE hr, only, flg]
  generalize ops.all isE = z70303
  generalize ops.all isV = z17806
  generalize noS t.name = z33329
  generalize noS t.qual = z35676
  generalize isNm t.name = z78092
  generalize isNm t.qual = z23341
  generalize mayN t.name = z66883
  generalize mayN t.qual = z64349
  generalize noV t = z51718
  generalize vok t.vk t.vn t.vs = z77501
  rw [Bool.eq_iff_iff]
  simp
  grind
end Go.Proofs.YtghdjagomdgnfaaDoor
namespace Go.Proofs.YtghdjagomdgnfaaDoor
open Go.ChangeShapes Go.WideShapes Go.ChangeAt Go.RowKit
set_option linter.unusedVariables false
set_option linter.unusedSimpArgs false
set_option maxRecDepth 100000
open K
theorem g_30 (t : Nd) (ops : List Int) (hop : t.op = 30) (hr : ∀ x ∈ ops, 0 ≤ x ∧ x ≤ 64) (hl : ops.length ≤ 6000) (hn : t.n ≤ 9223372036854775807) (hm : t.m ≤ 9223372036854775807) :
    (((ops.length : Int) == 0) && decide (-1 ≤ t.n) && decide (-1 ≤ t.m) && (decide (0 ≤ t.n) || decide (0 ≤ t.m)) && only t false false true true false) = nodG t ops := by
  unfold nodG
  rw [hop]
  simp only [formD, fldB, choG, hop, alw0, alw1, alw2, fit_none, only, flg]
  generalize ops.all isE = z64176
  generalize ops.all isV = z7597
  generalize noS t.name = z88216
  generalize noS t.qual = z16762
  generalize isNm t.name = z74393
  generalize isNm t.qual = z34904
  generalize mayN t.name = z95284
  generalize mayN t.qual = z68489
  generalize noV t = z24816
  generalize vok t.vk t.vn t.vs = z80788
  rw [Bool.eq_iff_iff]
  simp
  grind
end Go.Proofs.YtghdjagomdgnfaaDoor
namespace Go.Proofs.YtghdjagomdgnfaaDoor
open Go.ChangeShapes Go.WideShapes Go.ChangeAt Go.RowKit
set_option linter.unusedVariables false
set_option linter.unusedSimpArgs false
set_option maxRecDepth 100000
open K
theorem g_31 (t : Nd) (ops : List Int) (hop : t.op = 31) (hr : ∀ x ∈ ops, 0 ≤ x ∧ x ≤ 64) (hl : ops.length ≤ 6000) :
    (((ops.length : Int) == 0) && isNm t.name && mayN t.qual && only t true true false false false) = nodG t ops := by
  unfold nodG
  rw [hop]
  simp only [formD, fldB, choG, hop, alw0, alw1, alw2, fit_none, only, flg]
  generalize ops.all isE = z70303
  generalize ops.all isV = z17806
  generalize noS t.name = z33329
  generalize noS t.qual = z35676
  generalize isNm t.name = z78092
  generalize isNm t.qual = z23341
  generalize mayN t.name = z66883
  generalize mayN t.qual = z64349
  generalize noV t = z51718
  generalize vok t.vk t.vn t.vs = z77501
  rw [Bool.eq_iff_iff]
  simp
  grind
end Go.Proofs.YtghdjagomdgnfaaDoor
