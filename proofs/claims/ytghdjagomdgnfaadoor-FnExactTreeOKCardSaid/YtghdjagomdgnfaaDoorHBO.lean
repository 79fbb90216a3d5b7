import Derived.Test.YtghdjagomdgnfaaDoorHBJ
namespace Go.Proofs.YtghdjagomdgnfaaDoor
open Go.ChangeShapes Go.WideShapes Go.ChangeAt Go.RowKit
set_option linter.unusedVariables false
set_option linter.unusedSimpArgs false
set_option maxRecDepth 100000
open K
theorem g_64 (t : Nd) (ops : List Int) (hop : t.op = 64) (hr : ∀ x ∈ ops, 0 ≤ x ∧ x ≤ 64) (hl : ops.length ≤ 6000) :
    (((ops.length : Int) == 0) && only t false false false false false) = nodG t ops := by
  unfold nodG
  rw [hop]
  simp only [formD, fldB, choG, hop, alw0, alw1, alw2, fit_none, only, flg]
  generalize ops.all isE = z70303
  generalize ops.all isV = z17806
  generalize noS t.name = z33329
  generalize noS t.qual = z35676
  generalize isNm t.name = z78092
  generalize isNm t.qual = z23341
  generalize mayN t.name = z66883
  generalize mayN t.qual = z64349
  generalize noV t = z51718
  generalize vok t.vk t.vn t.vs = z77501
  rw [Bool.eq_iff_iff]
  simp
  grind
end Go.Proofs.YtghdjagomdgnfaaDoor
