import Derived.Test.YtfgjleifhjegkaaDoorIPqr
import Derived.Test.YtfgjleifhjegkaaDoorKVs
namespace Go.Proofs.YtfgjleifhjegkaaDoor
open Go.ChangeShapes Go.WideShapes Go.ChangeAt Go.RowKit
set_option linter.unusedVariables false
set_option linter.unusedSimpArgs false
set_option maxRecDepth 100000
set_option maxHeartbeats 2000000 in
theorem equal_any (a b : Option Addr) (ca cb : Nat) (xs ys : List Int) (w : World) (hx : RS 1 CY 0 w (.slice a xs.length ca) xs) (hy : RS 1 CY 0 w (.slice b ys.length cb) ys) (bx : Byt xs) (bY : Byt ys) :
    Calls Tryd.prog 63 #[.slice a xs.length ca, .slice b ys.length cb] w fun e w' => e = .returned (.bool (decide (xs = ys))) ∧ w' = w := by
  have hcx := conv_rs hx
  have hcy := conv_rs hy
  have HE : Hid (decide (xs = ys) = ((strOfNums xs).toList == (strOfNums ys).toList)) := (by
    by_cases h : xs = ys
    · subst h; simp
    · rw [decide_eq_false h]
      symm
      rw [beq_eq_false_iff_ne, ByteArray.toList_eq, ByteArray.toList_eq]
      exact fun e => h (strNums_inj bx bY (Go.WideShapes.bytes_inj e)) : decide (xs = ys) = ((strOfNums xs).toList == (strOfNums ys).toList))
  clear hx hy bx bY
  go_enter Tryd.func63, Tryd.ntmps63
  go_wp2
  go_ret
  exact ⟨ret_bx HE.out.symm, rfl⟩
/-- What readBack answers. -/
def RbP (L : List VA → List Int) (M : Nat) (us : List VA) (xs : List Int) (v : Value) (w : World) (e : Ending) (w' : World) : Prop :=
  ((valsB us = true ∧ (L us).length ≤ M ∧ L us = xs ∧ e = .returned (.tuple #[v, .int .i64 0])) ∨ (¬ (valsB us = true ∧ (L us).length ≤ M ∧ L us = xs) ∧ e = .returned (.tuple #[.slice none 0 0, .int .i64 28]))) ∧ Below w.heap.size w w'
end Go.Proofs.YtfgjleifhjegkaaDoor
