import Derived.Test.YtdcdoeolaongkaaGreatDoorW3
namespace Go.Proofs.YtdcdoeolaongkaaGreatDoor
open Go.ChangeShapes Go.WideShapes Go.ChangeAt Go.RowKit Go.Shelf
set_option linter.unusedVariables false
theorem toValue_any (k n : Int) (s : ByteArray) (w : World) :
    Calls Tryz.prog 25 #[.agg #[.int .i64 k, .int .i64 n, .string s]] w fun e w' => e = .returned (.agg #[.int .i64 k, .int .i64 n, .string s]) ∧ Below w.heap.size w w' := by
  go_enter Tryz.func25, Tryz.ntmps25
  go_wp2
  refine bodyPost_ret (v := .agg #[.int .i64 k, .int .i64 n, .string s]) (by simp [results, Tryz.results25, go_sem]) rfl ⟨rfl, ?_⟩
  go_light
  repeat (first | exact Below.refl _ _ | refine Below.setCell ?_ (by simp) _ | refine Below.alloc ?_ (by simp; try omega) _)
theorem sz_yes (k n left : Int) (s : ByteArray) (w : World) (h0 : 0 ≤ left) (hl : left ≤ 1048576) (h : (s.size : Int) ≤ left) :
    Calls Tryz.prog 23 #[.agg #[.int .i64 k, .int .i64 n, .string s], .int .i64 left] w fun e w' => e = .returned (.int .i64 (left - s.size)) ∧ Below w.heap.size w w' := by
  go_enter Tryz.func23, Tryz.ntmps23
  go_wp2
  go_ret
  exact ⟨rfl, below_alloc _ _⟩
theorem sz_no (k n left : Int) (s : ByteArray) (w : World) (h0 : 0 ≤ left) (hl : left ≤ 1048576) (hs : s.size ≤ maxLen) (h : left < (s.size : Int)) :
    Calls Tryz.prog 23 #[.agg #[.int .i64 k, .int .i64 n, .string s], .int .i64 left] w fun e w' => e = .returned (.int .i64 (-1)) ∧ Below w.heap.size w w' := by
  unfold maxLen at hs
  go_enter Tryz.func23, Tryz.ntmps23
  go_wp2
  go_ret
  exact ⟨rfl, below_alloc _ _⟩
end Go.Proofs.YtdcdoeolaongkaaGreatDoor
