import Derived.Test.YtoieiegjhjedoaaSS4
namespace Go.Proofs.Ytoieiegjhjedoaa
open Go.ChangeShapes Go.WideShapes Go.ChangeAt Go.RowKit
set_option linter.unusedVariables false
set_option linter.unusedSimpArgs false
set_option maxRecDepth 100000
theorem toV_any (k n : Int) (s : ByteArray) (w : World) :
    Calls Try.prog 68 #[.agg #[.int .i64 k, .int .i64 n, .string s]] w fun e w' => e = .returned (.agg #[.int .i64 k, .int .i64 n, .string s]) ∧ Below w.heap.size w w' := by
  go_enter Try.func68, Try.ntmps68
  go_wp2
  refine bodyPost_ret (v := .agg #[.int .i64 k, .int .i64 n, .string s]) (by simp [results, Try.results68, go_sem]) rfl ⟨rfl, ?_⟩
  go_light
  repeat (first | exact Below.refl _ _ | refine Below.setCell ?_ (by simp) _ | refine Below.alloc ?_ (by simp; try omega) _)
theorem toA_e (t : PA) (cs : List Value) (w : World) (hC : CPA 0 w cs t) :
    Calls Try.prog 53 #[.agg cs.toArray] w fun e w' => ∃ ds, e = .returned (.agg ds.toArray) ∧ CPA w.heap.size w' ds t ∧ Below w.heap.size w w' := by
  unfold CPA at hC
  subst hC
  go_enter Try.func53, Try.ntmps53
  go_wp2
  refine bodyPost_ret (v := .agg #[.int .i64 t.fn, .int .i64 t.col, .bool t.d]) (by simp [results, Try.results53, go_sem]) rfl ⟨_, rfl, rfl, ?_⟩
  go_light
  repeat (first | exact Below.refl _ _ | refine Below.setCell ?_ (by simp) _ | refine Below.alloc ?_ (by simp; try omega) _)
theorem toS_e (t : SK) (cs : List Value) (w : World) (hC : CSK 0 w cs t) :
    Calls Try.prog 54 #[.agg cs.toArray] w fun e w' => ∃ ds, e = .returned (.agg ds.toArray) ∧ CSK w.heap.size w' ds t ∧ Below w.heap.size w w' := by
  unfold CSK at hC
  subst hC
  go_enter Try.func54, Try.ntmps54
  go_wp2
  refine bodyPost_ret (v := .agg #[.int .i64 t.col, .bool t.desc, .bool t.first]) (by simp [results, Try.results54, go_sem]) rfl ⟨_, rfl, rfl, ?_⟩
  go_light
  repeat (first | exact Below.refl _ _ | refine Below.setCell ?_ (by simp) _ | refine Below.alloc ?_ (by simp; try omega) _)
end Go.Proofs.Ytoieiegjhjedoaa
