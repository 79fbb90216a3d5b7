import Derived.Test.YtdcdoeolaongkaaGreatDoorProg
import Derived.WalkKit
import Derived.ProofKit
import Derived.OpenShut
import Derived.WalkLawsBesides
import Derived.Deep.Light
namespace Go.Proofs.YtdcdoeolaongkaaGreatDoor.Ok
open Go.ChangeShapes Go.WideShapes Go.ChangeAt Go.RowKit
theorem ret_bool {a b : Bool} (h : a = b) : Ending.returned (.bool a) = .returned (.bool b) := by rw [h]
theorem ret_int {k : IntKind} {a b : Int} (h : a = b) : Ending.returned (.int k a) = .returned (.int k b) := by rw [h]
def numK (a b : Int) : Int := if (1 ≤ a ∧ a ≤ 2) ∧ 1 ≤ b ∧ b ≤ 2 then (if a ≤ b then b else a) else -1
def binK (op a b : Int) : Int :=
  if op = 2 ∧ a = 5 ∧ b = 5 then 1
  else if (op = 1 ∨ op = 2) ∧ a = 5 ∧ b = 1 then 5
  else if op = 1 ∧ a = 1 ∧ b = 5 then 5
  else if op ≤ 5 then numK a b
  else if op = 6 then (if a = 3 ∧ b = 3 then 3 else -1)
  else if op = 14 ∨ op = 15 then (if a = 4 ∧ b = 4 then 4 else -1)
  else if a = b ∨ numK a b ≠ -1 then 4 else -1
set_option maxRecDepth 100000 in
set_option maxHeartbeats 1000000 in
theorem plain2 (op a b : Int) (w : World) (h1 : 1 ≤ op) (h2 : op ≤ 15) : Calls Tryz.prog 81 #[.int .i64 op, .int .i64 a, .int .i64 b] w fun e w' => e = .returned (.int .i64 (binK op a b)) ∧ w' = w := by
  go_enter Tryz.func81, Tryz.ntmps81
  go_wp2
  all_goals
    go_ret
    refine ⟨ret_int ?_, rfl⟩
    go_light
    simp only [binK, numK]
    grind
set_option maxRecDepth 100000 in
set_option maxHeartbeats 1000000 in
theorem binaryKind (op a b : Int) (w : World) (h1 : 1 ≤ op) (h2 : op ≤ 15) : Calls Tryz.prog 117 #[.int .i64 op, .int .i64 a, .int .i64 b] w fun e w' => e = .returned (.int .i64 (binK op a b)) ∧ w' = w := by
  go_enter Tryz.func117, Tryz.ntmps117
  go_wp2
  all_goals
    go_ret
    refine ⟨ret_int ?_, rfl⟩
    go_light
    simp only [binK, numK]
    grind
end Go.Proofs.YtdcdoeolaongkaaGreatDoor.Ok
