import Derived.Test.YtbcnfepfmoecjaaDoorRows
import Derived.WalkKit
import Derived.ProofKit
import Derived.OpenShut
import Derived.WalkLawsBesides
import Derived.Deep.Light
namespace Go.Proofs.YtbcnfepfmoecjaaDoor.Days
open Go.ChangeShapes Go.WideShapes Go.ChangeAt Go.RowKit
theorem ret_int {k : IntKind} {a b : Int} (h : a = b) : Ending.returned (.int k a) = .returned (.int k b) := by rw [h]
def mdays (y m : Int) : Int := if m = 2 then (if y % 4 = 0 ∧ (y % 100 ≠ 0 ∨ y % 400 = 0) then 29 else 28) else if m = 4 ∨ m = 6 ∨ m = 9 ∨ m = 11 then 30 else 31
def dbef (y : Int) : Int := 365 * (y - 1) + (y - 1) / 4 - (y - 1) / 100 + (y - 1) / 400
def cumTo (y : Int) : Nat → Int
  | 0 => 0
  | k + 1 => cumTo y k + mdays y (k + 1)
theorem mdays_bd (y m : Int) : 28 ≤ mdays y m ∧ mdays y m ≤ 31 := by unfold mdays; split <;> split <;> omega
theorem cumTo_bd (y : Int) (k : Nat) : 28 * (k : Int) ≤ cumTo y k ∧ cumTo y k ≤ 31 * (k : Int) := by
  induction k with
  | zero => simp [cumTo]
  | succ k ih => have := mdays_bd y (k + 1); simp only [cumTo]; omega
set_option maxHeartbeats 1000000 in
theorem mdays_spec (y m : Int) (w : World) (h1 : 1 ≤ y) (h2 : y ≤ 10000) : Calls Tryd.prog 122 #[.int .i64 y, .int .i64 m] w fun e w' => e = .returned (.int .i64 (mdays y m)) ∧ w' = w := by
  go_enter Tryd.func122, Tryd.ntmps122
  go_wp2
  all_goals
    go_ret
    refine ⟨ret_int ?_, rfl⟩
    go_light
    simp only [mdays]
    grind
set_option maxHeartbeats 1000000 in
theorem mdays_impl (y m : Int) (w : World) (h1 : 1 ≤ y) (h2 : y ≤ 10000) : Calls Tryd.prog 131 #[.int .i64 y, .int .i64 m] w fun e w' => e = .returned (.int .i64 (mdays y m)) ∧ w' = w := by
  go_enter Tryd.func131, Tryd.ntmps131
  go_wp2
  all_goals
    go_ret
    refine ⟨ret_int ?_, rfl⟩
    go_light
    simp only [mdays]
    grind
theorem dbef_spec (y : Int) (w : World) (h1 : 1 ≤ y) (h2 : y ≤ 10001) : Calls Tryd.prog 121 #[.int .i64 y] w fun e w' => e = .returned (.int .i64 (dbef y)) ∧ w' = w := by
  go_enter Tryd.func121, Tryd.ntmps121
  go_wp2
  go_ret
  refine ⟨ret_int ?_, rfl⟩
  go_light
  simp only [dbef]
theorem dbef_impl (y : Int) (w : World) (h1 : 1 ≤ y) (h2 : y ≤ 10001) : Calls Tryd.prog 130 #[.int .i64 y] w fun e w' => e = .returned (.int .i64 (dbef y)) ∧ w' = w := by
  go_enter Tryd.func130, Tryd.ntmps130
  go_wp2
  go_ret
  refine ⟨ret_int ?_, rfl⟩
  go_light
  simp only [dbef]
  omega
end Go.Proofs.YtbcnfepfmoecjaaDoor.Days
