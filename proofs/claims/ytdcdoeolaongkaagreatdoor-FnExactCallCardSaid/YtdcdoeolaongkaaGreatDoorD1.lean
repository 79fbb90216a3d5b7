import Derived.Test.YtdcdoeolaongkaaGreatDoorProg
import Derived.WalkKit
import Derived.ProofKit
import Derived.OpenShut
import Derived.WalkLawsBesides
import Derived.Deep.Light
namespace Go.Proofs.YtdcdoeolaongkaaGreatDoor.Days
open Go.ChangeShapes Go.WideShapes Go.ChangeAt Go.RowKit
theorem ret_int {k : IntKind} {a b : Int} (h : a = b) : Ending.returned (.int k a) = .returned (.int k b) := by rw [h]
def mdays (y m : Int) : Int := if m = 2 then (if y % 4 = 0 ∧ (y % 100 ≠ 0 ∨ y % 400 = 0) then 29 else 28) else if m = 4 ∨ m = 6 ∨ m = 9 ∨ m = 11 then 30 else 31
def dbef (y : Int) : Int := 365 * (y - 1) + (y - 1) / 4 - (y - 1) / 100 + (y - 1) / 400
def cumTo (y : Int) : Nat → Int
  | 0 => 0
  | k + 1 => cumTo y k + mdays y (k + 1)
theorem mdays_bd (y m : Int) : 28 ≤ mdays y m ∧ mdays y m ≤ 31 := by unfold mdays; split <;> split <;> omega
theorem cumTo_bd (y : Int) (k : Nat) : 28 * (k : Int) ≤ cumTo y k ∧ cumTo y k ≤ 31 * (k : Int) := by
  induction k with
  | zero => simp [cumTo]
  | succ k ih => have := mdays_bd y (k + 1); simp only [cumTo]; omega
set_option maxHeartbeats 1000000 in
theorem mdays_spec (y m : Int) (w : World) (h1 : 1 ≤ y) (h2 : y ≤ 10000) : Calls Tryz.prog 147 #[.int .i64 y, .int .i64 m] w fun e w' => e = .returned (.int .i64 (mdays y m)) ∧ w' = w := by
  go_enter Tryz.func147, Tryz.ntmps147
  go_wp2
  all_goals
    go_ret
    refine ⟨ret_int ?_, rfl⟩
    go_light
    simp only [mdays]
    grind
set_option maxHeartbeats 1000000 in
theorem mdays_impl (y m : Int) (w : World) (h1 : 1 ≤ y) (h2 : y ≤ 10000) : Calls Tryz.prog 54 #[.int .i64 y, .int .i64 m] w fun e w' => e = .returned (.int .i64 (mdays y m)) ∧ w' = w := by
  go_enter Tryz.func54, Tryz.ntmps54
  go_wp2
  all_goals
    go_ret
    refine ⟨ret_int ?_, rfl⟩
    go_light
    simp only [mdays]
    grind
theorem dbef_spec (y : Int) (w : World) (h1 : 1 ≤ y) (h2 : y ≤ 10001) : Calls Tryz.prog 146 #[.int .i64 y] w fun e w' => e = .returned (.int .i64 (dbef y)) ∧ w' = w := by
  go_enter Tryz.func146, Tryz.ntmps146
  go_wp2
  go_ret
  refine ⟨ret_int ?_, rfl⟩
  go_light
  simp only [dbef]
theorem dbef_impl (y : Int) (w : World) (h1 : 1 ≤ y) (h2 : y ≤ 10001) : Calls Tryz.prog 53 #[.int .i64 y] w fun e w' => e = .returned (.int .i64 (dbef y)) ∧ w' = w := by
  go_enter Tryz.func53, Tryz.ntmps53
  go_wp2
  go_ret
  refine ⟨ret_int ?_, rfl⟩
  go_light
  simp only [dbef]
  omega
end Go.Proofs.YtdcdoeolaongkaaGreatDoor.Days
