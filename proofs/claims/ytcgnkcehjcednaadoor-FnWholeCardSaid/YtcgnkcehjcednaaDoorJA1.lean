import Derived.Test.YtcgnkcehjcednaaDoorJU1
import Derived.Test.YtcgnkcehjcednaaDoorJS2
namespace Go.Proofs.YtcgnkcehjcednaaDoor
open Go.ChangeShapes Go.WideShapes Go.ChangeAt Go.RowKit Go.Shelf
set_option linter.unusedVariables false
set_option linter.unusedSimpArgs false
set_option maxRecDepth 100000
namespace Ar
def mul64 (a b : Int) : Int × Int := if -9223372036854775808 ≤ a * b ∧ a * b ≤ 9223372036854775807 then (a * b, 0) else (0, 13)
theorem addInts_any (a b : Int) (w : World) (ba : inI a) (bb : inI b) : Calls Tryd.prog 159 #[.int .i64 a, .int .i64 b] w fun e w' => e = .returned (.tuple #[.int .i64 (add64 a b).1, .int .i64 (add64 a b).2]) ∧ w' = w := by
  go_enter Tryd.func159, Tryd.ntmps159
  go_wp2
  all_goals
    go_ret2
    refine ⟨ret_two ?_ ?_, rfl⟩
    all_goals
      go_light
      unfold inI at ba bb
      try unfold wrap64 at *
      simp only [add64]
      split <;> simp only [] <;> omega
theorem magnitude_any (n : Int) (w : World) (bn : inI n) : Calls Tryd.prog 162 #[.int .i64 n] w fun e w' => e = .returned (.int .u64 (n.natAbs : Nat)) ∧ w' = w := by
  unfold inI at bn
  by_cases h : n < 0
  · go_enter Tryd.func162, Tryd.ntmps162
    go_wp2
    go_ret
    refine ⟨ret_int ?_, rfl⟩
    go_light
    (try simp only [IntKind.wrap_u64])
    omega
  · go_enter Tryd.func162, Tryd.ntmps162
    go_wp2
    go_ret
    refine ⟨ret_int ?_, rfl⟩
    go_light
    (try simp only [IntKind.wrap_u64])
    omega
def sgR (x : Nat) (neg : Bool) : Int × Int := if neg then (if x ≤ 9223372036854775808 then (-(x : Int), 0) else (0, 13)) else (if x < 9223372036854775808 then ((x : Int), 0) else (0, 13))
theorem signed_any (x : Nat) (neg : Bool) (w : World) (hx : x < 18446744073709551616) : Calls Tryd.prog 163 #[.int .u64 (x : Nat), .bool neg] w fun e w' => e = .returned (.tuple #[.int .i64 (sgR x neg).1, .int .i64 (sgR x neg).2]) ∧ w' = w := by
  cases neg with
  | true =>
    by_cases h : (x : Int) ≤ 9223372036854775808
    · have HR : Hid (sgR x true = (-(x : Int), 0)) := (by simp only [sgR, if_true]; rw [if_pos (by omega)] : sgR x true = (-(x : Int), 0))
      rw [HR.out]
      go_enter Tryd.func163, Tryd.ntmps163
      go_wp2
      go_ret2
      refine ⟨ret_two ?_ rfl, rfl⟩
      go_light
      simp only [IntKind.wrap_u64, IntKind.wrap_i64, wrap64] at *
      omega
    · have HR : Hid (sgR x true = (0, 13)) := (by simp only [sgR, if_true]; rw [if_neg (by omega)] : sgR x true = (0, 13))
      rw [HR.out]
      go_enter Tryd.func163, Tryd.ntmps163
      go_wp2
      go_ret2
      exact ⟨rfl, rfl⟩
  | false =>
    by_cases h : (x : Int) < 9223372036854775808
    · have HR : Hid (sgR x false = ((x : Int), 0)) := (by simp only [sgR, Bool.false_eq_true, if_false]; rw [if_pos (by omega)] : sgR x false = ((x : Int), 0))
      rw [HR.out]
      go_enter Tryd.func163, Tryd.ntmps163
      go_wp2
      go_ret2
      refine ⟨ret_two ?_ rfl, rfl⟩
      go_light
      first | rfl | (simp only [IntKind.wrap_u64, IntKind.wrap_i64] at *; omega)
    · have HR : Hid (sgR x false = (0, 13)) := (by simp only [sgR, Bool.false_eq_true, if_false]; rw [if_neg (by omega)] : sgR x false = (0, 13))
      rw [HR.out]
      go_enter Tryd.func163, Tryd.ntmps163
      go_wp2
      go_ret2
      exact ⟨rfl, rfl⟩
end Ar
end Go.Proofs.YtcgnkcehjcednaaDoor
