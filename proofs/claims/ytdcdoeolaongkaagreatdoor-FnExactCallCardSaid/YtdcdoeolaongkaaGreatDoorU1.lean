import Derived.Test.YtdcdoeolaongkaaGreatDoorW3
namespace Go.Proofs.YtdcdoeolaongkaaGreatDoor
open Go.ChangeShapes Go.WideShapes Go.ChangeAt Go.RowKit Go.Shelf
set_option linter.unusedVariables false
set_option maxRecDepth 100000
/-- It fits 64 bits. -/
def inI (x : Int) : Prop := -9223372036854775808 ≤ x ∧ x ≤ 9223372036854775807
def sub64 (a b : Int) : Int × Int := if -9223372036854775808 ≤ a - b ∧ a - b ≤ 9223372036854775807 then (a - b, 0) else (0, 13)
def add64 (a b : Int) : Int × Int := if -9223372036854775808 ≤ a + b ∧ a + b ≤ 9223372036854775807 then (a + b, 0) else (0, 13)
theorem wf_in {a : Int} (h : (Lit.int .i64 a).wf = true) : inI a := by
  have := bounds_i64 h
  exact this
theorem ret_two {k l : IntKind} {a b c d : Int} (h : a = c) (g : b = d) : Ending.returned (.tuple #[.int k a, .int l b]) = .returned (.tuple #[.int k c, .int l d]) := by rw [h, g]
def zB (b : Bool) : Int := if b then 1 else 0
theorem boolValue_any (b : Bool) (w : World) : Calls Tryz.prog 58 #[.bool b] w fun e w' => e = .returned (.agg #[.int .i64 4, .int .i64 (zB b), .string ⟨#[]⟩]) ∧ Below w.heap.size w w' := by
  cases b
  all_goals
    go_enter Tryz.func58, Tryz.ntmps58
    go_wp2
    refine bodyPost_ret (v := .agg #[.int .i64 4, .int .i64 (zB _), .string ⟨#[]⟩]) (by simp [results, Tryz.results58, go_sem, zB]) rfl ⟨rfl, ?_⟩
    go_light
    repeat (first | exact Below.refl _ _ | refine Below.setCell ?_ (by simp) _ | refine Below.alloc ?_ (by simp; try omega) _)
theorem truth_any (b : Bool) (w : World) : Calls Tryz.prog 138 #[.bool b] w fun e w' => e = .returned (.agg #[.int .i64 4, .int .i64 (zB b), .string ⟨#[]⟩]) ∧ Below w.heap.size w w' := by
  cases b
  all_goals
    go_enter Tryz.func138, Tryz.ntmps138
    go_wp2
    refine bodyPost_ret (v := .agg #[.int .i64 4, .int .i64 (zB _), .string ⟨#[]⟩]) (by simp [results, Tryz.results138, go_sem, zB]) rfl ⟨rfl, ?_⟩
    go_light
    repeat (first | exact Below.refl _ _ | refine Below.setCell ?_ (by simp) _ | refine Below.alloc ?_ (by simp; try omega) _)
theorem numbered_ok (k n : Int) (w : World) : Calls Tryz.prog 49 #[.int .i64 k, .int .i64 n, .int .i64 0] w fun e w' => e = .returned (.tuple #[.agg #[.int .i64 k, .int .i64 n, .string ⟨#[]⟩], .int .i64 0]) ∧ Below w.heap.size w w' := by
  go_enter Tryz.func49, Tryz.ntmps49
  go_wp2
  refine bodyPost_ret (v := .tuple #[.agg #[.int .i64 k, .int .i64 n, .string ⟨#[]⟩], .int .i64 0]) (by simp [results, Tryz.results49, go_sem]) rfl ⟨rfl, ?_⟩
  go_light
  repeat (first | exact Below.refl _ _ | refine Below.setCell ?_ (by simp) _ | refine Below.alloc ?_ (by simp; try omega) _)
theorem numbered_bad (k n c : Int) (w : World) (hc : (c != 0) = true) : Calls Tryz.prog 49 #[.int .i64 k, .int .i64 n, .int .i64 c] w fun e w' => e = .returned (.tuple #[.agg #[.int .i64 0, .int .i64 0, .string ⟨#[]⟩], .int .i64 c]) ∧ Below w.heap.size w w' := by
  go_enter Tryz.func49, Tryz.ntmps49
  go_wp2
  refine bodyPost_ret (v := .tuple #[.agg #[.int .i64 0, .int .i64 0, .string ⟨#[]⟩], .int .i64 c]) (by simp [results, Tryz.results49, go_sem]) rfl ⟨rfl, ?_⟩
  go_light
  repeat (first | exact Below.refl _ _ | refine Below.setCell ?_ (by simp) _ | refine Below.alloc ?_ (by simp; try omega) _)
theorem subInts_any (a b : Int) (w : World) (wa : (Lit.int .i64 a).wf = true) (wb : (Lit.int .i64 b).wf = true) : Calls Tryz.prog 174 #[.int .i64 a, .int .i64 b] w fun e w' => e = .returned (.tuple #[.int .i64 (sub64 a b).1, .int .i64 (sub64 a b).2]) ∧ w' = w := by
  have ba := wf_in wa
  have bb := wf_in wb
  clear wa wb
  go_enter Tryz.func174, Tryz.ntmps174
  go_wp2
  all_goals
    go_ret2
    refine ⟨ret_two ?_ ?_, rfl⟩
    all_goals
      go_light
      unfold inI at ba bb
      try unfold wrap64 at *
      simp only [sub64]
      split <;> simp only [] <;> omega
/-- Unary's answer: kind, number, code. -/
def unR (op k n c : Int) (vo : Bool) : Int × Int × Int :=
  if op < 16 ∨ 18 < op ∨ vo = false then (0, 0, 1)
  else if c = -1 then (0, 0, 10)
  else if op = 18 then (4, zB (k == 0), 0)
  else if k = 0 then (0, 0, 0)
  else if op = 16 then (4, zB (n == 0), 0)
  else if n = -9223372036854775808 then (0, 0, 13)
  else (k, -n, 0)
end Go.Proofs.YtdcdoeolaongkaaGreatDoor
