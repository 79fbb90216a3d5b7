import Derived.Test.YtghdjagomdgnfaaDoorHAB
namespace Go.Proofs.YtghdjagomdgnfaaDoor
open Go.ChangeShapes Go.WideShapes Go.ChangeAt Go.RowKit
set_option linter.unusedVariables false
set_option linter.unusedSimpArgs false
set_option maxRecDepth 100000
theorem within_any (n a b : Int) (w : World) : Calls Tryd.prog 29 #[.int .i64 n, .int .i64 a, .int .i64 b] w fun e w' => e = .returned (.bool (decide (a ≤ n) && decide (n ≤ b))) ∧ w' = w := by
  go_enter Tryd.func29, Tryd.ntmps29
  go_wp2
  all_goals
    go_ret
    refine ⟨ret_b ?_, rfl⟩
    first | (simp_all; done) | (simp_all; omega)
def isStm (x : Int) : Bool := x == 27 || x == 40 || x == 46 || x == 48 || x == 49 || (decide (55 ≤ x) && decide (x ≤ 64))
theorem isStm_spec (x : Int) (w : World) : Calls Tryd.prog 26 #[.int .i64 x] w fun e w' => e = .returned (.bool (isStm x)) ∧ w' = w := by
  go_enter Tryd.func26, Tryd.ntmps26
  go_wp2
  all_goals
    go_ret
    refine ⟨ret_b ?_, rfl⟩
    first | (simp_all [isStm]; done) | (simp_all [isStm]; omega)
theorem isStm_impl (x : Int) (w : World) : Calls Tryd.prog 30 #[.int .i64 x] w fun e w' => e = .returned (.bool (isStm x)) ∧ w' = w := by
  go_enter Tryd.func30, Tryd.ntmps30
  go_wp2_with (go_at_call 29; refine (within_any _ _ _ _).mono ?_; rintro e w' ⟨rfl, rfl⟩)
  all_goals
    go_ret
    refine ⟨ret_b ?_, rfl⟩
    first | (simp_all [isStm]; done) | (simp_all [isStm]; omega)
end Go.Proofs.YtghdjagomdgnfaaDoor
namespace Go.Proofs.YtghdjagomdgnfaaDoor
open Go.ChangeShapes Go.WideShapes Go.ChangeAt Go.RowKit
set_option linter.unusedVariables false
set_option linter.unusedSimpArgs false
set_option maxRecDepth 100000
/-- What the document asks of an expression's node, but for a literal and the reserved forms of names. -/
def exB (t : Nd) (ops : List Int) (vo : Bool) : Bool :=
  let k : Int := ops.length
  let all := ops.all isE
  if t.op = 1 then k == 0 && only t false false false false true && vo && ((t.vk != 1 && t.vk != 2) || decide (0 ≤ t.vn))
  else if t.op = 2 then k == 0 && only t true true false false false && isNm t.name && mayN t.qual
  else if t.op = 3 ∨ t.op = 4 then k == 1 && all && only t false false false false false
  else false
set_option maxHeartbeats 8000000 in
theorem ex_2 (t : Nd) (kv : Value) (ops : List Int) (v : Value) (w : World) (h2 : t.op = 2) (hn : ops.length ≤ 1048576) (hv : RI w v ops) (hs1 : t.name.size ≤ 1048576) (hs2 : t.qual.size ≤ 1048576) (ka : Option Addr) (kl kc : Nat) (hk : kv = .slice ka kl kc) :
    Calls Tryd.prog 22 #[ndV t kv, v] w fun e w' => e = .returned (.bool (((ops.length : Int) == 0) && only t true true false false false && isNm t.name && mayN t.qual)) ∧ Below w.heap.size w w' := by
  subst hk
  have hA := fun W (h : Below w.heap.size w W) => allExpr_any ops v W hn (hv.below h)
  have hO := fun W => only_any t (.slice ka kl kc) true true false false false W
  have hN := fun W => isName_any t.name W hs1
  have hM := fun W => maybe_any t.qual W hs2
  obtain ⟨a, cap, rfl, _⟩ := hv
  generalize ops.all isE = al at *
  generalize only t true true false false false = on at *
  generalize isNm t.name = nm at *
  generalize mayN t.qual = mq at *
  obtain ⟨op, name, qual, n, m, vk, vn, vs, kids, pos⟩ := t
  simp only [ndV] at *
  subst h2
  have bw0 := below_alloc w (.cells #[.int .i64 2, .string name, .string qual, .int .i64 n, .int .i64 m, .int .i64 vk, .int .i64 vn, .string vs, .slice ka kl kc, .int .i64 pos] 46)
  go_enter Tryd.func22, Tryd.ntmps22
  go_wp2_with (first | (go_at_call 43; refine (hA _ bw0).mono ?_; rintro e w1 ⟨rfl, rfl⟩) | (go_at_call 44; refine (hO _).mono ?_; rintro e w2 ⟨rfl, hb2⟩; obtain ⟨hc2, hf2⟩ := bcell hb2; have hz2 : w.heap.size < w2.heap.size := (by have := hb2.size; simp at this; omega); have bw2 : Below w.heap.size w w2 := bw0.trans (hb2.mono (by simp))) | (go_at_call 16; refine (hN _).mono ?_; rintro e w3 ⟨rfl, rfl⟩) | (go_at_call 46; refine (hM _).mono ?_; rintro e w4 ⟨rfl, rfl⟩))
  all_goals
    go_ret
    refine ⟨ret_b ?_, by first | exact bw2 | exact bw0⟩
    simp_all
end Go.Proofs.YtghdjagomdgnfaaDoor
