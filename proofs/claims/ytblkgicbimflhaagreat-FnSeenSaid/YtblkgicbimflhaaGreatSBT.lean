import Derived.Test.YtblkgicbimflhaaGreatSBS
import Derived.ChangeKeysEq
namespace Go.Proofs.YtblkgicbimflhaaGreat
open Go.ChangeShapes Go.WideShapes Go.ChangeAt Go.RowKit
set_option linter.unusedVariables false
set_option linter.unusedSimpArgs false
set_option maxRecDepth 100000
set_option maxHeartbeats 16000000
theorem infoI2 : (Tryz.prog.info? 3).map (fun i => (i.zero, i.size, i.bytes)) = some (some (.int .i64 0), 1, 8) := by kernel_rfl
theorem part_int (W : World) (xs : Array Value) (o : Nat) (a : Int) (h : xs[o]? = some (.int .i64 a)) : (part 3 xs o).run Tryz.prog W = .ok (.int .i64 a) W := by
 obtain ⟨i0, hi, hz0, hz1, hz2⟩ := info_parts infoI2
 simp [part, go_sem, hi, hz1, h]
theorem eqInt1 (W : World) (d : Nat) (a b : Int) : (Op.equalIn (d + 1) 3 (.int .i64 a) (.int .i64 b)).run Tryz.prog W = .ok (a == b) W := by
 simp [Op.equalIn, run_underlying Tryz.underlying3, go_sem]
theorem eqK2 (W : World) (a b c d : Int) (h : ¬ (a = c /\ b = d)) : (Op.equalIn 10000 48 (.agg #[.int .i64 a, .int .i64 b]) (.agg #[.int .i64 c, .int .i64 d])).run Tryz.prog W = .ok false W := by
 obtain ⟨i0, hi, hz0, hz1, hz2⟩ := info_parts infoI2
 rw [show (10000 : Nat) = 9999 + 1 from rfl, run_equalIn_array W 9999 _ _ Tryz.underlying48 hi]
 have hc : Tryz.prog.cellsOf 3 = 1 := by kernel_rfl
 rw [hc, show List.range 2 = [0, 1] from rfl]
 have p0 := part_int W #[.int .i64 a, .int .i64 b] 0 a rfl
 have p1 := part_int W #[.int .i64 a, .int .i64 b] 1 b rfl
 have q0 := part_int W #[.int .i64 c, .int .i64 d] 0 c rfl
 have q1 := part_int W #[.int .i64 c, .int .i64 d] 1 d rfl
 have e1 := eqInt1 W 9998 a c
 have e2 := eqInt1 W 9998 b d
 by_cases h1 : a = c
 .have h2 : ¬ b = d := fun z => h ⟨h1, z⟩
  subst h1
  simp at e1 e2
  simp [Op.eqItems, p0, p1, q0, q1, e1, e2, h2]
 .simp at e1
  simp [Op.eqItems, p0, q0, e1, h1]
end Go.Proofs.YtblkgicbimflhaaGreat
