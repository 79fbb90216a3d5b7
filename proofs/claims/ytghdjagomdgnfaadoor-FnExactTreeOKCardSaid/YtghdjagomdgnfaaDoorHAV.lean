import Derived.Test.YtghdjagomdgnfaaDoorHAC
namespace Go.Proofs.YtghdjagomdgnfaaDoor
open Go.ChangeShapes Go.WideShapes Go.ChangeAt Go.RowKit
set_option linter.unusedVariables false
set_option linter.unusedSimpArgs false
set_option maxRecDepth 100000
set_option maxHeartbeats 8000000 in
theorem ex_3 (t : Nd) (ops : List Int) (v : Value) (w : World) (hop : t.op = 3) (hn : ops.length ≤ 1048576) (hv : RI w v ops) (hs1 : t.name.size ≤ 1048576) (hs2 : t.qual.size ≤ 1048576) (ka : Option Addr) (kl kc : Nat) :
    Calls Tryd.prog 22 #[ndV t (.slice ka kl kc), v] w fun e w' => e = .returned (.bool (((ops.length : Int) == 1) && ops.all isE && only t false false false false false)) ∧ Below w.heap.size w w' := by
  have hA := fun W (h : Below w.heap.size w W) => allExpr_any ops v W hn (hv.below h)
  have hO := fun W => only_any t (.slice ka kl kc) false false false false false W
  have hF := fun W => flag_any t.n W
  have hG := fun W => flag_any t.m W
  have hN := fun W => isName_any t.name W hs1
  obtain ⟨a, cap, rfl, hcells⟩ := hv
  generalize ops.all isE = al at *
  generalize only t false false false false false = on at *
  generalize flg t.n = fn at *
  generalize flg t.m = fm at *
  generalize isNm t.name = nm at *
  obtain ⟨op, name, qual, n, m, vk, vn, vs, kids, pos⟩ := t
  simp only [ndV] at *
  subst hop
  have bw0 := below_alloc w (.cells #[.int .i64 3, .string name, .string qual, .int .i64 n, .int .i64 m, .int .i64 vk, .int .i64 vn, .string vs, .slice ka kl kc, .int .i64 pos] 46)
  go_enter Tryd.func22, Tryd.ntmps22
  go_wp2_with (first | (go_at_call 43; refine (hA _ bw0).mono ?_; rintro e w1 ⟨rfl, rfl⟩) | (go_at_call 44; refine (hO _).mono ?_; rintro e w2 ⟨rfl, hb2⟩; obtain ⟨hc2, hf2⟩ := bcell hb2; have hz2 : w.heap.size < w2.heap.size := (by have := hb2.size; simp at this; omega); have bw2 : Below w.heap.size w w2 := bw0.trans (hb2.mono (by simp))) | (go_at_call 16; refine (hN _).mono ?_; rintro e w3 ⟨rfl, rfl⟩) | (go_at_call 47; refine (hF _).mono ?_; rintro e w4 ⟨rfl, rfl⟩) | (go_at_call 47; refine (hG _).mono ?_; rintro e w4 ⟨rfl, rfl⟩))
  all_goals
    go_ret
    refine ⟨ret_b ?_, by first | exact bw2 | exact bw0⟩
    first | (simp_all; done) | (simp_all; omega) | grind
end Go.Proofs.YtghdjagomdgnfaaDoor
namespace Go.Proofs.YtghdjagomdgnfaaDoor
open Go.ChangeShapes Go.WideShapes Go.ChangeAt Go.RowKit
set_option linter.unusedVariables false
set_option linter.unusedSimpArgs false
set_option maxRecDepth 100000
set_option maxHeartbeats 8000000 in
theorem ex_4 (t : Nd) (ops : List Int) (v : Value) (w : World) (hop : t.op = 4) (hn : ops.length ≤ 1048576) (hv : RI w v ops) (hs1 : t.name.size ≤ 1048576) (hs2 : t.qual.size ≤ 1048576) (ka : Option Addr) (kl kc : Nat) :
    Calls Tryd.prog 22 #[ndV t (.slice ka kl kc), v] w fun e w' => e = .returned (.bool (((ops.length : Int) == 1) && ops.all isE && only t false false false false false)) ∧ Below w.heap.size w w' := by
  have hA := fun W (h : Below w.heap.size w W) => allExpr_any ops v W hn (hv.below h)
  have hO := fun W => only_any t (.slice ka kl kc) false false false false false W
  have hF := fun W => flag_any t.n W
  have hG := fun W => flag_any t.m W
  have hN := fun W => isName_any t.name W hs1
  obtain ⟨a, cap, rfl, hcells⟩ := hv
  generalize ops.all isE = al at *
  generalize only t false false false false false = on at *
  generalize flg t.n = fn at *
  generalize flg t.m = fm at *
  generalize isNm t.name = nm at *
  obtain ⟨op, name, qual, n, m, vk, vn, vs, kids, pos⟩ := t
  simp only [ndV] at *
  subst hop
  have bw0 := below_alloc w (.cells #[.int .i64 4, .string name, .string qual, .int .i64 n, .int .i64 m, .int .i64 vk, .int .i64 vn, .string vs, .slice ka kl kc, .int .i64 pos] 46)
  go_enter Tryd.func22, Tryd.ntmps22
  go_wp2_with (first | (go_at_call 43; refine (hA _ bw0).mono ?_; rintro e w1 ⟨rfl, rfl⟩) | (go_at_call 44; refine (hO _).mono ?_; rintro e w2 ⟨rfl, hb2⟩; obtain ⟨hc2, hf2⟩ := bcell hb2; have hz2 : w.heap.size < w2.heap.size := (by have := hb2.size; simp at this; omega); have bw2 : Below w.heap.size w w2 := bw0.trans (hb2.mono (by simp))) | (go_at_call 16; refine (hN _).mono ?_; rintro e w3 ⟨rfl, rfl⟩) | (go_at_call 47; refine (hF _).mono ?_; rintro e w4 ⟨rfl, rfl⟩) | (go_at_call 47; refine (hG _).mono ?_; rintro e w4 ⟨rfl, rfl⟩))
  all_goals
    go_ret
    refine ⟨ret_b ?_, by first | exact bw2 | exact bw0⟩
    first | (simp_all; done) | (simp_all; omega) | grind
end Go.Proofs.YtghdjagomdgnfaaDoor
namespace Go.Proofs.YtghdjagomdgnfaaDoor
open Go.ChangeShapes Go.WideShapes Go.ChangeAt Go.RowKit
set_option linter.unusedVariables false
set_option linter.unusedSimpArgs false
set_option maxRecDepth 100000
set_option maxHeartbeats 8000000 in
theorem ex_5 (t : Nd) (ops : List Int) (v : Value) (w : World) (hop : t.op = 5) (hn : ops.length ≤ 1048576) (hv : RI w v ops) (hs1 : t.name.size ≤ 1048576) (hs2 : t.qual.size ≤ 1048576) (ka : Option Addr) (kl kc : Nat) :
    Calls Tryd.prog 22 #[ndV t (.slice ka kl kc), v] w fun e w' => e = .returned (.bool (((ops.length : Int) == 2) && ops.all isE && ((decide (1 ≤ t.n) && decide (t.n ≤ 12)) || t.n == 14 || t.n == 15) && only t false false true false false)) ∧ Below w.heap.size w w' := by
  have hA := fun W (h : Below w.heap.size w W) => allExpr_any ops v W hn (hv.below h)
  have hO := fun W => only_any t (.slice ka kl kc) false false true false false W
  have hF := fun W => flag_any t.n W
  have hG := fun W => flag_any t.m W
  obtain ⟨a, cap, rfl, hcells⟩ := hv
  clear hcells
  generalize ops.all isE = al at *
  generalize only t false false true false false = on at *
  obtain ⟨op, name, qual, n, m, vk, vn, vs, kids, pos⟩ := t
  simp only [ndV] at *
  subst hop
  have bw0 := below_alloc w (.cells #[.int .i64 5, .string name, .string qual, .int .i64 n, .int .i64 m, .int .i64 vk, .int .i64 vn, .string vs, .slice ka kl kc, .int .i64 pos] 46)
  have hA0 := hA _ bw0
  clear hA
  rcases (show (1 ≤ n ∧ n ≤ 12) ∨ n = 14 ∨ n = 15 ∨ n < 1 ∨ n = 13 ∨ 15 < n by omega) with ⟨u1, u2⟩ | rfl | rfl | u1 | rfl | u1
  · have HC : Hid (((decide (1 ≤ n) && decide (n ≤ 12)) || n == 14 || n == 15) = true) := (by first | rfl | (simp; omega) : ((decide (1 ≤ n) && decide (n ≤ 12)) || n == 14 || n == 15) = true)
    cases hk : ((ops.length : Int) == 2)
    · go_enter Tryd.func22, Tryd.ntmps22
      go_wp2_with (go_at_call 43; fail)
      refine hA0.mono ?_
      rintro e w1 ⟨rfl, hw1⟩
      replace hw1 := hw1.symm
      subst hw1
      go_wp2
      go_ret
      exact ⟨ret_b (by simp), bw0⟩
    cases al
    · go_enter Tryd.func22, Tryd.ntmps22
      go_wp2_with (go_at_call 43; fail)
      refine hA0.mono ?_
      rintro e w1 ⟨rfl, hw1⟩
      replace hw1 := hw1.symm
      subst hw1
      go_wp2
      go_ret
      exact ⟨ret_b (by simp), bw0⟩
    go_enter Tryd.func22, Tryd.ntmps22
    go_wp2_with (go_at_call 43; fail)
    refine hA0.mono ?_
    rintro e w1 ⟨rfl, hw1⟩
    replace hw1 := hw1.symm
    subst hw1
    go_wp2_with (go_at_call 44; fail)
    refine (hO _).mono ?_
    rintro e w2 ⟨rfl, hb2⟩
    have bw2 : Below w.heap.size w w2 := bw0.trans (hb2.mono (by simp))
    clear hb2
    go_wp2
    go_ret
    exact ⟨ret_b (by rw [HC.out]; simp), bw2⟩
  · have HC : Hid (((decide (1 ≤ (14 : Int)) && decide ((14 : Int) ≤ 12)) || (14 : Int) == 14 || (14 : Int) == 15) = true) := (by first | rfl | (simp; omega) : ((decide (1 ≤ (14 : Int)) && decide ((14 : Int) ≤ 12)) || (14 : Int) == 14 || (14 : Int) == 15) = true)
    cases hk : ((ops.length : Int) == 2)
    · go_enter Tryd.func22, Tryd.ntmps22
      go_wp2_with (go_at_call 43; fail)
      refine hA0.mono ?_
      rintro e w1 ⟨rfl, hw1⟩
      replace hw1 := hw1.symm
      subst hw1
      go_wp2
      go_ret
      exact ⟨ret_b (by simp), bw0⟩
    cases al
    · go_enter Tryd.func22, Tryd.ntmps22
      go_wp2_with (go_at_call 43; fail)
      refine hA0.mono ?_
      rintro e w1 ⟨rfl, hw1⟩
      replace hw1 := hw1.symm
      subst hw1
      go_wp2
      go_ret
      exact ⟨ret_b (by simp), bw0⟩
    go_enter Tryd.func22, Tryd.ntmps22
    go_wp2_with (go_at_call 43; fail)
    refine hA0.mono ?_
    rintro e w1 ⟨rfl, hw1⟩
    replace hw1 := hw1.symm
    subst hw1
    go_wp2_with (go_at_call 44; fail)
    refine (hO _).mono ?_
    rintro e w2 ⟨rfl, hb2⟩
    have bw2 : Below w.heap.size w w2 := bw0.trans (hb2.mono (by simp))
    clear hb2
    go_wp2
    go_ret
    exact ⟨ret_b (by rw [HC.out]; simp), bw2⟩
  · have HC : Hid (((decide (1 ≤ (15 : Int)) && decide ((15 : Int) ≤ 12)) || (15 : Int) == 14 || (15 : Int) == 15) = true) := (by first | rfl | (simp; omega) : ((decide (1 ≤ (15 : Int)) && decide ((15 : Int) ≤ 12)) || (15 : Int) == 14 || (15 : Int) == 15) = true)
    cases hk : ((ops.length : Int) == 2)
    · go_enter Tryd.func22, Tryd.ntmps22
      go_wp2_with (go_at_call 43; fail)
      refine hA0.mono ?_
      rintro e w1 ⟨rfl, hw1⟩
      replace hw1 := hw1.symm
      subst hw1
      go_wp2
      go_ret
      exact ⟨ret_b (by simp), bw0⟩
    cases al
    · go_enter Tryd.func22, Tryd.ntmps22
      go_wp2_with (go_at_call 43; fail)
      refine hA0.mono ?_
      rintro e w1 ⟨rfl, hw1⟩
      replace hw1 := hw1.symm
      subst hw1
      go_wp2
      go_ret
      exact ⟨ret_b (by simp), bw0⟩
    go_enter Tryd.func22, Tryd.ntmps22
    go_wp2_with (go_at_call 43; fail)
    refine hA0.mono ?_
    rintro e w1 ⟨rfl, hw1⟩
    replace hw1 := hw1.symm
    subst hw1
    go_wp2_with (go_at_call 44; fail)
    refine (hO _).mono ?_
    rintro e w2 ⟨rfl, hb2⟩
    have bw2 : Below w.heap.size w w2 := bw0.trans (hb2.mono (by simp))
    clear hb2
    go_wp2
    go_ret
    exact ⟨ret_b (by rw [HC.out]; simp), bw2⟩
  · have HC : Hid (((decide (1 ≤ n) && decide (n ≤ 12)) || n == 14 || n == 15) = false) := (by first | rfl | (simp; omega) : ((decide (1 ≤ n) && decide (n ≤ 12)) || n == 14 || n == 15) = false)
    cases hk : ((ops.length : Int) == 2)
    · go_enter Tryd.func22, Tryd.ntmps22
      go_wp2_with (go_at_call 43; fail)
      refine hA0.mono ?_
      rintro e w1 ⟨rfl, hw1⟩
      replace hw1 := hw1.symm
      subst hw1
      go_wp2
      go_ret
      exact ⟨ret_b (by simp), bw0⟩
    cases al
    · go_enter Tryd.func22, Tryd.ntmps22
      go_wp2_with (go_at_call 43; fail)
      refine hA0.mono ?_
      rintro e w1 ⟨rfl, hw1⟩
      replace hw1 := hw1.symm
      subst hw1
      go_wp2
      go_ret
      exact ⟨ret_b (by simp), bw0⟩
    go_enter Tryd.func22, Tryd.ntmps22
    go_wp2_with (go_at_call 43; fail)
    refine hA0.mono ?_
    rintro e w1 ⟨rfl, hw1⟩
    replace hw1 := hw1.symm
    subst hw1
    go_wp2
    go_ret
    exact ⟨ret_b (by rw [HC.out]; simp), bw0⟩
  · have HC : Hid (((decide (1 ≤ (13 : Int)) && decide ((13 : Int) ≤ 12)) || (13 : Int) == 14 || (13 : Int) == 15) = false) := (by first | rfl | (simp; omega) : ((decide (1 ≤ (13 : Int)) && decide ((13 : Int) ≤ 12)) || (13 : Int) == 14 || (13 : Int) == 15) = false)
    cases hk : ((ops.length : Int) == 2)
    · go_enter Tryd.func22, Tryd.ntmps22
      go_wp2_with (go_at_call 43; fail)
      refine hA0.mono ?_
      rintro e w1 ⟨rfl, hw1⟩
      replace hw1 := hw1.symm
      subst hw1
      go_wp2
      go_ret
      exact ⟨ret_b (by simp), bw0⟩
    cases al
    · go_enter Tryd.func22, Tryd.ntmps22
      go_wp2_with (go_at_call 43; fail)
      refine hA0.mono ?_
      rintro e w1 ⟨rfl, hw1⟩
      replace hw1 := hw1.symm
      subst hw1
      go_wp2
      go_ret
      exact ⟨ret_b (by simp), bw0⟩
    go_enter Tryd.func22, Tryd.ntmps22
    go_wp2_with (go_at_call 43; fail)
    refine hA0.mono ?_
    rintro e w1 ⟨rfl, hw1⟩
    replace hw1 := hw1.symm
    subst hw1
    go_wp2
    go_ret
    exact ⟨ret_b (by rw [HC.out]; simp), bw0⟩
  · have HC : Hid (((decide (1 ≤ n) && decide (n ≤ 12)) || n == 14 || n == 15) = false) := (by first | rfl | (simp; omega) : ((decide (1 ≤ n) && decide (n ≤ 12)) || n == 14 || n == 15) = false)
    cases hk : ((ops.length : Int) == 2)
    · go_enter Tryd.func22, Tryd.ntmps22
      go_wp2_with (go_at_call 43; fail)
      refine hA0.mono ?_
      rintro e w1 ⟨rfl, hw1⟩
      replace hw1 := hw1.symm
      subst hw1
      go_wp2
      go_ret
      exact ⟨ret_b (by simp), bw0⟩
    cases al
    · go_enter Tryd.func22, Tryd.ntmps22
      go_wp2_with (go_at_call 43; fail)
      refine hA0.mono ?_
      rintro e w1 ⟨rfl, hw1⟩
      replace hw1 := hw1.symm
      subst hw1
      go_wp2
      go_ret
      exact ⟨ret_b (by simp), bw0⟩
    go_enter Tryd.func22, Tryd.ntmps22
    go_wp2_with (go_at_call 43; fail)
    refine hA0.mono ?_
    rintro e w1 ⟨rfl, hw1⟩
    replace hw1 := hw1.symm
    subst hw1
    go_wp2
    go_ret
    exact ⟨ret_b (by rw [HC.out]; simp), bw0⟩
end Go.Proofs.YtghdjagomdgnfaaDoor
namespace Go.Proofs.YtghdjagomdgnfaaDoor
open Go.ChangeShapes Go.WideShapes Go.ChangeAt Go.RowKit
set_option linter.unusedVariables false
set_option linter.unusedSimpArgs false
set_option maxRecDepth 100000
set_option maxHeartbeats 8000000 in
theorem ex_6 (t : Nd) (ops : List Int) (v : Value) (w : World) (hop : t.op = 6) (hn : ops.length ≤ 1048576) (hv : RI w v ops) (hs1 : t.name.size ≤ 1048576) (hs2 : t.qual.size ≤ 1048576) (ka : Option Addr) (kl kc : Nat) :
    Calls Tryd.prog 22 #[ndV t (.slice ka kl kc), v] w fun e w' => e = .returned (.bool (((ops.length : Int) == 1) && ops.all isE && flg t.n && only t false false true false false)) ∧ Below w.heap.size w w' := by
  have hA := fun W (h : Below w.heap.size w W) => allExpr_any ops v W hn (hv.below h)
  have hO := fun W => only_any t (.slice ka kl kc) false false true false false W
  have hF := fun W => flag_any t.n W
  have hG := fun W => flag_any t.m W
  have hN := fun W => isName_any t.name W hs1
  obtain ⟨a, cap, rfl, hcells⟩ := hv
  generalize ops.all isE = al at *
  generalize only t false false true false false = on at *
  generalize flg t.n = fn at *
  generalize flg t.m = fm at *
  generalize isNm t.name = nm at *
  obtain ⟨op, name, qual, n, m, vk, vn, vs, kids, pos⟩ := t
  simp only [ndV] at *
  subst hop
  have bw0 := below_alloc w (.cells #[.int .i64 6, .string name, .string qual, .int .i64 n, .int .i64 m, .int .i64 vk, .int .i64 vn, .string vs, .slice ka kl kc, .int .i64 pos] 46)
  go_enter Tryd.func22, Tryd.ntmps22
  go_wp2_with (first | (go_at_call 43; refine (hA _ bw0).mono ?_; rintro e w1 ⟨rfl, rfl⟩) | (go_at_call 44; refine (hO _).mono ?_; rintro e w2 ⟨rfl, hb2⟩; obtain ⟨hc2, hf2⟩ := bcell hb2; have hz2 : w.heap.size < w2.heap.size := (by have := hb2.size; simp at this; omega); have bw2 : Below w.heap.size w w2 := bw0.trans (hb2.mono (by simp))) | (go_at_call 16; refine (hN _).mono ?_; rintro e w3 ⟨rfl, rfl⟩) | (go_at_call 47; refine (hF _).mono ?_; rintro e w4 ⟨rfl, rfl⟩) | (go_at_call 47; refine (hG _).mono ?_; rintro e w4 ⟨rfl, rfl⟩))
  all_goals
    go_ret
    refine ⟨ret_b ?_, by first | exact bw2 | exact bw0⟩
    first | (simp_all; done) | (simp_all; omega) | grind
end Go.Proofs.YtghdjagomdgnfaaDoor
namespace Go.Proofs.YtghdjagomdgnfaaDoor
open Go.ChangeShapes Go.WideShapes Go.ChangeAt Go.RowKit
set_option linter.unusedVariables false
set_option linter.unusedSimpArgs false
set_option maxRecDepth 100000
set_option maxHeartbeats 8000000 in
theorem ex_7 (t : Nd) (ops : List Int) (v : Value) (w : World) (hop : t.op = 7) (hn : ops.length ≤ 1048576) (hv : RI w v ops) (hs1 : t.name.size ≤ 1048576) (hs2 : t.qual.size ≤ 1048576) (ka : Option Addr) (kl kc : Nat) :
    Calls Tryd.prog 22 #[ndV t (.slice ka kl kc), v] w fun e w' => e = .returned (.bool (((ops.length : Int) == 2) && ops.all isE && flg t.n && only t false false true false false)) ∧ Below w.heap.size w w' := by
  have hA := fun W (h : Below w.heap.size w W) => allExpr_any ops v W hn (hv.below h)
  have hO := fun W => only_any t (.slice ka kl kc) false false true false false W
  have hF := fun W => flag_any t.n W
  have hG := fun W => flag_any t.m W
  have hN := fun W => isName_any t.name W hs1
  obtain ⟨a, cap, rfl, hcells⟩ := hv
  generalize ops.all isE = al at *
  generalize only t false false true false false = on at *
  generalize flg t.n = fn at *
  generalize flg t.m = fm at *
  generalize isNm t.name = nm at *
  obtain ⟨op, name, qual, n, m, vk, vn, vs, kids, pos⟩ := t
  simp only [ndV] at *
  subst hop
  have bw0 := below_alloc w (.cells #[.int .i64 7, .string name, .string qual, .int .i64 n, .int .i64 m, .int .i64 vk, .int .i64 vn, .string vs, .slice ka kl kc, .int .i64 pos] 46)
  go_enter Tryd.func22, Tryd.ntmps22
  go_wp2_with (first | (go_at_call 43; refine (hA _ bw0).mono ?_; rintro e w1 ⟨rfl, rfl⟩) | (go_at_call 44; refine (hO _).mono ?_; rintro e w2 ⟨rfl, hb2⟩; obtain ⟨hc2, hf2⟩ := bcell hb2; have hz2 : w.heap.size < w2.heap.size := (by have := hb2.size; simp at this; omega); have bw2 : Below w.heap.size w w2 := bw0.trans (hb2.mono (by simp))) | (go_at_call 16; refine (hN _).mono ?_; rintro e w3 ⟨rfl, rfl⟩) | (go_at_call 47; refine (hF _).mono ?_; rintro e w4 ⟨rfl, rfl⟩) | (go_at_call 47; refine (hG _).mono ?_; rintro e w4 ⟨rfl, rfl⟩))
  all_goals
    go_ret
    refine ⟨ret_b ?_, by first | exact bw2 | exact bw0⟩
    first | (simp_all; done) | (simp_all; omega) | grind
end Go.Proofs.YtghdjagomdgnfaaDoor
namespace Go.Proofs.YtghdjagomdgnfaaDoor
open Go.ChangeShapes Go.WideShapes Go.ChangeAt Go.RowKit
set_option linter.unusedVariables false
set_option linter.unusedSimpArgs false
set_option maxRecDepth 100000
set_option maxHeartbeats 8000000 in
theorem ex_8 (t : Nd) (ops : List Int) (v : Value) (w : World) (hop : t.op = 8) (hn : ops.length ≤ 1048576) (hv : RI w v ops) (hs1 : t.name.size ≤ 1048576) (hs2 : t.qual.size ≤ 1048576) (ka : Option Addr) (kl kc : Nat) :
    Calls Tryd.prog 22 #[ndV t (.slice ka kl kc), v] w fun e w' => e = .returned (.bool (decide (2 ≤ (ops.length : Int)) && ops.all isE && flg t.n && only t false false true false false)) ∧ Below w.heap.size w w' := by
  have hA := fun W (h : Below w.heap.size w W) => allExpr_any ops v W hn (hv.below h)
  have hO := fun W => only_any t (.slice ka kl kc) false false true false false W
  have hF := fun W => flag_any t.n W
  have hG := fun W => flag_any t.m W
  have hN := fun W => isName_any t.name W hs1
  obtain ⟨a, cap, rfl, hcells⟩ := hv
  generalize ops.all isE = al at *
  generalize only t false false true false false = on at *
  generalize flg t.n = fn at *
  generalize flg t.m = fm at *
  generalize isNm t.name = nm at *
  obtain ⟨op, name, qual, n, m, vk, vn, vs, kids, pos⟩ := t
  simp only [ndV] at *
  subst hop
  have bw0 := below_alloc w (.cells #[.int .i64 8, .string name, .string qual, .int .i64 n, .int .i64 m, .int .i64 vk, .int .i64 vn, .string vs, .slice ka kl kc, .int .i64 pos] 46)
  go_enter Tryd.func22, Tryd.ntmps22
  go_wp2_with (first | (go_at_call 43; refine (hA _ bw0).mono ?_; rintro e w1 ⟨rfl, rfl⟩) | (go_at_call 44; refine (hO _).mono ?_; rintro e w2 ⟨rfl, hb2⟩; obtain ⟨hc2, hf2⟩ := bcell hb2; have hz2 : w.heap.size < w2.heap.size := (by have := hb2.size; simp at this; omega); have bw2 : Below w.heap.size w w2 := bw0.trans (hb2.mono (by simp))) | (go_at_call 16; refine (hN _).mono ?_; rintro e w3 ⟨rfl, rfl⟩) | (go_at_call 47; refine (hF _).mono ?_; rintro e w4 ⟨rfl, rfl⟩) | (go_at_call 47; refine (hG _).mono ?_; rintro e w4 ⟨rfl, rfl⟩))
  all_goals
    go_ret
    refine ⟨ret_b ?_, by first | exact bw2 | exact bw0⟩
    first | (simp_all; done) | (simp_all; omega) | grind
end Go.Proofs.YtghdjagomdgnfaaDoor
