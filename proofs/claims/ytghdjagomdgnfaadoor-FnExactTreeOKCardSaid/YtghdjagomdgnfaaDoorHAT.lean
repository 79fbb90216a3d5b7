import Derived.Test.YtghdjagomdgnfaaDoorHAC
import Derived.Test.YtghdjagomdgnfaaDoorHAF
namespace Go.Proofs.YtghdjagomdgnfaaDoor
open Go.ChangeShapes Go.WideShapes Go.ChangeAt Go.RowKit
set_option linter.unusedVariables false
set_option linter.unusedSimpArgs false
set_option maxRecDepth 100000
set_option maxHeartbeats 8000000 in
theorem ex_1 (t : Nd) (ops : List Int) (v : Value) (w : World) (hop : t.op = 1) (hn : ops.length ≤ 1048576) (hv : RI w v ops) (hs1 : t.name.size ≤ 1048576) (hs2 : t.qual.size ≤ 1048576) (hs3 : t.vs.size ≤ 1048576) (ka : Option Addr) (kl kc : Nat) :
    Calls Tryd.prog 22 #[ndV t (.slice ka kl kc), v] w fun e w' => e = .returned (.bool (((ops.length : Int) == 0) && only t false false false false true && vok t.vk t.vn t.vs && ((t.vk != 1 && t.vk != 2) || decide (0 ≤ t.vn)))) ∧ Below w.heap.size w w' := by
  have hA := fun W (h : Below w.heap.size w W) => allExpr_any ops v W hn (hv.below h)
  have hO := fun W => only_any t (.slice ka kl kc) false false false false true W
  have hF := fun W => flag_any t.n W
  have hG := fun W => flag_any t.m W
  have hV := fun W => vok_spec t.vk t.vn t.vs W hs3
  obtain ⟨a, cap, rfl, hcells⟩ := hv
  clear hcells
  generalize ops.all isE = al at *
  generalize only t false false false false true = on at *
  obtain ⟨op, name, qual, n, m, vk, vn, vs, kids, pos⟩ := t
  simp only [ndV] at *
  subst hop
  have bw0 := below_alloc w (.cells #[.int .i64 1, .string name, .string qual, .int .i64 n, .int .i64 m, .int .i64 vk, .int .i64 vn, .string vs, .slice ka kl kc, .int .i64 pos] 46)
  have hA0 := hA _ bw0
  clear hA
  generalize vok vk vn vs = vo at *
  cases h3 : decide (0 ≤ vn) <;> cases h1 : (vk == 1) <;> cases h2 : (vk == 2)
  all_goals
    have t1 : (vk != 1) = !(vk == 1) := rfl
    have t2 : (vk != 2) = !(vk == 2) := rfl
    rw [h1] at t1
    rw [h2] at t2
    simp only [Bool.not_true, Bool.not_false] at t1 t2
    have h3' := h3
    simp only [decide_eq_false_iff_not, decide_eq_true_eq] at h3'
    cases hk : ((ops.length : Int) == 0)
    · go_enter Tryd.func22, Tryd.ntmps22
      go_wp2_with (go_at_call 43; fail)
      refine hA0.mono ?_
      rintro e w1 ⟨rfl, hw1⟩
      replace hw1 := hw1.symm
      subst hw1
      go_wp2
      go_ret
      exact ⟨ret_b (by simp), bw0⟩
    · cases on
      · go_enter Tryd.func22, Tryd.ntmps22
        go_wp2_with (go_at_call 43; fail)
        refine hA0.mono ?_
        rintro e w1 ⟨rfl, hw1⟩
        replace hw1 := hw1.symm
        subst hw1
        go_wp2_with (go_at_call 44; fail)
        refine (hO _).mono ?_
        rintro e w2 ⟨rfl, hb2⟩
        have bw2 : Below w.heap.size w w2 := bw0.trans (hb2.mono (by simp))
        clear hb2
        go_wp2
        go_ret
        exact ⟨ret_b (by simp), bw2⟩
      · go_enter Tryd.func22, Tryd.ntmps22
        go_wp2_with (go_at_call 43; fail)
        refine hA0.mono ?_
        rintro e w1 ⟨rfl, hw1⟩
        replace hw1 := hw1.symm
        subst hw1
        go_wp2_with (go_at_call 44; fail)
        refine (hO _).mono ?_
        rintro e w2 ⟨rfl, hb2⟩
        have bw2 : Below w.heap.size w w2 := bw0.trans (hb2.mono (by simp))
        obtain ⟨hc2, hf2⟩ := bcell hb2
        have hz2 : w.heap.size < w2.heap.size := (by have := hb2.size; simp at this; omega)
        clear hb2
        go_wp2_with (go_at_call 45; fail)
        refine (hV _).mono ?_
        rintro e w3 ⟨rfl, hb3⟩
        have bw3 : Below w.heap.size w w3 := bw2.trans (hb3.mono bw2.size)
        clear hb3 hc2 hf2
        cases vo
        · go_wp2
          go_ret
          exact ⟨ret_b (by simp), bw3⟩
        · go_wp2
          go_ret
          exact ⟨ret_b (by first | (simp; done) | (simp_all; done)), bw3⟩
end Go.Proofs.YtghdjagomdgnfaaDoor
namespace Go.Proofs.YtghdjagomdgnfaaDoor
open Go.ChangeShapes Go.WideShapes Go.ChangeAt Go.RowKit
set_option linter.unusedVariables false
set_option linter.unusedSimpArgs false
set_option maxRecDepth 100000
set_option maxHeartbeats 8000000 in
theorem ex_10 (t : Nd) (ops : List Int) (v : Value) (w : World) (hop : t.op = 10) (hn : ops.length ≤ 1048576) (hv : RI w v ops) (hs1 : t.name.size ≤ 1048576) (hs2 : t.qual.size ≤ 1048576) (ka : Option Addr) (kl kc : Nat) :
    Calls Tryd.prog 22 #[ndV t (.slice ka kl kc), v] w fun e w' => e = .returned (.bool (((ops.length : Int) == 3) && ops.all isE && flg t.n && only t false false true false false)) ∧ Below w.heap.size w w' := by
  have hA := fun W (h : Below w.heap.size w W) => allExpr_any ops v W hn (hv.below h)
  have hO := fun W => only_any t (.slice ka kl kc) false false true false false W
  have hF := fun W => flag_any t.n W
  have hG := fun W => flag_any t.m W
  have hN := fun W => isName_any t.name W hs1
  obtain ⟨a, cap, rfl, hcells⟩ := hv
  generalize ops.all isE = al at *
  generalize only t false false true false false = on at *
  generalize flg t.n = fn at *
  generalize flg t.m = fm at *
  generalize isNm t.name = nm at *
  obtain ⟨op, name, qual, n, m, vk, vn, vs, kids, pos⟩ := t
  simp only [ndV] at *
  subst hop
  have bw0 := below_alloc w (.cells #[.int .i64 10, .string name, .string qual, .int .i64 n, .int .i64 m, .int .i64 vk, .int .i64 vn, .string vs, .slice ka kl kc, .int .i64 pos] 46)
  go_enter Tryd.func22, Tryd.ntmps22
  go_wp2_with (first | (go_at_call 43; refine (hA _ bw0).mono ?_; rintro e w1 ⟨rfl, rfl⟩) | (go_at_call 44; refine (hO _).mono ?_; rintro e w2 ⟨rfl, hb2⟩; obtain ⟨hc2, hf2⟩ := bcell hb2; have hz2 : w.heap.size < w2.heap.size := (by have := hb2.size; simp at this; omega); have bw2 : Below w.heap.size w w2 := bw0.trans (hb2.mono (by simp))) | (go_at_call 16; refine (hN _).mono ?_; rintro e w3 ⟨rfl, rfl⟩) | (go_at_call 47; refine (hF _).mono ?_; rintro e w4 ⟨rfl, rfl⟩) | (go_at_call 47; refine (hG _).mono ?_; rintro e w4 ⟨rfl, rfl⟩))
  all_goals
    go_ret
    refine ⟨ret_b ?_, by first | exact bw2 | exact bw0⟩
    first | (simp_all; done) | (simp_all; omega) | grind
end Go.Proofs.YtghdjagomdgnfaaDoor
namespace Go.Proofs.YtghdjagomdgnfaaDoor
open Go.ChangeShapes Go.WideShapes Go.ChangeAt Go.RowKit
set_option linter.unusedVariables false
set_option linter.unusedSimpArgs false
set_option maxRecDepth 100000
set_option maxHeartbeats 8000000 in
theorem ex_11 (t : Nd) (ops : List Int) (v : Value) (w : World) (hop : t.op = 11) (hn : ops.length ≤ 1048576) (hv : RI w v ops) (hs1 : t.name.size ≤ 1048576) (hs2 : t.qual.size ≤ 1048576) (ka : Option Addr) (kl kc : Nat) :
    Calls Tryd.prog 22 #[ndV t (.slice ka kl kc), v] w fun e w' => e = .returned (.bool (((ops.length : Int) == 2) && ops.all isE && flg t.n && only t false false true false false)) ∧ Below w.heap.size w w' := by
  have hA := fun W (h : Below w.heap.size w W) => allExpr_any ops v W hn (hv.below h)
  have hO := fun W => only_any t (.slice ka kl kc) false false true false false W
  have hF := fun W => flag_any t.n W
  have hG := fun W => flag_any t.m W
  have hN := fun W => isName_any t.name W hs1
  obtain ⟨a, cap, rfl, hcells⟩ := hv
  generalize ops.all isE = al at *
  generalize only t false false true false false = on at *
  generalize flg t.n = fn at *
  generalize flg t.m = fm at *
  generalize isNm t.name = nm at *
  obtain ⟨op, name, qual, n, m, vk, vn, vs, kids, pos⟩ := t
  simp only [ndV] at *
  subst hop
  have bw0 := below_alloc w (.cells #[.int .i64 11, .string name, .string qual, .int .i64 n, .int .i64 m, .int .i64 vk, .int .i64 vn, .string vs, .slice ka kl kc, .int .i64 pos] 46)
  go_enter Tryd.func22, Tryd.ntmps22
  go_wp2_with (first | (go_at_call 43; refine (hA _ bw0).mono ?_; rintro e w1 ⟨rfl, rfl⟩) | (go_at_call 44; refine (hO _).mono ?_; rintro e w2 ⟨rfl, hb2⟩; obtain ⟨hc2, hf2⟩ := bcell hb2; have hz2 : w.heap.size < w2.heap.size := (by have := hb2.size; simp at this; omega); have bw2 : Below w.heap.size w w2 := bw0.trans (hb2.mono (by simp))) | (go_at_call 16; refine (hN _).mono ?_; rintro e w3 ⟨rfl, rfl⟩) | (go_at_call 47; refine (hF _).mono ?_; rintro e w4 ⟨rfl, rfl⟩) | (go_at_call 47; refine (hG _).mono ?_; rintro e w4 ⟨rfl, rfl⟩))
  all_goals
    go_ret
    refine ⟨ret_b ?_, by first | exact bw2 | exact bw0⟩
    first | (simp_all; done) | (simp_all; omega) | grind
end Go.Proofs.YtghdjagomdgnfaaDoor
namespace Go.Proofs.YtghdjagomdgnfaaDoor
open Go.ChangeShapes Go.WideShapes Go.ChangeAt Go.RowKit
set_option linter.unusedVariables false
set_option linter.unusedSimpArgs false
set_option maxRecDepth 100000
set_option maxHeartbeats 8000000 in
theorem ex_12 (t : Nd) (ops : List Int) (v : Value) (w : World) (hop : t.op = 12) (hn : ops.length ≤ 1048576) (hv : RI w v ops) (hs1 : t.name.size ≤ 1048576) (hs2 : t.qual.size ≤ 1048576) (ka : Option Addr) (kl kc : Nat) :
    Calls Tryd.prog 22 #[ndV t (.slice ka kl kc), v] w fun e w' => e = .returned (.bool (flg t.n && flg t.m && ops.all isE && (decide (2 ≤ (ops.length : Int) - t.n - t.m) && ((ops.length : Int) - t.n - t.m) % 2 == 0) && only t false false true true false)) ∧ Below w.heap.size w w' := by
  have hA := fun W (h : Below w.heap.size w W) => allExpr_any ops v W hn (hv.below h)
  have hO := fun W => only_any t (.slice ka kl kc) false false true true false W
  have hF := fun W => flag_any t.n W
  have hG := fun W => flag_any t.m W
  obtain ⟨a, cap, rfl, hcells⟩ := hv
  clear hcells
  generalize ops.all isE = al at *
  generalize only t false false true true false = on at *
  obtain ⟨op, name, qual, n, m, vk, vn, vs, kids, pos⟩ := t
  simp only [ndV] at *
  subst hop
  have bw0 := below_alloc w (.cells #[.int .i64 12, .string name, .string qual, .int .i64 n, .int .i64 m, .int .i64 vk, .int .i64 vn, .string vs, .slice ka kl kc, .int .i64 pos] 46)
  have hA0 := hA _ bw0
  clear hA
  cases hfn : flg n
  · rw [hfn] at hF
    go_enter Tryd.func22, Tryd.ntmps22
    go_wp2_with (go_at_call 43; fail)
    refine hA0.mono ?_
    rintro e w1 ⟨rfl, hw1⟩
    replace hw1 := hw1.symm
    subst hw1
    go_wp2_with (go_at_call 47; fail)
    refine (hF _).mono ?_
    rintro e w3 ⟨rfl, hw3⟩
    replace hw3 := hw3.symm
    subst hw3
    go_wp2
    go_ret
    exact ⟨ret_b (by simp), bw0⟩
  cases hfm : flg m
  · rw [hfn] at hF
    rw [hfm] at hG
    go_enter Tryd.func22, Tryd.ntmps22
    go_wp2_with (go_at_call 43; fail)
    refine hA0.mono ?_
    rintro e w1 ⟨rfl, hw1⟩
    replace hw1 := hw1.symm
    subst hw1
    go_wp2_with (go_at_call 47; fail)
    refine (hF _).mono ?_
    rintro e w3 ⟨rfl, hw3⟩
    replace hw3 := hw3.symm
    subst hw3
    go_wp2_with (go_at_call 47; fail)
    refine (hG _).mono ?_
    rintro e w4 ⟨rfl, hw4⟩
    replace hw4 := hw4.symm
    subst hw4
    go_wp2
    go_ret
    exact ⟨ret_b (by simp), bw0⟩
  rw [hfn] at hF
  rw [hfm] at hG
  cases al
  · go_enter Tryd.func22, Tryd.ntmps22
    go_wp2_with (go_at_call 43; fail)
    refine hA0.mono ?_
    rintro e w1 ⟨rfl, hw1⟩
    replace hw1 := hw1.symm
    subst hw1
    go_wp2_with (go_at_call 47; fail)
    refine (hF _).mono ?_
    rintro e w3 ⟨rfl, hw3⟩
    replace hw3 := hw3.symm
    subst hw3
    go_wp2_with (go_at_call 47; fail)
    refine (hG _).mono ?_
    rintro e w4 ⟨rfl, hw4⟩
    replace hw4 := hw4.symm
    subst hw4
    go_wp2
    go_ret
    exact ⟨ret_b (by simp), bw0⟩
  have hnb : n = 0 ∨ n = 1 := by simpa [flg] using hfn
  have hmb : m = 0 ∨ m = 1 := by simpa [flg] using hfm
  have hw1 : IntKind.i64.wrap ((ops.length : Int) - n) = (ops.length : Int) - n := by simp only [IntKind.wrap_i64, wrap64]; omega
  have hw2 : IntKind.i64.wrap ((ops.length : Int) - n - m) = (ops.length : Int) - n - m := by simp only [IntKind.wrap_i64, wrap64]; omega
  obtain ⟨p, hp⟩ : ∃ p, (ops.length : Int) - n - m = p := ⟨_, rfl⟩
  rw [hp] at hw2 ⊢
  clear hnb hmb
  by_cases h2 : 2 ≤ p
  · have hm2 : p.tmod 2 = p % 2 := Int.tmod_eq_emod_of_nonneg (by omega)
    cases h3 : (p % 2 == 0)
    · have h3' : ¬ p % 2 = 0 := by simpa using h3
      go_enter Tryd.func22, Tryd.ntmps22
      go_wp2_with (go_at_call 43; fail)
      refine hA0.mono ?_
      rintro e w1 ⟨rfl, hw1⟩
      replace hw1 := hw1.symm
      subst hw1
      go_wp2_with (go_at_call 47; fail)
      refine (hF _).mono ?_
      rintro e w3 ⟨rfl, hw3⟩
      replace hw3 := hw3.symm
      subst hw3
      go_wp2_with (go_at_call 47; fail)
      refine (hG _).mono ?_
      rintro e w4 ⟨rfl, hw4⟩
      replace hw4 := hw4.symm
      subst hw4
      go_wp2
      go_ret
      exact ⟨ret_b (by simp [h3]), bw0⟩
    · have h3' : p % 2 = 0 := by simpa using h3
      go_enter Tryd.func22, Tryd.ntmps22
      go_wp2_with (go_at_call 43; fail)
      refine hA0.mono ?_
      rintro e w1 ⟨rfl, hw1⟩
      replace hw1 := hw1.symm
      subst hw1
      go_wp2_with (go_at_call 47; fail)
      refine (hF _).mono ?_
      rintro e w3 ⟨rfl, hw3⟩
      replace hw3 := hw3.symm
      subst hw3
      go_wp2_with (go_at_call 47; fail)
      refine (hG _).mono ?_
      rintro e w4 ⟨rfl, hw4⟩
      replace hw4 := hw4.symm
      subst hw4
      go_wp2_with (go_at_call 44; fail)
      refine (hO _).mono ?_
      rintro e w2 ⟨rfl, hb2⟩
      have bw2 : Below w.heap.size w w2 := bw0.trans (hb2.mono (by simp))
      clear hb2
      go_wp2
      go_ret
      exact ⟨ret_b (by simp [h3', h2]), bw2⟩
  · go_enter Tryd.func22, Tryd.ntmps22
    go_wp2_with (go_at_call 43; fail)
    refine hA0.mono ?_
    rintro e w1 ⟨rfl, hw1⟩
    replace hw1 := hw1.symm
    subst hw1
    go_wp2_with (go_at_call 47; fail)
    refine (hF _).mono ?_
    rintro e w3 ⟨rfl, hw3⟩
    replace hw3 := hw3.symm
    subst hw3
    go_wp2_with (go_at_call 47; fail)
    refine (hG _).mono ?_
    rintro e w4 ⟨rfl, hw4⟩
    replace hw4 := hw4.symm
    subst hw4
    go_wp2
    go_ret
    exact ⟨ret_b (by rw [decide_eq_false (by omega)]; simp), bw0⟩
end Go.Proofs.YtghdjagomdgnfaaDoor
namespace Go.Proofs.YtghdjagomdgnfaaDoor
open Go.ChangeShapes Go.WideShapes Go.ChangeAt Go.RowKit
set_option linter.unusedVariables false
set_option linter.unusedSimpArgs false
set_option maxRecDepth 100000
set_option maxHeartbeats 8000000 in
theorem ex_13 (t : Nd) (ops : List Int) (v : Value) (w : World) (hop : t.op = 13) (hn : ops.length ≤ 1048576) (hv : RI w v ops) (hs1 : t.name.size ≤ 1048576) (hs2 : t.qual.size ≤ 1048576) (ka : Option Addr) (kl kc : Nat) :
    Calls Tryd.prog 22 #[ndV t (.slice ka kl kc), v] w fun e w' => e = .returned (.bool (((ops.length : Int) == 1) && ops.all isE && decide (1 ≤ t.n) && decide (t.n ≤ 5) && only t false false true false false)) ∧ Below w.heap.size w w' := by
  have hA := fun W (h : Below w.heap.size w W) => allExpr_any ops v W hn (hv.below h)
  have hO := fun W => only_any t (.slice ka kl kc) false false true false false W
  have hF := fun W => flag_any t.n W
  have hG := fun W => flag_any t.m W
  have hN := fun W => isName_any t.name W hs1
  obtain ⟨a, cap, rfl, hcells⟩ := hv
  generalize ops.all isE = al at *
  generalize only t false false true false false = on at *
  generalize flg t.n = fn at *
  generalize flg t.m = fm at *
  generalize isNm t.name = nm at *
  obtain ⟨op, name, qual, n, m, vk, vn, vs, kids, pos⟩ := t
  simp only [ndV] at *
  subst hop
  have bw0 := below_alloc w (.cells #[.int .i64 13, .string name, .string qual, .int .i64 n, .int .i64 m, .int .i64 vk, .int .i64 vn, .string vs, .slice ka kl kc, .int .i64 pos] 46)
  go_enter Tryd.func22, Tryd.ntmps22
  go_wp2_with (first | (go_at_call 43; refine (hA _ bw0).mono ?_; rintro e w1 ⟨rfl, rfl⟩) | (go_at_call 44; refine (hO _).mono ?_; rintro e w2 ⟨rfl, hb2⟩; obtain ⟨hc2, hf2⟩ := bcell hb2; have hz2 : w.heap.size < w2.heap.size := (by have := hb2.size; simp at this; omega); have bw2 : Below w.heap.size w w2 := bw0.trans (hb2.mono (by simp))) | (go_at_call 16; refine (hN _).mono ?_; rintro e w3 ⟨rfl, rfl⟩) | (go_at_call 47; refine (hF _).mono ?_; rintro e w4 ⟨rfl, rfl⟩) | (go_at_call 47; refine (hG _).mono ?_; rintro e w4 ⟨rfl, rfl⟩))
  all_goals
    go_ret
    refine ⟨ret_b ?_, by first | exact bw2 | exact bw0⟩
    first | (simp_all; done) | (simp_all; omega) | grind
end Go.Proofs.YtghdjagomdgnfaaDoor
namespace Go.Proofs.YtghdjagomdgnfaaDoor
open Go.ChangeShapes Go.WideShapes Go.ChangeAt Go.RowKit
set_option linter.unusedVariables false
set_option linter.unusedSimpArgs false
set_option maxRecDepth 100000
set_option maxHeartbeats 8000000 in
theorem ex_14 (t : Nd) (ops : List Int) (v : Value) (w : World) (hop : t.op = 14) (hn : ops.length ≤ 1048576) (hv : RI w v ops) (hs1 : t.name.size ≤ 1048576) (hs2 : t.qual.size ≤ 1048576) (ka : Option Addr) (kl kc : Nat) :
    Calls Tryd.prog 22 #[ndV t (.slice ka kl kc), v] w fun e w' => e = .returned (.bool (ops.all isE && isNm t.name && only t true false false false false)) ∧ Below w.heap.size w w' := by
  have hA := fun W (h : Below w.heap.size w W) => allExpr_any ops v W hn (hv.below h)
  have hO := fun W => only_any t (.slice ka kl kc) true false false false false W
  have hF := fun W => flag_any t.n W
  have hG := fun W => flag_any t.m W
  have hN := fun W => isName_any t.name W hs1
  obtain ⟨a, cap, rfl, hcells⟩ := hv
  generalize ops.all isE = al at *
  generalize only t true false false false false = on at *
  generalize flg t.n = fn at *
  generalize flg t.m = fm at *
  generalize isNm t.name = nm at *
  obtain ⟨op, name, qual, n, m, vk, vn, vs, kids, pos⟩ := t
  simp only [ndV] at *
  subst hop
  have bw0 := below_alloc w (.cells #[.int .i64 14, .string name, .string qual, .int .i64 n, .int .i64 m, .int .i64 vk, .int .i64 vn, .string vs, .slice ka kl kc, .int .i64 pos] 46)
  go_enter Tryd.func22, Tryd.ntmps22
  go_wp2_with (first | (go_at_call 43; refine (hA _ bw0).mono ?_; rintro e w1 ⟨rfl, rfl⟩) | (go_at_call 44; refine (hO _).mono ?_; rintro e w2 ⟨rfl, hb2⟩; obtain ⟨hc2, hf2⟩ := bcell hb2; have hz2 : w.heap.size < w2.heap.size := (by have := hb2.size; simp at this; omega); have bw2 : Below w.heap.size w w2 := bw0.trans (hb2.mono (by simp))) | (go_at_call 16; refine (hN _).mono ?_; rintro e w3 ⟨rfl, rfl⟩) | (go_at_call 47; refine (hF _).mono ?_; rintro e w4 ⟨rfl, rfl⟩) | (go_at_call 47; refine (hG _).mono ?_; rintro e w4 ⟨rfl, rfl⟩))
  all_goals
    go_ret
    refine ⟨ret_b ?_, by first | exact bw2 | exact bw0⟩
    first | (simp_all; done) | (simp_all; omega) | grind
end Go.Proofs.YtghdjagomdgnfaaDoor
