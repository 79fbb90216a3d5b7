import Derived.Test.YtoieiegjhjedoaaSU1
namespace Go.Proofs.Ytoieiegjhjedoaa
open Go.ChangeShapes Go.WideShapes Go.ChangeAt Go.RowKit
set_option linter.unusedVariables false
set_option linter.unusedSimpArgs false
set_option maxRecDepth 100000
theorem within_any (n l m : Int) (w : World) : Calls Try.prog 44 #[.int .i64 n, .int .i64 l, .int .i64 m] w fun e w' => e = .returned (.bool (decide (l ≤ n) && decide (n ≤ m))) ∧ w' = w := by
  by_cases h1 : l ≤ n
  · by_cases h2 : n ≤ m
    · go_enter Try.func44, Try.ntmps44
      go_wp2
      go_ret
      exact ⟨by simp [h1, h2], rfl⟩
    · go_enter Try.func44, Try.ntmps44
      go_wp2
      go_ret
      exact ⟨by simp [h1, h2], rfl⟩
  · go_enter Try.func44, Try.ntmps44
    go_wp2
    go_ret
    exact ⟨ret_b (by rw [decide_eq_false (show ¬ l ≤ n by omega)]; rfl), rfl⟩
def shV (nA : Bool) (la ma lk mk : Int) : Value := .agg #[.bool nA, .int .i64 la, .int .i64 ma, .int .i64 lk, .int .i64 mk]
def xnV (x : XN) (ka : Option Addr) (n kc : Nat) : Value := .agg #[.int .i64 x.op, .int .i64 x.kind, .int .i64 x.a, .int .i64 x.b, .int .i64 x.vk, .int .i64 x.vn, .string x.vs, .slice ka n kc]
theorem shape_1 (w : World) : Calls Try.prog 41 #[.int .i64 1] w fun e w' => e = .returned (.tuple #[shV false 0 0 0 0, .bool true]) ∧ Below w.heap.size w w' := by
  unfold shV
  go_enter Try.func41, Try.ntmps41
  go_wp2
  refine bodyPost_ret (v := .tuple #[.agg #[.bool false, .int .i64 0, .int .i64 0, .int .i64 0, .int .i64 0], .bool true]) (by simp [results, Try.results41, go_sem]) rfl ⟨rfl, ?_⟩
  go_light
  repeat (first | exact Below.refl _ _ | refine Below.setCell ?_ (by simp) _ | refine Below.alloc ?_ (by simp; try omega) _)
theorem shape_2 (w : World) : Calls Try.prog 41 #[.int .i64 2] w fun e w' => e = .returned (.tuple #[shV true (-9223372036854775808) 9223372036854775807 0 0, .bool true]) ∧ Below w.heap.size w w' := by
  unfold shV
  go_enter Try.func41, Try.ntmps41
  go_wp2
  refine bodyPost_ret (v := .tuple #[.agg #[.bool true, .int .i64 (-9223372036854775808), .int .i64 9223372036854775807, .int .i64 0, .int .i64 0], .bool true]) (by simp [results, Try.results41, go_sem]) rfl ⟨rfl, ?_⟩
  go_light
  repeat (first | exact Below.refl _ _ | refine Below.setCell ?_ (by simp) _ | refine Below.alloc ?_ (by simp; try omega) _)
theorem shape_3 (w : World) : Calls Try.prog 41 #[.int .i64 3] w fun e w' => e = .returned (.tuple #[shV true 1 15 2 2, .bool true]) ∧ Below w.heap.size w w' := by
  unfold shV
  go_enter Try.func41, Try.ntmps41
  go_wp2
  refine bodyPost_ret (v := .tuple #[.agg #[.bool true, .int .i64 1, .int .i64 15, .int .i64 2, .int .i64 2], .bool true]) (by simp [results, Try.results41, go_sem]) rfl ⟨rfl, ?_⟩
  go_light
  repeat (first | exact Below.refl _ _ | refine Below.setCell ?_ (by simp) _ | refine Below.alloc ?_ (by simp; try omega) _)
theorem shape_4 (w : World) : Calls Try.prog 41 #[.int .i64 4] w fun e w' => e = .returned (.tuple #[shV true 16 18 1 1, .bool true]) ∧ Below w.heap.size w w' := by
  unfold shV
  go_enter Try.func41, Try.ntmps41
  go_wp2
  refine bodyPost_ret (v := .tuple #[.agg #[.bool true, .int .i64 16, .int .i64 18, .int .i64 1, .int .i64 1], .bool true]) (by simp [results, Try.results41, go_sem]) rfl ⟨rfl, ?_⟩
  go_light
  repeat (first | exact Below.refl _ _ | refine Below.setCell ?_ (by simp) _ | refine Below.alloc ?_ (by simp; try omega) _)
theorem shape_5 (w : World) : Calls Try.prog 41 #[.int .i64 5] w fun e w' => e = .returned (.tuple #[shV true 0 1 2 400, .bool true]) ∧ Below w.heap.size w w' := by
  unfold shV
  go_enter Try.func41, Try.ntmps41
  go_wp2
  refine bodyPost_ret (v := .tuple #[.agg #[.bool true, .int .i64 0, .int .i64 1, .int .i64 2, .int .i64 400], .bool true]) (by simp [results, Try.results41, go_sem]) rfl ⟨rfl, ?_⟩
  go_light
  repeat (first | exact Below.refl _ _ | refine Below.setCell ?_ (by simp) _ | refine Below.alloc ?_ (by simp; try omega) _)
theorem shape_6 (w : World) : Calls Try.prog 41 #[.int .i64 6] w fun e w' => e = .returned (.tuple #[shV true 0 1 2 2, .bool true]) ∧ Below w.heap.size w w' := by
  unfold shV
  go_enter Try.func41, Try.ntmps41
  go_wp2
  refine bodyPost_ret (v := .tuple #[.agg #[.bool true, .int .i64 0, .int .i64 1, .int .i64 2, .int .i64 2], .bool true]) (by simp [results, Try.results41, go_sem]) rfl ⟨rfl, ?_⟩
  go_light
  repeat (first | exact Below.refl _ _ | refine Below.setCell ?_ (by simp) _ | refine Below.alloc ?_ (by simp; try omega) _)
theorem shape_7 (w : World) : Calls Try.prog 41 #[.int .i64 7] w fun e w' => e = .returned (.tuple #[shV true 0 1 3 3, .bool true]) ∧ Below w.heap.size w w' := by
  unfold shV
  go_enter Try.func41, Try.ntmps41
  go_wp2
  refine bodyPost_ret (v := .tuple #[.agg #[.bool true, .int .i64 0, .int .i64 1, .int .i64 3, .int .i64 3], .bool true]) (by simp [results, Try.results41, go_sem]) rfl ⟨rfl, ?_⟩
  go_light
  repeat (first | exact Below.refl _ _ | refine Below.setCell ?_ (by simp) _ | refine Below.alloc ?_ (by simp; try omega) _)
theorem shape_8 (w : World) : Calls Try.prog 41 #[.int .i64 8] w fun e w' => e = .returned (.tuple #[shV true 0 1 2 400, .bool true]) ∧ Below w.heap.size w w' := by
  unfold shV
  go_enter Try.func41, Try.ntmps41
  go_wp2
  refine bodyPost_ret (v := .tuple #[.agg #[.bool true, .int .i64 0, .int .i64 1, .int .i64 2, .int .i64 400], .bool true]) (by simp [results, Try.results41, go_sem]) rfl ⟨rfl, ?_⟩
  go_light
  repeat (first | exact Below.refl _ _ | refine Below.setCell ?_ (by simp) _ | refine Below.alloc ?_ (by simp; try omega) _)
theorem shape_9 (w : World) : Calls Try.prog 41 #[.int .i64 9] w fun e w' => e = .returned (.tuple #[shV true 0 5 1 1, .bool true]) ∧ Below w.heap.size w w' := by
  unfold shV
  go_enter Try.func41, Try.ntmps41
  go_wp2
  refine bodyPost_ret (v := .tuple #[.agg #[.bool true, .int .i64 0, .int .i64 5, .int .i64 1, .int .i64 1], .bool true]) (by simp [results, Try.results41, go_sem]) rfl ⟨rfl, ?_⟩
  go_light
  repeat (first | exact Below.refl _ _ | refine Below.setCell ?_ (by simp) _ | refine Below.alloc ?_ (by simp; try omega) _)
theorem shape_10 (w : World) : Calls Try.prog 41 #[.int .i64 10] w fun e w' => e = .returned (.tuple #[shV true 1 13 0 400, .bool true]) ∧ Below w.heap.size w w' := by
  unfold shV
  go_enter Try.func41, Try.ntmps41
  go_wp2
  refine bodyPost_ret (v := .tuple #[.agg #[.bool true, .int .i64 1, .int .i64 13, .int .i64 0, .int .i64 400], .bool true]) (by simp [results, Try.results41, go_sem]) rfl ⟨rfl, ?_⟩
  go_light
  repeat (first | exact Below.refl _ _ | refine Below.setCell ?_ (by simp) _ | refine Below.alloc ?_ (by simp; try omega) _)
theorem shape_11 (w : World) : Calls Try.prog 41 #[.int .i64 11] w fun e w' => e = .returned (.tuple #[shV false 0 0 1 400, .bool true]) ∧ Below w.heap.size w w' := by
  unfold shV
  go_enter Try.func41, Try.ntmps41
  go_wp2
  refine bodyPost_ret (v := .tuple #[.agg #[.bool false, .int .i64 0, .int .i64 0, .int .i64 1, .int .i64 400], .bool true]) (by simp [results, Try.results41, go_sem]) rfl ⟨rfl, ?_⟩
  go_light
  repeat (first | exact Below.refl _ _ | refine Below.setCell ?_ (by simp) _ | refine Below.alloc ?_ (by simp; try omega) _)
theorem shape_12 (w : World) : Calls Try.prog 41 #[.int .i64 12] w fun e w' => e = .returned (.tuple #[shV false 0 0 0 0, .bool true]) ∧ Below w.heap.size w w' := by
  unfold shV
  go_enter Try.func41, Try.ntmps41
  go_wp2
  refine bodyPost_ret (v := .tuple #[.agg #[.bool false, .int .i64 0, .int .i64 0, .int .i64 0, .int .i64 0], .bool true]) (by simp [results, Try.results41, go_sem]) rfl ⟨rfl, ?_⟩
  go_light
  repeat (first | exact Below.refl _ _ | refine Below.setCell ?_ (by simp) _ | refine Below.alloc ?_ (by simp; try omega) _)
theorem shape_13 (w : World) : Calls Try.prog 41 #[.int .i64 13] w fun e w' => e = .returned (.tuple #[shV false 0 0 0 0, .bool true]) ∧ Below w.heap.size w w' := by
  unfold shV
  go_enter Try.func41, Try.ntmps41
  go_wp2
  refine bodyPost_ret (v := .tuple #[.agg #[.bool false, .int .i64 0, .int .i64 0, .int .i64 0, .int .i64 0], .bool true]) (by simp [results, Try.results41, go_sem]) rfl ⟨rfl, ?_⟩
  go_light
  repeat (first | exact Below.refl _ _ | refine Below.setCell ?_ (by simp) _ | refine Below.alloc ?_ (by simp; try omega) _)
theorem shape_14 (w : World) : Calls Try.prog 41 #[.int .i64 14] w fun e w' => e = .returned (.tuple #[shV true 0 1 1 1, .bool true]) ∧ Below w.heap.size w w' := by
  unfold shV
  go_enter Try.func41, Try.ntmps41
  go_wp2
  refine bodyPost_ret (v := .tuple #[.agg #[.bool true, .int .i64 0, .int .i64 1, .int .i64 1, .int .i64 1], .bool true]) (by simp [results, Try.results41, go_sem]) rfl ⟨rfl, ?_⟩
  go_light
  repeat (first | exact Below.refl _ _ | refine Below.setCell ?_ (by simp) _ | refine Below.alloc ?_ (by simp; try omega) _)
theorem shape_no (op : Int) (w : World) (q : ∀ k : Int, 1 ≤ k ∧ k ≤ 14 → (op == k) = false) : Calls Try.prog 41 #[.int .i64 op] w fun e w' => e = .returned (.tuple #[shV false 0 0 0 0, .bool false]) ∧ Below w.heap.size w w' := by
  have q1 := q 1 (by decide)
  have q2 := q 2 (by decide)
  have q3 := q 3 (by decide)
  have q4 := q 4 (by decide)
  have q5 := q 5 (by decide)
  have q6 := q 6 (by decide)
  have q7 := q 7 (by decide)
  have q8 := q 8 (by decide)
  have q9 := q 9 (by decide)
  have q10 := q 10 (by decide)
  have q11 := q 11 (by decide)
  have q12 := q 12 (by decide)
  have q13 := q 13 (by decide)
  have q14 := q 14 (by decide)
  clear q
  unfold shV
  go_enter Try.func41, Try.ntmps41
  go_wp2
  refine bodyPost_ret (v := .tuple #[.agg #[.bool false, .int .i64 0, .int .i64 0, .int .i64 0, .int .i64 0], .bool false]) (by simp [results, Try.results41, go_sem]) rfl ⟨rfl, ?_⟩
  go_light
  repeat (first | exact Below.refl _ _ | refine Below.setCell ?_ (by simp) _ | refine Below.alloc ?_ (by simp; try omega) _)
def cbt (nA : Bool) (la ma lk mk op a : Int) (n : Nat) : Bool := (!nA || (decide (la ≤ a) && decide (a ≤ ma))) && (decide (lk ≤ (n : Int)) && decide ((n : Int) ≤ mk)) && (op != 8 || ((n : Int) - a) % 2 == 0)
set_option maxHeartbeats 8000000 in
theorem canBeTold_any (nA : Bool) (la ma lk mk : Int) (x : XN) (n : Nat) (ka : Option Addr) (kc : Nat) (w : World) (h8 : x.op = 8 → nA = true ∧ la = 0 ∧ ma = 1 ∧ lk = 2) (hn : n ≤ 1048576) :
    Calls Try.prog 42 #[shV nA la ma lk mk, xnV x ka n kc] w fun e w' => e = .returned (.bool (cbt nA la ma lk mk x.op x.a n)) ∧ Below w.heap.size w w' := by
  obtain ⟨op, kind, a, b, vk, vn, vs, kids⟩ := x
  simp only [shV, xnV] at *
  have bw : Below w.heap.size w ((w.alloc (.cells #[.bool nA, .int .i64 la, .int .i64 ma, .int .i64 lk, .int .i64 mk] 82)).alloc (.cells #[.int .i64 op, .int .i64 kind, .int .i64 a, .int .i64 b, .int .i64 vk, .int .i64 vn, .string vs, .slice ka n kc] 66)) := (below_alloc w _).alloc (by simp) _
  have H8 : Hid (op = 8 → nA = true ∧ la = 0 ∧ ma = 1 ∧ lk = 2) := h8
  clear h8
  cases nA
  · cases h2 : (decide (lk ≤ (n : Int)) && decide ((n : Int) ≤ mk))
    · have HE : Hid (cbt false la ma lk mk op a n = false) := (by unfold cbt; rw [h2]; simp : cbt false la ma lk mk op a n = false)
      go_enter Try.func42, Try.ntmps42
      go_wp2_with (go_at_call 44; fail)
      refine (within_any _ _ _ _).mono ?_
      rintro e w1 ⟨rfl, hw1⟩
      replace hw1 := hw1.symm
      subst hw1
      rw [h2]
      go_wp2
      go_ret
      exact ⟨ret_b HE.out.symm, bw⟩
    · by_cases ho : op = 8
      · exact absurd (H8.out ho).1 (by simp)
      · have hob : (op == 8) = false := by simpa using ho
        have HE : Hid (cbt false la ma lk mk op a n = true) := (by unfold cbt; rw [h2]; simp [ho] : cbt false la ma lk mk op a n = true)
        go_enter Try.func42, Try.ntmps42
        go_wp2_with (go_at_call 44; fail)
        refine (within_any _ _ _ _).mono ?_
        rintro e w1 ⟨rfl, hw1⟩
        replace hw1 := hw1.symm
        subst hw1
        rw [h2]
        go_wp2
        go_ret
        exact ⟨ret_b HE.out.symm, bw⟩
  · cases h1 : (decide (la ≤ a) && decide (a ≤ ma))
    · have HE : Hid (cbt true la ma lk mk op a n = false) := (by unfold cbt; rw [h1]; simp : cbt true la ma lk mk op a n = false)
      go_enter Try.func42, Try.ntmps42
      go_wp2_with (go_at_call 44; fail)
      refine (within_any _ _ _ _).mono ?_
      rintro e w1 ⟨rfl, hw1⟩
      replace hw1 := hw1.symm
      subst hw1
      rw [h1]
      go_wp2
      go_ret
      exact ⟨ret_b HE.out.symm, bw⟩
    · cases h2 : (decide (lk ≤ (n : Int)) && decide ((n : Int) ≤ mk))
      · have HE : Hid (cbt true la ma lk mk op a n = false) := (by unfold cbt; rw [h1, h2]; simp : cbt true la ma lk mk op a n = false)
        go_enter Try.func42, Try.ntmps42
        go_wp2_with (go_at_call 44; fail)
        refine (within_any _ _ _ _).mono ?_
        rintro e w1 ⟨rfl, hw1⟩
        replace hw1 := hw1.symm
        subst hw1
        rw [h1]
        go_wp2_with (go_at_call 44; fail)
        refine (within_any _ _ _ _).mono ?_
        rintro e w1 ⟨rfl, hw1⟩
        replace hw1 := hw1.symm
        subst hw1
        rw [h2]
        go_wp2
        go_ret
        exact ⟨ret_b HE.out.symm, bw⟩
      · by_cases ho : op = 8
        · subst ho
          have HL := hid (H8.out rfl).2
          simp only [Bool.and_eq_true, decide_eq_true_eq] at h1 h2
          have ha : a = 0 ∨ a = 1 := by have := HL.out; omega
          have hd2 : (1 : Int) ≤ (n : Int) - a := by have := HL.out; omega
          have hw : IntKind.i64.wrap ((n : Int) - a) = (n : Int) - a := by simp only [IntKind.wrap_i64, wrap64]; omega
          have hm : ((n : Int) - a).tmod 2 = ((n : Int) - a) % 2 := by rw [Int.tmod_eq_emod_of_nonneg (by omega)]
          have h1b : (decide (la ≤ a) && decide (a ≤ ma)) = true := by simp; omega
          have h2b : (decide (lk ≤ (n : Int)) && decide ((n : Int) ≤ mk)) = true := by simp; omega
          obtain ⟨d, hd⟩ : ∃ d, (n : Int) - a = d := ⟨_, rfl⟩
          rw [hd] at hw hm
          have HD : Hid ((n : Int) - a = d) := hd
          clear h1 h2 ha hd2
          cases h3 : (d % 2 == 0)
          · have HE : Hid (cbt true la ma lk mk 8 a n = false) := (by unfold cbt; rw [h1b, h2b, HD.out, h3]; rfl : cbt true la ma lk mk 8 a n = false)
            go_enter Try.func42, Try.ntmps42
            go_wp2_with (go_at_call 44; fail)
            refine (within_any _ _ _ _).mono ?_
            rintro e w1 ⟨rfl, hw1⟩
            replace hw1 := hw1.symm
            subst hw1
            rw [h1b]
            go_wp2_with (go_at_call 44; fail)
            refine (within_any _ _ _ _).mono ?_
            rintro e w1 ⟨rfl, hw1⟩
            replace hw1 := hw1.symm
            subst hw1
            rw [h2b]
            go_wp2
            go_ret
            exact ⟨ret_b HE.out.symm, bw⟩
          · have HE : Hid (cbt true la ma lk mk 8 a n = true) := (by unfold cbt; rw [h1b, h2b, HD.out, h3]; rfl : cbt true la ma lk mk 8 a n = true)
            go_enter Try.func42, Try.ntmps42
            go_wp2_with (go_at_call 44; fail)
            refine (within_any _ _ _ _).mono ?_
            rintro e w1 ⟨rfl, hw1⟩
            replace hw1 := hw1.symm
            subst hw1
            rw [h1b]
            go_wp2_with (go_at_call 44; fail)
            refine (within_any _ _ _ _).mono ?_
            rintro e w1 ⟨rfl, hw1⟩
            replace hw1 := hw1.symm
            subst hw1
            rw [h2b]
            go_wp2
            go_ret
            exact ⟨ret_b HE.out.symm, bw⟩
        · have hob : (op == 8) = false := by simpa using ho
          have HE : Hid (cbt true la ma lk mk op a n = true) := (by unfold cbt; rw [h1, h2]; simp [ho] : cbt true la ma lk mk op a n = true)
          go_enter Try.func42, Try.ntmps42
          go_wp2_with (go_at_call 44; fail)
          refine (within_any _ _ _ _).mono ?_
          rintro e w1 ⟨rfl, hw1⟩
          replace hw1 := hw1.symm
          subst hw1
          rw [h1]
          go_wp2_with (go_at_call 44; fail)
          refine (within_any _ _ _ _).mono ?_
          rintro e w1 ⟨rfl, hw1⟩
          replace hw1 := hw1.symm
          subst hw1
          rw [h2]
          go_wp2
          go_ret
          exact ⟨ret_b HE.out.symm, bw⟩
end Go.Proofs.Ytoieiegjhjedoaa
