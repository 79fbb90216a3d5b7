import Derived.Test.YtoieiegjhjedoaaSK1
namespace Go.Proofs.Ytoieiegjhjedoaa
open Go.ChangeShapes Go.WideShapes Go.ChangeAt Go.RowKit
set_option linter.unusedVariables false
set_option linter.unusedSimpArgs false
set_option maxRecDepth 100000
theorem fits_any (k x : Int) (w : World) : Calls Try.prog 45 #[.int .i64 k, .int .i64 x] w fun e w' => e = .returned (.bool (k == x || k == 0)) ∧ w' = w := by
  cases h1 : (k == x)
  · cases h2 : (k == 0)
    · go_enter Try.func45, Try.ntmps45
      go_wp2
      go_ret
      exact ⟨rfl, rfl⟩
    · go_enter Try.func45, Try.ntmps45
      go_wp2
      go_ret
      exact ⟨rfl, rfl⟩
  · go_enter Try.func45, Try.ntmps45
    go_wp2
    go_ret
    exact ⟨rfl, rfl⟩
/-- Whether a node fails by its form, where its first kid's kind is kk. -/
def failF (op a kk : Int) : Bool := match op with
  | 3 => decide (1 ≤ a) && decide (a ≤ 6)
  | 4 => a == 17
  | 9 => !(kk == a || kk == 0) && a != 3
  | 10 => a == 1 || a == 5 || a == 10
  | _ => false
set_option maxHeartbeats 4000000 in
theorem f26_3 (x : XN) (n : Nat) (ka : Option Addr) (kc : Nat) (kv : Value) (w : World) (kk : Int) (hop : x.op = 3) :
    Calls Try.prog 26 #[xnV x ka n kc, kv] w fun e w' => e = .returned (.bool (failF 3 x.a kk)) ∧ Below w.heap.size w w' := by
  obtain ⟨op, kind, a, b, vk, vn, vs, kids⟩ := x
  simp only [xnV] at *
  subst hop
  have bw := below_alloc w (.cells #[.int .i64 3, .int .i64 kind, .int .i64 a, .int .i64 b, .int .i64 vk, .int .i64 vn, .string vs, .slice ka n kc] 66)
  go_enter Try.func26, Try.ntmps26
  go_wp2_with (go_at_call 44; fail)
  refine (within_any _ _ _ _).mono ?_
  rintro e w1 ⟨rfl, hw1⟩
  replace hw1 := hw1.symm
  subst hw1
  go_wp2
  go_ret
  exact ⟨rfl, bw⟩
set_option maxHeartbeats 4000000 in
theorem f26_4 (x : XN) (n : Nat) (ka : Option Addr) (kc : Nat) (kv : Value) (w : World) (kk : Int) (hop : x.op = 4) :
    Calls Try.prog 26 #[xnV x ka n kc, kv] w fun e w' => e = .returned (.bool (failF 4 x.a kk)) ∧ Below w.heap.size w w' := by
  obtain ⟨op, kind, a, b, vk, vn, vs, kids⟩ := x
  simp only [xnV] at *
  subst hop
  have bw := below_alloc w (.cells #[.int .i64 4, .int .i64 kind, .int .i64 a, .int .i64 b, .int .i64 vk, .int .i64 vn, .string vs, .slice ka n kc] 66)
  go_enter Try.func26, Try.ntmps26
  go_wp2
  go_ret
  exact ⟨rfl, bw⟩
set_option maxHeartbeats 4000000 in
theorem f26_10 (x : XN) (n : Nat) (ka : Option Addr) (kc : Nat) (kv : Value) (w : World) (kk : Int) (hop : x.op = 10) :
    Calls Try.prog 26 #[xnV x ka n kc, kv] w fun e w' => e = .returned (.bool (failF 10 x.a kk)) ∧ Below w.heap.size w w' := by
  obtain ⟨op, kind, a, b, vk, vn, vs, kids⟩ := x
  simp only [xnV] at *
  subst hop
  have bw := below_alloc w (.cells #[.int .i64 10, .int .i64 kind, .int .i64 a, .int .i64 b, .int .i64 vk, .int .i64 vn, .string vs, .slice ka n kc] 66)
  cases h1 : (a == 1)
  · cases h2 : (a == 5)
    · have HE : Hid (failF 10 a kk = (a == 10)) := (by simp [failF, h1, h2] : failF 10 a kk = (a == 10))
      go_enter Try.func26, Try.ntmps26
      go_wp2
      go_ret
      exact ⟨ret_b HE.out.symm, bw⟩
    · have HE : Hid (failF 10 a kk = true) := (by simp [failF, h1, h2] : failF 10 a kk = true)
      go_enter Try.func26, Try.ntmps26
      go_wp2
      go_ret
      exact ⟨ret_b HE.out.symm, bw⟩
  · have HE : Hid (failF 10 a kk = true) := (by simp [failF, h1] : failF 10 a kk = true)
    go_enter Try.func26, Try.ntmps26
    go_wp2
    go_ret
    exact ⟨ret_b HE.out.symm, bw⟩
set_option maxHeartbeats 8000000 in
theorem f26_9 (x : XN) (n : Nat) (ka : Option Addr) (kc : Nat) (kg ko kl kcap : Nat) (kk : Int) (w : World) (hop : x.op = 9) (hkl : 0 < kl) (hkg : kg < w.heap.size) (hc : w.cell? ⟨kg, ko, none⟩ = some (.int .i64 kk)) :
    Calls Try.prog 26 #[xnV x ka n kc, .slice (some ⟨kg, ko, none⟩) kl kcap] w fun e w' => e = .returned (.bool (failF 9 x.a kk)) ∧ Below w.heap.size w w' := by
  obtain ⟨op, kind, a, b, vk, vn, vs, kids⟩ := x
  simp only [xnV] at *
  subst hop
  have hki : (0 : Int) < kl := by omega
  have bw := below_alloc w (.cells #[.int .i64 9, .int .i64 kind, .int .i64 a, .int .i64 b, .int .i64 vk, .int .i64 vn, .string vs, .slice ka n kc] 66)
  have hc1 := (bw.cell (p := ⟨kg, ko, none⟩) hkg).trans hc
  have hbw : Below w.heap.size w ((w.alloc (.cells #[.int .i64 9, .int .i64 kind, .int .i64 a, .int .i64 b, .int .i64 vk, .int .i64 vn, .string vs, .slice ka n kc] 66))) := bw
  have hcon := fun W => fits_any kk a W
  cases hf : (kk == a || kk == 0)
  all_goals simp only [hf] at hcon
  · have HE : Hid (failF 9 a kk = (a != 3)) := (by unfold failF; simp only; rw [hf]; simp : failF 9 a kk = (a != 3))
    go_enter Try.func26, Try.ntmps26
    go_wp2
    go_quiet ((go_at_call 45; exact Calls.quiet_of_same (hcon _)))
    go_wp2
    go_ret
    exact ⟨ret_b HE.out.symm, bw.trans ((below_drewNt _ _).mono bw.size)⟩
  · have HE : Hid (failF 9 a kk = false) := (by unfold failF; simp only; rw [hf]; rfl : failF 9 a kk = false)
    go_enter Try.func26, Try.ntmps26
    go_wp2
    go_quiet ((go_at_call 45; exact Calls.quiet_of_same (hcon _)))
    go_wp2
    go_ret
    exact ⟨ret_b HE.out.symm, bw.trans ((below_drewNt _ _).mono bw.size)⟩
set_option maxHeartbeats 4000000 in
theorem f26_no (x : XN) (n : Nat) (ka : Option Addr) (kc : Nat) (kv : Value) (w : World) (kk : Int) (q3 : (x.op == 3) = false) (q4 : (x.op == 4) = false) (q9 : (x.op == 9) = false) (q10 : (x.op == 10) = false) :
    Calls Try.prog 26 #[xnV x ka n kc, kv] w fun e w' => e = .returned (.bool (failF x.op x.a kk)) ∧ Below w.heap.size w w' := by
  have HE : Hid (failF x.op x.a kk = false) := (by
    unfold failF
    split <;> first | rfl | (rename_i e; simp_all) : failF x.op x.a kk = false)
  obtain ⟨op, kind, a, b, vk, vn, vs, kids⟩ := x
  simp only [xnV] at *
  have bw := below_alloc w (.cells #[.int .i64 op, .int .i64 kind, .int .i64 a, .int .i64 b, .int .i64 vk, .int .i64 vn, .string vs, .slice ka n kc] 66)
  go_enter Try.func26, Try.ntmps26
  go_wp2
  go_ret
  exact ⟨ret_b HE.out.symm, bw⟩
end Go.Proofs.Ytoieiegjhjedoaa
