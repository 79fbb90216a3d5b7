import Derived.Test.YtoieiegjhjedoaaSL
namespace Go.Proofs.Ytoieiegjhjedoaa
open Go.ChangeShapes Go.WideShapes Go.ChangeAt Go.RowKit
set_option linter.unusedVariables false
set_option linter.unusedSimpArgs false
set_option maxRecDepth 100000
def flg (n : Int) : Bool := n == 0 || n == 1
theorem flag_any (x : Int) (w : World) : Calls Try.prog 51 #[.int .i64 x] w fun e w' => e = .returned (.bool (flg x)) ∧ w' = w := by
  cases h1 : (x == 0)
  · cases h2 : (x == 1)
    · go_enter Try.func51, Try.ntmps51
      go_wp2
      go_ret
      exact ⟨by simp [flg, h1, h2], rfl⟩
    · go_enter Try.func51, Try.ntmps51
      go_wp2
      go_ret
      exact ⟨by simp [flg, h1, h2], rfl⟩
  · go_enter Try.func51, Try.ntmps51
    go_wp2
    go_ret
    exact ⟨by simp [flg, h1], rfl⟩
/-- What a node's text asks: by the operation, A and the number of kids. -/
def toldF (op a : Int) (n : Nat) : Bool := match op with
  | 1 => ((n : Int) == 0)
  | 2 => ((n : Int) == 0)
  | 3 => ((n : Int) == 2) && decide (1 ≤ a) && decide (a ≤ 15)
  | 4 => ((n : Int) == 1) && decide (16 ≤ a) && decide (a ≤ 18)
  | 5 => decide ((2 : Int) ≤ n) && flg a
  | 6 => ((n : Int) == 2) && flg a
  | 7 => ((n : Int) == 3) && flg a
  | 9 => ((n : Int) == 1) && decide (1 ≤ a) && decide (a ≤ 5)
  | 10 => decide (1 ≤ a) && decide (a ≤ 13)
  | 11 => decide ((1 : Int) ≤ n)
  | 12 => ((n : Int) == 0)
  | 13 => ((n : Int) == 0)
  | 14 => ((n : Int) == 1) && flg a
  | 8 => flg a && decide (2 ≤ (n : Int) - a) && ((n : Int) - a) % 2 == 0
  | _ => false
set_option maxHeartbeats 4000000 in
theorem told_1 (x : XN) (n : Nat) (ka : Option Addr) (kc : Nat) (w : World) (hop : x.op = 1) (hn : n ≤ 1048576) :
    Calls Try.prog 33 #[.agg #[.int .i64 x.op, .int .i64 x.kind, .int .i64 x.a, .int .i64 x.b, .int .i64 x.vk, .int .i64 x.vn, .string x.vs, .slice ka n kc]] w fun e w' => e = .returned (.bool (toldF 1 x.a n)) ∧ Below w.heap.size w w' := by
  obtain ⟨op, kind, a, b, vk, vn, vs, kids⟩ := x
  simp only at hop ⊢
  subst hop
  by_cases h0 : n = 0
  · subst h0
    have HE : Hid (toldF 1 a 0 = true) := (by simp [toldF, true_and] : toldF 1 a 0 = true)
    go_enter Try.func33, Try.ntmps33
    go_wp2
    go_ret
    exact ⟨ret_b HE.out.symm, below_alloc _ _⟩
  · have h0b : ((n : Int) == 0) = false := by simp; omega
    have HE : Hid (toldF 1 a n = false) := (by simp [toldF, h0b] : toldF 1 a n = false)
    go_enter Try.func33, Try.ntmps33
    go_wp2
    go_ret
    exact ⟨ret_b HE.out.symm, below_alloc _ _⟩
set_option maxHeartbeats 4000000 in
theorem told_2 (x : XN) (n : Nat) (ka : Option Addr) (kc : Nat) (w : World) (hop : x.op = 2) (hn : n ≤ 1048576) :
    Calls Try.prog 33 #[.agg #[.int .i64 x.op, .int .i64 x.kind, .int .i64 x.a, .int .i64 x.b, .int .i64 x.vk, .int .i64 x.vn, .string x.vs, .slice ka n kc]] w fun e w' => e = .returned (.bool (toldF 2 x.a n)) ∧ Below w.heap.size w w' := by
  obtain ⟨op, kind, a, b, vk, vn, vs, kids⟩ := x
  simp only at hop ⊢
  subst hop
  by_cases h0 : n = 0
  · subst h0
    have HE : Hid (toldF 2 a 0 = true) := (by simp [toldF, true_and] : toldF 2 a 0 = true)
    go_enter Try.func33, Try.ntmps33
    go_wp2
    go_ret
    exact ⟨ret_b HE.out.symm, below_alloc _ _⟩
  · have h0b : ((n : Int) == 0) = false := by simp; omega
    have HE : Hid (toldF 2 a n = false) := (by simp [toldF, h0b] : toldF 2 a n = false)
    go_enter Try.func33, Try.ntmps33
    go_wp2
    go_ret
    exact ⟨ret_b HE.out.symm, below_alloc _ _⟩
set_option maxHeartbeats 4000000 in
theorem told_3 (x : XN) (n : Nat) (ka : Option Addr) (kc : Nat) (w : World) (hop : x.op = 3) (hn : n ≤ 1048576) :
    Calls Try.prog 33 #[.agg #[.int .i64 x.op, .int .i64 x.kind, .int .i64 x.a, .int .i64 x.b, .int .i64 x.vk, .int .i64 x.vn, .string x.vs, .slice ka n kc]] w fun e w' => e = .returned (.bool (toldF 3 x.a n)) ∧ Below w.heap.size w w' := by
  obtain ⟨op, kind, a, b, vk, vn, vs, kids⟩ := x
  simp only at hop ⊢
  subst hop
  by_cases h0 : n = 2
  · subst h0
    by_cases h1 : 1 ≤ a
    · by_cases h2 : a ≤ 15
      · have HE : Hid (toldF 3 a 2 = true) := (by simp [toldF, h1, h2] : toldF 3 a 2 = true)
        go_enter Try.func33, Try.ntmps33
        go_wp2
        go_ret
        exact ⟨ret_b HE.out.symm, below_alloc _ _⟩
      · have HE : Hid (toldF 3 a 2 = false) := (by simp [toldF, h1, h2] : toldF 3 a 2 = false)
        go_enter Try.func33, Try.ntmps33
        go_wp2
        go_ret
        exact ⟨ret_b HE.out.symm, below_alloc _ _⟩
    · have HE : Hid (toldF 3 a 2 = false) := (by simp [toldF, h1] : toldF 3 a 2 = false)
      go_enter Try.func33, Try.ntmps33
      go_wp2
      go_ret
      exact ⟨ret_b HE.out.symm, below_alloc _ _⟩
  · have h0b : ((n : Int) == 2) = false := by simp; omega
    have HE : Hid (toldF 3 a n = false) := (by simp [toldF, h0b] : toldF 3 a n = false)
    go_enter Try.func33, Try.ntmps33
    go_wp2
    go_ret
    exact ⟨ret_b HE.out.symm, below_alloc _ _⟩
set_option maxHeartbeats 4000000 in
theorem told_4 (x : XN) (n : Nat) (ka : Option Addr) (kc : Nat) (w : World) (hop : x.op = 4) (hn : n ≤ 1048576) :
    Calls Try.prog 33 #[.agg #[.int .i64 x.op, .int .i64 x.kind, .int .i64 x.a, .int .i64 x.b, .int .i64 x.vk, .int .i64 x.vn, .string x.vs, .slice ka n kc]] w fun e w' => e = .returned (.bool (toldF 4 x.a n)) ∧ Below w.heap.size w w' := by
  obtain ⟨op, kind, a, b, vk, vn, vs, kids⟩ := x
  simp only at hop ⊢
  subst hop
  by_cases h0 : n = 1
  · subst h0
    by_cases h1 : 16 ≤ a
    · by_cases h2 : a ≤ 18
      · have HE : Hid (toldF 4 a 1 = true) := (by simp [toldF, h1, h2] : toldF 4 a 1 = true)
        go_enter Try.func33, Try.ntmps33
        go_wp2
        go_ret
        exact ⟨ret_b HE.out.symm, below_alloc _ _⟩
      · have HE : Hid (toldF 4 a 1 = false) := (by simp [toldF, h1, h2] : toldF 4 a 1 = false)
        go_enter Try.func33, Try.ntmps33
        go_wp2
        go_ret
        exact ⟨ret_b HE.out.symm, below_alloc _ _⟩
    · have HE : Hid (toldF 4 a 1 = false) := (by simp [toldF, h1] : toldF 4 a 1 = false)
      go_enter Try.func33, Try.ntmps33
      go_wp2
      go_ret
      exact ⟨ret_b HE.out.symm, below_alloc _ _⟩
  · have h0b : ((n : Int) == 1) = false := by simp; omega
    have HE : Hid (toldF 4 a n = false) := (by simp [toldF, h0b] : toldF 4 a n = false)
    go_enter Try.func33, Try.ntmps33
    go_wp2
    go_ret
    exact ⟨ret_b HE.out.symm, below_alloc _ _⟩
set_option maxHeartbeats 4000000 in
theorem told_5 (x : XN) (n : Nat) (ka : Option Addr) (kc : Nat) (w : World) (hop : x.op = 5) (hn : n ≤ 1048576) :
    Calls Try.prog 33 #[.agg #[.int .i64 x.op, .int .i64 x.kind, .int .i64 x.a, .int .i64 x.b, .int .i64 x.vk, .int .i64 x.vn, .string x.vs, .slice ka n kc]] w fun e w' => e = .returned (.bool (toldF 5 x.a n)) ∧ Below w.heap.size w w' := by
  obtain ⟨op, kind, a, b, vk, vn, vs, kids⟩ := x
  simp only at hop ⊢
  subst hop
  by_cases h0 : (2 : Int) ≤ n
  · cases hf : flg a
    · have HE : Hid (toldF 5 a n = false) := (by simp [toldF, h0, hf] : toldF 5 a n = false)
      go_enter Try.func33, Try.ntmps33
      go_wp2_with (go_at_call 51; fail)
      refine (flag_any _ _).mono ?_
      rintro e w1 ⟨rfl, h1w⟩
      replace h1w := h1w.symm
      subst h1w
      rw [hf]
      go_wp2
      go_ret
      exact ⟨ret_b HE.out.symm, below_alloc _ _⟩
    · have HE : Hid (toldF 5 a n = true) := (by simp [toldF, h0, hf] : toldF 5 a n = true)
      go_enter Try.func33, Try.ntmps33
      go_wp2_with (go_at_call 51; fail)
      refine (flag_any _ _).mono ?_
      rintro e w1 ⟨rfl, h1w⟩
      replace h1w := h1w.symm
      subst h1w
      rw [hf]
      go_wp2
      go_ret
      exact ⟨ret_b HE.out.symm, below_alloc _ _⟩
  · have HE : Hid (toldF 5 a n = false) := (by simp [toldF, h0] : toldF 5 a n = false)
    go_enter Try.func33, Try.ntmps33
    go_wp2
    go_ret
    exact ⟨ret_b HE.out.symm, below_alloc _ _⟩
set_option maxHeartbeats 4000000 in
theorem told_6 (x : XN) (n : Nat) (ka : Option Addr) (kc : Nat) (w : World) (hop : x.op = 6) (hn : n ≤ 1048576) :
    Calls Try.prog 33 #[.agg #[.int .i64 x.op, .int .i64 x.kind, .int .i64 x.a, .int .i64 x.b, .int .i64 x.vk, .int .i64 x.vn, .string x.vs, .slice ka n kc]] w fun e w' => e = .returned (.bool (toldF 6 x.a n)) ∧ Below w.heap.size w w' := by
  obtain ⟨op, kind, a, b, vk, vn, vs, kids⟩ := x
  simp only at hop ⊢
  subst hop
  by_cases h0 : n = 2
  · subst h0
    cases hf : flg a
    · have HE : Hid (toldF 6 a 2 = false) := (by simp [toldF, hf] : toldF 6 a 2 = false)
      go_enter Try.func33, Try.ntmps33
      go_wp2_with (go_at_call 51; fail)
      refine (flag_any _ _).mono ?_
      rintro e w1 ⟨rfl, h1w⟩
      replace h1w := h1w.symm
      subst h1w
      rw [hf]
      go_wp2
      go_ret
      exact ⟨ret_b HE.out.symm, below_alloc _ _⟩
    · have HE : Hid (toldF 6 a 2 = true) := (by simp [toldF, hf] : toldF 6 a 2 = true)
      go_enter Try.func33, Try.ntmps33
      go_wp2_with (go_at_call 51; fail)
      refine (flag_any _ _).mono ?_
      rintro e w1 ⟨rfl, h1w⟩
      replace h1w := h1w.symm
      subst h1w
      rw [hf]
      go_wp2
      go_ret
      exact ⟨ret_b HE.out.symm, below_alloc _ _⟩
  · have h0b : ((n : Int) == 2) = false := by simp; omega
    have HE : Hid (toldF 6 a n = false) := (by simp [toldF, h0b] : toldF 6 a n = false)
    go_enter Try.func33, Try.ntmps33
    go_wp2
    go_ret
    exact ⟨ret_b HE.out.symm, below_alloc _ _⟩
set_option maxHeartbeats 4000000 in
theorem told_7 (x : XN) (n : Nat) (ka : Option Addr) (kc : Nat) (w : World) (hop : x.op = 7) (hn : n ≤ 1048576) :
    Calls Try.prog 33 #[.agg #[.int .i64 x.op, .int .i64 x.kind, .int .i64 x.a, .int .i64 x.b, .int .i64 x.vk, .int .i64 x.vn, .string x.vs, .slice ka n kc]] w fun e w' => e = .returned (.bool (toldF 7 x.a n)) ∧ Below w.heap.size w w' := by
  obtain ⟨op, kind, a, b, vk, vn, vs, kids⟩ := x
  simp only at hop ⊢
  subst hop
  by_cases h0 : n = 3
  · subst h0
    cases hf : flg a
    · have HE : Hid (toldF 7 a 3 = false) := (by simp [toldF, hf] : toldF 7 a 3 = false)
      go_enter Try.func33, Try.ntmps33
      go_wp2_with (go_at_call 51; fail)
      refine (flag_any _ _).mono ?_
      rintro e w1 ⟨rfl, h1w⟩
      replace h1w := h1w.symm
      subst h1w
      rw [hf]
      go_wp2
      go_ret
      exact ⟨ret_b HE.out.symm, below_alloc _ _⟩
    · have HE : Hid (toldF 7 a 3 = true) := (by simp [toldF, hf] : toldF 7 a 3 = true)
      go_enter Try.func33, Try.ntmps33
      go_wp2_with (go_at_call 51; fail)
      refine (flag_any _ _).mono ?_
      rintro e w1 ⟨rfl, h1w⟩
      replace h1w := h1w.symm
      subst h1w
      rw [hf]
      go_wp2
      go_ret
      exact ⟨ret_b HE.out.symm, below_alloc _ _⟩
  · have h0b : ((n : Int) == 3) = false := by simp; omega
    have HE : Hid (toldF 7 a n = false) := (by simp [toldF, h0b] : toldF 7 a n = false)
    go_enter Try.func33, Try.ntmps33
    go_wp2
    go_ret
    exact ⟨ret_b HE.out.symm, below_alloc _ _⟩
set_option maxHeartbeats 4000000 in
theorem told_9 (x : XN) (n : Nat) (ka : Option Addr) (kc : Nat) (w : World) (hop : x.op = 9) (hn : n ≤ 1048576) :
    Calls Try.prog 33 #[.agg #[.int .i64 x.op, .int .i64 x.kind, .int .i64 x.a, .int .i64 x.b, .int .i64 x.vk, .int .i64 x.vn, .string x.vs, .slice ka n kc]] w fun e w' => e = .returned (.bool (toldF 9 x.a n)) ∧ Below w.heap.size w w' := by
  obtain ⟨op, kind, a, b, vk, vn, vs, kids⟩ := x
  simp only at hop ⊢
  subst hop
  by_cases h0 : n = 1
  · subst h0
    by_cases h1 : 1 ≤ a
    · by_cases h2 : a ≤ 5
      · have HE : Hid (toldF 9 a 1 = true) := (by simp [toldF, h1, h2] : toldF 9 a 1 = true)
        go_enter Try.func33, Try.ntmps33
        go_wp2
        go_ret
        exact ⟨ret_b HE.out.symm, below_alloc _ _⟩
      · have HE : Hid (toldF 9 a 1 = false) := (by simp [toldF, h1, h2] : toldF 9 a 1 = false)
        go_enter Try.func33, Try.ntmps33
        go_wp2
        go_ret
        exact ⟨ret_b HE.out.symm, below_alloc _ _⟩
    · have HE : Hid (toldF 9 a 1 = false) := (by simp [toldF, h1] : toldF 9 a 1 = false)
      go_enter Try.func33, Try.ntmps33
      go_wp2
      go_ret
      exact ⟨ret_b HE.out.symm, below_alloc _ _⟩
  · have h0b : ((n : Int) == 1) = false := by simp; omega
    have HE : Hid (toldF 9 a n = false) := (by simp [toldF, h0b] : toldF 9 a n = false)
    go_enter Try.func33, Try.ntmps33
    go_wp2
    go_ret
    exact ⟨ret_b HE.out.symm, below_alloc _ _⟩
set_option maxHeartbeats 4000000 in
theorem told_10 (x : XN) (n : Nat) (ka : Option Addr) (kc : Nat) (w : World) (hop : x.op = 10) (hn : n ≤ 1048576) :
    Calls Try.prog 33 #[.agg #[.int .i64 x.op, .int .i64 x.kind, .int .i64 x.a, .int .i64 x.b, .int .i64 x.vk, .int .i64 x.vn, .string x.vs, .slice ka n kc]] w fun e w' => e = .returned (.bool (toldF 10 x.a n)) ∧ Below w.heap.size w w' := by
  obtain ⟨op, kind, a, b, vk, vn, vs, kids⟩ := x
  simp only at hop ⊢
  subst hop
  by_cases h0 : 1 ≤ a
  · by_cases h1 : a ≤ 13
    · have HE : Hid (toldF 10 a n = true) := (by simp [toldF, h0, h1] : toldF 10 a n = true)
      go_enter Try.func33, Try.ntmps33
      go_wp2
      go_ret
      exact ⟨ret_b HE.out.symm, below_alloc _ _⟩
    · have HE : Hid (toldF 10 a n = false) := (by simp [toldF, h0, h1] : toldF 10 a n = false)
      go_enter Try.func33, Try.ntmps33
      go_wp2
      go_ret
      exact ⟨ret_b HE.out.symm, below_alloc _ _⟩
  · have HE : Hid (toldF 10 a n = false) := (by simp [toldF, h0] : toldF 10 a n = false)
    go_enter Try.func33, Try.ntmps33
    go_wp2
    go_ret
    exact ⟨ret_b HE.out.symm, below_alloc _ _⟩
set_option maxHeartbeats 4000000 in
theorem told_11 (x : XN) (n : Nat) (ka : Option Addr) (kc : Nat) (w : World) (hop : x.op = 11) (hn : n ≤ 1048576) :
    Calls Try.prog 33 #[.agg #[.int .i64 x.op, .int .i64 x.kind, .int .i64 x.a, .int .i64 x.b, .int .i64 x.vk, .int .i64 x.vn, .string x.vs, .slice ka n kc]] w fun e w' => e = .returned (.bool (toldF 11 x.a n)) ∧ Below w.heap.size w w' := by
  obtain ⟨op, kind, a, b, vk, vn, vs, kids⟩ := x
  simp only at hop ⊢
  subst hop
  by_cases h0 : (1 : Int) ≤ n
  · have HE : Hid (toldF 11 a n = true) := (by simp [toldF, h0] : toldF 11 a n = true)
    go_enter Try.func33, Try.ntmps33
    go_wp2
    go_ret
    exact ⟨ret_b HE.out.symm, below_alloc _ _⟩
  · have HE : Hid (toldF 11 a n = false) := (by simp [toldF, h0] : toldF 11 a n = false)
    go_enter Try.func33, Try.ntmps33
    go_wp2
    go_ret
    exact ⟨ret_b HE.out.symm, below_alloc _ _⟩
set_option maxHeartbeats 4000000 in
theorem told_12 (x : XN) (n : Nat) (ka : Option Addr) (kc : Nat) (w : World) (hop : x.op = 12) (hn : n ≤ 1048576) :
    Calls Try.prog 33 #[.agg #[.int .i64 x.op, .int .i64 x.kind, .int .i64 x.a, .int .i64 x.b, .int .i64 x.vk, .int .i64 x.vn, .string x.vs, .slice ka n kc]] w fun e w' => e = .returned (.bool (toldF 12 x.a n)) ∧ Below w.heap.size w w' := by
  obtain ⟨op, kind, a, b, vk, vn, vs, kids⟩ := x
  simp only at hop ⊢
  subst hop
  by_cases h0 : n = 0
  · subst h0
    have HE : Hid (toldF 12 a 0 = true) := (by simp [toldF, true_and] : toldF 12 a 0 = true)
    go_enter Try.func33, Try.ntmps33
    go_wp2
    go_ret
    exact ⟨ret_b HE.out.symm, below_alloc _ _⟩
  · have h0b : ((n : Int) == 0) = false := by simp; omega
    have HE : Hid (toldF 12 a n = false) := (by simp [toldF, h0b] : toldF 12 a n = false)
    go_enter Try.func33, Try.ntmps33
    go_wp2
    go_ret
    exact ⟨ret_b HE.out.symm, below_alloc _ _⟩
set_option maxHeartbeats 4000000 in
theorem told_13 (x : XN) (n : Nat) (ka : Option Addr) (kc : Nat) (w : World) (hop : x.op = 13) (hn : n ≤ 1048576) :
    Calls Try.prog 33 #[.agg #[.int .i64 x.op, .int .i64 x.kind, .int .i64 x.a, .int .i64 x.b, .int .i64 x.vk, .int .i64 x.vn, .string x.vs, .slice ka n kc]] w fun e w' => e = .returned (.bool (toldF 13 x.a n)) ∧ Below w.heap.size w w' := by
  obtain ⟨op, kind, a, b, vk, vn, vs, kids⟩ := x
  simp only at hop ⊢
  subst hop
  by_cases h0 : n = 0
  · subst h0
    have HE : Hid (toldF 13 a 0 = true) := (by simp [toldF, true_and] : toldF 13 a 0 = true)
    go_enter Try.func33, Try.ntmps33
    go_wp2
    go_ret
    exact ⟨ret_b HE.out.symm, below_alloc _ _⟩
  · have h0b : ((n : Int) == 0) = false := by simp; omega
    have HE : Hid (toldF 13 a n = false) := (by simp [toldF, h0b] : toldF 13 a n = false)
    go_enter Try.func33, Try.ntmps33
    go_wp2
    go_ret
    exact ⟨ret_b HE.out.symm, below_alloc _ _⟩
set_option maxHeartbeats 4000000 in
theorem told_14 (x : XN) (n : Nat) (ka : Option Addr) (kc : Nat) (w : World) (hop : x.op = 14) (hn : n ≤ 1048576) :
    Calls Try.prog 33 #[.agg #[.int .i64 x.op, .int .i64 x.kind, .int .i64 x.a, .int .i64 x.b, .int .i64 x.vk, .int .i64 x.vn, .string x.vs, .slice ka n kc]] w fun e w' => e = .returned (.bool (toldF 14 x.a n)) ∧ Below w.heap.size w w' := by
  obtain ⟨op, kind, a, b, vk, vn, vs, kids⟩ := x
  simp only at hop ⊢
  subst hop
  by_cases h0 : n = 1
  · subst h0
    cases hf : flg a
    · have HE : Hid (toldF 14 a 1 = false) := (by simp [toldF, hf] : toldF 14 a 1 = false)
      go_enter Try.func33, Try.ntmps33
      go_wp2_with (go_at_call 51; fail)
      refine (flag_any _ _).mono ?_
      rintro e w1 ⟨rfl, h1w⟩
      replace h1w := h1w.symm
      subst h1w
      rw [hf]
      go_wp2
      go_ret
      exact ⟨ret_b HE.out.symm, below_alloc _ _⟩
    · have HE : Hid (toldF 14 a 1 = true) := (by simp [toldF, hf] : toldF 14 a 1 = true)
      go_enter Try.func33, Try.ntmps33
      go_wp2_with (go_at_call 51; fail)
      refine (flag_any _ _).mono ?_
      rintro e w1 ⟨rfl, h1w⟩
      replace h1w := h1w.symm
      subst h1w
      rw [hf]
      go_wp2
      go_ret
      exact ⟨ret_b HE.out.symm, below_alloc _ _⟩
  · have h0b : ((n : Int) == 1) = false := by simp; omega
    have HE : Hid (toldF 14 a n = false) := (by simp [toldF, h0b] : toldF 14 a n = false)
    go_enter Try.func33, Try.ntmps33
    go_wp2
    go_ret
    exact ⟨ret_b HE.out.symm, below_alloc _ _⟩
set_option maxHeartbeats 4000000 in
theorem told_8 (x : XN) (n : Nat) (ka : Option Addr) (kc : Nat) (w : World) (hop : x.op = 8) (hn : n ≤ 1048576) :
    Calls Try.prog 33 #[.agg #[.int .i64 x.op, .int .i64 x.kind, .int .i64 x.a, .int .i64 x.b, .int .i64 x.vk, .int .i64 x.vn, .string x.vs, .slice ka n kc]] w fun e w' => e = .returned (.bool (toldF 8 x.a n)) ∧ Below w.heap.size w w' := by
  obtain ⟨op, kind, a, b, vk, vn, vs, kids⟩ := x
  simp only at hop ⊢
  subst hop
  cases hf : flg a
  · have HE : Hid (toldF 8 a n = false) := (by simp [toldF, hf] : toldF 8 a n = false)
    go_enter Try.func33, Try.ntmps33
    go_wp2_with (go_at_call 51; fail)
    refine (flag_any _ _).mono ?_
    rintro e w1 ⟨rfl, h1w⟩
    replace h1w := h1w.symm
    subst h1w
    rw [hf]
    go_wp2
    go_ret
    exact ⟨ret_b HE.out.symm, below_alloc _ _⟩
  · have ha : a = 0 ∨ a = 1 := by simp [flg] at hf; exact hf
    have hw : IntKind.i64.wrap ((n : Int) - a) = (n : Int) - a := by simp only [IntKind.wrap_i64, wrap64]; omega
    obtain ⟨d, hd⟩ : ∃ d, (n : Int) - a = d := ⟨_, rfl⟩
    rw [hd] at hw
    have HD : Hid ((n : Int) - a = d) := hd
    by_cases h2 : 2 ≤ d
    · have hm : d.tmod 2 = d % 2 := by rw [Int.tmod_eq_emod_of_nonneg (by omega)]
      cases h3 : (d % 2 == 0)
      · have HE : Hid (toldF 8 a n = false) := (by simp only [toldF, HD.out, h3]; simp : toldF 8 a n = false)
        go_enter Try.func33, Try.ntmps33
        go_wp2_with (go_at_call 51; fail)
        refine (flag_any _ _).mono ?_
        rintro e w1 ⟨rfl, h1w⟩
        replace h1w := h1w.symm
        subst h1w
        rw [hf]
        go_wp2
        go_ret
        exact ⟨ret_b HE.out.symm, below_alloc _ _⟩
      · have HE : Hid (toldF 8 a n = true) := (by simp only [toldF, HD.out, h3, hf]; simp [h2] : toldF 8 a n = true)
        go_enter Try.func33, Try.ntmps33
        go_wp2_with (go_at_call 51; fail)
        refine (flag_any _ _).mono ?_
        rintro e w1 ⟨rfl, h1w⟩
        replace h1w := h1w.symm
        subst h1w
        rw [hf]
        go_wp2
        go_ret
        exact ⟨ret_b HE.out.symm, below_alloc _ _⟩
    · have HE : Hid (toldF 8 a n = false) := (by simp only [toldF, HD.out]; simp [h2] : toldF 8 a n = false)
      go_enter Try.func33, Try.ntmps33
      go_wp2_with (go_at_call 51; fail)
      refine (flag_any _ _).mono ?_
      rintro e w1 ⟨rfl, h1w⟩
      replace h1w := h1w.symm
      subst h1w
      rw [hf]
      go_wp2
      go_ret
      exact ⟨ret_b HE.out.symm, below_alloc _ _⟩
set_option maxHeartbeats 4000000 in
theorem told_no (x : XN) (n : Nat) (ka : Option Addr) (kc : Nat) (w : World) (hop : ∀ k : Int, 1 ≤ k → k ≤ 14 → (x.op == k) = false) (hn : n ≤ 1048576) :
    Calls Try.prog 33 #[.agg #[.int .i64 x.op, .int .i64 x.kind, .int .i64 x.a, .int .i64 x.b, .int .i64 x.vk, .int .i64 x.vn, .string x.vs, .slice ka n kc]] w fun e w' => e = .returned (.bool (toldF x.op x.a n)) ∧ Below w.heap.size w w' := by
  have q : ∀ k : Int, 1 ≤ k ∧ k ≤ 14 → (x.op == k) = false := fun k h => hop k h.1 h.2
  have q1 := q 1 (by decide)
  have q2 := q 2 (by decide)
  have q3 := q 3 (by decide)
  have q4 := q 4 (by decide)
  have q5 := q 5 (by decide)
  have q6 := q 6 (by decide)
  have q7 := q 7 (by decide)
  have q8 := q 8 (by decide)
  have q9 := q 9 (by decide)
  have q10 := q 10 (by decide)
  have q11 := q 11 (by decide)
  have q12 := q 12 (by decide)
  have q13 := q 13 (by decide)
  have q14 := q 14 (by decide)
  have HE : Hid (toldF x.op x.a n = false) := (by
    unfold toldF
    split <;> first | rfl | (rename_i e; simp_all) : toldF x.op x.a n = false)
  clear hop q
  obtain ⟨op, kind, a, b, vk, vn, vs, kids⟩ := x
  simp only at *
  go_enter Try.func33, Try.ntmps33
  go_wp2
  go_ret
  exact ⟨ret_b HE.out.symm, below_alloc _ _⟩
theorem told_any (t : XN) (cs : List Value) (w : World) (hl : t.kids.length ≤ 1048576) (hC : CX 0 w cs t) : Calls Try.prog 33 #[.agg cs.toArray] w fun e w' => e = .returned (.bool (toldF t.op t.a t.kids.length)) ∧ Below w.heap.size w w' := by
  obtain ⟨kv, rfl, a, cap, rfl, _⟩ := hC
  by_cases h : 1 ≤ t.op ∧ t.op ≤ 14
  · have hd : t.op = 1 ∨ t.op = 2 ∨ t.op = 3 ∨ t.op = 4 ∨ t.op = 5 ∨ t.op = 6 ∨ t.op = 7 ∨ t.op = 8 ∨ t.op = 9 ∨ t.op = 10 ∨ t.op = 11 ∨ t.op = 12 ∨ t.op = 13 ∨ t.op = 14 := by omega
    rcases hd with h | h | h | h | h | h | h | h | h | h | h | h | h | h
    · have := told_1 t t.kids.length a cap w h hl
      rw [h] at this ⊢
      exact this
    · have := told_2 t t.kids.length a cap w h hl
      rw [h] at this ⊢
      exact this
    · have := told_3 t t.kids.length a cap w h hl
      rw [h] at this ⊢
      exact this
    · have := told_4 t t.kids.length a cap w h hl
      rw [h] at this ⊢
      exact this
    · have := told_5 t t.kids.length a cap w h hl
      rw [h] at this ⊢
      exact this
    · have := told_6 t t.kids.length a cap w h hl
      rw [h] at this ⊢
      exact this
    · have := told_7 t t.kids.length a cap w h hl
      rw [h] at this ⊢
      exact this
    · have := told_8 t t.kids.length a cap w h hl
      rw [h] at this ⊢
      exact this
    · have := told_9 t t.kids.length a cap w h hl
      rw [h] at this ⊢
      exact this
    · have := told_10 t t.kids.length a cap w h hl
      rw [h] at this ⊢
      exact this
    · have := told_11 t t.kids.length a cap w h hl
      rw [h] at this ⊢
      exact this
    · have := told_12 t t.kids.length a cap w h hl
      rw [h] at this ⊢
      exact this
    · have := told_13 t t.kids.length a cap w h hl
      rw [h] at this ⊢
      exact this
    · have := told_14 t t.kids.length a cap w h hl
      rw [h] at this ⊢
      exact this
  · refine told_no t t.kids.length a cap w (fun k h1 h2 => ?_) hl
    simp
    omega
end Go.Proofs.Ytoieiegjhjedoaa
