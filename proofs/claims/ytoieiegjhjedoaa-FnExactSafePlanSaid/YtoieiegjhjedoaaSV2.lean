import Derived.Test.YtoieiegjhjedoaaSV1
namespace Go.Proofs.Ytoieiegjhjedoaa
open Go.ChangeShapes Go.WideShapes Go.ChangeAt Go.RowKit
set_option linter.unusedVariables false
set_option linter.unusedSimpArgs false
set_option maxRecDepth 100000
set_option maxHeartbeats 8000000 in
theorem ht_yes (nA : Bool) (la ma lk mk : Int) (x : XN) (n : Nat) (ka : Option Addr) (kc : Nat) (kv : Value) (w : World) (hS : ∀ W, Calls Try.prog 41 #[.int .i64 x.op] W fun e w' => e = .returned (.tuple #[shV nA la ma lk mk, .bool true]) ∧ Below W.heap.size W w') (h8 : x.op = 8 → nA = true ∧ la = 0 ∧ ma = 1 ∧ lk = 2) (hn : n ≤ 1048576) :
    Calls Try.prog 40 #[xnV x ka n kc, kv] w fun e w' => e = .returned (.bool (cbt nA la ma lk mk x.op x.a n && !(x.op == 9 && x.a == 0))) ∧ Below w.heap.size w w' := by
  have HC := fun W => canBeTold_any nA la ma lk mk x n ka kc W h8 hn
  obtain ⟨op, kind, a, b, vk, vn, vs, kids⟩ := x
  simp only [shV, xnV] at *
  have bw := below_alloc w (.cells #[.int .i64 op, .int .i64 kind, .int .i64 a, .int .i64 b, .int .i64 vk, .int .i64 vn, .string vs, .slice ka n kc] 66)
  have K0 := hid (blk_new w [.int .i64 op, .int .i64 kind, .int .i64 a, .int .i64 b, .int .i64 vk, .int .i64 vn, .string vs, .slice ka n kc] 66)
  generalize hcb : cbt nA la ma lk mk op a n = cb at *
  clear hcb h8
  cases cb
  all_goals
    cases h9 : (op == 9)
    · have h9n : ¬ op = 9 := by simpa using h9
      go_enter Try.func40, Try.ntmps40
      go_wp2_with (go_at_call 41; fail)
      refine (hS _).mono ?_
      rintro e w1 ⟨rfl, hb1⟩
      replace bw : Below w.heap.size w w1 := bw.trans (hb1.mono bw.size)
      replace K0 := hid (K0.out.below hb1 (by simp))
      have hz : w.heap.size < w1.heap.size := by have := hb1.size; simp at this; omega
      clear hb1 hS
      have c0 : w1.cell? ⟨w.heap.size, 0, none⟩ = some (.int .i64 op) := (K0.out 0 (by simp)).1
      have c1 : w1.cell? ⟨w.heap.size, 1, none⟩ = some (.int .i64 kind) := (K0.out 1 (by simp)).1
      have c2 : w1.cell? ⟨w.heap.size, 2, none⟩ = some (.int .i64 a) := (K0.out 2 (by simp)).1
      have c3 : w1.cell? ⟨w.heap.size, 3, none⟩ = some (.int .i64 b) := (K0.out 3 (by simp)).1
      have c4 : w1.cell? ⟨w.heap.size, 4, none⟩ = some (.int .i64 vk) := (K0.out 4 (by simp)).1
      have c5 : w1.cell? ⟨w.heap.size, 5, none⟩ = some (.int .i64 vn) := (K0.out 5 (by simp)).1
      have c6 : w1.cell? ⟨w.heap.size, 6, none⟩ = some (.string vs) := (K0.out 6 (by simp)).1
      have c7 : w1.cell? ⟨w.heap.size, 7, none⟩ = some (.slice ka n kc) := (K0.out 7 (by simp)).1
      have bw2 : Below w.heap.size w (w1.alloc (.cells #[.bool nA, .int .i64 la, .int .i64 ma, .int .i64 lk, .int .i64 mk] 82)) := bw.alloc bw.size _
      clear K0
      go_wp2_with (go_at_call 42; fail)
      refine (HC _).mono ?_
      rintro e w3 ⟨rfl, hb3⟩
      have bw3 : Below w.heap.size w w3 := bw2.trans (hb3.mono bw2.size)
      clear hb3 HC
      go_wp2
      go_ret
      exact ⟨ret_b (by simp), bw3⟩
    · have h9n : op = 9 := by simpa using h9
      have H9 : Hid (op = 9) := h9n
      cases h0 : (a == 0)
      · have h0n : ¬ a = 0 := by simpa using h0
        clear h9n
        go_enter Try.func40, Try.ntmps40
        go_wp2_with (go_at_call 41; fail)
        refine (hS _).mono ?_
        rintro e w1 ⟨rfl, hb1⟩
        replace bw : Below w.heap.size w w1 := bw.trans (hb1.mono bw.size)
        replace K0 := hid (K0.out.below hb1 (by simp))
        have hz : w.heap.size < w1.heap.size := by have := hb1.size; simp at this; omega
        clear hb1 hS
        have c0 : w1.cell? ⟨w.heap.size, 0, none⟩ = some (.int .i64 op) := (K0.out 0 (by simp)).1
        have c1 : w1.cell? ⟨w.heap.size, 1, none⟩ = some (.int .i64 kind) := (K0.out 1 (by simp)).1
        have c2 : w1.cell? ⟨w.heap.size, 2, none⟩ = some (.int .i64 a) := (K0.out 2 (by simp)).1
        have c3 : w1.cell? ⟨w.heap.size, 3, none⟩ = some (.int .i64 b) := (K0.out 3 (by simp)).1
        have c4 : w1.cell? ⟨w.heap.size, 4, none⟩ = some (.int .i64 vk) := (K0.out 4 (by simp)).1
        have c5 : w1.cell? ⟨w.heap.size, 5, none⟩ = some (.int .i64 vn) := (K0.out 5 (by simp)).1
        have c6 : w1.cell? ⟨w.heap.size, 6, none⟩ = some (.string vs) := (K0.out 6 (by simp)).1
        have c7 : w1.cell? ⟨w.heap.size, 7, none⟩ = some (.slice ka n kc) := (K0.out 7 (by simp)).1
        have bw2 : Below w.heap.size w (w1.alloc (.cells #[.bool nA, .int .i64 la, .int .i64 ma, .int .i64 lk, .int .i64 mk] 82)) := bw.alloc bw.size _
        clear K0
        go_wp2_with (go_at_call 42; fail)
        refine (HC _).mono ?_
        rintro e w3 ⟨rfl, hb3⟩
        have bw3 : Below w.heap.size w w3 := bw2.trans (hb3.mono bw2.size)
        clear hb3 HC
        go_wp2
        go_ret
        exact ⟨ret_b (by simp), bw3⟩
      · clear h9n
        go_enter Try.func40, Try.ntmps40
        go_wp2_with (go_at_call 41; fail)
        refine (hS _).mono ?_
        rintro e w1 ⟨rfl, hb1⟩
        replace bw : Below w.heap.size w w1 := bw.trans (hb1.mono bw.size)
        replace K0 := hid (K0.out.below hb1 (by simp))
        have hz : w.heap.size < w1.heap.size := by have := hb1.size; simp at this; omega
        clear hb1 hS
        have c0 : w1.cell? ⟨w.heap.size, 0, none⟩ = some (.int .i64 op) := (K0.out 0 (by simp)).1
        have c1 : w1.cell? ⟨w.heap.size, 1, none⟩ = some (.int .i64 kind) := (K0.out 1 (by simp)).1
        have c2 : w1.cell? ⟨w.heap.size, 2, none⟩ = some (.int .i64 a) := (K0.out 2 (by simp)).1
        have c3 : w1.cell? ⟨w.heap.size, 3, none⟩ = some (.int .i64 b) := (K0.out 3 (by simp)).1
        have c4 : w1.cell? ⟨w.heap.size, 4, none⟩ = some (.int .i64 vk) := (K0.out 4 (by simp)).1
        have c5 : w1.cell? ⟨w.heap.size, 5, none⟩ = some (.int .i64 vn) := (K0.out 5 (by simp)).1
        have c6 : w1.cell? ⟨w.heap.size, 6, none⟩ = some (.string vs) := (K0.out 6 (by simp)).1
        have c7 : w1.cell? ⟨w.heap.size, 7, none⟩ = some (.slice ka n kc) := (K0.out 7 (by simp)).1
        have bw2 : Below w.heap.size w (w1.alloc (.cells #[.bool nA, .int .i64 la, .int .i64 ma, .int .i64 lk, .int .i64 mk] 82)) := bw.alloc bw.size _
        clear K0
        go_wp2_with (go_at_call 42; fail)
        refine (HC _).mono ?_
        rintro e w3 ⟨rfl, hb3⟩
        have bw3 : Below w.heap.size w w3 := bw2.trans (hb3.mono bw2.size)
        clear hb3 HC
        go_wp2
        go_ret
        exact ⟨ret_b (by simp), bw3⟩
set_option maxHeartbeats 8000000 in
theorem ht_no (nA : Bool) (la ma lk mk : Int) (x : XN) (n : Nat) (ka : Option Addr) (kc : Nat) (kv : Value) (w : World) (hS : ∀ W, Calls Try.prog 41 #[.int .i64 x.op] W fun e w' => e = .returned (.tuple #[shV nA la ma lk mk, .bool false]) ∧ Below W.heap.size W w') (h8 : x.op = 8 → nA = true ∧ la = 0 ∧ ma = 1 ∧ lk = 2) (hn : n ≤ 1048576) :
    Calls Try.prog 40 #[xnV x ka n kc, kv] w fun e w' => e = .returned (.bool (false)) ∧ Below w.heap.size w w' := by
  have HC := fun W => canBeTold_any nA la ma lk mk x n ka kc W h8 hn
  obtain ⟨op, kind, a, b, vk, vn, vs, kids⟩ := x
  simp only [shV, xnV] at *
  have bw := below_alloc w (.cells #[.int .i64 op, .int .i64 kind, .int .i64 a, .int .i64 b, .int .i64 vk, .int .i64 vn, .string vs, .slice ka n kc] 66)
  have K0 := hid (blk_new w [.int .i64 op, .int .i64 kind, .int .i64 a, .int .i64 b, .int .i64 vk, .int .i64 vn, .string vs, .slice ka n kc] 66)
  generalize hcb : cbt nA la ma lk mk op a n = cb at *
  clear hcb h8
  cases h9 : (op == 9)
  · go_enter Try.func40, Try.ntmps40
    go_wp2_with (go_at_call 41; fail)
    refine (hS _).mono ?_
    rintro e w1 ⟨rfl, hb1⟩
    replace bw : Below w.heap.size w w1 := bw.trans (hb1.mono bw.size)
    replace K0 := hid (K0.out.below hb1 (by simp))
    have hz : w.heap.size < w1.heap.size := by have := hb1.size; simp at this; omega
    clear hb1 hS
    have c0 : w1.cell? ⟨w.heap.size, 0, none⟩ = some (.int .i64 op) := (K0.out 0 (by simp)).1
    have c1 : w1.cell? ⟨w.heap.size, 1, none⟩ = some (.int .i64 kind) := (K0.out 1 (by simp)).1
    have c2 : w1.cell? ⟨w.heap.size, 2, none⟩ = some (.int .i64 a) := (K0.out 2 (by simp)).1
    have c3 : w1.cell? ⟨w.heap.size, 3, none⟩ = some (.int .i64 b) := (K0.out 3 (by simp)).1
    have c4 : w1.cell? ⟨w.heap.size, 4, none⟩ = some (.int .i64 vk) := (K0.out 4 (by simp)).1
    have c5 : w1.cell? ⟨w.heap.size, 5, none⟩ = some (.int .i64 vn) := (K0.out 5 (by simp)).1
    have c6 : w1.cell? ⟨w.heap.size, 6, none⟩ = some (.string vs) := (K0.out 6 (by simp)).1
    have c7 : w1.cell? ⟨w.heap.size, 7, none⟩ = some (.slice ka n kc) := (K0.out 7 (by simp)).1
    have bw2 : Below w.heap.size w (w1.alloc (.cells #[.bool nA, .int .i64 la, .int .i64 ma, .int .i64 lk, .int .i64 mk] 82)) := bw.alloc bw.size _
    clear K0
    clear HC
    go_wp2
    go_ret
    exact ⟨rfl, bw2⟩
  · cases h0 : (a == 0)
    · go_enter Try.func40, Try.ntmps40
      go_wp2_with (go_at_call 41; fail)
      refine (hS _).mono ?_
      rintro e w1 ⟨rfl, hb1⟩
      replace bw : Below w.heap.size w w1 := bw.trans (hb1.mono bw.size)
      replace K0 := hid (K0.out.below hb1 (by simp))
      have hz : w.heap.size < w1.heap.size := by have := hb1.size; simp at this; omega
      clear hb1 hS
      have c0 : w1.cell? ⟨w.heap.size, 0, none⟩ = some (.int .i64 op) := (K0.out 0 (by simp)).1
      have c1 : w1.cell? ⟨w.heap.size, 1, none⟩ = some (.int .i64 kind) := (K0.out 1 (by simp)).1
      have c2 : w1.cell? ⟨w.heap.size, 2, none⟩ = some (.int .i64 a) := (K0.out 2 (by simp)).1
      have c3 : w1.cell? ⟨w.heap.size, 3, none⟩ = some (.int .i64 b) := (K0.out 3 (by simp)).1
      have c4 : w1.cell? ⟨w.heap.size, 4, none⟩ = some (.int .i64 vk) := (K0.out 4 (by simp)).1
      have c5 : w1.cell? ⟨w.heap.size, 5, none⟩ = some (.int .i64 vn) := (K0.out 5 (by simp)).1
      have c6 : w1.cell? ⟨w.heap.size, 6, none⟩ = some (.string vs) := (K0.out 6 (by simp)).1
      have c7 : w1.cell? ⟨w.heap.size, 7, none⟩ = some (.slice ka n kc) := (K0.out 7 (by simp)).1
      have bw2 : Below w.heap.size w (w1.alloc (.cells #[.bool nA, .int .i64 la, .int .i64 ma, .int .i64 lk, .int .i64 mk] 82)) := bw.alloc bw.size _
      clear K0
      clear HC
      go_wp2
      go_ret
      exact ⟨rfl, bw2⟩
    · go_enter Try.func40, Try.ntmps40
      go_wp2_with (go_at_call 41; fail)
      refine (hS _).mono ?_
      rintro e w1 ⟨rfl, hb1⟩
      replace bw : Below w.heap.size w w1 := bw.trans (hb1.mono bw.size)
      replace K0 := hid (K0.out.below hb1 (by simp))
      have hz : w.heap.size < w1.heap.size := by have := hb1.size; simp at this; omega
      clear hb1 hS
      have c0 : w1.cell? ⟨w.heap.size, 0, none⟩ = some (.int .i64 op) := (K0.out 0 (by simp)).1
      have c1 : w1.cell? ⟨w.heap.size, 1, none⟩ = some (.int .i64 kind) := (K0.out 1 (by simp)).1
      have c2 : w1.cell? ⟨w.heap.size, 2, none⟩ = some (.int .i64 a) := (K0.out 2 (by simp)).1
      have c3 : w1.cell? ⟨w.heap.size, 3, none⟩ = some (.int .i64 b) := (K0.out 3 (by simp)).1
      have c4 : w1.cell? ⟨w.heap.size, 4, none⟩ = some (.int .i64 vk) := (K0.out 4 (by simp)).1
      have c5 : w1.cell? ⟨w.heap.size, 5, none⟩ = some (.int .i64 vn) := (K0.out 5 (by simp)).1
      have c6 : w1.cell? ⟨w.heap.size, 6, none⟩ = some (.string vs) := (K0.out 6 (by simp)).1
      have c7 : w1.cell? ⟨w.heap.size, 7, none⟩ = some (.slice ka n kc) := (K0.out 7 (by simp)).1
      have bw2 : Below w.heap.size w (w1.alloc (.cells #[.bool nA, .int .i64 la, .int .i64 ma, .int .i64 lk, .int .i64 mk] 82)) := bw.alloc bw.size _
      clear K0
      clear HC
      go_wp2
      go_ret
      exact ⟨rfl, bw2⟩
end Go.Proofs.Ytoieiegjhjedoaa
