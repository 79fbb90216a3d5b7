import Derived.Test.YtghdjagomdgnfaaDoorHAI
import Derived.Test.YtghdjagomdgnfaaDoorHAF
import Derived.Test.YtghdjagomdgnfaaDoorHAN
import Derived.Test.YtghdjagomdgnfaaDoorHAA
namespace Go.Proofs.YtghdjagomdgnfaaDoor
open Go.ChangeShapes Go.WideShapes Go.ChangeAt Go.RowKit
set_option linter.unusedVariables false
set_option linter.unusedSimpArgs false
set_option maxRecDepth 100000
open K
set_option maxHeartbeats 4000000 in
theorem ch_30 (t : Nd) (nv : Value) (ka : Option Addr) (kl kc : Nat) (w : World) (hop : t.op = 30) :
    Calls Tryd.prog 58 #[ndV t (.slice ka kl kc), nv] w fun e w' => e = .returned (.bool (t.n != -1 || t.m != -1)) ∧ Below w.heap.size w w' := by
  obtain ⟨op, name, qual, n, m, vk, vn, vs, kids, pos⟩ := t
  simp only [ndV] at *
  subst hop
  go_enter Tryd.func58, Tryd.ntmps58
  go_wp2
  all_goals
    go_ret
    refine ⟨ret_b ?_, below_alloc _ _⟩
    first | (simp_all; done) | (simp_all; omega) | grind
end Go.Proofs.YtghdjagomdgnfaaDoor
namespace Go.Proofs.YtghdjagomdgnfaaDoor
open Go.ChangeShapes Go.WideShapes Go.ChangeAt Go.RowKit
set_option linter.unusedVariables false
set_option linter.unusedSimpArgs false
set_option maxRecDepth 100000
open K
set_option maxHeartbeats 4000000 in
theorem ch_o (t : Nd) (nv : Value) (ka : Option Addr) (kl kc : Nat) (w : World) (h1 : (t.op == 1) = false) (h2 : (t.op == 5) = false) (h3 : (t.op == 12) = false) (h4 : (t.op == 30) = false) (h5 : (t.op == 9) = false) (h6 : (t.op == 17) = false) :
    Calls Tryd.prog 58 #[ndV t (.slice ka kl kc), nv] w fun e w' => e = .returned (.bool true) ∧ Below w.heap.size w w' := by
  obtain ⟨op, name, qual, n, m, vk, vn, vs, kids, pos⟩ := t
  simp only [ndV] at *
  go_enter Tryd.func58, Tryd.ntmps58
  go_wp2
  all_goals
    go_ret
    exact ⟨rfl, below_alloc _ _⟩
end Go.Proofs.YtghdjagomdgnfaaDoor
namespace Go.Proofs.YtghdjagomdgnfaaDoor
open Go.ChangeShapes Go.WideShapes Go.ChangeAt Go.RowKit
set_option linter.unusedVariables false
set_option linter.unusedSimpArgs false
set_option maxRecDepth 100000
open K
set_option maxHeartbeats 4000000 in
theorem ch_q (ts : List Nd) (t : Nd) (q : Nat) (ng no ncap : Nat) (kg ko kc : Nat) (w : World) (hop : t.op = 9 ∨ t.op = 17) (hkl : 0 < t.kids.length) (hkb : t.kids.length ≤ 1048576) (hkg : kg < w.heap.size) (hkc : w.cell? ⟨kg, ko + (t.kids.length - 1), none⟩ = some (.int .i64 q))
    (hL : ts.length ≤ 6000) (hq : q < ts.length) (hg : ng < w.heap.size) (hN : ∀ i (h : i < ts.length), ∃ kv, NodeAt w ng (no + i * 10) ts[i] kv ∧ RI w kv ts[i].kids)
    (hF : ∀ i (h : i < ts.length), i ≤ q → (ts[i].op = 26 ∨ i = q) → ∃ j : Nat, ts[i].kids.head? = some (j : Int) ∧ j < i) :
    Calls Tryd.prog 58 #[ndV t (.slice (some ⟨kg, ko, none⟩) t.kids.length kc), .slice (some ⟨ng, no, none⟩) ts.length ncap] w fun e w' => e = .returned (.bool (begB ts q)) ∧ Below w.heap.size w w' := by
  have hcn := fun W (h : Below w.heap.size w W) => beg_78 ts q ng no ncap W hL hq (Nat.lt_of_lt_of_le hg h.size) (fun i hi => let ⟨kv, a, b⟩ := hN i hi; ⟨kv, a.below h hg, b.below h⟩) hF
  obtain ⟨op, name, qual, n, m, vk, vn, vs, kids, pos⟩ := t
  simp only [ndV] at *
  generalize kids.length = kl at *
  clear hN hF
  have hw1 : IntKind.i64.wrap ((kl : Int) - 1) = ((kl - 1 : Nat) : Int) := by simp only [IntKind.wrap_i64, wrap64]; omega
  have hlt : ((kl - 1 : Nat) : Int) < kl := by omega
  have bw0 := fun x => below_alloc w (.cells #[.int .i64 x, .string name, .string qual, .int .i64 n, .int .i64 m, .int .i64 vk, .int .i64 vn, .string vs, .slice (some ⟨kg, ko, none⟩) kl kc, .int .i64 pos] 46)
  obtain ⟨k1, hk1⟩ : ∃ k1 : Nat, kl - 1 = k1 := ⟨_, rfl⟩
  rw [hk1] at hw1 hlt hkc
  rcases hop with rfl | rfl
  · have e1 := ((bw0 9).cell (p := ⟨kg, ko + k1, none⟩) hkg).trans hkc
    go_enter Tryd.func58, Tryd.ntmps58
    go_wp2_with (go_at_call 78; refine (hcn _ (bw0 9)).mono ?_; rintro e w2 ⟨rfl, rfl⟩)
    go_ret
    exact ⟨rfl, bw0 9⟩
  · have e1 := ((bw0 17).cell (p := ⟨kg, ko + k1, none⟩) hkg).trans hkc
    go_enter Tryd.func58, Tryd.ntmps58
    go_wp2_with (go_at_call 78; refine (hcn _ (bw0 17)).mono ?_; rintro e w2 ⟨rfl, rfl⟩)
    go_ret
    exact ⟨rfl, bw0 17⟩
end Go.Proofs.YtghdjagomdgnfaaDoor
