import Derived.Test.YtghdjagomdgnfaaDoorHAI
import Derived.Test.YtghdjagomdgnfaaDoorHAF
import Derived.Test.YtghdjagomdgnfaaDoorHAN
import Derived.Test.YtghdjagomdgnfaaDoorHAA
namespace Go.Proofs.YtghdjagomdgnfaaDoor
open Go.ChangeShapes Go.WideShapes Go.ChangeAt Go.RowKit
set_option linter.unusedVariables false
set_option linter.unusedSimpArgs false
set_option maxRecDepth 100000
open K
set_option maxHeartbeats 4000000 in
theorem ch_1 (t : Nd) (kv nv : Value) (ka : Option Addr) (kl kc : Nat) (w : World) (hk : kv = .slice ka kl kc) (hop : t.op = 1) (hs : t.vs.size ≤ 1048576) (hT : Tabs w) :
    Calls Tryd.prog 58 #[ndV t kv, nv] w fun e w' => e = .returned (.bool (vok t.vk t.vn t.vs && !((t.vk == 1 || t.vk == 2) && decide (t.vn < 0)))) ∧ Below w.heap.size w w' := by
  subst hk
  obtain ⟨op, name, qual, n, m, vk, vn, vs, kids, pos⟩ := t
  simp only [ndV] at *
  subst hop
  have bw0 := below_alloc w (.cells #[.int .i64 1, .string name, .string qual, .int .i64 n, .int .i64 m, .int .i64 vk, .int .i64 vn, .string vs, .slice ka kl kc, .int .i64 pos] 46)
  have hV := fun W (h : Below w.heap.size w W) => vok_impl vk vn vs W hs (tabs_below hT h)
  generalize vok vk vn vs = vo at *
  cases h3 : decide (vn < 0) <;> cases h1 : (vk == 1) <;> cases h2 : (vk == 2) <;> cases vo
  all_goals
    go_enter Tryd.func58, Tryd.ntmps58
    go_wp2_with (go_at_call 77; refine (hV _ bw0).mono ?_; rintro e w2 ⟨rfl, hb2⟩; obtain ⟨hc2, hf2⟩ := bcell hb2; have hz2 : w.heap.size < w2.heap.size := (by have := hb2.size; simp at this; omega); have bw2 : Below w.heap.size w w2 := bw0.trans (hb2.mono (by simp)))
    go_ret
    exact ⟨ret_b (by simp), by first | exact bw2 | exact bw0⟩
end Go.Proofs.YtghdjagomdgnfaaDoor
namespace Go.Proofs.YtghdjagomdgnfaaDoor
open Go.ChangeShapes Go.WideShapes Go.ChangeAt Go.RowKit
set_option linter.unusedVariables false
set_option linter.unusedSimpArgs false
set_option maxRecDepth 100000
open K
set_option maxHeartbeats 4000000 in
theorem ch_5 (t : Nd) (nv : Value) (ka : Option Addr) (kl kc : Nat) (w : World) (hop : t.op = 5) :
    Calls Tryd.prog 58 #[ndV t (.slice ka kl kc), nv] w fun e w' => e = .returned (.bool (t.n != 13)) ∧ Below w.heap.size w w' := by
  obtain ⟨op, name, qual, n, m, vk, vn, vs, kids, pos⟩ := t
  simp only [ndV] at *
  subst hop
  go_enter Tryd.func58, Tryd.ntmps58
  go_wp2
  all_goals
    go_ret
    exact ⟨ret_b rfl, below_alloc _ _⟩
end Go.Proofs.YtghdjagomdgnfaaDoor
namespace Go.Proofs.YtghdjagomdgnfaaDoor
open Go.ChangeShapes Go.WideShapes Go.ChangeAt Go.RowKit
set_option linter.unusedVariables false
set_option linter.unusedSimpArgs false
set_option maxRecDepth 100000
open K
set_option maxHeartbeats 4000000 in
theorem ch_12 (t : Nd) (nv : Value) (ka : Option Addr) (kl kc : Nat) (w : World) (hop : t.op = 12) (h0 : 0 ≤ t.n) (h1 : t.n ≤ 1) (h2 : 0 ≤ t.m) (h3 : t.m ≤ 1) (hkl : kl ≤ 1048576) :
    Calls Tryd.prog 58 #[ndV t (.slice ka kl kc), nv] w fun e w' => e = .returned (.bool (decide (2 ≤ (kl : Int) - t.m - t.n) && ((kl : Int) - t.m - t.n) % 2 == 0)) ∧ Below w.heap.size w w' := by
  obtain ⟨op, name, qual, n, m, vk, vn, vs, kids, pos⟩ := t
  simp only [ndV] at *
  subst hop
  have hw1 : IntKind.i64.wrap ((kl : Int) - m) = (kl : Int) - m := by simp only [IntKind.wrap_i64, wrap64]; omega
  have hw2 : IntKind.i64.wrap ((kl : Int) - m - n) = (kl : Int) - m - n := by simp only [IntKind.wrap_i64, wrap64]; omega
  obtain ⟨p, hp⟩ : ∃ p, (kl : Int) - m - n = p := ⟨_, rfl⟩
  rw [hp] at hw2 ⊢
  by_cases h : 2 ≤ p
  · have hm : p.tmod 2 = p % 2 := Int.tmod_eq_emod_of_nonneg (by omega)
    go_enter Tryd.func58, Tryd.ntmps58
    go_wp2
    all_goals
      go_ret
      refine ⟨ret_b ?_, below_alloc _ _⟩
      first | (simp_all; done) | (simp_all; omega) | grind
  · go_enter Tryd.func58, Tryd.ntmps58
    go_wp2
    all_goals
      go_ret
      refine ⟨ret_b ?_, below_alloc _ _⟩
      first | (simp_all; done) | (simp_all; omega) | grind
end Go.Proofs.YtghdjagomdgnfaaDoor
