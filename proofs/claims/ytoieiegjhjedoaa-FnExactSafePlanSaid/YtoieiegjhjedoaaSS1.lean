import Derived.Test.YtoieiegjhjedoaaSD
namespace Go.Proofs.Ytoieiegjhjedoaa
open Go.ChangeShapes Go.WideShapes Go.ChangeAt Go.RowKit
set_option linter.unusedVariables false
set_option linter.unusedSimpArgs false
set_option maxRecDepth 100000
theorem szIntS_any (a : Option Addr) (n cap : Nat) (left : Int) (w : World) (h0 : 0 ≤ left) (hl : left ≤ 1048576) (hn : n ≤ maxLen) :
    Calls Try.prog 29 #[.slice a n cap, .int .i64 left] w fun e w' => SzR (n ≤ 1048576) left e ∧ w' = w := by
  unfold maxLen at hn
  have hw : IntKind.i64.wrap (left - n) = left - n := by simp only [IntKind.wrap_i64, wrap64]; omega
  by_cases h : (n : Int) ≤ left
  · have hn : ¬ left - (n : Int) < 0 := by omega
    obtain ⟨m, hm⟩ : ∃ m : Nat, left - (n : Int) = m := ⟨(left - n).toNat, by omega⟩
    have HR : Hid (SzR (n ≤ 1048576) left (.returned (.int .i64 (left - n)))) := .inr ⟨m, by omega, by rw [hm], by omega⟩
    clear hm
    go_enter Try.func29, Try.ntmps29
    go_wp2
    all_goals first | (exfalso; go_light; omega) | skip
    go_ret
    exact ⟨HR.out, rfl⟩
  · have hn : left - (n : Int) < 0 := by omega
    go_enter Try.func29, Try.ntmps29
    go_wp2
    all_goals first | (exfalso; go_light; omega) | skip
    go_ret
    exact ⟨.inl rfl, rfl⟩
theorem szPAggS_any (a : Option Addr) (n cap : Nat) (left : Int) (w : World) (h0 : 0 ≤ left) (hl : left ≤ 1048576) (hn : n ≤ maxLen) :
    Calls Try.prog 30 #[.slice a n cap, .int .i64 left] w fun e w' => SzR (n ≤ 1048576) left e ∧ w' = w := by
  unfold maxLen at hn
  have hw : IntKind.i64.wrap (left - n) = left - n := by simp only [IntKind.wrap_i64, wrap64]; omega
  by_cases h : (n : Int) ≤ left
  · have hn : ¬ left - (n : Int) < 0 := by omega
    obtain ⟨m, hm⟩ : ∃ m : Nat, left - (n : Int) = m := ⟨(left - n).toNat, by omega⟩
    have HR : Hid (SzR (n ≤ 1048576) left (.returned (.int .i64 (left - n)))) := .inr ⟨m, by omega, by rw [hm], by omega⟩
    clear hm
    go_enter Try.func30, Try.ntmps30
    go_wp2
    all_goals first | (exfalso; go_light; omega) | skip
    go_ret
    exact ⟨HR.out, rfl⟩
  · have hn : left - (n : Int) < 0 := by omega
    go_enter Try.func30, Try.ntmps30
    go_wp2
    all_goals first | (exfalso; go_light; omega) | skip
    go_ret
    exact ⟨.inl rfl, rfl⟩
theorem szSortKeyS_any (a : Option Addr) (n cap : Nat) (left : Int) (w : World) (h0 : 0 ≤ left) (hl : left ≤ 1048576) (hn : n ≤ maxLen) :
    Calls Try.prog 31 #[.slice a n cap, .int .i64 left] w fun e w' => SzR (n ≤ 1048576) left e ∧ w' = w := by
  unfold maxLen at hn
  have hw : IntKind.i64.wrap (left - n) = left - n := by simp only [IntKind.wrap_i64, wrap64]; omega
  by_cases h : (n : Int) ≤ left
  · have hn : ¬ left - (n : Int) < 0 := by omega
    obtain ⟨m, hm⟩ : ∃ m : Nat, left - (n : Int) = m := ⟨(left - n).toNat, by omega⟩
    have HR : Hid (SzR (n ≤ 1048576) left (.returned (.int .i64 (left - n)))) := .inr ⟨m, by omega, by rw [hm], by omega⟩
    clear hm
    go_enter Try.func31, Try.ntmps31
    go_wp2
    all_goals first | (exfalso; go_light; omega) | skip
    go_ret
    exact ⟨HR.out, rfl⟩
  · have hn : left - (n : Int) < 0 := by omega
    go_enter Try.func31, Try.ntmps31
    go_wp2
    all_goals first | (exfalso; go_light; omega) | skip
    go_ret
    exact ⟨.inl rfl, rfl⟩
theorem szV_any (k n left : Int) (s : ByteArray) (w : World) (h0 : 0 ≤ left) (hl : left ≤ 1048576) (hs : s.size ≤ maxLen) :
    Calls Try.prog 67 #[.agg #[.int .i64 k, .int .i64 n, .string s], .int .i64 left] w fun e w' => SzR (s.size ≤ 1048576) left e ∧ Below w.heap.size w w' := by
  unfold maxLen at hs
  by_cases h : (s.size : Int) ≤ left
  · obtain ⟨m, hm⟩ : ∃ m : Nat, left - (s.size : Int) = m := ⟨(left - s.size).toNat, by omega⟩
    have HR : Hid (SzR (s.size ≤ 1048576) left (.returned (.int .i64 (left - s.size)))) := .inr ⟨m, by omega, by rw [hm], by omega⟩
    clear hm
    go_enter Try.func67, Try.ntmps67
    go_wp2
    go_ret
    exact ⟨HR.out, below_alloc _ _⟩
  · have h' : left < (s.size : Int) := by omega
    clear h
    go_enter Try.func67, Try.ntmps67
    go_wp2
    go_ret
    exact ⟨.inl rfl, below_alloc _ _⟩
set_option maxHeartbeats 4000000 in
theorem szXNode_any (x : XN) (a : Option Addr) (cap : Nat) (left : Int) (w : World) (h0 : 0 ≤ left) (hl : left ≤ 1048576) (hx : BX maxLen x) :
    Calls Try.prog 64 #[.agg #[.int .i64 x.op, .int .i64 x.kind, .int .i64 x.a, .int .i64 x.b, .int .i64 x.vk, .int .i64 x.vn, .string x.vs, .slice a x.kids.length cap], .int .i64 left] w fun e w' => SzR (BX 1048576 x) left e ∧ Below w.heap.size w w' := by
  go_enter Try.func64, Try.ntmps64
  have bw0 := below_alloc w (.cells #[.int .i64 x.op, .int .i64 x.kind, .int .i64 x.a, .int .i64 x.b, .int .i64 x.vk, .int .i64 x.vn, .string x.vs, .slice a x.kids.length cap] 115)
  go_wp2_with (go_at_call 67; fail)
  refine (szV_any x.vk x.vn left x.vs _ (by omega) (by omega) hx.1).mono ?_
  rintro e w1 ⟨hS1, hb1⟩
  have bw1 : Below w.heap.size w w1 := bw0.trans (hb1.mono bw0.size)
  obtain ⟨hc1, hf1⟩ := bcell hb1
  rcases hS1 with rfl | ⟨m1, hm1, rfl, p1⟩
  · go_wp2
    go_ret
    exact ⟨.inl rfl, bw1⟩
  · have hn1 : ¬ (m1 : Int) < 0 := by omega
    go_wp2_with (go_at_call 29; fail)
    refine (szIntS_any a x.kids.length cap (m1 : Int) _ (by omega) (by omega) hx.2).mono ?_
    rintro e w2 ⟨hS2, hb2⟩
    replace hb2 := hb2.symm
    subst hb2
    have bw2 := bw1
    rcases hS2 with rfl | ⟨m2, hm2, rfl, p2⟩
    · go_wp2
      go_ret
      exact ⟨.inl rfl, bw2⟩
    · have hn2 : ¬ (m2 : Int) < 0 := by omega
      go_wp2
      go_ret
      exact ⟨.inr ⟨m2, by omega, rfl, ⟨p1, p2⟩⟩, bw2⟩
end Go.Proofs.Ytoieiegjhjedoaa
