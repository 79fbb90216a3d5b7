import Derived.Test.YtoieiegjhjedoaaSF1
namespace Go.Proofs.Ytoieiegjhjedoaa
open Go.ChangeShapes Go.WideShapes Go.ChangeAt Go.RowKit
set_option linter.unusedVariables false
set_option linter.unusedSimpArgs false
set_option maxRecDepth 100000
def hd0 (l : List Int) : Int := l.headD 0
theorem fails_any (t : XN) (cs : List Value) (ks : List Int) (kv : Value) (w : World) (h9 : t.op = 9 → 0 < ks.length) (hC : CX 0 w cs t) (hk : RI w kv ks) :
    Calls Try.prog 26 #[.agg cs.toArray, kv] w fun e w' => e = .returned (.bool (failF t.op t.a (hd0 ks))) ∧ Below w.heap.size w w' := by
  obtain ⟨v, rfl, ka, kc, rfl, _⟩ := hC
  by_cases q3 : t.op = 3
  · have := f26_3 t t.kids.length ka kc kv w (hd0 ks) q3
    rw [q3]; unfold xnV at this; rw [q3] at this; exact this
  by_cases q4 : t.op = 4
  · have := f26_4 t t.kids.length ka kc kv w (hd0 ks) q4
    rw [q4]; unfold xnV at this; rw [q4] at this; exact this
  by_cases q10 : t.op = 10
  · have := f26_10 t t.kids.length ka kc kv w (hd0 ks) q10
    rw [q10]; unfold xnV at this; rw [q10] at this; exact this
  by_cases q9 : t.op = 9
  · obtain ⟨a2, c2, rfl, hcell⟩ := hk
    obtain ⟨g, o, rfl, hg, hc⟩ := hcell (h9 q9)
    cases ks with
    | nil => have := h9 q9; simp at this
    | cons x r =>
      have := f26_9 t t.kids.length ka kc g o (x :: r).length c2 x w q9 (by simp) hg (hc 0 (by simp))
      rw [q9]; unfold xnV at this; rw [q9] at this; exact this
  · exact f26_no t t.kids.length ka kc kv w (hd0 ks) (by simpa using q3) (by simpa using q4) (by simpa using q9) (by simpa using q10)
set_option maxHeartbeats 8000000 in
theorem mayFail1_any (t : XN) (cs : List Value) (ks : List Int) (kv : Value) (w : World) (h9 : t.op = 9 → 0 < ks.length) (hC : CX 0 w cs t) (hk : RI w kv ks) :
    Calls Try.prog 25 #[.agg cs.toArray, kv] w fun e w' => e = .returned (.bool (t.op != 13 && !failF t.op t.a (hd0 ks))) ∧ Below w.heap.size w w' := by
  have hf := fun W (h : Below w.heap.size w W) => fails_any t cs ks kv W h9 (liesX.below hC h) (hk.below h)
  obtain ⟨v, rfl, ka, kc, rfl, _⟩ := hC
  obtain ⟨a2, c2, rfl, _⟩ := hk
  have bw := below_alloc w (.cells #[.int .i64 t.op, .int .i64 t.kind, .int .i64 t.a, .int .i64 t.b, .int .i64 t.vk, .int .i64 t.vn, .string t.vs, .slice ka t.kids.length kc] 66)
  have hf1 := hf _ bw
  clear hf
  generalize failF t.op t.a (hd0 ks) = ff at *
  cases h13 : (t.op == 13)
  · have h13n : ¬ t.op = 13 := by simpa using h13
    go_enter Try.func25, Try.ntmps25
    go_wp2_with (go_at_call 26; fail)
    refine hf1.mono ?_
    rintro e w1 ⟨rfl, hb1⟩
    have bw1 : Below w.heap.size w w1 := bw.trans (hb1.mono bw.size)
    clear hb1 hf1
    go_wp2
    go_ret
    exact ⟨ret_b (by first | rfl | simp [h13n]), bw1⟩
  · have h13n : t.op = 13 := by simpa using h13
    have HE : Hid ((t.op != 13 && !ff) = false) := (by simp [h13n] : (t.op != 13 && !ff) = false)
    rw [HE.out]
    clear hf1 h13n bw
    go_enter Try.func25, Try.ntmps25
    go_wp2
    go_ret
    exact ⟨by first | rfl | exact ret_b rfl, below_alloc _ _⟩
end Go.Proofs.Ytoieiegjhjedoaa
