import Derived.Test.YtjfgojlnpbehfaaCM
import Derived.Test.YtjfgojlnpbehfaaDT
namespace Go.Proofs.Ytjfgojlnpbehfaa
open Go.ChangeShapes Go.WideShapes Go.ChangeAt Go.RowKit
set_option linter.unusedVariables false
set_option linter.unusedSimpArgs false
set_option maxRecDepth 100000
def leadsP (s t : TI) : Prop := s.bgn < t.com ∧ t.bgn < s.com ∧ meetP s.reads t.writes
set_option maxHeartbeats 8000000 in
theorem leads_spec (s t : TI) (cs ds : List Value) (w : World) (hs : BT 1048576 s) (ht : BT 1048576 t) (hC : CT 0 w cs s) (hD : CT 0 w ds t) :
    Calls Try.prog 30 #[.agg cs.toArray, .agg ds.toArray] w fun e w' => RB (leadsP s t) e ∧ Below w.heap.size w w' := by
  obtain ⟨v0, v1, rfl, r0, r1⟩ := hC
  have R0 := hid r0
  obtain ⟨a0, q0, rfl, _⟩ := r0
  have R1 := hid r1
  obtain ⟨a1, q1, rfl, _⟩ := r1
  obtain ⟨xv0, xv1, rfl, xr0, xr1⟩ := hD
  have S0 := hid xr0
  obtain ⟨xa0, xq0, rfl, _⟩ := xr0
  have S1 := hid xr1
  obtain ⟨xa1, xq1, rfl, _⟩ := xr1
  have bw : Below w.heap.size w ((w.alloc (.cells #[.int .i64 s.bgn, .int .i64 s.com, .slice a0 s.reads.length q0, .slice a1 s.writes.length q1] 31)).alloc (.cells #[.int .i64 t.bgn, .int .i64 t.com, .slice xa0 t.reads.length xq0, .slice xa1 t.writes.length xq1] 31)) := (below_alloc w _).alloc (by simp) _
  by_cases h1 : s.bgn < t.com
  · by_cases h2 : t.bgn < s.com
    · have hcn := meet_spec _ _ _ _ s.reads t.writes ((w.alloc (.cells #[.int .i64 s.bgn, .int .i64 s.com, .slice a0 s.reads.length q0, .slice a1 s.writes.length q1] 31)).alloc (.cells #[.int .i64 t.bgn, .int .i64 t.com, .slice xa0 t.reads.length xq0, .slice xa1 t.writes.length xq1] 31)) hs.1 ht.2 (R0.out.below liesI bw) (S1.out.below liesI bw)
      have HP : Hid (meetP s.reads t.writes ↔ leadsP s t) := (⟨fun h => ⟨h1, h2, h⟩, fun h => h.2.2⟩ : meetP s.reads t.writes ↔ leadsP s t)
      go_enter Try.func30, Try.ntmps30
      go_wp2_with (go_at_call 44; fail)
      refine hcn.mono ?_
      rintro e w1 ⟨⟨r, rfl, hr⟩, hb'⟩
      have bw1 : Below w.heap.size w w1 := bw.trans (hb'.mono bw.size)
      have HRB : Hid (RB (leadsP s t) (.returned (.bool r))) := ⟨r, rfl, hr.trans HP.out⟩
      clear hb' hcn hr HP
      go_wp2
      go_ret
      exact ⟨HRB.out, bw1⟩
    · have HF : Hid (¬ leadsP s t) := (fun h => h2 h.2.1 : ¬ leadsP s t)
      go_enter Try.func30, Try.ntmps30
      go_wp2
      go_ret
      exact ⟨rb_f HF.out, bw⟩
  · have HF : Hid (¬ leadsP s t) := (fun h => h1 h.1 : ¬ leadsP s t)
    go_enter Try.func30, Try.ntmps30
    go_wp2
    go_ret
    exact ⟨rb_f HF.out, bw⟩
end Go.Proofs.Ytjfgojlnpbehfaa
