import Derived.Test.YtoieiegjhjedoaaSQ3
namespace Go.Proofs.Ytoieiegjhjedoaa
open Go.ChangeShapes Go.WideShapes Go.ChangeAt Go.RowKit
set_option linter.unusedVariables false
set_option linter.unusedSimpArgs false
set_option maxRecDepth 100000
set_option maxHeartbeats 16000000 in
theorem eqP_e (t : PN) (cs ds : List Value) (w : World) (hB : BP 1048576 t) (hC : CP 0 w cs t) (hD : CP 0 w ds t) :
    Calls Try.prog 27 #[.agg cs.toArray, .agg ds.toArray] w fun e w' => e = .returned (.bool true) ∧ Below w.heap.size w w' := by
  obtain ⟨v0, v1, v2, v3, v4, rfl, r0, r1, r2, r3, r4⟩ := hC
  have R0 := hid r0
  obtain ⟨a0, q0, rfl, _⟩ := r0
  have R1 := hid r1
  obtain ⟨a1, q1, rfl, _⟩ := r1
  have R2 := hid r2
  obtain ⟨a2, q2, rfl, _⟩ := r2
  have R3 := hid r3
  obtain ⟨a3, q3, rfl, _⟩ := r3
  have R4 := hid r4
  obtain ⟨a4, q4, rfl, _⟩ := r4
  obtain ⟨xv0, xv1, xv2, xv3, xv4, rfl, xr0, xr1, xr2, xr3, xr4⟩ := hD
  have S0 := hid xr0
  obtain ⟨xa0, xq0, rfl, _⟩ := xr0
  have S1 := hid xr1
  obtain ⟨xa1, xq1, rfl, _⟩ := xr1
  have S2 := hid xr2
  obtain ⟨xa2, xq2, rfl, _⟩ := xr2
  have S3 := hid xr3
  obtain ⟨xa3, xq3, rfl, _⟩ := xr3
  have S4 := hid xr4
  obtain ⟨xa4, xq4, rfl, _⟩ := xr4
  have bw : Below w.heap.size w ((w.alloc (.cells #[.int .i64 t.op, .int .i64 t.l, .int .i64 t.r, .int .i64 t.table, .int .i64 t.a, .int .i64 t.b, .slice a0 t.exprs.length q0, .slice a1 t.keys.length q1, .slice a2 t.aggs.length q2, .slice a3 t.sorts.length q3, .slice a4 t.kinds.length q4] 39)).alloc (.cells #[.int .i64 t.op, .int .i64 t.l, .int .i64 t.r, .int .i64 t.table, .int .i64 t.a, .int .i64 t.b, .slice xa0 t.exprs.length xq0, .slice xa1 t.keys.length xq1, .slice xa2 t.aggs.length xq2, .slice xa3 t.sorts.length xq3, .slice xa4 t.kinds.length xq4] 39)) := (below_alloc w _).alloc (by simp) _
  have K0 := hid ((blk_new w [.int .i64 t.op, .int .i64 t.l, .int .i64 t.r, .int .i64 t.table, .int .i64 t.a, .int .i64 t.b, .slice a0 t.exprs.length q0, .slice a1 t.keys.length q1, .slice a2 t.aggs.length q2, .slice a3 t.sorts.length q3, .slice a4 t.kinds.length q4] 39).below (below_alloc _ (.cells #[.int .i64 t.op, .int .i64 t.l, .int .i64 t.r, .int .i64 t.table, .int .i64 t.a, .int .i64 t.b, .slice xa0 t.exprs.length xq0, .slice xa1 t.keys.length xq1, .slice xa2 t.aggs.length xq2, .slice xa3 t.sorts.length xq3, .slice xa4 t.kinds.length xq4] 39)) (by simp))
  have K1 : Hid (Blk ((w.alloc (.cells #[.int .i64 t.op, .int .i64 t.l, .int .i64 t.r, .int .i64 t.table, .int .i64 t.a, .int .i64 t.b, .slice a0 t.exprs.length q0, .slice a1 t.keys.length q1, .slice a2 t.aggs.length q2, .slice a3 t.sorts.length q3, .slice a4 t.kinds.length q4] 39)).alloc (.cells #[.int .i64 t.op, .int .i64 t.l, .int .i64 t.r, .int .i64 t.table, .int .i64 t.a, .int .i64 t.b, .slice xa0 t.exprs.length xq0, .slice xa1 t.keys.length xq1, .slice xa2 t.aggs.length xq2, .slice xa3 t.sorts.length xq3, .slice xa4 t.kinds.length xq4] 39)) (w.heap.size + 1) [.int .i64 t.op, .int .i64 t.l, .int .i64 t.r, .int .i64 t.table, .int .i64 t.a, .int .i64 t.b, .slice xa0 t.exprs.length xq0, .slice xa1 t.keys.length xq1, .slice xa2 t.aggs.length xq2, .slice xa3 t.sorts.length xq3, .slice xa4 t.kinds.length xq4]) := blkD w [.int .i64 t.op, .int .i64 t.l, .int .i64 t.r, .int .i64 t.table, .int .i64 t.a, .int .i64 t.b, .slice a0 t.exprs.length q0, .slice a1 t.keys.length q1, .slice a2 t.aggs.length q2, .slice a3 t.sorts.length q3, .slice a4 t.kinds.length q4] [.int .i64 t.op, .int .i64 t.l, .int .i64 t.r, .int .i64 t.table, .int .i64 t.a, .int .i64 t.b, .slice xa0 t.exprs.length xq0, .slice xa1 t.keys.length xq1, .slice xa2 t.aggs.length xq2, .slice xa3 t.sorts.length xq3, .slice xa4 t.kinds.length xq4] 39 39
  have hz : w.heap.size + 1 < (((w.alloc (.cells #[.int .i64 t.op, .int .i64 t.l, .int .i64 t.r, .int .i64 t.table, .int .i64 t.a, .int .i64 t.b, .slice a0 t.exprs.length q0, .slice a1 t.keys.length q1, .slice a2 t.aggs.length q2, .slice a3 t.sorts.length q3, .slice a4 t.kinds.length q4] 39)).alloc (.cells #[.int .i64 t.op, .int .i64 t.l, .int .i64 t.r, .int .i64 t.table, .int .i64 t.a, .int .i64 t.b, .slice xa0 t.exprs.length xq0, .slice xa1 t.keys.length xq1, .slice xa2 t.aggs.length xq2, .slice xa3 t.sorts.length xq3, .slice xa4 t.kinds.length xq4] 39))).heap.size := by simp
  go_enter Try.func27, Try.ntmps27
  go_wp2_with (go_at_call 46; fail)
  refine (eqExprS_same _ _ t.exprs _ hB.1 (R0.out.below liesE bw) (S0.out.below liesE bw)).mono ?_
  rintro e w1 ⟨rfl, hb1⟩
  replace bw : Below w.heap.size w w1 := bw.trans (hb1.mono bw.size)
  replace K0 := hid (K0.out.below hb1 (by omega))
  replace K1 := hid (K1.out.below hb1 (by omega))
  replace hz : w.heap.size + 1 < w1.heap.size := Nat.lt_of_lt_of_le hz hb1.size
  clear hb1
  have b7 : w1.cell? ⟨w.heap.size, 7, none⟩ = some (.slice a1 t.keys.length q1) := (K0.out 7 (by simp)).1
  have d7 : w1.cell? ⟨w.heap.size + 1, 7, none⟩ = some (.slice xa1 t.keys.length xq1) := (K1.out 7 (by simp)).1
  go_wp2_with (go_at_call 47; fail)
  refine (eqIntS_same _ _ t.keys _ hB.2.1 (R1.out.below liesI bw) (S1.out.below liesI bw)).mono ?_
  rintro e w2 ⟨rfl, hb2⟩
  replace bw : Below w.heap.size w w2 := bw.trans (hb2.mono bw.size)
  replace K0 := hid (K0.out.below hb2 (by omega))
  replace K1 := hid (K1.out.below hb2 (by omega))
  replace hz : w.heap.size + 1 < w2.heap.size := Nat.lt_of_lt_of_le hz hb2.size
  clear hb2
  have b8 : w2.cell? ⟨w.heap.size, 8, none⟩ = some (.slice a2 t.aggs.length q2) := (K0.out 8 (by simp)).1
  have d8 : w2.cell? ⟨w.heap.size + 1, 8, none⟩ = some (.slice xa2 t.aggs.length xq2) := (K1.out 8 (by simp)).1
  go_wp2_with (go_at_call 48; fail)
  refine (eqPAggS_same _ _ t.aggs _ hB.2.2.1 (R2.out.below liesPA bw) (S2.out.below liesPA bw)).mono ?_
  rintro e w3 ⟨rfl, hb3⟩
  replace bw : Below w.heap.size w w3 := bw.trans (hb3.mono bw.size)
  replace K0 := hid (K0.out.below hb3 (by omega))
  replace K1 := hid (K1.out.below hb3 (by omega))
  replace hz : w.heap.size + 1 < w3.heap.size := Nat.lt_of_lt_of_le hz hb3.size
  clear hb3
  have b9 : w3.cell? ⟨w.heap.size, 9, none⟩ = some (.slice a3 t.sorts.length q3) := (K0.out 9 (by simp)).1
  have d9 : w3.cell? ⟨w.heap.size + 1, 9, none⟩ = some (.slice xa3 t.sorts.length xq3) := (K1.out 9 (by simp)).1
  go_wp2_with (go_at_call 49; fail)
  refine (eqSortKeyS_same _ _ t.sorts _ hB.2.2.2.1 (R3.out.below liesSK bw) (S3.out.below liesSK bw)).mono ?_
  rintro e w4 ⟨rfl, hb4⟩
  replace bw : Below w.heap.size w w4 := bw.trans (hb4.mono bw.size)
  replace K0 := hid (K0.out.below hb4 (by omega))
  replace K1 := hid (K1.out.below hb4 (by omega))
  replace hz : w.heap.size + 1 < w4.heap.size := Nat.lt_of_lt_of_le hz hb4.size
  clear hb4
  have b10 : w4.cell? ⟨w.heap.size, 10, none⟩ = some (.slice a4 t.kinds.length q4) := (K0.out 10 (by simp)).1
  have d10 : w4.cell? ⟨w.heap.size + 1, 10, none⟩ = some (.slice xa4 t.kinds.length xq4) := (K1.out 10 (by simp)).1
  go_wp2_with (go_at_call 47; fail)
  refine (eqIntS_same _ _ t.kinds _ hB.2.2.2.2 (R4.out.below liesI bw) (S4.out.below liesI bw)).mono ?_
  rintro e w5 ⟨rfl, hb5⟩
  replace bw : Below w.heap.size w w5 := bw.trans (hb5.mono bw.size)
  replace K0 := hid (K0.out.below hb5 (by omega))
  replace K1 := hid (K1.out.below hb5 (by omega))
  replace hz : w.heap.size + 1 < w5.heap.size := Nat.lt_of_lt_of_le hz hb5.size
  clear hb5
  clear K0 K1
  go_wp2
  go_ret
  exact ⟨rfl, bw⟩
end Go.Proofs.Ytoieiegjhjedoaa
