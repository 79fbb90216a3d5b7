import Derived.Test.YtoieiegjhjedoaaST4
namespace Go.Proofs.Ytoieiegjhjedoaa
open Go.ChangeShapes Go.WideShapes Go.ChangeAt Go.RowKit
set_option linter.unusedVariables false
set_option linter.unusedSimpArgs false
set_option maxRecDepth 100000
set_option maxHeartbeats 16000000 in
theorem toP_e (t : PN) (cs : List Value) (w : World) (hB : BP 1048576 t) (hC : CP 0 w cs t) :
    Calls Try.prog 20 #[.agg cs.toArray] w fun e w' => ∃ ds, e = .returned (.agg ds.toArray) ∧ CP w.heap.size w' ds t ∧ Below w.heap.size w w' := by
  obtain ⟨v0, v1, v2, v3, v4, rfl, r0, r1, r2, r3, r4⟩ := hC
  have R0 := hid r0
  obtain ⟨a0, q0, rfl, _⟩ := r0
  have R1 := hid r1
  obtain ⟨a1, q1, rfl, _⟩ := r1
  have R2 := hid r2
  obtain ⟨a2, q2, rfl, _⟩ := r2
  have R3 := hid r3
  obtain ⟨a3, q3, rfl, _⟩ := r3
  have R4 := hid r4
  obtain ⟨a4, q4, rfl, _⟩ := r4
  have bw : Below w.heap.size w (((w.alloc (.cells #[.int .i64 t.op, .int .i64 t.l, .int .i64 t.r, .int .i64 t.table, .int .i64 t.a, .int .i64 t.b, .slice a0 t.exprs.length q0, .slice a1 t.keys.length q1, .slice a2 t.aggs.length q2, .slice a3 t.sorts.length q3, .slice a4 t.kinds.length q4] 58)).alloc (.cells #[.int .i64 0, .int .i64 0, .int .i64 0, .int .i64 0, .int .i64 0, .int .i64 0, .slice none 0 0, .slice none 0 0, .slice none 0 0, .slice none 0 0, .slice none 0 0] 39)).alloc (.cells #[.int .i64 t.op, .int .i64 t.l, .int .i64 t.r, .int .i64 t.table, .int .i64 t.a, .int .i64 t.b, .slice none 0 0, .slice none 0 0, .slice none 0 0, .slice none 0 0, .slice none 0 0] 39)) := ((below_alloc w _).alloc (by simp) _).alloc (by simp; omega) _
  have K0 := hid (blkA w [.int .i64 t.op, .int .i64 t.l, .int .i64 t.r, .int .i64 t.table, .int .i64 t.a, .int .i64 t.b, .slice a0 t.exprs.length q0, .slice a1 t.keys.length q1, .slice a2 t.aggs.length q2, .slice a3 t.sorts.length q3, .slice a4 t.kinds.length q4] [.int .i64 0, .int .i64 0, .int .i64 0, .int .i64 0, .int .i64 0, .int .i64 0, .slice none 0 0, .slice none 0 0, .slice none 0 0, .slice none 0 0, .slice none 0 0] [.int .i64 t.op, .int .i64 t.l, .int .i64 t.r, .int .i64 t.table, .int .i64 t.a, .int .i64 t.b, .slice none 0 0, .slice none 0 0, .slice none 0 0, .slice none 0 0, .slice none 0 0] 58 39 39)
  have K1 := hid (blkB w [.int .i64 t.op, .int .i64 t.l, .int .i64 t.r, .int .i64 t.table, .int .i64 t.a, .int .i64 t.b, .slice a0 t.exprs.length q0, .slice a1 t.keys.length q1, .slice a2 t.aggs.length q2, .slice a3 t.sorts.length q3, .slice a4 t.kinds.length q4] [.int .i64 0, .int .i64 0, .int .i64 0, .int .i64 0, .int .i64 0, .int .i64 0, .slice none 0 0, .slice none 0 0, .slice none 0 0, .slice none 0 0, .slice none 0 0] [.int .i64 t.op, .int .i64 t.l, .int .i64 t.r, .int .i64 t.table, .int .i64 t.a, .int .i64 t.b, .slice none 0 0, .slice none 0 0, .slice none 0 0, .slice none 0 0, .slice none 0 0] 58 39 39)
  have K2 := hid (blkC w [.int .i64 t.op, .int .i64 t.l, .int .i64 t.r, .int .i64 t.table, .int .i64 t.a, .int .i64 t.b, .slice a0 t.exprs.length q0, .slice a1 t.keys.length q1, .slice a2 t.aggs.length q2, .slice a3 t.sorts.length q3, .slice a4 t.kinds.length q4] [.int .i64 0, .int .i64 0, .int .i64 0, .int .i64 0, .int .i64 0, .int .i64 0, .slice none 0 0, .slice none 0 0, .slice none 0 0, .slice none 0 0, .slice none 0 0] [.int .i64 t.op, .int .i64 t.l, .int .i64 t.r, .int .i64 t.table, .int .i64 t.a, .int .i64 t.b, .slice none 0 0, .slice none 0 0, .slice none 0 0, .slice none 0 0, .slice none 0 0] 58 39 39)
  have hz : w.heap.size + 1 + 1 < ((((w.alloc (.cells #[.int .i64 t.op, .int .i64 t.l, .int .i64 t.r, .int .i64 t.table, .int .i64 t.a, .int .i64 t.b, .slice a0 t.exprs.length q0, .slice a1 t.keys.length q1, .slice a2 t.aggs.length q2, .slice a3 t.sorts.length q3, .slice a4 t.kinds.length q4] 58)).alloc (.cells #[.int .i64 0, .int .i64 0, .int .i64 0, .int .i64 0, .int .i64 0, .int .i64 0, .slice none 0 0, .slice none 0 0, .slice none 0 0, .slice none 0 0, .slice none 0 0] 39)).alloc (.cells #[.int .i64 t.op, .int .i64 t.l, .int .i64 t.r, .int .i64 t.table, .int .i64 t.a, .int .i64 t.b, .slice none 0 0, .slice none 0 0, .slice none 0 0, .slice none 0 0, .slice none 0 0] 39))).heap.size := by simp
  go_enter Try.func20, Try.ntmps20
  go_wp2_with (go_at_call 35; fail)
  refine (toExprS_any a0 q0 t.exprs _ hB.1 (R0.out.below liesE bw)).mono ?_
  rintro e w1 ⟨rfl, hR, hb1⟩
  obtain ⟨g0, hg0⟩ : ∃ x, x = ((((w.alloc (.cells #[.int .i64 t.op, .int .i64 t.l, .int .i64 t.r, .int .i64 t.table, .int .i64 t.a, .int .i64 t.b, .slice a0 t.exprs.length q0, .slice a1 t.keys.length q1, .slice a2 t.aggs.length q2, .slice a3 t.sorts.length q3, .slice a4 t.kinds.length q4] 58)).alloc (.cells #[.int .i64 0, .int .i64 0, .int .i64 0, .int .i64 0, .int .i64 0, .int .i64 0, .slice none 0 0, .slice none 0 0, .slice none 0 0, .slice none 0 0, .slice none 0 0] 39)).alloc (.cells #[.int .i64 t.op, .int .i64 t.l, .int .i64 t.r, .int .i64 t.table, .int .i64 t.a, .int .i64 t.b, .slice none 0 0, .slice none 0 0, .slice none 0 0, .slice none 0 0, .slice none 0 0] 39))).heap.size := ⟨_, rfl⟩
  rw [← hg0] at hR ⊢
  have hgb0 : w.heap.size + 1 + 1 < g0 := by omega
  replace bw : Below w.heap.size w w1 := bw.trans (hb1.mono bw.size)
  replace K0 := hid (K0.out.below hb1 (by omega))
  replace K1 := hid (K1.out.below hb1 (by omega))
  replace K2 := hid (K2.out.below hb1 (by omega))
  replace hz : w.heap.size + 1 + 1 < w1.heap.size := Nat.lt_of_lt_of_le hz hb1.size
  have RR0 := hid hR
  clear hR hg0
  clear hb1
  have o6 : w1.cell? ⟨w.heap.size + 1 + 1, 6, none⟩ = some (.slice none 0 0) := (K2.out 6 (by simp)).1
  have p6 := (K2.out 6 (by simp)).2
  have b7 : w1.cell? ⟨w.heap.size, 7, none⟩ = some (.slice a1 t.keys.length q1) := (K0.out 7 (by simp)).1
  replace K0 := hid (K0.out.other (c := w.heap.size + 1 + 1) (j := 6) (u := .slice (some ⟨g0, 0, none⟩) t.exprs.length t.exprs.length) (by omega))
  replace K1 := hid (K1.out.other (c := w.heap.size + 1 + 1) (j := 6) (u := .slice (some ⟨g0, 0, none⟩) t.exprs.length t.exprs.length) (by omega))
  replace K2 := hid (K2.out.set 6 (.slice (some ⟨g0, 0, none⟩) t.exprs.length t.exprs.length))
  replace RR0 := hid (RR0.out.set liesE (c := w.heap.size + 1 + 1) (j := 6) (u := .slice (some ⟨g0, 0, none⟩) t.exprs.length t.exprs.length) (by omega))
  replace bw := bw.setCell (show w.heap.size ≤ (⟨w.heap.size + 1 + 1, 6, none⟩ : Addr).block by simp; omega) (.slice (some ⟨g0, 0, none⟩) t.exprs.length t.exprs.length)
  replace hz : w.heap.size + 1 + 1 < ((w1.setCell ⟨w.heap.size + 1 + 1, 6, none⟩ (.slice (some ⟨g0, 0, none⟩) t.exprs.length t.exprs.length))).heap.size := by simpa using hz
  go_wp2_with (go_at_call 36; fail)
  refine (toIntS_any a1 q1 t.keys _ hB.2.1 (R1.out.below liesI bw)).mono ?_
  rintro e w2 ⟨rfl, hR, hb2⟩
  obtain ⟨g1, hg1⟩ : ∃ x, x = ((w1.setCell ⟨w.heap.size + 1 + 1, 6, none⟩ (.slice (some ⟨g0, 0, none⟩) t.exprs.length t.exprs.length))).heap.size := ⟨_, rfl⟩
  rw [← hg1] at hR ⊢
  have hgb1 : w.heap.size + 1 + 1 < g1 := by omega
  replace bw : Below w.heap.size w w2 := bw.trans (hb2.mono bw.size)
  replace K0 := hid (K0.out.below hb2 (by omega))
  replace K1 := hid (K1.out.below hb2 (by omega))
  replace K2 := hid (K2.out.below hb2 (by omega))
  replace RR0 := hid (RR0.out.below liesE hb2)
  replace hz : w.heap.size + 1 + 1 < w2.heap.size := Nat.lt_of_lt_of_le hz hb2.size
  have RR1 := hid hR
  clear hR hg1
  clear hb2
  have o7 : w2.cell? ⟨w.heap.size + 1 + 1, 7, none⟩ = some (.slice none 0 0) := (K2.out 7 (by simp)).1
  have p7 := (K2.out 7 (by simp)).2
  have b8 : w2.cell? ⟨w.heap.size, 8, none⟩ = some (.slice a2 t.aggs.length q2) := (K0.out 8 (by simp)).1
  replace K0 := hid (K0.out.other (c := w.heap.size + 1 + 1) (j := 7) (u := .slice (some ⟨g1, 0, none⟩) t.keys.length t.keys.length) (by omega))
  replace K1 := hid (K1.out.other (c := w.heap.size + 1 + 1) (j := 7) (u := .slice (some ⟨g1, 0, none⟩) t.keys.length t.keys.length) (by omega))
  replace K2 := hid (K2.out.set 7 (.slice (some ⟨g1, 0, none⟩) t.keys.length t.keys.length))
  replace RR0 := hid (RR0.out.set liesE (c := w.heap.size + 1 + 1) (j := 7) (u := .slice (some ⟨g1, 0, none⟩) t.keys.length t.keys.length) (by omega))
  replace RR1 := hid (RR1.out.set liesI (c := w.heap.size + 1 + 1) (j := 7) (u := .slice (some ⟨g1, 0, none⟩) t.keys.length t.keys.length) (by omega))
  replace bw := bw.setCell (show w.heap.size ≤ (⟨w.heap.size + 1 + 1, 7, none⟩ : Addr).block by simp; omega) (.slice (some ⟨g1, 0, none⟩) t.keys.length t.keys.length)
  replace hz : w.heap.size + 1 + 1 < ((w2.setCell ⟨w.heap.size + 1 + 1, 7, none⟩ (.slice (some ⟨g1, 0, none⟩) t.keys.length t.keys.length))).heap.size := by simpa using hz
  go_wp2_with (go_at_call 37; fail)
  refine (toPAggS_any a2 q2 t.aggs _ hB.2.2.1 (R2.out.below liesPA bw)).mono ?_
  rintro e w3 ⟨rfl, hR, hb3⟩
  obtain ⟨g2, hg2⟩ : ∃ x, x = ((w2.setCell ⟨w.heap.size + 1 + 1, 7, none⟩ (.slice (some ⟨g1, 0, none⟩) t.keys.length t.keys.length))).heap.size := ⟨_, rfl⟩
  rw [← hg2] at hR ⊢
  have hgb2 : w.heap.size + 1 + 1 < g2 := by omega
  replace bw : Below w.heap.size w w3 := bw.trans (hb3.mono bw.size)
  replace K0 := hid (K0.out.below hb3 (by omega))
  replace K1 := hid (K1.out.below hb3 (by omega))
  replace K2 := hid (K2.out.below hb3 (by omega))
  replace RR0 := hid (RR0.out.below liesE hb3)
  replace RR1 := hid (RR1.out.below liesI hb3)
  replace hz : w.heap.size + 1 + 1 < w3.heap.size := Nat.lt_of_lt_of_le hz hb3.size
  have RR2 := hid hR
  clear hR hg2
  clear hb3
  have o8 : w3.cell? ⟨w.heap.size + 1 + 1, 8, none⟩ = some (.slice none 0 0) := (K2.out 8 (by simp)).1
  have p8 := (K2.out 8 (by simp)).2
  have b9 : w3.cell? ⟨w.heap.size, 9, none⟩ = some (.slice a3 t.sorts.length q3) := (K0.out 9 (by simp)).1
  replace K0 := hid (K0.out.other (c := w.heap.size + 1 + 1) (j := 8) (u := .slice (some ⟨g2, 0, none⟩) t.aggs.length t.aggs.length) (by omega))
  replace K1 := hid (K1.out.other (c := w.heap.size + 1 + 1) (j := 8) (u := .slice (some ⟨g2, 0, none⟩) t.aggs.length t.aggs.length) (by omega))
  replace K2 := hid (K2.out.set 8 (.slice (some ⟨g2, 0, none⟩) t.aggs.length t.aggs.length))
  replace RR0 := hid (RR0.out.set liesE (c := w.heap.size + 1 + 1) (j := 8) (u := .slice (some ⟨g2, 0, none⟩) t.aggs.length t.aggs.length) (by omega))
  replace RR1 := hid (RR1.out.set liesI (c := w.heap.size + 1 + 1) (j := 8) (u := .slice (some ⟨g2, 0, none⟩) t.aggs.length t.aggs.length) (by omega))
  replace RR2 := hid (RR2.out.set liesPA (c := w.heap.size + 1 + 1) (j := 8) (u := .slice (some ⟨g2, 0, none⟩) t.aggs.length t.aggs.length) (by omega))
  replace bw := bw.setCell (show w.heap.size ≤ (⟨w.heap.size + 1 + 1, 8, none⟩ : Addr).block by simp; omega) (.slice (some ⟨g2, 0, none⟩) t.aggs.length t.aggs.length)
  replace hz : w.heap.size + 1 + 1 < ((w3.setCell ⟨w.heap.size + 1 + 1, 8, none⟩ (.slice (some ⟨g2, 0, none⟩) t.aggs.length t.aggs.length))).heap.size := by simpa using hz
  go_wp2_with (go_at_call 38; fail)
  refine (toSortKeyS_any a3 q3 t.sorts _ hB.2.2.2.1 (R3.out.below liesSK bw)).mono ?_
  rintro e w4 ⟨rfl, hR, hb4⟩
  obtain ⟨g3, hg3⟩ : ∃ x, x = ((w3.setCell ⟨w.heap.size + 1 + 1, 8, none⟩ (.slice (some ⟨g2, 0, none⟩) t.aggs.length t.aggs.length))).heap.size := ⟨_, rfl⟩
  rw [← hg3] at hR ⊢
  have hgb3 : w.heap.size + 1 + 1 < g3 := by omega
  replace bw : Below w.heap.size w w4 := bw.trans (hb4.mono bw.size)
  replace K0 := hid (K0.out.below hb4 (by omega))
  replace K1 := hid (K1.out.below hb4 (by omega))
  replace K2 := hid (K2.out.below hb4 (by omega))
  replace RR0 := hid (RR0.out.below liesE hb4)
  replace RR1 := hid (RR1.out.below liesI hb4)
  replace RR2 := hid (RR2.out.below liesPA hb4)
  replace hz : w.heap.size + 1 + 1 < w4.heap.size := Nat.lt_of_lt_of_le hz hb4.size
  have RR3 := hid hR
  clear hR hg3
  clear hb4
  have o9 : w4.cell? ⟨w.heap.size + 1 + 1, 9, none⟩ = some (.slice none 0 0) := (K2.out 9 (by simp)).1
  have p9 := (K2.out 9 (by simp)).2
  have b10 : w4.cell? ⟨w.heap.size, 10, none⟩ = some (.slice a4 t.kinds.length q4) := (K0.out 10 (by simp)).1
  replace K0 := hid (K0.out.other (c := w.heap.size + 1 + 1) (j := 9) (u := .slice (some ⟨g3, 0, none⟩) t.sorts.length t.sorts.length) (by omega))
  replace K1 := hid (K1.out.other (c := w.heap.size + 1 + 1) (j := 9) (u := .slice (some ⟨g3, 0, none⟩) t.sorts.length t.sorts.length) (by omega))
  replace K2 := hid (K2.out.set 9 (.slice (some ⟨g3, 0, none⟩) t.sorts.length t.sorts.length))
  replace RR0 := hid (RR0.out.set liesE (c := w.heap.size + 1 + 1) (j := 9) (u := .slice (some ⟨g3, 0, none⟩) t.sorts.length t.sorts.length) (by omega))
  replace RR1 := hid (RR1.out.set liesI (c := w.heap.size + 1 + 1) (j := 9) (u := .slice (some ⟨g3, 0, none⟩) t.sorts.length t.sorts.length) (by omega))
  replace RR2 := hid (RR2.out.set liesPA (c := w.heap.size + 1 + 1) (j := 9) (u := .slice (some ⟨g3, 0, none⟩) t.sorts.length t.sorts.length) (by omega))
  replace RR3 := hid (RR3.out.set liesSK (c := w.heap.size + 1 + 1) (j := 9) (u := .slice (some ⟨g3, 0, none⟩) t.sorts.length t.sorts.length) (by omega))
  replace bw := bw.setCell (show w.heap.size ≤ (⟨w.heap.size + 1 + 1, 9, none⟩ : Addr).block by simp; omega) (.slice (some ⟨g3, 0, none⟩) t.sorts.length t.sorts.length)
  replace hz : w.heap.size + 1 + 1 < ((w4.setCell ⟨w.heap.size + 1 + 1, 9, none⟩ (.slice (some ⟨g3, 0, none⟩) t.sorts.length t.sorts.length))).heap.size := by simpa using hz
  go_wp2_with (go_at_call 36; fail)
  refine (toIntS_any a4 q4 t.kinds _ hB.2.2.2.2 (R4.out.below liesI bw)).mono ?_
  rintro e w5 ⟨rfl, hR, hb5⟩
  obtain ⟨g4, hg4⟩ : ∃ x, x = ((w4.setCell ⟨w.heap.size + 1 + 1, 9, none⟩ (.slice (some ⟨g3, 0, none⟩) t.sorts.length t.sorts.length))).heap.size := ⟨_, rfl⟩
  rw [← hg4] at hR ⊢
  have hgb4 : w.heap.size + 1 + 1 < g4 := by omega
  replace bw : Below w.heap.size w w5 := bw.trans (hb5.mono bw.size)
  replace K0 := hid (K0.out.below hb5 (by omega))
  replace K1 := hid (K1.out.below hb5 (by omega))
  replace K2 := hid (K2.out.below hb5 (by omega))
  replace RR0 := hid (RR0.out.below liesE hb5)
  replace RR1 := hid (RR1.out.below liesI hb5)
  replace RR2 := hid (RR2.out.below liesPA hb5)
  replace RR3 := hid (RR3.out.below liesSK hb5)
  replace hz : w.heap.size + 1 + 1 < w5.heap.size := Nat.lt_of_lt_of_le hz hb5.size
  have RR4 := hid hR
  clear hR hg4
  clear hb5
  have o0 : w5.cell? ⟨w.heap.size + 1 + 1, 0, none⟩ = some (.int .i64 t.op) := (K2.out 0 (by simp)).1
  have p0 := (K2.out 0 (by simp)).2
  have r0 : w5.cell? ⟨w.heap.size + 1, 0, none⟩ = some (.int .i64 0) := (K1.out 0 (by simp)).1
  have s0 := (K1.out 0 (by simp)).2
  have o1 : w5.cell? ⟨w.heap.size + 1 + 1, 1, none⟩ = some (.int .i64 t.l) := (K2.out 1 (by simp)).1
  have p1 := (K2.out 1 (by simp)).2
  have r1 : w5.cell? ⟨w.heap.size + 1, 1, none⟩ = some (.int .i64 0) := (K1.out 1 (by simp)).1
  have s1 := (K1.out 1 (by simp)).2
  have o2 : w5.cell? ⟨w.heap.size + 1 + 1, 2, none⟩ = some (.int .i64 t.r) := (K2.out 2 (by simp)).1
  have p2 := (K2.out 2 (by simp)).2
  have r2 : w5.cell? ⟨w.heap.size + 1, 2, none⟩ = some (.int .i64 0) := (K1.out 2 (by simp)).1
  have s2 := (K1.out 2 (by simp)).2
  have o3 : w5.cell? ⟨w.heap.size + 1 + 1, 3, none⟩ = some (.int .i64 t.table) := (K2.out 3 (by simp)).1
  have p3 := (K2.out 3 (by simp)).2
  have r3 : w5.cell? ⟨w.heap.size + 1, 3, none⟩ = some (.int .i64 0) := (K1.out 3 (by simp)).1
  have s3 := (K1.out 3 (by simp)).2
  have o4 : w5.cell? ⟨w.heap.size + 1 + 1, 4, none⟩ = some (.int .i64 t.a) := (K2.out 4 (by simp)).1
  have p4 := (K2.out 4 (by simp)).2
  have r4 : w5.cell? ⟨w.heap.size + 1, 4, none⟩ = some (.int .i64 0) := (K1.out 4 (by simp)).1
  have s4 := (K1.out 4 (by simp)).2
  have o5 : w5.cell? ⟨w.heap.size + 1 + 1, 5, none⟩ = some (.int .i64 t.b) := (K2.out 5 (by simp)).1
  have p5 := (K2.out 5 (by simp)).2
  have r5 : w5.cell? ⟨w.heap.size + 1, 5, none⟩ = some (.int .i64 0) := (K1.out 5 (by simp)).1
  have s5 := (K1.out 5 (by simp)).2
  have o6 : w5.cell? ⟨w.heap.size + 1 + 1, 6, none⟩ = some (.slice (some ⟨g0, 0, none⟩) t.exprs.length t.exprs.length) := (K2.out 6 (by simp)).1
  have p6 := (K2.out 6 (by simp)).2
  have r6 : w5.cell? ⟨w.heap.size + 1, 6, none⟩ = some (.slice none 0 0) := (K1.out 6 (by simp)).1
  have s6 := (K1.out 6 (by simp)).2
  have o7 : w5.cell? ⟨w.heap.size + 1 + 1, 7, none⟩ = some (.slice (some ⟨g1, 0, none⟩) t.keys.length t.keys.length) := (K2.out 7 (by simp)).1
  have p7 := (K2.out 7 (by simp)).2
  have r7 : w5.cell? ⟨w.heap.size + 1, 7, none⟩ = some (.slice none 0 0) := (K1.out 7 (by simp)).1
  have s7 := (K1.out 7 (by simp)).2
  have o8 : w5.cell? ⟨w.heap.size + 1 + 1, 8, none⟩ = some (.slice (some ⟨g2, 0, none⟩) t.aggs.length t.aggs.length) := (K2.out 8 (by simp)).1
  have p8 := (K2.out 8 (by simp)).2
  have r8 : w5.cell? ⟨w.heap.size + 1, 8, none⟩ = some (.slice none 0 0) := (K1.out 8 (by simp)).1
  have s8 := (K1.out 8 (by simp)).2
  have o9 : w5.cell? ⟨w.heap.size + 1 + 1, 9, none⟩ = some (.slice (some ⟨g3, 0, none⟩) t.sorts.length t.sorts.length) := (K2.out 9 (by simp)).1
  have p9 := (K2.out 9 (by simp)).2
  have r9 : w5.cell? ⟨w.heap.size + 1, 9, none⟩ = some (.slice none 0 0) := (K1.out 9 (by simp)).1
  have s9 := (K1.out 9 (by simp)).2
  have o10 : w5.cell? ⟨w.heap.size + 1 + 1, 10, none⟩ = some (.slice none 0 0) := (K2.out 10 (by simp)).1
  have p10 := (K2.out 10 (by simp)).2
  have r10 : w5.cell? ⟨w.heap.size + 1, 10, none⟩ = some (.slice none 0 0) := (K1.out 10 (by simp)).1
  have s10 := (K1.out 10 (by simp)).2
  have hx1 : w.heap.size + 1 < w5.heap.size := by omega
  have hx0 : w.heap.size < w5.heap.size := by omega
  clear K0 K1 K2
  go_wp2
  refine bodyPost_ret (v := .agg #[.int .i64 t.op, .int .i64 t.l, .int .i64 t.r, .int .i64 t.table, .int .i64 t.a, .int .i64 t.b, .slice (some ⟨g0, 0, none⟩) t.exprs.length t.exprs.length, .slice (some ⟨g1, 0, none⟩) t.keys.length t.keys.length, .slice (some ⟨g2, 0, none⟩) t.aggs.length t.aggs.length, .slice (some ⟨g3, 0, none⟩) t.sorts.length t.sorts.length, .slice (some ⟨g4, 0, none⟩) t.kinds.length t.kinds.length]) (by simp [results, Try.results20, go_sem, hx0, hx1, hz, o0, p0, r0, s0, o1, p1, r1, s1, o2, p2, r2, s2, o3, p3, r3, s3, o4, p4, r4, s4, o5, p5, r5, s5, o6, p6, r6, s6, o7, p7, r7, s7, o8, p8, r8, s8, o9, p9, r9, s9, o10, p10, r10, s10]) rfl ⟨[.int .i64 t.op, .int .i64 t.l, .int .i64 t.r, .int .i64 t.table, .int .i64 t.a, .int .i64 t.b, .slice (some ⟨g0, 0, none⟩) t.exprs.length t.exprs.length, .slice (some ⟨g1, 0, none⟩) t.keys.length t.keys.length, .slice (some ⟨g2, 0, none⟩) t.aggs.length t.aggs.length, .slice (some ⟨g3, 0, none⟩) t.sorts.length t.sorts.length, .slice (some ⟨g4, 0, none⟩) t.kinds.length t.kinds.length], rfl, ?_, ?_⟩
  · refine ⟨_, _, _, _, _, rfl, ?_, ?_, ?_, ?_, ?_⟩
    · refine RS.mono liesE (B := w.heap.size + 1 + 1 + 1) ?_ (by omega)
      have R := RR0.out.mono liesE (show w.heap.size + 1 + 1 + 1 ≤ g0 by omega)
      repeat (first | with_reducible exact R | (with_reducible refine RS.set liesE ?_ ?_; rotate_left; omega))
    · refine RS.mono liesI (B := w.heap.size + 1 + 1 + 1) ?_ (by omega)
      have R := RR1.out.mono liesI (show w.heap.size + 1 + 1 + 1 ≤ g1 by omega)
      repeat (first | with_reducible exact R | (with_reducible refine RS.set liesI ?_ ?_; rotate_left; omega))
    · refine RS.mono liesPA (B := w.heap.size + 1 + 1 + 1) ?_ (by omega)
      have R := RR2.out.mono liesPA (show w.heap.size + 1 + 1 + 1 ≤ g2 by omega)
      repeat (first | with_reducible exact R | (with_reducible refine RS.set liesPA ?_ ?_; rotate_left; omega))
    · refine RS.mono liesSK (B := w.heap.size + 1 + 1 + 1) ?_ (by omega)
      have R := RR3.out.mono liesSK (show w.heap.size + 1 + 1 + 1 ≤ g3 by omega)
      repeat (first | with_reducible exact R | (with_reducible refine RS.set liesSK ?_ ?_; rotate_left; omega))
    · refine RS.mono liesI (B := w.heap.size + 1 + 1 + 1) ?_ (by omega)
      have R := RR4.out.mono liesI (show w.heap.size + 1 + 1 + 1 ≤ g4 by omega)
      repeat (first | with_reducible exact R | (with_reducible refine RS.set liesI ?_ ?_; rotate_left; omega))
  · clear o0 p0 r0 s0 o1 p1 r1 s1 o2 p2 r2 s2 o3 p3 r3 s3 o4 p4 r4 s4 o5 p5 r5 s5 o6 p6 r6 s6 o7 p7 r7 s7 o8 p8 r8 s8 o9 p9 r9 s9 o10 p10 r10 s10
    exact (by (go_light; repeat (first | with_reducible assumption | with_reducible exact Below.refl _ _ | (with_reducible refine Below.setCell ?_ ?_ _; rotate_left; (focus first | (simp; done) | (simp; omega) | omega)) | (with_reducible refine Below.alloc ?_ ?_ _; rotate_left; (focus first | (simp; done) | (simp; omega) | omega)) | with_reducible refine Below.drew ?_)))
end Go.Proofs.Ytoieiegjhjedoaa
