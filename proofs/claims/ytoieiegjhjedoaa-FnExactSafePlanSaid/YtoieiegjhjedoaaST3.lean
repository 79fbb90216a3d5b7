import Derived.Test.YtoieiegjhjedoaaST2
namespace Go.Proofs.Ytoieiegjhjedoaa
open Go.ChangeShapes Go.WideShapes Go.ChangeAt Go.RowKit
set_option linter.unusedVariables false
set_option linter.unusedSimpArgs false
set_option maxRecDepth 100000
set_option maxHeartbeats 16000000 in
theorem toX_e (t : XN) (cs : List Value) (w : World) (hB : BX 1048576 t) (hC : CX 0 w cs t) :
    Calls Try.prog 65 #[.agg cs.toArray] w fun e w' => ∃ ds, e = .returned (.agg ds.toArray) ∧ CX w.heap.size w' ds t ∧ Below w.heap.size w w' := by
  obtain ⟨v0, rfl, r0⟩ := hC
  have R0 := hid r0
  obtain ⟨a0, q0, rfl, _⟩ := r0
  have bw : Below w.heap.size w (((w.alloc (.cells #[.int .i64 t.op, .int .i64 t.kind, .int .i64 t.a, .int .i64 t.b, .int .i64 t.vk, .int .i64 t.vn, .string t.vs, .slice a0 t.kids.length q0] 115)).alloc (.cells #[.int .i64 0, .int .i64 0, .int .i64 0, .int .i64 0, .int .i64 0, .int .i64 0, .string ⟨#[]⟩, .slice none 0 0] 66)).alloc (.cells #[.int .i64 t.op, .int .i64 t.kind, .int .i64 t.a, .int .i64 t.b, .int .i64 0, .int .i64 0, .string ⟨#[]⟩, .slice none 0 0] 66)) := ((below_alloc w _).alloc (by simp) _).alloc (by simp; omega) _
  have K0 := hid (blkA w [.int .i64 t.op, .int .i64 t.kind, .int .i64 t.a, .int .i64 t.b, .int .i64 t.vk, .int .i64 t.vn, .string t.vs, .slice a0 t.kids.length q0] [.int .i64 0, .int .i64 0, .int .i64 0, .int .i64 0, .int .i64 0, .int .i64 0, .string ⟨#[]⟩, .slice none 0 0] [.int .i64 t.op, .int .i64 t.kind, .int .i64 t.a, .int .i64 t.b, .int .i64 0, .int .i64 0, .string ⟨#[]⟩, .slice none 0 0] 115 66 66)
  have K1 := hid (blkB w [.int .i64 t.op, .int .i64 t.kind, .int .i64 t.a, .int .i64 t.b, .int .i64 t.vk, .int .i64 t.vn, .string t.vs, .slice a0 t.kids.length q0] [.int .i64 0, .int .i64 0, .int .i64 0, .int .i64 0, .int .i64 0, .int .i64 0, .string ⟨#[]⟩, .slice none 0 0] [.int .i64 t.op, .int .i64 t.kind, .int .i64 t.a, .int .i64 t.b, .int .i64 0, .int .i64 0, .string ⟨#[]⟩, .slice none 0 0] 115 66 66)
  have K2 := hid (blkC w [.int .i64 t.op, .int .i64 t.kind, .int .i64 t.a, .int .i64 t.b, .int .i64 t.vk, .int .i64 t.vn, .string t.vs, .slice a0 t.kids.length q0] [.int .i64 0, .int .i64 0, .int .i64 0, .int .i64 0, .int .i64 0, .int .i64 0, .string ⟨#[]⟩, .slice none 0 0] [.int .i64 t.op, .int .i64 t.kind, .int .i64 t.a, .int .i64 t.b, .int .i64 0, .int .i64 0, .string ⟨#[]⟩, .slice none 0 0] 115 66 66)
  have hz : w.heap.size + 1 + 1 < ((((w.alloc (.cells #[.int .i64 t.op, .int .i64 t.kind, .int .i64 t.a, .int .i64 t.b, .int .i64 t.vk, .int .i64 t.vn, .string t.vs, .slice a0 t.kids.length q0] 115)).alloc (.cells #[.int .i64 0, .int .i64 0, .int .i64 0, .int .i64 0, .int .i64 0, .int .i64 0, .string ⟨#[]⟩, .slice none 0 0] 66)).alloc (.cells #[.int .i64 t.op, .int .i64 t.kind, .int .i64 t.a, .int .i64 t.b, .int .i64 0, .int .i64 0, .string ⟨#[]⟩, .slice none 0 0] 66))).heap.size := by simp
  go_enter Try.func65, Try.ntmps65
  go_wp2_with (go_at_call 68; fail)
  refine (toV_any t.vk t.vn t.vs _).mono ?_
  rintro e w1 ⟨rfl, hb1⟩
  replace bw : Below w.heap.size w w1 := bw.trans (hb1.mono bw.size)
  replace K0 := hid (K0.out.below hb1 (by omega))
  replace K1 := hid (K1.out.below hb1 (by omega))
  replace K2 := hid (K2.out.below hb1 (by omega))
  replace hz : w.heap.size + 1 + 1 < w1.heap.size := Nat.lt_of_lt_of_le hz hb1.size
  clear hb1
  have o4 : w1.cell? ⟨w.heap.size + 1 + 1, 4, none⟩ = some (.int .i64 0) := (K2.out 4 (by simp)).1
  have p4 := (K2.out 4 (by simp)).2
  have o5 : w1.cell? ⟨w.heap.size + 1 + 1, 5, none⟩ = some (.int .i64 0) := (K2.out 5 (by simp)).1
  have p5 := (K2.out 5 (by simp)).2
  have o6 : w1.cell? ⟨w.heap.size + 1 + 1, 6, none⟩ = some (.string ⟨#[]⟩) := (K2.out 6 (by simp)).1
  have p6 := (K2.out 6 (by simp)).2
  have b7 : w1.cell? ⟨w.heap.size, 7, none⟩ = some (.slice a0 t.kids.length q0) := (K0.out 7 (by simp)).1
  replace K0 := hid (K0.out.other (c := w.heap.size + 1 + 1) (j := 4) (u := .int .i64 t.vk) (by omega))
  replace K1 := hid (K1.out.other (c := w.heap.size + 1 + 1) (j := 4) (u := .int .i64 t.vk) (by omega))
  replace K2 := hid (K2.out.set 4 (.int .i64 t.vk))
  replace bw := bw.setCell (show w.heap.size ≤ (⟨w.heap.size + 1 + 1, 4, none⟩ : Addr).block by simp; omega) (.int .i64 t.vk)
  replace K0 := hid (K0.out.other (c := w.heap.size + 1 + 1) (j := 5) (u := .int .i64 t.vn) (by omega))
  replace K1 := hid (K1.out.other (c := w.heap.size + 1 + 1) (j := 5) (u := .int .i64 t.vn) (by omega))
  replace K2 := hid (K2.out.set 5 (.int .i64 t.vn))
  replace bw := bw.setCell (show w.heap.size ≤ (⟨w.heap.size + 1 + 1, 5, none⟩ : Addr).block by simp; omega) (.int .i64 t.vn)
  replace K0 := hid (K0.out.other (c := w.heap.size + 1 + 1) (j := 6) (u := .string t.vs) (by omega))
  replace K1 := hid (K1.out.other (c := w.heap.size + 1 + 1) (j := 6) (u := .string t.vs) (by omega))
  replace K2 := hid (K2.out.set 6 (.string t.vs))
  replace bw := bw.setCell (show w.heap.size ≤ (⟨w.heap.size + 1 + 1, 6, none⟩ : Addr).block by simp; omega) (.string t.vs)
  replace hz : w.heap.size + 1 + 1 < ((((w1.setCell ⟨w.heap.size + 1 + 1, 4, none⟩ (.int .i64 t.vk)).setCell ⟨w.heap.size + 1 + 1, 5, none⟩ (.int .i64 t.vn)).setCell ⟨w.heap.size + 1 + 1, 6, none⟩ (.string t.vs))).heap.size := by simpa using hz
  go_wp2_with (go_at_call 36; fail)
  refine (toIntS_any a0 q0 t.kids _ hB.2 (R0.out.below liesI bw)).mono ?_
  rintro e w2 ⟨rfl, hR, hb2⟩
  obtain ⟨g0, hg0⟩ : ∃ x, x = ((((w1.setCell ⟨w.heap.size + 1 + 1, 4, none⟩ (.int .i64 t.vk)).setCell ⟨w.heap.size + 1 + 1, 5, none⟩ (.int .i64 t.vn)).setCell ⟨w.heap.size + 1 + 1, 6, none⟩ (.string t.vs))).heap.size := ⟨_, rfl⟩
  rw [← hg0] at hR ⊢
  have hgb0 : w.heap.size + 1 + 1 < g0 := by omega
  replace bw : Below w.heap.size w w2 := bw.trans (hb2.mono bw.size)
  replace K0 := hid (K0.out.below hb2 (by omega))
  replace K1 := hid (K1.out.below hb2 (by omega))
  replace K2 := hid (K2.out.below hb2 (by omega))
  replace hz : w.heap.size + 1 + 1 < w2.heap.size := Nat.lt_of_lt_of_le hz hb2.size
  have RR0 := hid hR
  clear hR hg0
  clear hb2
  have o0 : w2.cell? ⟨w.heap.size + 1 + 1, 0, none⟩ = some (.int .i64 t.op) := (K2.out 0 (by simp)).1
  have p0 := (K2.out 0 (by simp)).2
  have r0 : w2.cell? ⟨w.heap.size + 1, 0, none⟩ = some (.int .i64 0) := (K1.out 0 (by simp)).1
  have s0 := (K1.out 0 (by simp)).2
  have o1 : w2.cell? ⟨w.heap.size + 1 + 1, 1, none⟩ = some (.int .i64 t.kind) := (K2.out 1 (by simp)).1
  have p1 := (K2.out 1 (by simp)).2
  have r1 : w2.cell? ⟨w.heap.size + 1, 1, none⟩ = some (.int .i64 0) := (K1.out 1 (by simp)).1
  have s1 := (K1.out 1 (by simp)).2
  have o2 : w2.cell? ⟨w.heap.size + 1 + 1, 2, none⟩ = some (.int .i64 t.a) := (K2.out 2 (by simp)).1
  have p2 := (K2.out 2 (by simp)).2
  have r2 : w2.cell? ⟨w.heap.size + 1, 2, none⟩ = some (.int .i64 0) := (K1.out 2 (by simp)).1
  have s2 := (K1.out 2 (by simp)).2
  have o3 : w2.cell? ⟨w.heap.size + 1 + 1, 3, none⟩ = some (.int .i64 t.b) := (K2.out 3 (by simp)).1
  have p3 := (K2.out 3 (by simp)).2
  have r3 : w2.cell? ⟨w.heap.size + 1, 3, none⟩ = some (.int .i64 0) := (K1.out 3 (by simp)).1
  have s3 := (K1.out 3 (by simp)).2
  have o4 : w2.cell? ⟨w.heap.size + 1 + 1, 4, none⟩ = some (.int .i64 t.vk) := (K2.out 4 (by simp)).1
  have p4 := (K2.out 4 (by simp)).2
  have r4 : w2.cell? ⟨w.heap.size + 1, 4, none⟩ = some (.int .i64 0) := (K1.out 4 (by simp)).1
  have s4 := (K1.out 4 (by simp)).2
  have o5 : w2.cell? ⟨w.heap.size + 1 + 1, 5, none⟩ = some (.int .i64 t.vn) := (K2.out 5 (by simp)).1
  have p5 := (K2.out 5 (by simp)).2
  have r5 : w2.cell? ⟨w.heap.size + 1, 5, none⟩ = some (.int .i64 0) := (K1.out 5 (by simp)).1
  have s5 := (K1.out 5 (by simp)).2
  have o6 : w2.cell? ⟨w.heap.size + 1 + 1, 6, none⟩ = some (.string t.vs) := (K2.out 6 (by simp)).1
  have p6 := (K2.out 6 (by simp)).2
  have r6 : w2.cell? ⟨w.heap.size + 1, 6, none⟩ = some (.string ⟨#[]⟩) := (K1.out 6 (by simp)).1
  have s6 := (K1.out 6 (by simp)).2
  have o7 : w2.cell? ⟨w.heap.size + 1 + 1, 7, none⟩ = some (.slice none 0 0) := (K2.out 7 (by simp)).1
  have p7 := (K2.out 7 (by simp)).2
  have r7 : w2.cell? ⟨w.heap.size + 1, 7, none⟩ = some (.slice none 0 0) := (K1.out 7 (by simp)).1
  have s7 := (K1.out 7 (by simp)).2
  have hx1 : w.heap.size + 1 < w2.heap.size := by omega
  have hx0 : w.heap.size < w2.heap.size := by omega
  clear K0 K1 K2
  go_wp2
  refine bodyPost_ret (v := .agg #[.int .i64 t.op, .int .i64 t.kind, .int .i64 t.a, .int .i64 t.b, .int .i64 t.vk, .int .i64 t.vn, .string t.vs, .slice (some ⟨g0, 0, none⟩) t.kids.length t.kids.length]) (by simp [results, Try.results65, go_sem, hx0, hx1, hz, o0, p0, r0, s0, o1, p1, r1, s1, o2, p2, r2, s2, o3, p3, r3, s3, o4, p4, r4, s4, o5, p5, r5, s5, o6, p6, r6, s6, o7, p7, r7, s7]) rfl ⟨[.int .i64 t.op, .int .i64 t.kind, .int .i64 t.a, .int .i64 t.b, .int .i64 t.vk, .int .i64 t.vn, .string t.vs, .slice (some ⟨g0, 0, none⟩) t.kids.length t.kids.length], rfl, ?_, ?_⟩
  · refine ⟨_, rfl, ?_⟩
    · refine RS.mono liesI (B := w.heap.size + 1 + 1 + 1) ?_ (by omega)
      have R := RR0.out.mono liesI (show w.heap.size + 1 + 1 + 1 ≤ g0 by omega)
      repeat (first | with_reducible exact R | (with_reducible refine RS.set liesI ?_ ?_; rotate_left; omega))
  · clear o0 p0 r0 s0 o1 p1 r1 s1 o2 p2 r2 s2 o3 p3 r3 s3 o4 p4 r4 s4 o5 p5 r5 s5 o6 p6 r6 s6 o7 p7 r7 s7
    exact (by (go_light; repeat (first | with_reducible assumption | with_reducible exact Below.refl _ _ | (with_reducible refine Below.setCell ?_ ?_ _; rotate_left; (focus first | (simp; done) | (simp; omega) | omega)) | (with_reducible refine Below.alloc ?_ ?_ _; rotate_left; (focus first | (simp; done) | (simp; omega) | omega)) | with_reducible refine Below.drew ?_)))
end Go.Proofs.Ytoieiegjhjedoaa
