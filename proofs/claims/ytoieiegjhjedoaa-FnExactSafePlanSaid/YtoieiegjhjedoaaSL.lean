import Derived.Test.YtoieiegjhjedoaaSQ5
import Derived.Test.YtoieiegjhjedoaaST6
namespace Go.Proofs.Ytoieiegjhjedoaa
open Go.ChangeShapes Go.WideShapes Go.ChangeAt Go.RowKit
set_option linter.unusedVariables false
set_option linter.unusedSimpArgs false
set_option maxRecDepth 100000
def CL (B : Nat) (w : World) (cs : List Value) (x : List PN) : Prop := ∃ nv, cs = [nv] ∧ RS 11 CP B w nv x
theorem liesL : Lies 1 CL :=
  ⟨fun ⟨_, h, _⟩ => by rw [h]; rfl, fun ⟨kv, h, r⟩ hd => ⟨kv, h, r.mono liesP hd⟩, fun ⟨kv, h, r⟩ hb => ⟨kv, h, r.below liesP hb⟩, fun ⟨kv, h, r⟩ hc => ⟨kv, h, r.set liesP hc⟩⟩
set_option maxHeartbeats 4000000 in
theorem szL_e (t : (List PN)) (cs : List Value) (left : Int) (w : World) (h0 : 0 ≤ left) (hl : left ≤ 1048576) (hB : BL maxLen t) (hC : CL 0 w cs t) : Calls Try.prog 4 #[.agg cs.toArray, .int .i64 left] w fun e w' => SzR (BL 1048576 t) left e ∧ Below w.heap.size w w' := by
  obtain ⟨v0, rfl, r0⟩ := hC
  have R0 := hid r0
  obtain ⟨a0, q0, rfl, _⟩ := r0
  have bw0 := below_alloc w (.cells #[.slice a0 t.length q0] 24)
  go_enter Try.func4, Try.ntmps4
  go_wp2_with (go_at_call 9; fail)
  refine (szPNodeS_any a0 q0 t left _ (by omega) (by omega) hB (R0.out.below liesP bw0)).mono ?_
  rintro e w1 ⟨hS1, hb1⟩
  have bw1 : Below w.heap.size w w1 := bw0.trans (hb1.mono bw0.size)
  obtain ⟨hc1, hf1⟩ := bcell hb1
  rcases hS1 with rfl | ⟨m1, hm1, rfl, p1⟩
  · go_wp2
    go_ret
    exact ⟨.inl rfl, bw1⟩
  · have hn1 : ¬ (m1 : Int) < 0 := by omega
    go_wp2
    go_ret
    exact ⟨.inr ⟨m1, by omega, rfl, p1⟩, bw1⟩
set_option maxHeartbeats 16000000 in
theorem toL_e (t : (List PN)) (cs : List Value) (w : World) (hB : BL 1048576 t) (hC : CL 0 w cs t) :
    Calls Try.prog 6 #[.agg cs.toArray] w fun e w' => ∃ ds, e = .returned (.agg ds.toArray) ∧ CL w.heap.size w' ds t ∧ Below w.heap.size w w' := by
  obtain ⟨v0, rfl, r0⟩ := hC
  have R0 := hid r0
  obtain ⟨a0, q0, rfl, _⟩ := r0
  have bw : Below w.heap.size w (((w.alloc (.cells #[.slice a0 t.length q0] 24)).alloc (.cells #[.slice none 0 0] 29)).alloc (.cells #[.slice none 0 0] 29)) := ((below_alloc w _).alloc (by simp) _).alloc (by simp; omega) _
  have K0 := hid (blkA w [.slice a0 t.length q0] [.slice none 0 0] [.slice none 0 0] 24 29 29)
  have K1 := hid (blkB w [.slice a0 t.length q0] [.slice none 0 0] [.slice none 0 0] 24 29 29)
  have K2 := hid (blkC w [.slice a0 t.length q0] [.slice none 0 0] [.slice none 0 0] 24 29 29)
  have hz : w.heap.size + 1 + 1 < ((((w.alloc (.cells #[.slice a0 t.length q0] 24)).alloc (.cells #[.slice none 0 0] 29)).alloc (.cells #[.slice none 0 0] 29))).heap.size := by simp
  go_enter Try.func6, Try.ntmps6
  go_wp2_with (go_at_call 11; fail)
  refine (toPNodeS_any a0 q0 t _ hB (R0.out.below liesP bw)).mono ?_
  rintro e w1 ⟨rfl, hR, hb1⟩
  obtain ⟨g0, hg0⟩ : ∃ x, x = ((((w.alloc (.cells #[.slice a0 t.length q0] 24)).alloc (.cells #[.slice none 0 0] 29)).alloc (.cells #[.slice none 0 0] 29))).heap.size := ⟨_, rfl⟩
  rw [← hg0] at hR ⊢
  have hgb0 : w.heap.size + 1 + 1 < g0 := by omega
  replace bw : Below w.heap.size w w1 := bw.trans (hb1.mono bw.size)
  replace K0 := hid (K0.out.below hb1 (by omega))
  replace K1 := hid (K1.out.below hb1 (by omega))
  replace K2 := hid (K2.out.below hb1 (by omega))
  replace hz : w.heap.size + 1 + 1 < w1.heap.size := Nat.lt_of_lt_of_le hz hb1.size
  have RR0 := hid hR
  clear hR hg0
  clear hb1
  have o0 : w1.cell? ⟨w.heap.size + 1 + 1, 0, none⟩ = some (.slice none 0 0) := (K2.out 0 (by simp)).1
  have p0 := (K2.out 0 (by simp)).2
  have r0 : w1.cell? ⟨w.heap.size + 1, 0, none⟩ = some (.slice none 0 0) := (K1.out 0 (by simp)).1
  have s0 := (K1.out 0 (by simp)).2
  have hx1 : w.heap.size + 1 < w1.heap.size := by omega
  have hx0 : w.heap.size < w1.heap.size := by omega
  clear K0 K1 K2
  go_wp2
  refine bodyPost_ret (v := .agg #[.slice (some ⟨g0, 0, none⟩) t.length t.length]) (by simp [results, Try.results6, go_sem, hx0, hx1, hz, o0, p0, r0, s0]) rfl ⟨[.slice (some ⟨g0, 0, none⟩) t.length t.length], rfl, ?_, ?_⟩
  · refine ⟨_, rfl, ?_⟩
    · refine RS.mono liesP (B := w.heap.size + 1 + 1 + 1) ?_ (by omega)
      have R := RR0.out.mono liesP (show w.heap.size + 1 + 1 + 1 ≤ g0 by omega)
      repeat (first | with_reducible exact R | (with_reducible refine RS.set liesP ?_ ?_; rotate_left; omega))
  · clear o0 p0 r0 s0
    exact (by (go_light; repeat (first | with_reducible assumption | with_reducible exact Below.refl _ _ | (with_reducible refine Below.setCell ?_ ?_ _; rotate_left; (focus first | (simp; done) | (simp; omega) | omega)) | (with_reducible refine Below.alloc ?_ ?_ _; rotate_left; (focus first | (simp; done) | (simp; omega) | omega)) | with_reducible refine Below.drew ?_)))
set_option maxHeartbeats 16000000 in
theorem eqL_e (t : (List PN)) (cs ds : List Value) (w : World) (hB : BL 1048576 t) (hC : CL 0 w cs t) (hD : CL 0 w ds t) :
    Calls Try.prog 8 #[.agg cs.toArray, .agg ds.toArray] w fun e w' => e = .returned (.bool true) ∧ Below w.heap.size w w' := by
  obtain ⟨v0, rfl, r0⟩ := hC
  have R0 := hid r0
  obtain ⟨a0, q0, rfl, _⟩ := r0
  obtain ⟨xv0, rfl, xr0⟩ := hD
  have S0 := hid xr0
  obtain ⟨xa0, xq0, rfl, _⟩ := xr0
  have bw : Below w.heap.size w ((w.alloc (.cells #[.slice a0 t.length q0] 29)).alloc (.cells #[.slice xa0 t.length xq0] 29)) := (below_alloc w _).alloc (by simp) _
  have K0 := hid ((blk_new w [.slice a0 t.length q0] 29).below (below_alloc _ (.cells #[.slice xa0 t.length xq0] 29)) (by simp))
  have K1 : Hid (Blk ((w.alloc (.cells #[.slice a0 t.length q0] 29)).alloc (.cells #[.slice xa0 t.length xq0] 29)) (w.heap.size + 1) [.slice xa0 t.length xq0]) := blkD w [.slice a0 t.length q0] [.slice xa0 t.length xq0] 29 29
  have hz : w.heap.size + 1 < (((w.alloc (.cells #[.slice a0 t.length q0] 29)).alloc (.cells #[.slice xa0 t.length xq0] 29))).heap.size := by simp
  go_enter Try.func8, Try.ntmps8
  go_wp2_with (go_at_call 16; fail)
  refine (eqPNodeS_same _ _ t _ hB (R0.out.below liesP bw) (S0.out.below liesP bw)).mono ?_
  rintro e w1 ⟨rfl, hb1⟩
  replace bw : Below w.heap.size w w1 := bw.trans (hb1.mono bw.size)
  replace K0 := hid (K0.out.below hb1 (by omega))
  replace K1 := hid (K1.out.below hb1 (by omega))
  replace hz : w.heap.size + 1 < w1.heap.size := Nat.lt_of_lt_of_le hz hb1.size
  clear hb1
  clear K0 K1
  go_wp2
  go_ret
  exact ⟨rfl, bw⟩
end Go.Proofs.Ytoieiegjhjedoaa
