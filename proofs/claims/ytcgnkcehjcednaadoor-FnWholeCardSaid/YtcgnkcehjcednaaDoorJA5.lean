import Derived.Test.YtcgnkcehjcednaaDoorJK4
import Derived.Test.YtcgnkcehjcednaaDoorJA4
namespace Go.Proofs.YtcgnkcehjcednaaDoor
open Go.ChangeShapes Go.WideShapes Go.ChangeAt Go.RowKit Go.Shelf
set_option linter.unusedVariables false
set_option linter.unusedSimpArgs false
set_option maxRecDepth 100000
namespace Ar
theorem opk_num (k op : Int) (hk : k = 1 ∨ k = 2) (h1 : 1 ≤ op) (h5 : op ≤ 5) : Ok.opk op k k = k := by
  have ho : op = 1 ∨ op = 2 ∨ op = 3 ∨ op = 4 ∨ op = 5 := by omega
  rcases hk with rfl | rfl <;> rcases ho with rfl | rfl | rfl | rfl | rfl <;> decide
theorem vok_num (k a : Int) (hk : (k = 1 ∧ inI a) ∨ (k = 2 ∧ inD a)) : vok k a ⟨#[]⟩ = true := by
  rcases hk with ⟨rfl, h⟩ | ⟨rfl, h⟩
  · simp [vok]
  · unfold inD at h
    simp [vok]
    omega
/-- Two numbers of one kind, and an operator that is worked out here. -/
def Nums (k op a b : Int) : Prop := (k = 1 ∧ 1 ≤ op ∧ op ≤ 5 ∧ inI a ∧ inI b) ∨ (k = 2 ∧ (op = 1 ∨ op = 2 ∨ op = 5) ∧ inD a ∧ inD b)
theorem arith_any (k op a b : Int) (w : World) (h : Nums k op a b) :
    Calls Tryd.prog 83 #[.int .i64 op, .agg #[.int .i64 k, .int .i64 a, .string ⟨#[]⟩], .agg #[.int .i64 k, .int .i64 b, .string ⟨#[]⟩]] w fun e w' => e = .returned (binV (binR k op a b)) ∧ Below w.heap.size w w' := by
  rcases h with ⟨rfl, h1, h5, ba, bb⟩ | ⟨rfl, ho, ba, bb⟩
  · exact arith_int op a b w h1 h5 ba bb
  · exact arith_dec op a b w ho ba bb
set_option maxHeartbeats 4000000 in
theorem binary_impl (k op a b : Int) (w : World) (hN : Nums k op a b) (hT : Tabs w) :
    Calls Tryd.prog 31 #[.int .i64 op, .agg #[.int .i64 k, .int .i64 a, .string ⟨#[]⟩], .agg #[.int .i64 k, .int .i64 b, .string ⟨#[]⟩]] w fun e w' => e = .returned (binV (binR k op a b)) ∧ Below w.heap.size w w' := by
  have bw0 := bw_bwB w k a b
  have hk : k = 1 ∨ k = 2 := by unfold Nums at hN; omega
  have h1 : 1 ≤ op := by unfold Nums at hN; omega
  have h5 : op ≤ 5 := by unfold Nums at hN; omega
  have HV1 : Hid (vok k a ⟨#[]⟩ = true) := vok_num k a (by unfold Nums at hN; rcases hN with ⟨e, _, _, h, _⟩ | ⟨e, _, h, _⟩; exact .inl ⟨e, h⟩; exact .inr ⟨e, h⟩)
  have HV2 : Hid (vok k b ⟨#[]⟩ = true) := vok_num k b (by unfold Nums at hN; rcases hN with ⟨e, _, _, _, h⟩ | ⟨e, _, _, h⟩; exact .inl ⟨e, h⟩; exact .inr ⟨e, h⟩)
  have HK : Hid (Ok.opk op k k = k) := opk_num k op hk h1 h5
  have HN : Hid (Nums k op a b) := hN
  obtain ⟨⟨y1, y2, y3⟩, hy⟩ : ∃ r, binR k op a b = r := ⟨_, rfl⟩
  have HY : Hid (binR k op a b = (y1, y2, y3)) := hy
  have d1 : decide (1 ≤ op) = true := by simpa using h1
  have d2 : decide (op ≤ 15) = true := by simp; omega
  have k0 : (k == 0) = false := by simp; omega
  have km : (k == -1) = false := by simp; omega
  have o14 : (op == 14) = false := by simp; omega
  have o15 : (op == 15) = false := by simp; omega
  have o13 : (op == 13) = false := by simp; omega
  rw [hy]
  clear hy hN hk
  go_enter Tryd.func31, Tryd.ntmps31
  go_wp2_with (go_at_call 77; refine (within_any _ _ _ _).mono ?_; rintro e w' ⟨rfl, rfl⟩)
  refine (vok_impl k a ⟨#[]⟩ _ (by decide) (tabs_below hT bw0)).mono ?_
  rw [HV1.out]
  rintro e w1 ⟨rfl, hb⟩
  obtain ⟨hc, hf⟩ := bcell hb
  have hx1 : w.heap.size + 1 + 1 < w1.heap.size := by have := hb.size; simp at this; omega
  have hz1 : w.heap.size + 1 < w1.heap.size := by omega
  have hy1 : w.heap.size < w1.heap.size := by omega
  have bw1 := chain bw0 hb
  go_wp2_with fail
  refine (vok_impl k b ⟨#[]⟩ _ (by decide) (tabs_below hT bw1)).mono ?_
  rw [HV2.out]
  rintro e w2 ⟨rfl, hb2⟩
  obtain ⟨hc2, hf2⟩ := bcell hb2
  have hx2 : w.heap.size + 1 + 1 < w2.heap.size := by have := hb2.size; omega
  have hz2 : w.heap.size + 1 < w2.heap.size := by omega
  have hy2 : w.heap.size < w2.heap.size := by omega
  have bw2 := chain bw1 hb2
  go_wp2_with fail
  refine (Ok.opKind_impl _ _ _ _).mono ?_
  rw [HK.out]
  rintro e w3 ⟨rfl, hb3⟩
  obtain ⟨hc3, hf3⟩ := bcell hb3
  have hx3 : w.heap.size + 1 + 1 < w3.heap.size := by have := hb3.size; omega
  have hz3 : w.heap.size + 1 < w3.heap.size := by omega
  have hy3 : w.heap.size < w3.heap.size := by omega
  have bw3 := chain bw2 hb3
  go_wp2_with fail
  refine (arith_any k op a b _ HN.out).mono ?_
  rw [HY.out]
  simp only [binV]
  rintro e w4 ⟨rfl, hb4⟩
  obtain ⟨hc4, hf4⟩ := bcell hb4
  have hx4 : w.heap.size + 1 + 1 < w4.heap.size := by have := hb4.size; omega
  have bw4 := chain bw3 hb4
  go_wp2
  refine bodyPost_ret (v := binV (y1, y2, y3)) (by simp [results, Tryd.results31, go_sem, binV, hc, hf, hx1, hc2, hf2, hx2, hc3, hf3, hx3, hc4, hf4, hx4]) rfl ⟨rfl, ?_⟩
  refine bw4.trans ?_
  (go_light; repeat (first | with_reducible exact Below.refl _ _ | (with_reducible refine Below.setCell ?_ ?_ _; rotate_left; (focus first | (simp; done) | (simp; omega) | omega)) | (with_reducible refine Below.alloc ?_ ?_ _; rotate_left; (focus first | (simp; done) | (simp; omega) | omega)) | with_reducible refine Below.drew ?_))
end Ar
end Go.Proofs.YtcgnkcehjcednaaDoor
