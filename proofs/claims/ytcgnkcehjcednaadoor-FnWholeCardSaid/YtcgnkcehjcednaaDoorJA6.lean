import Derived.Test.YtcgnkcehjcednaaDoorJW4
import Derived.Test.YtcgnkcehjcednaaDoorJA5
namespace Go.Proofs.YtcgnkcehjcednaaDoor
open Go.ChangeShapes Go.WideShapes Go.ChangeAt Go.RowKit Go.Shelf
set_option linter.unusedVariables false
set_option linter.unusedSimpArgs false
set_option maxRecDepth 100000
namespace Ar
theorem toDec_dec (n : Int) (w : World) : Calls Tryd.prog 118 #[.agg #[.int .i64 2, .int .i64 n, .string ⟨#[]⟩]] w fun e w' => e = .returned (.tuple #[.int .i64 n, .bool true]) ∧ Below w.heap.size w w' := by
  go_enter Tryd.func118, Tryd.ntmps118
  go_wp2
  go_ret2
  exact ⟨rfl, below_alloc _ _⟩
set_option maxHeartbeats 4000000 in
theorem decs_any (op a b : Int) (w : World) (ho : op = 1 ∨ op = 5) (ba : inD a) (bb : inD b) :
    Calls Tryd.prog 76 #[.int .i64 op, .agg #[.int .i64 2, .int .i64 a, .string ⟨#[]⟩], .agg #[.int .i64 2, .int .i64 b, .string ⟨#[]⟩]] w fun e w' => e = .returned (.tuple #[.int .i64 (dR op a b).1, .int .i64 (dR op a b).2]) ∧ Below w.heap.size w w' := by
  have bw0 : Below w.heap.size w ((w.alloc (.cells #[.int .i64 2, .int .i64 a, .string ⟨#[]⟩] 26)).alloc (.cells #[.int .i64 2, .int .i64 b, .string ⟨#[]⟩] 26)) := (below_alloc w _).alloc (by simp) _
  have B1 := ba
  have B2 := bb
  unfold inD at B1 B2
  rcases ho with rfl | rfl
  · by_cases hr : -999999999999999999 ≤ a + b ∧ a + b ≤ 999999999999999999
    · have HR : Hid (dR 1 a b = (a + b, 0)) := (by simp only [dR, if_true, bd]; rw [if_pos hr] : dR 1 a b = (a + b, 0))
      obtain ⟨r1, r2⟩ := hr
      rw [HR.out]
      go_enter Tryd.func76, Tryd.ntmps76
      go_wp2_with fail
      refine (toDec_dec a _).mono ?_
      rintro e w1 ⟨rfl, hb⟩
      obtain ⟨hc, hf⟩ := bcell hb
      have hz1 : w.heap.size + 1 < w1.heap.size := by have := hb.size; simp at this; omega
      have bw1 := chain bw0 hb
      go_wp2_with fail
      refine (toDec_dec b _).mono ?_
      rintro e w2 ⟨rfl, hb2⟩
      have bw2 := chain bw1 hb2
      go_wp2
      go_ret2
      exact ⟨rfl, bw2⟩
    · have HR : Hid (dR 1 a b = (0, 13)) := (by simp only [dR, if_true, bd]; rw [if_neg hr] : dR 1 a b = (0, 13))
      rw [HR.out]
      by_cases hh : 999999999999999999 < a + b
      · clear hr
        go_enter Tryd.func76, Tryd.ntmps76
        go_wp2_with fail
        refine (toDec_dec a _).mono ?_
        rintro e w1 ⟨rfl, hb⟩
        obtain ⟨hc, hf⟩ := bcell hb
        have hz1 : w.heap.size + 1 < w1.heap.size := by have := hb.size; simp at this; omega
        have bw1 := chain bw0 hb
        go_wp2_with fail
        refine (toDec_dec b _).mono ?_
        rintro e w2 ⟨rfl, hb2⟩
        have bw2 := chain bw1 hb2
        go_wp2
        go_ret2
        exact ⟨rfl, bw2⟩
      · have hl : a + b < -999999999999999999 := by omega
        clear hr
        go_enter Tryd.func76, Tryd.ntmps76
        go_wp2_with fail
        refine (toDec_dec a _).mono ?_
        rintro e w1 ⟨rfl, hb⟩
        obtain ⟨hc, hf⟩ := bcell hb
        have hz1 : w.heap.size + 1 < w1.heap.size := by have := hb.size; simp at this; omega
        have bw1 := chain bw0 hb
        go_wp2_with fail
        refine (toDec_dec b _).mono ?_
        rintro e w2 ⟨rfl, hb2⟩
        have bw2 := chain bw1 hb2
        go_wp2
        go_ret2
        exact ⟨rfl, bw2⟩
  · by_cases b0 : b = 0
    · subst b0
      have HR : Hid (dR 5 a 0 = (0, 14)) := (by simp [dR] : dR 5 a 0 = (0, 14))
      rw [HR.out]
      go_enter Tryd.func76, Tryd.ntmps76
      go_wp2_with fail
      refine (toDec_dec a _).mono ?_
      rintro e w1 ⟨rfl, hb⟩
      obtain ⟨hc, hf⟩ := bcell hb
      have hz1 : w.heap.size + 1 < w1.heap.size := by have := hb.size; simp at this; omega
      have bw1 := chain bw0 hb
      go_wp2_with fail
      refine (toDec_dec 0 _).mono ?_
      rintro e w2 ⟨rfl, hb2⟩
      have bw2 := chain bw1 hb2
      go_wp2
      go_ret2
      exact ⟨rfl, bw2⟩
    · have e0 : (b == 0) = false := by simpa using b0
      obtain ⟨x, hx⟩ : ∃ x, a.tmod b = x := ⟨_, rfl⟩
      have HR : Hid (dR 5 a b = (x, 0)) := (by simp [dR, b0, hx] : dR 5 a b = (x, 0))
      have HB : inD x := by rw [← hx]; exact tmod_le ba
      unfold inD at HB
      obtain ⟨x1, x2⟩ := HB
      have hw : wrap64 (a.tmod b) = x := by rw [hx]; unfold wrap64; omega
      rw [HR.out]
      go_enter Tryd.func76, Tryd.ntmps76
      go_wp2_with fail
      refine (toDec_dec a _).mono ?_
      rintro e w1 ⟨rfl, hb⟩
      obtain ⟨hc, hf⟩ := bcell hb
      have hz1 : w.heap.size + 1 < w1.heap.size := by have := hb.size; simp at this; omega
      have bw1 := chain bw0 hb
      go_wp2_with fail
      refine (toDec_dec b _).mono ?_
      rintro e w2 ⟨rfl, hb2⟩
      have bw2 := chain bw1 hb2
      go_wp2
      go_ret2
      exact ⟨rfl, bw2⟩
set_option maxHeartbeats 4000000 in
theorem binary_spec (k op a b : Int) (w : World) (hN : Nums k op a b) (ho : op = 1 ∨ op = 4 ∨ op = 5) :
    Calls Tryd.prog 30 #[.int .i64 op, .agg #[.int .i64 k, .int .i64 a, .string ⟨#[]⟩], .agg #[.int .i64 k, .int .i64 b, .string ⟨#[]⟩]] w fun e w' => e = .returned (binV (binR k op a b)) ∧ Below w.heap.size w w' := by
  have bw0 := bw_bwB w k a b
  have hk : k = 1 ∨ k = 2 := by unfold Nums at hN; omega
  have h1 : 1 ≤ op := by omega
  have h5 : op ≤ 5 := by omega
  have HV1 : Hid (vok k a ⟨#[]⟩ = true) := vok_num k a (by unfold Nums at hN; rcases hN with ⟨e, _, _, h, _⟩ | ⟨e, _, h, _⟩; exact .inl ⟨e, h⟩; exact .inr ⟨e, h⟩)
  have HV2 : Hid (vok k b ⟨#[]⟩ = true) := vok_num k b (by unfold Nums at hN; rcases hN with ⟨e, _, _, _, h⟩ | ⟨e, _, _, h⟩; exact .inl ⟨e, h⟩; exact .inr ⟨e, h⟩)
  have HK : Hid (Ok.opk op k k = k) := opk_num k op hk h1 h5
  have o14 : (op == 14) = false := by simp; omega
  have o15 : (op == 15) = false := by simp; omega
  have o13 : (op == 13) = false := by simp; omega
  have o6 : (op == 6) = false := by simp; omega
  have o7 : ¬ 7 ≤ op := by omega
  have o1 : ¬ op < 1 := by omega
  have o2 : ¬ 15 < op := by omega
  rcases hN with ⟨rfl, _, _, ba, bb⟩ | ⟨rfl, ho', ba, bb⟩
  · obtain ⟨⟨x, c⟩, hx⟩ : ∃ r, iR op a b = r := ⟨_, rfl⟩
    have HX : Hid (iR op a b = (x, c)) := hx
    have HY0 : Hid (binR 1 op a b = nR 1 x c) := (by simp only [binR, if_true, hx] : binR 1 op a b = nR 1 x c)
    rw [HY0.out]
    clear hx HY0 hk
    by_cases hc0 : c = 0
    · subst hc0
      rw [show nR 1 x 0 = (1, x, 0) by simp [nR]]
      go_enter Tryd.func30, Tryd.ntmps30
      go_wp2_with fail
      refine (vok_spec 1 a ⟨#[]⟩ _ (by decide)).mono ?_
      rw [HV1.out]
      rintro e w1 ⟨rfl, hb⟩
      obtain ⟨hc, hf⟩ := bcell hb
      have hx1 : w.heap.size + 1 + 1 < w1.heap.size := by have := hb.size; simp at this; omega
      have hz1 : w.heap.size + 1 < w1.heap.size := by omega
      have hy1 : w.heap.size < w1.heap.size := by omega
      have bw1 := chain bw0 hb
      go_wp2_with fail
      refine (vok_spec 1 b ⟨#[]⟩ _ (by decide)).mono ?_
      rw [HV2.out]
      rintro e w2 ⟨rfl, hb2⟩
      obtain ⟨hc2, hf2⟩ := bcell hb2
      have hx2 : w.heap.size + 1 + 1 < w2.heap.size := by have := hb2.size; omega
      have hz2 : w.heap.size + 1 < w2.heap.size := by omega
      have hy2 : w.heap.size < w2.heap.size := by omega
      have bw2 := chain bw1 hb2
      go_wp2_with (go_at_call 70; refine (Ok.opKind_spec _ _ _ _).mono ?_; rw [HK.out]; rintro e w' ⟨rfl, rfl⟩)
      go_wp2_with (go_at_call 75; refine (l01Ints_any op a b _ ho ba bb).mono ?_; rw [HX.out]; rintro e w' ⟨rfl, rfl⟩)
      refine bodyPost_ret (v := binV (1, x, 0)) (by simp [results, Tryd.results30, go_sem, binV, hc, hf, hx1, hc2, hf2, hx2]) rfl ⟨rfl, ?_⟩
      refine bw2.trans ?_
      (go_light; repeat (first | with_reducible exact Below.refl _ _ | (with_reducible refine Below.setCell ?_ ?_ _; rotate_left; (focus first | (simp; done) | (simp; omega) | omega)) | (with_reducible refine Below.alloc ?_ ?_ _; rotate_left; (focus first | (simp; done) | (simp; omega) | omega)) | with_reducible refine Below.drew ?_))
    · have ec : (c != 0) = true := by simpa using hc0
      rw [show nR 1 x c = (0, 0, c) by simp [nR, hc0]]
      clear hc0
      go_enter Tryd.func30, Tryd.ntmps30
      go_wp2_with fail
      refine (vok_spec 1 a ⟨#[]⟩ _ (by decide)).mono ?_
      rw [HV1.out]
      rintro e w1 ⟨rfl, hb⟩
      obtain ⟨hc, hf⟩ := bcell hb
      have hx1 : w.heap.size + 1 + 1 < w1.heap.size := by have := hb.size; simp at this; omega
      have hz1 : w.heap.size + 1 < w1.heap.size := by omega
      have hy1 : w.heap.size < w1.heap.size := by omega
      have bw1 := chain bw0 hb
      go_wp2_with fail
      refine (vok_spec 1 b ⟨#[]⟩ _ (by decide)).mono ?_
      rw [HV2.out]
      rintro e w2 ⟨rfl, hb2⟩
      obtain ⟨hc2, hf2⟩ := bcell hb2
      have hx2 : w.heap.size + 1 + 1 < w2.heap.size := by have := hb2.size; omega
      have hz2 : w.heap.size + 1 < w2.heap.size := by omega
      have hy2 : w.heap.size < w2.heap.size := by omega
      have bw2 := chain bw1 hb2
      go_wp2_with (go_at_call 70; refine (Ok.opKind_spec _ _ _ _).mono ?_; rw [HK.out]; rintro e w' ⟨rfl, rfl⟩)
      go_wp2_with (go_at_call 75; refine (l01Ints_any op a b _ ho ba bb).mono ?_; rw [HX.out]; rintro e w' ⟨rfl, rfl⟩)
      refine bodyPost_ret (v := binV (0, 0, c)) (by simp [results, Tryd.results30, go_sem, binV, hc, hf, hx1, hc2, hf2, hx2]) rfl ⟨rfl, ?_⟩
      refine bw2.trans ?_
      (go_light; repeat (first | with_reducible exact Below.refl _ _ | (with_reducible refine Below.setCell ?_ ?_ _; rotate_left; (focus first | (simp; done) | (simp; omega) | omega)) | (with_reducible refine Below.alloc ?_ ?_ _; rotate_left; (focus first | (simp; done) | (simp; omega) | omega)) | with_reducible refine Below.drew ?_))
  · obtain ⟨⟨x, c⟩, hx⟩ : ∃ r, dR op a b = r := ⟨_, rfl⟩
    have HX : Hid (dR op a b = (x, c)) := hx
    have HY0 : Hid (binR 2 op a b = nR 2 x c) := (by simp only [binR, hx]; simp : binR 2 op a b = nR 2 x c)
    rw [HY0.out]
    have ho2 : op = 1 ∨ op = 5 := by omega
    clear hx HY0 hk
    by_cases hc0 : c = 0
    · subst hc0
      rw [show nR 2 x 0 = (2, x, 0) by simp [nR]]
      go_enter Tryd.func30, Tryd.ntmps30
      go_wp2_with fail
      refine (vok_spec 2 a ⟨#[]⟩ _ (by decide)).mono ?_
      rw [HV1.out]
      rintro e w1 ⟨rfl, hb⟩
      obtain ⟨hc, hf⟩ := bcell hb
      have hx1 : w.heap.size + 1 + 1 < w1.heap.size := by have := hb.size; simp at this; omega
      have hz1 : w.heap.size + 1 < w1.heap.size := by omega
      have hy1 : w.heap.size < w1.heap.size := by omega
      have bw1 := chain bw0 hb
      go_wp2_with fail
      refine (vok_spec 2 b ⟨#[]⟩ _ (by decide)).mono ?_
      rw [HV2.out]
      rintro e w2 ⟨rfl, hb2⟩
      obtain ⟨hc2, hf2⟩ := bcell hb2
      have hx2 : w.heap.size + 1 + 1 < w2.heap.size := by have := hb2.size; omega
      have hz2 : w.heap.size + 1 < w2.heap.size := by omega
      have hy2 : w.heap.size < w2.heap.size := by omega
      have bw2 := chain bw1 hb2
      go_wp2_with (go_at_call 70; refine (Ok.opKind_spec _ _ _ _).mono ?_; rw [HK.out]; rintro e w' ⟨rfl, rfl⟩)
      go_wp2_with fail
      refine (decs_any op a b _ ho2 ba bb).mono ?_
      rw [HX.out]
      rintro e w3 ⟨rfl, hb3⟩
      obtain ⟨hc3, hf3⟩ := bcell hb3
      have hx3 : w.heap.size + 1 + 1 < w3.heap.size := by have := hb3.size; omega
      have bw3 := chain bw2 hb3
      go_wp2
      refine bodyPost_ret (v := binV (2, x, 0)) (by simp [results, Tryd.results30, go_sem, binV, hc, hf, hx1, hc2, hf2, hx2, hc3, hf3, hx3]) rfl ⟨rfl, ?_⟩
      refine bw3.trans ?_
      (go_light; repeat (first | with_reducible exact Below.refl _ _ | (with_reducible refine Below.setCell ?_ ?_ _; rotate_left; (focus first | (simp; done) | (simp; omega) | omega)) | (with_reducible refine Below.alloc ?_ ?_ _; rotate_left; (focus first | (simp; done) | (simp; omega) | omega)) | with_reducible refine Below.drew ?_))
    · have ec : (c != 0) = true := by simpa using hc0
      rw [show nR 2 x c = (0, 0, c) by simp [nR, hc0]]
      clear hc0
      go_enter Tryd.func30, Tryd.ntmps30
      go_wp2_with fail
      refine (vok_spec 2 a ⟨#[]⟩ _ (by decide)).mono ?_
      rw [HV1.out]
      rintro e w1 ⟨rfl, hb⟩
      obtain ⟨hc, hf⟩ := bcell hb
      have hx1 : w.heap.size + 1 + 1 < w1.heap.size := by have := hb.size; simp at this; omega
      have hz1 : w.heap.size + 1 < w1.heap.size := by omega
      have hy1 : w.heap.size < w1.heap.size := by omega
      have bw1 := chain bw0 hb
      go_wp2_with fail
      refine (vok_spec 2 b ⟨#[]⟩ _ (by decide)).mono ?_
      rw [HV2.out]
      rintro e w2 ⟨rfl, hb2⟩
      obtain ⟨hc2, hf2⟩ := bcell hb2
      have hx2 : w.heap.size + 1 + 1 < w2.heap.size := by have := hb2.size; omega
      have hz2 : w.heap.size + 1 < w2.heap.size := by omega
      have hy2 : w.heap.size < w2.heap.size := by omega
      have bw2 := chain bw1 hb2
      go_wp2_with (go_at_call 70; refine (Ok.opKind_spec _ _ _ _).mono ?_; rw [HK.out]; rintro e w' ⟨rfl, rfl⟩)
      go_wp2_with fail
      refine (decs_any op a b _ ho2 ba bb).mono ?_
      rw [HX.out]
      rintro e w3 ⟨rfl, hb3⟩
      obtain ⟨hc3, hf3⟩ := bcell hb3
      have hx3 : w.heap.size + 1 + 1 < w3.heap.size := by have := hb3.size; omega
      have bw3 := chain bw2 hb3
      go_wp2
      refine bodyPost_ret (v := binV (0, 0, c)) (by simp [results, Tryd.results30, go_sem, binV, hc, hf, hx1, hc2, hf2, hx2, hc3, hf3, hx3]) rfl ⟨rfl, ?_⟩
      refine bw3.trans ?_
      (go_light; repeat (first | with_reducible exact Below.refl _ _ | (with_reducible refine Below.setCell ?_ ?_ _; rotate_left; (focus first | (simp; done) | (simp; omega) | omega)) | (with_reducible refine Below.alloc ?_ ?_ _; rotate_left; (focus first | (simp; done) | (simp; omega) | omega)) | with_reducible refine Below.drew ?_))
end Ar
end Go.Proofs.YtcgnkcehjcednaaDoor
