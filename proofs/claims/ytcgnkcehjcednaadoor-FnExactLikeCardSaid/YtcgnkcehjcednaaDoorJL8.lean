import Derived.Test.YtcgnkcehjcednaaDoorJL7
namespace Go.Proofs.YtcgnkcehjcednaaDoor
open Go.ChangeShapes Go.WideShapes Go.ChangeAt Go.RowKit Go.Shelf
namespace Lk
set_option linter.unusedVariables false
set_option linter.unusedSimpArgs false
set_option maxRecDepth 100000
open Classical in
set_option maxHeartbeats 16000000 in
theorem like_spec (k1 n1 : Int) (s1 : ByteArray) (k2 n2 : Int) (s2 : ByteArray) (w : World) (hs1 : s1.size ≤ 1048576) (hs2 : s2.size ≤ 1048576) :
    Calls Tryd.prog 14 #[.agg #[.int .i64 k1, .int .i64 n1, .string s1], .agg #[.int .i64 k2, .int .i64 n2, .string s2]] w fun e w' => e = .returned (likeV (likeR k1 n1 s1 k2 n2 s2)) ∧ Below w.heap.size w w' := by
  have bw0 : Below w.heap.size w (((w.alloc (.cells #[.int .i64 k1, .int .i64 n1, .string s1] 26)).alloc (.cells #[.int .i64 k2, .int .i64 n2, .string s2] 26)).alloc (.cells #[.int .i64 0, .int .i64 0, .string ⟨#[]⟩] 26)) := ((below_alloc w _).alloc (by simp) _).alloc (by simp; omega) _
  cases hv1 : vok k1 n1 s1 with
  | false =>
    have HV1 : Hid (vok k1 n1 s1 = false) := hv1
    have HR : Hid (likeR k1 n1 s1 k2 n2 s2 = (0, 0, 1)) := (by unfold likeR; rw [if_pos (.inl hv1)] : likeR k1 n1 s1 k2 n2 s2 = (0, 0, 1))
    rw [HR.out]
    clear hv1
    go_enter Tryd.func14, Tryd.ntmps14
    go_wp2_with fail
    refine (vok_spec k1 n1 s1 _ hs1).mono ?_
    rw [HV1.out]
    rintro e w1 ⟨rfl, hb⟩
    obtain ⟨hc, hf⟩ := bcell hb
    have bw1 : Below w.heap.size w w1 := bw0.trans (hb.mono (by simp; omega))
    have hx1 : w.heap.size + 1 + 1 < w1.heap.size := by have := hb.size; simp at this; omega
    have hz1 : w.heap.size + 1 < w1.heap.size := by omega
    have hy1 : w.heap.size < w1.heap.size := by omega
    go_wp2
    refine bodyPost_ret (v := likeV (0, 0, 1)) (by simp [results, Tryd.results14, go_sem, likeV, hc, hf, hx1, hz1, hy1]) rfl ⟨rfl, ?_⟩
    refine bw1.trans ?_
    (go_light; repeat (first | with_reducible exact Below.refl _ _ | (with_reducible refine Below.setCell ?_ ?_ _; rotate_left; (focus first | (simp; done) | (simp; omega) | omega)) | (with_reducible refine Below.alloc ?_ ?_ _; rotate_left; (focus first | (simp; done) | (simp; omega) | omega)) | with_reducible refine Below.drew ?_))
  | true =>
  cases hv2 : vok k2 n2 s2 with
  | false =>
    have HV1 : Hid (vok k1 n1 s1 = true) := hv1
    have HV2 : Hid (vok k2 n2 s2 = false) := hv2
    have HR : Hid (likeR k1 n1 s1 k2 n2 s2 = (0, 0, 1)) := (by unfold likeR; rw [if_pos (.inr hv2)] : likeR k1 n1 s1 k2 n2 s2 = (0, 0, 1))
    rw [HR.out]
    clear hv1 hv2
    go_enter Tryd.func14, Tryd.ntmps14
    go_wp2_with fail
    refine (vok_spec k1 n1 s1 _ hs1).mono ?_
    rw [HV1.out]
    rintro e w1 ⟨rfl, hb⟩
    obtain ⟨hc, hf⟩ := bcell hb
    have bw1 : Below w.heap.size w w1 := bw0.trans (hb.mono (by simp; omega))
    have hx1 : w.heap.size + 1 + 1 < w1.heap.size := by have := hb.size; simp at this; omega
    have hz1 : w.heap.size + 1 < w1.heap.size := by omega
    have hy1 : w.heap.size < w1.heap.size := by omega
    go_wp2_with fail
    refine (vok_spec k2 n2 s2 _ hs2).mono ?_
    rw [HV2.out]
    rintro e w2 ⟨rfl, hb2⟩
    obtain ⟨hc2, hf2⟩ := bcell hb2
    have bw2 : Below w.heap.size w w2 := bw1.trans (hb2.mono bw1.size)
    have hx2 : w.heap.size + 1 + 1 < w2.heap.size := by have := hb2.size; omega
    have hz2 : w.heap.size + 1 < w2.heap.size := by omega
    have hy2 : w.heap.size < w2.heap.size := by omega
    go_wp2
    refine bodyPost_ret (v := likeV (0, 0, 1)) (by simp [results, Tryd.results14, go_sem, likeV, hc, hf, hx1, hz1, hy1, hc2, hf2, hx2, hz2, hy2]) rfl ⟨rfl, ?_⟩
    refine bw2.trans ?_
    (go_light; repeat (first | with_reducible exact Below.refl _ _ | (with_reducible refine Below.setCell ?_ ?_ _; rotate_left; (focus first | (simp; done) | (simp; omega) | omega)) | (with_reducible refine Below.alloc ?_ ?_ _; rotate_left; (focus first | (simp; done) | (simp; omega) | omega)) | with_reducible refine Below.drew ?_))
  | true =>
  have HV1 : Hid (vok k1 n1 s1 = true) := hv1
  have HV2 : Hid (vok k2 n2 s2 = true) := hv2
  have HL : Hid (likeR k1 n1 s1 k2 n2 s2 = if ¬ (k1 = 3 ∨ k1 = 0) ∨ ¬ (k2 = 3 ∨ k2 = 0) then (0, 0, 10) else if k1 = 0 ∨ k2 = 0 then (0, 0, 0) else (4, zB (decide (Mt (prt false ((chars s2).getD [])) ((chars s1).getD []))), 0)) := (by unfold likeR; rw [if_neg (by rw [hv1, hv2]; simp)] : likeR k1 n1 s1 k2 n2 s2 = _)
  by_cases p1 : k1 = 3
  · subst p1
    by_cases p2 : k2 = 3
    · subst p2
      exact like_spec_33 n1 s1 n2 s2 w hs1 hs2 hv1 hv2
    by_cases q2 : k2 = 0
    · subst q2
      have HR : Hid (likeR 3 n1 s1 0 n2 s2 = (0, 0, 0)) := (by rw [HL.out]; simp : likeR 3 n1 s1 0 n2 s2 = (0, 0, 0))
      rw [HR.out]
      clear HL hv1 hv2
      go_enter Tryd.func14, Tryd.ntmps14
      go_wp2_with fail
      refine (vok_spec 3 n1 s1 _ hs1).mono ?_
      rw [HV1.out]
      rintro e w1 ⟨rfl, hb⟩
      obtain ⟨hc, hf⟩ := bcell hb
      have bw1 : Below w.heap.size w w1 := bw0.trans (hb.mono (by simp; omega))
      have hx1 : w.heap.size + 1 + 1 < w1.heap.size := by have := hb.size; simp at this; omega
      have hz1 : w.heap.size + 1 < w1.heap.size := by omega
      have hy1 : w.heap.size < w1.heap.size := by omega
      go_wp2_with fail
      refine (vok_spec 0 n2 s2 _ hs2).mono ?_
      rw [HV2.out]
      rintro e w2 ⟨rfl, hb2⟩
      obtain ⟨hc2, hf2⟩ := bcell hb2
      have bw2 : Below w.heap.size w w2 := bw1.trans (hb2.mono bw1.size)
      have hx2 : w.heap.size + 1 + 1 < w2.heap.size := by have := hb2.size; omega
      have hz2 : w.heap.size + 1 < w2.heap.size := by omega
      have hy2 : w.heap.size < w2.heap.size := by omega
      go_wp2
      refine bodyPost_ret (v := likeV (0, 0, 0)) (by simp [results, Tryd.results14, go_sem, likeV, hc, hf, hx1, hz1, hy1, hc2, hf2, hx2, hz2, hy2]) rfl ⟨rfl, ?_⟩
      refine bw2.trans ?_
      (go_light; repeat (first | with_reducible exact Below.refl _ _ | (with_reducible refine Below.setCell ?_ ?_ _; rotate_left; (focus first | (simp; done) | (simp; omega) | omega)) | (with_reducible refine Below.alloc ?_ ?_ _; rotate_left; (focus first | (simp; done) | (simp; omega) | omega)) | with_reducible refine Below.drew ?_))
    have a2 : (k2 == 3) = false := by simpa using p2
    have b2 : (k2 == 0) = false := by simpa using q2
    have HR : Hid (likeR 3 n1 s1 k2 n2 s2 = (0, 0, 10)) := (by rw [HL.out]; simp [p2, q2] : likeR 3 n1 s1 k2 n2 s2 = (0, 0, 10))
    rw [HR.out]
    clear HL hv1 hv2 p2 q2
    go_enter Tryd.func14, Tryd.ntmps14
    go_wp2_with fail
    refine (vok_spec 3 n1 s1 _ hs1).mono ?_
    rw [HV1.out]
    rintro e w1 ⟨rfl, hb⟩
    obtain ⟨hc, hf⟩ := bcell hb
    have bw1 : Below w.heap.size w w1 := bw0.trans (hb.mono (by simp; omega))
    have hx1 : w.heap.size + 1 + 1 < w1.heap.size := by have := hb.size; simp at this; omega
    have hz1 : w.heap.size + 1 < w1.heap.size := by omega
    have hy1 : w.heap.size < w1.heap.size := by omega
    go_wp2_with fail
    refine (vok_spec k2 n2 s2 _ hs2).mono ?_
    rw [HV2.out]
    rintro e w2 ⟨rfl, hb2⟩
    obtain ⟨hc2, hf2⟩ := bcell hb2
    have bw2 : Below w.heap.size w w2 := bw1.trans (hb2.mono bw1.size)
    have hx2 : w.heap.size + 1 + 1 < w2.heap.size := by have := hb2.size; omega
    have hz2 : w.heap.size + 1 < w2.heap.size := by omega
    have hy2 : w.heap.size < w2.heap.size := by omega
    go_wp2
    refine bodyPost_ret (v := likeV (0, 0, 10)) (by simp [results, Tryd.results14, go_sem, likeV, hc, hf, hx1, hz1, hy1, hc2, hf2, hx2, hz2, hy2]) rfl ⟨rfl, ?_⟩
    refine bw2.trans ?_
    (go_light; repeat (first | with_reducible exact Below.refl _ _ | (with_reducible refine Below.setCell ?_ ?_ _; rotate_left; (focus first | (simp; done) | (simp; omega) | omega)) | (with_reducible refine Below.alloc ?_ ?_ _; rotate_left; (focus first | (simp; done) | (simp; omega) | omega)) | with_reducible refine Below.drew ?_))
  by_cases q1 : k1 = 0
  · subst q1
    by_cases p2 : k2 = 3
    · subst p2
      have HR : Hid (likeR 0 n1 s1 3 n2 s2 = (0, 0, 0)) := (by rw [HL.out]; simp : likeR 0 n1 s1 3 n2 s2 = (0, 0, 0))
      rw [HR.out]
      clear HL hv1 hv2
      go_enter Tryd.func14, Tryd.ntmps14
      go_wp2_with fail
      refine (vok_spec 0 n1 s1 _ hs1).mono ?_
      rw [HV1.out]
      rintro e w1 ⟨rfl, hb⟩
      obtain ⟨hc, hf⟩ := bcell hb
      have bw1 : Below w.heap.size w w1 := bw0.trans (hb.mono (by simp; omega))
      have hx1 : w.heap.size + 1 + 1 < w1.heap.size := by have := hb.size; simp at this; omega
      have hz1 : w.heap.size + 1 < w1.heap.size := by omega
      have hy1 : w.heap.size < w1.heap.size := by omega
      go_wp2_with fail
      refine (vok_spec 3 n2 s2 _ hs2).mono ?_
      rw [HV2.out]
      rintro e w2 ⟨rfl, hb2⟩
      obtain ⟨hc2, hf2⟩ := bcell hb2
      have bw2 : Below w.heap.size w w2 := bw1.trans (hb2.mono bw1.size)
      have hx2 : w.heap.size + 1 + 1 < w2.heap.size := by have := hb2.size; omega
      have hz2 : w.heap.size + 1 < w2.heap.size := by omega
      have hy2 : w.heap.size < w2.heap.size := by omega
      go_wp2
      refine bodyPost_ret (v := likeV (0, 0, 0)) (by simp [results, Tryd.results14, go_sem, likeV, hc, hf, hx1, hz1, hy1, hc2, hf2, hx2, hz2, hy2]) rfl ⟨rfl, ?_⟩
      refine bw2.trans ?_
      (go_light; repeat (first | with_reducible exact Below.refl _ _ | (with_reducible refine Below.setCell ?_ ?_ _; rotate_left; (focus first | (simp; done) | (simp; omega) | omega)) | (with_reducible refine Below.alloc ?_ ?_ _; rotate_left; (focus first | (simp; done) | (simp; omega) | omega)) | with_reducible refine Below.drew ?_))
    by_cases q2 : k2 = 0
    · subst q2
      have HR : Hid (likeR 0 n1 s1 0 n2 s2 = (0, 0, 0)) := (by rw [HL.out]; simp : likeR 0 n1 s1 0 n2 s2 = (0, 0, 0))
      rw [HR.out]
      clear HL hv1 hv2
      go_enter Tryd.func14, Tryd.ntmps14
      go_wp2_with fail
      refine (vok_spec 0 n1 s1 _ hs1).mono ?_
      rw [HV1.out]
      rintro e w1 ⟨rfl, hb⟩
      obtain ⟨hc, hf⟩ := bcell hb
      have bw1 : Below w.heap.size w w1 := bw0.trans (hb.mono (by simp; omega))
      have hx1 : w.heap.size + 1 + 1 < w1.heap.size := by have := hb.size; simp at this; omega
      have hz1 : w.heap.size + 1 < w1.heap.size := by omega
      have hy1 : w.heap.size < w1.heap.size := by omega
      go_wp2_with fail
      refine (vok_spec 0 n2 s2 _ hs2).mono ?_
      rw [HV2.out]
      rintro e w2 ⟨rfl, hb2⟩
      obtain ⟨hc2, hf2⟩ := bcell hb2
      have bw2 : Below w.heap.size w w2 := bw1.trans (hb2.mono bw1.size)
      have hx2 : w.heap.size + 1 + 1 < w2.heap.size := by have := hb2.size; omega
      have hz2 : w.heap.size + 1 < w2.heap.size := by omega
      have hy2 : w.heap.size < w2.heap.size := by omega
      go_wp2
      refine bodyPost_ret (v := likeV (0, 0, 0)) (by simp [results, Tryd.results14, go_sem, likeV, hc, hf, hx1, hz1, hy1, hc2, hf2, hx2, hz2, hy2]) rfl ⟨rfl, ?_⟩
      refine bw2.trans ?_
      (go_light; repeat (first | with_reducible exact Below.refl _ _ | (with_reducible refine Below.setCell ?_ ?_ _; rotate_left; (focus first | (simp; done) | (simp; omega) | omega)) | (with_reducible refine Below.alloc ?_ ?_ _; rotate_left; (focus first | (simp; done) | (simp; omega) | omega)) | with_reducible refine Below.drew ?_))
    have a2 : (k2 == 3) = false := by simpa using p2
    have b2 : (k2 == 0) = false := by simpa using q2
    have HR : Hid (likeR 0 n1 s1 k2 n2 s2 = (0, 0, 10)) := (by rw [HL.out]; simp [p2, q2] : likeR 0 n1 s1 k2 n2 s2 = (0, 0, 10))
    rw [HR.out]
    clear HL hv1 hv2 p2 q2
    go_enter Tryd.func14, Tryd.ntmps14
    go_wp2_with fail
    refine (vok_spec 0 n1 s1 _ hs1).mono ?_
    rw [HV1.out]
    rintro e w1 ⟨rfl, hb⟩
    obtain ⟨hc, hf⟩ := bcell hb
    have bw1 : Below w.heap.size w w1 := bw0.trans (hb.mono (by simp; omega))
    have hx1 : w.heap.size + 1 + 1 < w1.heap.size := by have := hb.size; simp at this; omega
    have hz1 : w.heap.size + 1 < w1.heap.size := by omega
    have hy1 : w.heap.size < w1.heap.size := by omega
    go_wp2_with fail
    refine (vok_spec k2 n2 s2 _ hs2).mono ?_
    rw [HV2.out]
    rintro e w2 ⟨rfl, hb2⟩
    obtain ⟨hc2, hf2⟩ := bcell hb2
    have bw2 : Below w.heap.size w w2 := bw1.trans (hb2.mono bw1.size)
    have hx2 : w.heap.size + 1 + 1 < w2.heap.size := by have := hb2.size; omega
    have hz2 : w.heap.size + 1 < w2.heap.size := by omega
    have hy2 : w.heap.size < w2.heap.size := by omega
    go_wp2
    refine bodyPost_ret (v := likeV (0, 0, 10)) (by simp [results, Tryd.results14, go_sem, likeV, hc, hf, hx1, hz1, hy1, hc2, hf2, hx2, hz2, hy2]) rfl ⟨rfl, ?_⟩
    refine bw2.trans ?_
    (go_light; repeat (first | with_reducible exact Below.refl _ _ | (with_reducible refine Below.setCell ?_ ?_ _; rotate_left; (focus first | (simp; done) | (simp; omega) | omega)) | (with_reducible refine Below.alloc ?_ ?_ _; rotate_left; (focus first | (simp; done) | (simp; omega) | omega)) | with_reducible refine Below.drew ?_))
  have a1 : (k1 == 3) = false := by simpa using p1
  have b1 : (k1 == 0) = false := by simpa using q1
  by_cases p2 : k2 = 3
  · subst p2
    have HR : Hid (likeR k1 n1 s1 3 n2 s2 = (0, 0, 10)) := (by rw [HL.out]; simp [p1, q1] : likeR k1 n1 s1 3 n2 s2 = (0, 0, 10))
    rw [HR.out]
    clear HL hv1 hv2 p1 q1
    go_enter Tryd.func14, Tryd.ntmps14
    go_wp2_with fail
    refine (vok_spec k1 n1 s1 _ hs1).mono ?_
    rw [HV1.out]
    rintro e w1 ⟨rfl, hb⟩
    obtain ⟨hc, hf⟩ := bcell hb
    have bw1 : Below w.heap.size w w1 := bw0.trans (hb.mono (by simp; omega))
    have hx1 : w.heap.size + 1 + 1 < w1.heap.size := by have := hb.size; simp at this; omega
    have hz1 : w.heap.size + 1 < w1.heap.size := by omega
    have hy1 : w.heap.size < w1.heap.size := by omega
    go_wp2_with fail
    refine (vok_spec 3 n2 s2 _ hs2).mono ?_
    rw [HV2.out]
    rintro e w2 ⟨rfl, hb2⟩
    obtain ⟨hc2, hf2⟩ := bcell hb2
    have bw2 : Below w.heap.size w w2 := bw1.trans (hb2.mono bw1.size)
    have hx2 : w.heap.size + 1 + 1 < w2.heap.size := by have := hb2.size; omega
    have hz2 : w.heap.size + 1 < w2.heap.size := by omega
    have hy2 : w.heap.size < w2.heap.size := by omega
    go_wp2
    refine bodyPost_ret (v := likeV (0, 0, 10)) (by simp [results, Tryd.results14, go_sem, likeV, hc, hf, hx1, hz1, hy1, hc2, hf2, hx2, hz2, hy2]) rfl ⟨rfl, ?_⟩
    refine bw2.trans ?_
    (go_light; repeat (first | with_reducible exact Below.refl _ _ | (with_reducible refine Below.setCell ?_ ?_ _; rotate_left; (focus first | (simp; done) | (simp; omega) | omega)) | (with_reducible refine Below.alloc ?_ ?_ _; rotate_left; (focus first | (simp; done) | (simp; omega) | omega)) | with_reducible refine Below.drew ?_))
  by_cases q2 : k2 = 0
  · subst q2
    have HR : Hid (likeR k1 n1 s1 0 n2 s2 = (0, 0, 10)) := (by rw [HL.out]; simp [p1, q1] : likeR k1 n1 s1 0 n2 s2 = (0, 0, 10))
    rw [HR.out]
    clear HL hv1 hv2 p1 q1
    go_enter Tryd.func14, Tryd.ntmps14
    go_wp2_with fail
    refine (vok_spec k1 n1 s1 _ hs1).mono ?_
    rw [HV1.out]
    rintro e w1 ⟨rfl, hb⟩
    obtain ⟨hc, hf⟩ := bcell hb
    have bw1 : Below w.heap.size w w1 := bw0.trans (hb.mono (by simp; omega))
    have hx1 : w.heap.size + 1 + 1 < w1.heap.size := by have := hb.size; simp at this; omega
    have hz1 : w.heap.size + 1 < w1.heap.size := by omega
    have hy1 : w.heap.size < w1.heap.size := by omega
    go_wp2_with fail
    refine (vok_spec 0 n2 s2 _ hs2).mono ?_
    rw [HV2.out]
    rintro e w2 ⟨rfl, hb2⟩
    obtain ⟨hc2, hf2⟩ := bcell hb2
    have bw2 : Below w.heap.size w w2 := bw1.trans (hb2.mono bw1.size)
    have hx2 : w.heap.size + 1 + 1 < w2.heap.size := by have := hb2.size; omega
    have hz2 : w.heap.size + 1 < w2.heap.size := by omega
    have hy2 : w.heap.size < w2.heap.size := by omega
    go_wp2
    refine bodyPost_ret (v := likeV (0, 0, 10)) (by simp [results, Tryd.results14, go_sem, likeV, hc, hf, hx1, hz1, hy1, hc2, hf2, hx2, hz2, hy2]) rfl ⟨rfl, ?_⟩
    refine bw2.trans ?_
    (go_light; repeat (first | with_reducible exact Below.refl _ _ | (with_reducible refine Below.setCell ?_ ?_ _; rotate_left; (focus first | (simp; done) | (simp; omega) | omega)) | (with_reducible refine Below.alloc ?_ ?_ _; rotate_left; (focus first | (simp; done) | (simp; omega) | omega)) | with_reducible refine Below.drew ?_))
  have a2 : (k2 == 3) = false := by simpa using p2
  have b2 : (k2 == 0) = false := by simpa using q2
  have HR : Hid (likeR k1 n1 s1 k2 n2 s2 = (0, 0, 10)) := (by rw [HL.out]; simp [p1, q1, p2, q2] : likeR k1 n1 s1 k2 n2 s2 = (0, 0, 10))
  rw [HR.out]
  clear HL hv1 hv2 p1 q1 p2 q2
  go_enter Tryd.func14, Tryd.ntmps14
  go_wp2_with fail
  refine (vok_spec k1 n1 s1 _ hs1).mono ?_
  rw [HV1.out]
  rintro e w1 ⟨rfl, hb⟩
  obtain ⟨hc, hf⟩ := bcell hb
  have bw1 : Below w.heap.size w w1 := bw0.trans (hb.mono (by simp; omega))
  have hx1 : w.heap.size + 1 + 1 < w1.heap.size := by have := hb.size; simp at this; omega
  have hz1 : w.heap.size + 1 < w1.heap.size := by omega
  have hy1 : w.heap.size < w1.heap.size := by omega
  go_wp2_with fail
  refine (vok_spec k2 n2 s2 _ hs2).mono ?_
  rw [HV2.out]
  rintro e w2 ⟨rfl, hb2⟩
  obtain ⟨hc2, hf2⟩ := bcell hb2
  have bw2 : Below w.heap.size w w2 := bw1.trans (hb2.mono bw1.size)
  have hx2 : w.heap.size + 1 + 1 < w2.heap.size := by have := hb2.size; omega
  have hz2 : w.heap.size + 1 < w2.heap.size := by omega
  have hy2 : w.heap.size < w2.heap.size := by omega
  go_wp2
  refine bodyPost_ret (v := likeV (0, 0, 10)) (by simp [results, Tryd.results14, go_sem, likeV, hc, hf, hx1, hz1, hy1, hc2, hf2, hx2, hz2, hy2]) rfl ⟨rfl, ?_⟩
  refine bw2.trans ?_
  (go_light; repeat (first | with_reducible exact Below.refl _ _ | (with_reducible refine Below.setCell ?_ ?_ _; rotate_left; (focus first | (simp; done) | (simp; omega) | omega)) | (with_reducible refine Below.alloc ?_ ?_ _; rotate_left; (focus first | (simp; done) | (simp; omega) | omega)) | with_reducible refine Below.drew ?_))
end Lk
end Go.Proofs.YtcgnkcehjcednaaDoor
