import Derived.Test.YtbcnfepfmoecjaaDoorC2
namespace Go.Proofs.YtbcnfepfmoecjaaDoor
open Go.ChangeShapes Go.WideShapes Go.ChangeAt Go.RowKit Go.Shelf
set_option linter.unusedVariables false
set_option linter.unusedSimpArgs false
set_option maxRecDepth 100000
theorem opk_same (k1 k2 : Int) (h1 : 0 ≤ k1 ∧ k1 ≤ 5) (h2 : 0 ≤ k2 ∧ k2 ≤ 5) (ht : together k1 k2 = true) : Ok.opk 13 k1 k2 = 4 ∧ Ok.opk 9 k1 k2 = 4 := by
  have e1 : k1 = 0 ∨ k1 = 1 ∨ k1 = 2 ∨ k1 = 3 ∨ k1 = 4 ∨ k1 = 5 := by omega
  have e2 : k2 = 0 ∨ k2 = 1 ∨ k2 = 2 ∨ k2 = 3 ∨ k2 = 4 ∨ k2 = 5 := by omega
  revert ht
  rcases e1 with rfl | rfl | rfl | rfl | rfl | rfl <;> rcases e2 with rfl | rfl | rfl | rfl | rfl | rfl <;> decide
theorem holds_lt (o : Int) (w : World) : Calls Tryd.prog 55 #[.int .i64 9, .int .i64 o] w fun e w' => e = .returned (.bool (decide (o < 0))) ∧ w' = w := by
  by_cases h : o < 0
  · have hd : decide (o < 0) = true := by simpa using h
    rw [hd]
    go_enter Tryd.func55, Tryd.ntmps55
    go_wp2
    go_ret
    exact ⟨rfl, rfl⟩
  · have hd : decide (o < 0) = false := by simpa using h
    rw [hd]
    have h' : 0 ≤ o := by omega
    go_enter Tryd.func55, Tryd.ntmps55
    go_wp2
    go_ret
    exact ⟨rfl, rfl⟩
set_option maxHeartbeats 4000000 in
theorem binary_same (k1 n1 : Int) (s1 : ByteArray) (k2 n2 : Int) (s2 : ByteArray) (w : World) (hs1 : s1.size ≤ 1048576) (hs2 : s2.size ≤ 1048576) (hT : Tabs w) (hv1 : vok k1 n1 s1 = true) (hv2 : vok k2 n2 s2 = true) (ht : together k1 k2 = true) :
    Calls Tryd.prog 25 #[.int .i64 13, .agg #[.int .i64 k1, .int .i64 n1, .string s1], .agg #[.int .i64 k2, .int .i64 n2, .string s2]] w fun e w' => e = .returned (.tuple #[.agg #[.int .i64 4, .int .i64 (zB (ordV k1 n1 s1 k2 n2 s2 == 0)), .string ⟨#[]⟩], .int .i64 0]) ∧ Below w.heap.size w w' := by
  have bw0 : Below w.heap.size w (((w.alloc (.cells #[.int .i64 k1, .int .i64 n1, .string s1] 26)).alloc (.cells #[.int .i64 k2, .int .i64 n2, .string s2] 26)).alloc (.cells #[.int .i64 0, .int .i64 0, .string ⟨#[]⟩] 26)) := ((below_alloc w _).alloc (by simp) _).alloc (by simp; omega) _
  have HV1 : Hid (vok k1 n1 s1 = true) := hv1
  have HV2 : Hid (vok k2 n2 s2 = true) := hv2
  have HK : Hid (Ok.opk 13 k1 k2 = 4) := (opk_same k1 k2 (vok_kind hv1).1 (vok_kind hv2).1 ht).1
  have hF := fit_of hv1 hv2 ht
  clear hv1 hv2 ht
  go_enter Tryd.func25, Tryd.ntmps25
  go_wp2_with (go_at_call 30; refine (within_any _ _ _ _).mono ?_; rintro e w' ⟨rfl, rfl⟩)
  refine (vok_impl k1 n1 s1 _ hs1 (tabs_below hT bw0)).mono ?_
  rw [HV1.out]
  rintro e w1 ⟨rfl, hb⟩
  obtain ⟨hc, hf⟩ := bcell hb
  have bw1 : Below w.heap.size w w1 := bw0.trans (hb.mono (by simp; omega))
  have hx1 : w.heap.size + 1 + 1 < w1.heap.size := by have := hb.size; simp at this; omega
  have hz1 : w.heap.size + 1 < w1.heap.size := by omega
  have hy1 : w.heap.size < w1.heap.size := by omega
  go_wp2_with fail
  refine (vok_impl k2 n2 s2 _ hs2 (tabs_below hT bw1)).mono ?_
  rw [HV2.out]
  rintro e w2 ⟨rfl, hb2⟩
  obtain ⟨hc2, hf2⟩ := bcell hb2
  have bw2 : Below w.heap.size w w2 := bw1.trans (hb2.mono bw1.size)
  have hx2 : w.heap.size + 1 + 1 < w2.heap.size := by have := hb2.size; omega
  have hz2 : w.heap.size + 1 < w2.heap.size := by omega
  have hy2 : w.heap.size < w2.heap.size := by omega
  go_wp2_with fail
  refine (Ok.opKind_impl _ _ _ _).mono ?_
  rw [HK.out]
  rintro e w3 ⟨rfl, hb3⟩
  obtain ⟨hc3, hf3⟩ := bcell hb3
  have bw3 : Below w.heap.size w w3 := bw2.trans (hb3.mono bw2.size)
  have hx3 : w.heap.size + 1 + 1 < w3.heap.size := by have := hb3.size; omega
  have hz3 : w.heap.size + 1 < w3.heap.size := by omega
  have hy3 : w.heap.size < w3.heap.size := by omega
  go_wp2_with fail
  refine (orderOf_any k1 n1 s1 k2 n2 s2 _ hF).mono ?_
  rintro e w4 ⟨rfl, hb4⟩
  obtain ⟨hc4, hf4⟩ := bcell hb4
  have bw4 : Below w.heap.size w w4 := bw3.trans (hb4.mono bw3.size)
  have hx4 : w.heap.size + 1 + 1 < w4.heap.size := by have := hb4.size; omega
  have hz4 : w.heap.size + 1 < w4.heap.size := by omega
  have hy4 : w.heap.size < w4.heap.size := by omega
  go_wp2_with fail
  refine (boolValue_any _ _).mono ?_
  rintro e w5 ⟨rfl, hb5⟩
  obtain ⟨hc5, hf5⟩ := bcell hb5
  have bw5 : Below w.heap.size w w5 := bw4.trans (hb5.mono bw4.size)
  have hx5 : w.heap.size + 1 + 1 < w5.heap.size := by have := hb5.size; omega
  go_wp2
  refine bodyPost_ret (v := .tuple #[.agg #[.int .i64 4, .int .i64 (zB (ordV k1 n1 s1 k2 n2 s2 == 0)), .string ⟨#[]⟩], .int .i64 0]) (by simp [results, Tryd.results25, go_sem, hc, hf, hc2, hf2, hc3, hf3, hc4, hf4, hc5, hf5, hx1, hx2, hx3, hx4, hx5]) rfl ⟨rfl, ?_⟩
  refine bw5.trans ?_
  (go_light; repeat (first | with_reducible exact Below.refl _ _ | (with_reducible refine Below.setCell ?_ ?_ _; rotate_left; (focus first | (simp; done) | (simp; omega) | omega)) | (with_reducible refine Below.alloc ?_ ?_ _; rotate_left; (focus first | (simp; done) | (simp; omega) | omega)) | with_reducible refine Below.drew ?_))
set_option maxHeartbeats 4000000 in
theorem binary_lt (k1 n1 : Int) (s1 : ByteArray) (k2 n2 : Int) (s2 : ByteArray) (w : World) (hs1 : s1.size ≤ 1048576) (hs2 : s2.size ≤ 1048576) (hT : Tabs w) (hv1 : vok k1 n1 s1 = true) (hv2 : vok k2 n2 s2 = true) (ht : together k1 k2 = true) (g1 : (k1 == 0) = false) (g2 : (k2 == 0) = false) :
    Calls Tryd.prog 25 #[.int .i64 9, .agg #[.int .i64 k1, .int .i64 n1, .string s1], .agg #[.int .i64 k2, .int .i64 n2, .string s2]] w fun e w' => e = .returned (.tuple #[.agg #[.int .i64 4, .int .i64 (zB (decide (ordV k1 n1 s1 k2 n2 s2 < 0))), .string ⟨#[]⟩], .int .i64 0]) ∧ Below w.heap.size w w' := by
  have bw0 : Below w.heap.size w (((w.alloc (.cells #[.int .i64 k1, .int .i64 n1, .string s1] 26)).alloc (.cells #[.int .i64 k2, .int .i64 n2, .string s2] 26)).alloc (.cells #[.int .i64 0, .int .i64 0, .string ⟨#[]⟩] 26)) := ((below_alloc w _).alloc (by simp) _).alloc (by simp; omega) _
  have HV1 : Hid (vok k1 n1 s1 = true) := hv1
  have HV2 : Hid (vok k2 n2 s2 = true) := hv2
  have HK : Hid (Ok.opk 9 k1 k2 = 4) := (opk_same k1 k2 (vok_kind hv1).1 (vok_kind hv2).1 ht).2
  have hF := fit_of hv1 hv2 ht
  clear hv1 hv2 ht
  go_enter Tryd.func25, Tryd.ntmps25
  go_wp2_with (go_at_call 30; refine (within_any _ _ _ _).mono ?_; rintro e w' ⟨rfl, rfl⟩)
  refine (vok_impl k1 n1 s1 _ hs1 (tabs_below hT bw0)).mono ?_
  rw [HV1.out]
  rintro e w1 ⟨rfl, hb⟩
  obtain ⟨hc, hf⟩ := bcell hb
  have bw1 : Below w.heap.size w w1 := bw0.trans (hb.mono (by simp; omega))
  have hx1 : w.heap.size + 1 + 1 < w1.heap.size := by have := hb.size; simp at this; omega
  have hz1 : w.heap.size + 1 < w1.heap.size := by omega
  have hy1 : w.heap.size < w1.heap.size := by omega
  go_wp2_with fail
  refine (vok_impl k2 n2 s2 _ hs2 (tabs_below hT bw1)).mono ?_
  rw [HV2.out]
  rintro e w2 ⟨rfl, hb2⟩
  obtain ⟨hc2, hf2⟩ := bcell hb2
  have bw2 : Below w.heap.size w w2 := bw1.trans (hb2.mono bw1.size)
  have hx2 : w.heap.size + 1 + 1 < w2.heap.size := by have := hb2.size; omega
  have hz2 : w.heap.size + 1 < w2.heap.size := by omega
  have hy2 : w.heap.size < w2.heap.size := by omega
  go_wp2_with fail
  refine (Ok.opKind_impl _ _ _ _).mono ?_
  rw [HK.out]
  rintro e w3 ⟨rfl, hb3⟩
  obtain ⟨hc3, hf3⟩ := bcell hb3
  have bw3 : Below w.heap.size w w3 := bw2.trans (hb3.mono bw2.size)
  have hx3 : w.heap.size + 1 + 1 < w3.heap.size := by have := hb3.size; omega
  have hz3 : w.heap.size + 1 < w3.heap.size := by omega
  have hy3 : w.heap.size < w3.heap.size := by omega
  go_wp2_with fail
  refine (orderOf_any k1 n1 s1 k2 n2 s2 _ hF).mono ?_
  rintro e w4 ⟨rfl, hb4⟩
  obtain ⟨hc4, hf4⟩ := bcell hb4
  have bw4 : Below w.heap.size w w4 := bw3.trans (hb4.mono bw3.size)
  have hx4 : w.heap.size + 1 + 1 < w4.heap.size := by have := hb4.size; omega
  have hz4 : w.heap.size + 1 < w4.heap.size := by omega
  have hy4 : w.heap.size < w4.heap.size := by omega
  go_wp2_with (go_at_call 55; refine (holds_lt _ _).mono ?_; rintro e w' ⟨rfl, rfl⟩)
  refine (boolValue_any _ _).mono ?_
  rintro e w5 ⟨rfl, hb5⟩
  obtain ⟨hc5, hf5⟩ := bcell hb5
  have bw5 : Below w.heap.size w w5 := bw4.trans (hb5.mono bw4.size)
  have hx5 : w.heap.size + 1 + 1 < w5.heap.size := by have := hb5.size; omega
  go_wp2
  refine bodyPost_ret (v := .tuple #[.agg #[.int .i64 4, .int .i64 (zB (decide (ordV k1 n1 s1 k2 n2 s2 < 0))), .string ⟨#[]⟩], .int .i64 0]) (by simp [results, Tryd.results25, go_sem, hc, hf, hc2, hf2, hc3, hf3, hc4, hf4, hc5, hf5, hx1, hx2, hx3, hx4, hx5]) rfl ⟨rfl, ?_⟩
  refine bw5.trans ?_
  (go_light; repeat (first | with_reducible exact Below.refl _ _ | (with_reducible refine Below.setCell ?_ ?_ _; rotate_left; (focus first | (simp; done) | (simp; omega) | omega)) | (with_reducible refine Below.alloc ?_ ?_ _; rotate_left; (focus first | (simp; done) | (simp; omega) | omega)) | with_reducible refine Below.drew ?_))
set_option maxHeartbeats 4000000 in
theorem binary_lt_null (k1 n1 : Int) (s1 : ByteArray) (k2 n2 : Int) (s2 : ByteArray) (w : World) (hs1 : s1.size ≤ 1048576) (hs2 : s2.size ≤ 1048576) (hT : Tabs w) (hv1 : vok k1 n1 s1 = true) (hv2 : vok k2 n2 s2 = true) (ht : together k1 k2 = true) (g : (k1 == 0 || k2 == 0) = true) :
    Calls Tryd.prog 25 #[.int .i64 9, .agg #[.int .i64 k1, .int .i64 n1, .string s1], .agg #[.int .i64 k2, .int .i64 n2, .string s2]] w fun e w' => e = .returned (.tuple #[.agg #[.int .i64 0, .int .i64 0, .string ⟨#[]⟩], .int .i64 0]) ∧ Below w.heap.size w w' := by
  have bw0 : Below w.heap.size w (((w.alloc (.cells #[.int .i64 k1, .int .i64 n1, .string s1] 26)).alloc (.cells #[.int .i64 k2, .int .i64 n2, .string s2] 26)).alloc (.cells #[.int .i64 0, .int .i64 0, .string ⟨#[]⟩] 26)) := ((below_alloc w _).alloc (by simp) _).alloc (by simp; omega) _
  have HV1 : Hid (vok k1 n1 s1 = true) := hv1
  have HV2 : Hid (vok k2 n2 s2 = true) := hv2
  have HK : Hid (Ok.opk 9 k1 k2 = 4) := (opk_same k1 k2 (vok_kind hv1).1 (vok_kind hv2).1 ht).2
  have hF := fit_of hv1 hv2 ht
  clear hv1 hv2 ht
  go_enter Tryd.func25, Tryd.ntmps25
  go_wp2_with (go_at_call 30; refine (within_any _ _ _ _).mono ?_; rintro e w' ⟨rfl, rfl⟩)
  refine (vok_impl k1 n1 s1 _ hs1 (tabs_below hT bw0)).mono ?_
  rw [HV1.out]
  rintro e w1 ⟨rfl, hb⟩
  obtain ⟨hc, hf⟩ := bcell hb
  have bw1 : Below w.heap.size w w1 := bw0.trans (hb.mono (by simp; omega))
  have hx1 : w.heap.size + 1 + 1 < w1.heap.size := by have := hb.size; simp at this; omega
  have hz1 : w.heap.size + 1 < w1.heap.size := by omega
  have hy1 : w.heap.size < w1.heap.size := by omega
  go_wp2_with fail
  refine (vok_impl k2 n2 s2 _ hs2 (tabs_below hT bw1)).mono ?_
  rw [HV2.out]
  rintro e w2 ⟨rfl, hb2⟩
  obtain ⟨hc2, hf2⟩ := bcell hb2
  have bw2 : Below w.heap.size w w2 := bw1.trans (hb2.mono bw1.size)
  have hx2 : w.heap.size + 1 + 1 < w2.heap.size := by have := hb2.size; omega
  have hz2 : w.heap.size + 1 < w2.heap.size := by omega
  have hy2 : w.heap.size < w2.heap.size := by omega
  go_wp2_with fail
  refine (Ok.opKind_impl _ _ _ _).mono ?_
  rw [HK.out]
  rintro e w3 ⟨rfl, hb3⟩
  obtain ⟨hc3, hf3⟩ := bcell hb3
  have bw3 : Below w.heap.size w w3 := bw2.trans (hb3.mono bw2.size)
  have hx3 : w.heap.size + 1 + 1 < w3.heap.size := by have := hb3.size; omega
  have hz3 : w.heap.size + 1 < w3.heap.size := by omega
  have hy3 : w.heap.size < w3.heap.size := by omega
  by_cases g0 : (k1 == 0) = true
  · obtain rfl : k1 = 0 := by simpa using g0
    go_wp2
    refine bodyPost_ret (v := .tuple #[.agg #[.int .i64 0, .int .i64 0, .string ⟨#[]⟩], .int .i64 0]) (by simp [results, Tryd.results25, go_sem, hc, hf, hc2, hf2, hc3, hf3, hx1, hx2, hx3]) rfl ⟨rfl, ?_⟩
    refine bw3.trans ?_
    (go_light; repeat (first | with_reducible exact Below.refl _ _ | (with_reducible refine Below.setCell ?_ ?_ _; rotate_left; (focus first | (simp; done) | (simp; omega) | omega)) | (with_reducible refine Below.alloc ?_ ?_ _; rotate_left; (focus first | (simp; done) | (simp; omega) | omega)) | with_reducible refine Below.drew ?_))
  · have g1 : (k1 == 0) = false := by simpa using g0
    obtain rfl : k2 = 0 := by simpa [g1] using g
    clear g0
    go_wp2
    refine bodyPost_ret (v := .tuple #[.agg #[.int .i64 0, .int .i64 0, .string ⟨#[]⟩], .int .i64 0]) (by simp [results, Tryd.results25, go_sem, hc, hf, hc2, hf2, hc3, hf3, hx1, hx2, hx3]) rfl ⟨rfl, ?_⟩
    refine bw3.trans ?_
    (go_light; repeat (first | with_reducible exact Below.refl _ _ | (with_reducible refine Below.setCell ?_ ?_ _; rotate_left; (focus first | (simp; done) | (simp; omega) | omega)) | (with_reducible refine Below.alloc ?_ ?_ _; rotate_left; (focus first | (simp; done) | (simp; omega) | omega)) | with_reducible refine Below.drew ?_))
end Go.Proofs.YtbcnfepfmoecjaaDoor
