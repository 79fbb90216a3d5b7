import Derived.Test.YtdcdoeolaongkaaGreatDoorVX
import Derived.Deep.RegionHeld3
import Derived.Test.YtdcdoeolaongkaaGreatDoorC0
namespace Go.Proofs.YtdcdoeolaongkaaGreatDoor
open Go.ChangeShapes Go.WideShapes Go.ChangeAt Go.RowKit Go.Shelf
set_option linter.unusedVariables false
set_option linter.unusedSimpArgs false
set_option maxRecDepth 100000
theorem opk_same (k1 k2 : Int) (h1 : 0 ≤ k1 ∧ k1 ≤ 5) (h2 : 0 ≤ k2 ∧ k2 ≤ 5) (ht : together k1 k2 = true) : Ok.opk 13 k1 k2 = 4 ∧ Ok.opk 7 k1 k2 = 4 := by
  have e1 : k1 = 0 ∨ k1 = 1 ∨ k1 = 2 ∨ k1 = 3 ∨ k1 = 4 ∨ k1 = 5 := by omega
  have e2 : k2 = 0 ∨ k2 = 1 ∨ k2 = 2 ∨ k2 = 3 ∨ k2 = 4 ∨ k2 = 5 := by omega
  revert ht
  rcases e1 with rfl | rfl | rfl | rfl | rfl | rfl <;> rcases e2 with rfl | rfl | rfl | rfl | rfl | rfl <;> decide
theorem holds_eq (o : Int) (w : World) : Calls Tryz.prog 61 #[.int .i64 7, .int .i64 o] w fun e w' => e = .returned (.bool (o == 0)) ∧ w' = w := by
  go_enter Tryz.func61, Tryz.ntmps61
  go_wp2
  go_ret
  exact ⟨rfl, rfl⟩
set_option maxHeartbeats 4000000 in
theorem binary_eq (k1 n1 : Int) (s1 : ByteArray) (k2 n2 : Int) (s2 : ByteArray) (w : World) (hs1 : s1.size ≤ 1048576) (hs2 : s2.size ≤ 1048576) (hT : Tabs w) (hv1 : vok k1 n1 s1 = true) (hv2 : vok k2 n2 s2 = true) (ht : together k1 k2 = true) (g1 : (k1 == 0) = false) (g2 : (k2 == 0) = false) :
    Calls Tryz.prog 22 #[.int .i64 7, .agg #[.int .i64 k1, .int .i64 n1, .string s1], .agg #[.int .i64 k2, .int .i64 n2, .string s2]] w fun e w' => e = .returned (.tuple #[.agg #[.int .i64 4, .int .i64 (zB (ordV k1 n1 s1 k2 n2 s2 == 0)), .string ⟨#[]⟩], .int .i64 0]) ∧ Below w.heap.size w w' := by
  have bw0 : Below w.heap.size w (((w.alloc (.cells #[.int .i64 k1, .int .i64 n1, .string s1] 29)).alloc (.cells #[.int .i64 k2, .int .i64 n2, .string s2] 29)).alloc (.cells #[.int .i64 0, .int .i64 0, .string ⟨#[]⟩] 29)) := ((below_alloc w _).alloc (by simp) _).alloc (by simp; omega) _
  have HV1 : Hid (vok k1 n1 s1 = true) := hv1
  have HV2 : Hid (vok k2 n2 s2 = true) := hv2
  have HK : Hid (Ok.opk 7 k1 k2 = 4) := (opk_same k1 k2 (vok_kind hv1).1 (vok_kind hv2).1 ht).2
  have hF := fit_of hv1 hv2 ht
  clear hv1 hv2 ht
  go_enter Tryz.func22, Tryz.ntmps22
  go_wp2_with (go_at_call 52; refine (within_any _ _ _ _).mono ?_; rintro e w' ⟨rfl, rfl⟩)
  refine (vok_impl k1 n1 s1 _ hs1 (tabs_below hT bw0)).mono ?_
  rw [HV1.out]
  rintro e w1 ⟨rfl, hb⟩
  obtain ⟨hc, hf⟩ := bcell hb
  have bw1 : Below w.heap.size w w1 := bw0.trans (hb.mono (by simp; omega))
  have hx1 : w.heap.size + 1 + 1 < w1.heap.size := by have := hb.size; simp at this; omega
  have hz1 : w.heap.size + 1 < w1.heap.size := by omega
  have hy1 : w.heap.size < w1.heap.size := by omega
  go_wp2_with fail
  refine (vok_impl k2 n2 s2 _ hs2 (tabs_below hT bw1)).mono ?_
  rw [HV2.out]
  rintro e w2 ⟨rfl, hb2⟩
  obtain ⟨hc2, hf2⟩ := bcell hb2
  have bw2 : Below w.heap.size w w2 := bw1.trans (hb2.mono bw1.size)
  have hx2 : w.heap.size + 1 + 1 < w2.heap.size := by have := hb2.size; omega
  have hz2 : w.heap.size + 1 < w2.heap.size := by omega
  have hy2 : w.heap.size < w2.heap.size := by omega
  go_wp2_with fail
  refine (Ok.opKind_impl _ _ _ _).mono ?_
  rw [HK.out]
  rintro e w3 ⟨rfl, hb3⟩
  obtain ⟨hc3, hf3⟩ := bcell hb3
  have bw3 : Below w.heap.size w w3 := bw2.trans (hb3.mono bw2.size)
  have hx3 : w.heap.size + 1 + 1 < w3.heap.size := by have := hb3.size; omega
  have hz3 : w.heap.size + 1 < w3.heap.size := by omega
  have hy3 : w.heap.size < w3.heap.size := by omega
  go_wp2_with fail
  refine (orderOf_any k1 n1 s1 k2 n2 s2 _ hF).mono ?_
  rintro e w4 ⟨rfl, hb4⟩
  obtain ⟨hc4, hf4⟩ := bcell hb4
  have bw4 : Below w.heap.size w w4 := bw3.trans (hb4.mono bw3.size)
  have hx4 : w.heap.size + 1 + 1 < w4.heap.size := by have := hb4.size; omega
  have hz4 : w.heap.size + 1 < w4.heap.size := by omega
  have hy4 : w.heap.size < w4.heap.size := by omega
  go_wp2_with (go_at_call 61; refine (holds_eq _ _).mono ?_; rintro e w' ⟨rfl, rfl⟩)
  refine (boolValue_any _ _).mono ?_
  rintro e w5 ⟨rfl, hb5⟩
  obtain ⟨hc5, hf5⟩ := bcell hb5
  have bw5 : Below w.heap.size w w5 := bw4.trans (hb5.mono bw4.size)
  have hx5 : w.heap.size + 1 + 1 < w5.heap.size := by have := hb5.size; omega
  go_wp2
  refine bodyPost_ret (v := .tuple #[.agg #[.int .i64 4, .int .i64 (zB (ordV k1 n1 s1 k2 n2 s2 == 0)), .string ⟨#[]⟩], .int .i64 0]) (by simp [results, Tryz.results22, go_sem, hc, hf, hc2, hf2, hc3, hf3, hc4, hf4, hc5, hf5, hx1, hx2, hx3, hx4, hx5]) rfl ⟨rfl, ?_⟩
  refine bw5.trans ?_
  (go_light; repeat (first | with_reducible exact Below.refl _ _ | (with_reducible refine Below.setCell ?_ ?_ _; rotate_left; (focus first | (simp; done) | (simp; omega) | omega)) | (with_reducible refine Below.alloc ?_ ?_ _; rotate_left; (focus first | (simp; done) | (simp; omega) | omega)) | with_reducible refine Below.drew ?_))
set_option maxHeartbeats 4000000 in
theorem binary_eq_null (k1 n1 : Int) (s1 : ByteArray) (k2 n2 : Int) (s2 : ByteArray) (w : World) (hs1 : s1.size ≤ 1048576) (hs2 : s2.size ≤ 1048576) (hT : Tabs w) (hv1 : vok k1 n1 s1 = true) (hv2 : vok k2 n2 s2 = true) (ht : together k1 k2 = true) (g : (k1 == 0 || k2 == 0) = true) :
    Calls Tryz.prog 22 #[.int .i64 7, .agg #[.int .i64 k1, .int .i64 n1, .string s1], .agg #[.int .i64 k2, .int .i64 n2, .string s2]] w fun e w' => e = .returned (.tuple #[.agg #[.int .i64 0, .int .i64 0, .string ⟨#[]⟩], .int .i64 0]) ∧ Below w.heap.size w w' := by
  have bw0 : Below w.heap.size w (((w.alloc (.cells #[.int .i64 k1, .int .i64 n1, .string s1] 29)).alloc (.cells #[.int .i64 k2, .int .i64 n2, .string s2] 29)).alloc (.cells #[.int .i64 0, .int .i64 0, .string ⟨#[]⟩] 29)) := ((below_alloc w _).alloc (by simp) _).alloc (by simp; omega) _
  have HV1 : Hid (vok k1 n1 s1 = true) := hv1
  have HV2 : Hid (vok k2 n2 s2 = true) := hv2
  have HK : Hid (Ok.opk 7 k1 k2 = 4) := (opk_same k1 k2 (vok_kind hv1).1 (vok_kind hv2).1 ht).2
  have hF := fit_of hv1 hv2 ht
  clear hv1 hv2 ht
  go_enter Tryz.func22, Tryz.ntmps22
  go_wp2_with (go_at_call 52; refine (within_any _ _ _ _).mono ?_; rintro e w' ⟨rfl, rfl⟩)
  refine (vok_impl k1 n1 s1 _ hs1 (tabs_below hT bw0)).mono ?_
  rw [HV1.out]
  rintro e w1 ⟨rfl, hb⟩
  obtain ⟨hc, hf⟩ := bcell hb
  have bw1 : Below w.heap.size w w1 := bw0.trans (hb.mono (by simp; omega))
  have hx1 : w.heap.size + 1 + 1 < w1.heap.size := by have := hb.size; simp at this; omega
  have hz1 : w.heap.size + 1 < w1.heap.size := by omega
  have hy1 : w.heap.size < w1.heap.size := by omega
  go_wp2_with fail
  refine (vok_impl k2 n2 s2 _ hs2 (tabs_below hT bw1)).mono ?_
  rw [HV2.out]
  rintro e w2 ⟨rfl, hb2⟩
  obtain ⟨hc2, hf2⟩ := bcell hb2
  have bw2 : Below w.heap.size w w2 := bw1.trans (hb2.mono bw1.size)
  have hx2 : w.heap.size + 1 + 1 < w2.heap.size := by have := hb2.size; omega
  have hz2 : w.heap.size + 1 < w2.heap.size := by omega
  have hy2 : w.heap.size < w2.heap.size := by omega
  go_wp2_with fail
  refine (Ok.opKind_impl _ _ _ _).mono ?_
  rw [HK.out]
  rintro e w3 ⟨rfl, hb3⟩
  obtain ⟨hc3, hf3⟩ := bcell hb3
  have bw3 : Below w.heap.size w w3 := bw2.trans (hb3.mono bw2.size)
  have hx3 : w.heap.size + 1 + 1 < w3.heap.size := by have := hb3.size; omega
  have hz3 : w.heap.size + 1 < w3.heap.size := by omega
  have hy3 : w.heap.size < w3.heap.size := by omega
  by_cases g0 : (k1 == 0) = true
  · obtain rfl : k1 = 0 := by simpa using g0
    go_wp2
    refine bodyPost_ret (v := .tuple #[.agg #[.int .i64 0, .int .i64 0, .string ⟨#[]⟩], .int .i64 0]) (by simp [results, Tryz.results22, go_sem, hc, hf, hc2, hf2, hc3, hf3, hx1, hx2, hx3]) rfl ⟨rfl, ?_⟩
    refine bw3.trans ?_
    (go_light; repeat (first | with_reducible exact Below.refl _ _ | (with_reducible refine Below.setCell ?_ ?_ _; rotate_left; (focus first | (simp; done) | (simp; omega) | omega)) | (with_reducible refine Below.alloc ?_ ?_ _; rotate_left; (focus first | (simp; done) | (simp; omega) | omega)) | with_reducible refine Below.drew ?_))
  · have g1 : (k1 == 0) = false := by simpa using g0
    obtain rfl : k2 = 0 := by simpa [g1] using g
    clear g0
    go_wp2
    refine bodyPost_ret (v := .tuple #[.agg #[.int .i64 0, .int .i64 0, .string ⟨#[]⟩], .int .i64 0]) (by simp [results, Tryz.results22, go_sem, hc, hf, hc2, hf2, hc3, hf3, hx1, hx2, hx3]) rfl ⟨rfl, ?_⟩
    refine bw3.trans ?_
    (go_light; repeat (first | with_reducible exact Below.refl _ _ | (with_reducible refine Below.setCell ?_ ?_ _; rotate_left; (focus first | (simp; done) | (simp; omega) | omega)) | (with_reducible refine Below.alloc ?_ ?_ _; rotate_left; (focus first | (simp; done) | (simp; omega) | omega)) | with_reducible refine Below.drew ?_))
end Go.Proofs.YtdcdoeolaongkaaGreatDoor
namespace Go.Proofs.YtdcdoeolaongkaaGreatDoor.Ca
open Go.ChangeShapes Go.WideShapes Go.ChangeAt Go.RowKit Go.Shelf
set_option linter.unusedVariables false
set_option linter.unusedSimpArgs false
set_option maxRecDepth 100000
set_option maxHeartbeats 4000000 in
theorem nullif_yes (k n : Int) (s : ByteArray) (k2 n2 : Int) (s2 : ByteArray) (a : Option Addr) (cap : Nat) (W : World) (h : RVO W (.slice a 2 cap) [(k, n, s), (k2, n2, s2)])
    (hcon : ∀ w, Below W.heap.size W w → Calls Tryz.prog 22 #[.int .i64 7, .agg #[.int .i64 k, .int .i64 n, .string s], .agg #[.int .i64 k2, .int .i64 n2, .string s2]] w fun e w' => e = .returned (.tuple #[.agg #[.int .i64 4, .int .i64 1, .string ⟨#[]⟩], .int .i64 0]) ∧ Below w.heap.size w w') :
    Calls Tryz.prog 90 #[.slice a 2 cap] W fun e w' => Gives (fun V => V = Rd.tV 0 0 ⟨#[]⟩ 0) W e w' := by
  obtain ⟨g, o, rfl, hg, ⟨c0, c1, c2⟩, e0, e1, e2⟩ := two_cells h
  have bw0 := below_alloc W (.cells #[.int .i64 0, .int .i64 0, .string ⟨#[]⟩] 29)
  have d0 := (bw0.cell (p := ⟨g, o, none⟩) hg).trans c0
  have d1 := (bw0.cell (p := ⟨g, o + 1, none⟩) hg).trans c1
  have d2 := (bw0.cell (p := ⟨g, o + 2, none⟩) hg).trans c2
  have d3 := (bw0.cell (p := ⟨g, o + 3, none⟩) hg).trans e0
  have d4 := (bw0.cell (p := ⟨g, o + 3 + 1, none⟩) hg).trans e1
  have d5 := (bw0.cell (p := ⟨g, o + 3 + 2, none⟩) hg).trans e2
  have HC : Hid _ := hcon
  have hne : W.heap.size + 1 ≠ g := by omega
  clear h c0 c1 c2 e0 e1 e2 hcon
  go_enter Tryz.func90, Tryz.ntmps90
  go_upto_region 1 with fail
  go_cut [4, 5] from 6 to 15 (fun v4 v5 wx => ∃ b, v4 = .pointer (some ⟨b, 0, none⟩) ∧ v5 = .int .i64 0 ∧ W.heap.size < b ∧ b < wx.heap.size ∧ wx.cell? ⟨b, 0, none⟩ = some (.int .i64 4) ∧ wx.cell? ⟨b, 1, none⟩ = some (.int .i64 1) ∧ wx.cell? ⟨b, 2, none⟩ = some (.string ⟨#[]⟩) ∧ Below (W.heap.size + 1) (W.alloc (.cells #[.int .i64 0, .int .i64 0, .string ⟨#[]⟩] 29)) wx)
  case first =>
    go_region_held3 (fun w' => w'.cell? ⟨g, o, none⟩ = some (.int .i64 k) ∧ w'.cell? ⟨g, o + 1, none⟩ = some (.int .i64 n) ∧ w'.cell? ⟨g, o + 2, none⟩ = some (.string s) ∧ w'.cell? ⟨g, o + 3, none⟩ = some (.int .i64 k2) ∧ w'.cell? ⟨g, o + 3 + 1, none⟩ = some (.int .i64 n2) ∧ w'.cell? ⟨g, o + 3 + 2, none⟩ = some (.string s2)) (go_keep) (first | (go_at_call 22; refine (HC.out _ ?_).mono ?_; (exact (by (go_light; repeat (first | with_reducible assumption | with_reducible exact Below.refl _ _ | (with_reducible refine Below.setCell ?_ ?_ _; rotate_left; (focus first | (simp; done) | (simp; omega) | omega)) | (with_reducible refine Below.alloc ?_ ?_ _; rotate_left; (focus first | (simp; done) | (simp; omega) | omega)) | with_reducible refine Below.drew ?_)))); rintro e w1 ⟨rfl, hb1⟩; obtain ⟨hc1, hf1⟩ := bcell hb1; have hz1 := hb1.size; simp at hz1; have hne1 : w1.heap.size ≠ g := (by omega); have bw1 : Below (W.heap.size + 1) (W.alloc (.cells #[.int .i64 0, .int .i64 0, .string ⟨#[]⟩] 29)) w1 := Below.trans (by (go_light; repeat (first | with_reducible assumption | with_reducible exact Below.refl _ _ | (with_reducible refine Below.setCell ?_ ?_ _; rotate_left; (focus first | (simp; done) | (simp; omega) | omega)) | (with_reducible refine Below.alloc ?_ ?_ _; rotate_left; (focus first | (simp; done) | (simp; omega) | omega)) | with_reducible refine Below.drew ?_))) (hb1.mono (by simp)); have y0 : w1.cell? ⟨g, o, none⟩ = some (.int .i64 k) := (hc1 g (o) (by simp; omega)).trans (by go_keep); have y1 : w1.cell? ⟨g, o + 1, none⟩ = some (.int .i64 n) := (hc1 g (o + 1) (by simp; omega)).trans (by go_keep); have y2 : w1.cell? ⟨g, o + 2, none⟩ = some (.string s) := (hc1 g (o + 2) (by simp; omega)).trans (by go_keep); have y3 : w1.cell? ⟨g, o + 3, none⟩ = some (.int .i64 k2) := (hc1 g (o + 3) (by simp; omega)).trans (by go_keep); have y4 : w1.cell? ⟨g, o + 3 + 1, none⟩ = some (.int .i64 n2) := (hc1 g (o + 3 + 1) (by simp; omega)).trans (by go_keep); have y5 : w1.cell? ⟨g, o + 3 + 2, none⟩ = some (.string s2) := (hc1 g (o + 3 + 2) (by simp; omega)).trans (by go_keep)))
    all_goals
      go_wp2_with fail
      go_meet
      first
        | exact ⟨w1.heap.size, rfl, rfl, by omega, (by first | (simp; done) | (simp; omega)), by simp [go_sem], by simp [go_sem], by simp [go_sem], (by (go_light; repeat (first | with_reducible assumption | with_reducible exact Below.refl _ _ | (with_reducible refine Below.setCell ?_ ?_ _; rotate_left; (focus first | (simp; done) | (simp; omega) | omega)) | (with_reducible refine Below.alloc ?_ ?_ _; rotate_left; (focus first | (simp; done) | (simp; omega) | omega)) | with_reducible refine Below.drew ?_)))⟩
        | exact ⟨W.heap.size + 1, rfl, rfl, by omega, (by first | (simp; done) | (simp; omega)), by simp [go_sem, hc1], by simp [go_sem, hc1], by simp [go_sem, hc1], (by (go_light; repeat (first | with_reducible assumption | with_reducible exact Below.refl _ _ | (with_reducible refine Below.setCell ?_ ?_ _; rotate_left; (focus first | (simp; done) | (simp; omega) | omega)) | (with_reducible refine Below.alloc ?_ ?_ _; rotate_left; (focus first | (simp; done) | (simp; omega) | omega)) | with_reducible refine Below.drew ?_)))⟩
  case rest =>
    obtain ⟨b, rfl, rfl, hb1, hb2, k0, k1, k2c, bwc⟩ := hcut
    have x0 := (bwc.cell (p := ⟨g, o, none⟩) (by show g < _; omega)).trans d0
    have x1 := (bwc.cell (p := ⟨g, o + 1, none⟩) (by show g < _; omega)).trans d1
    have x2 := (bwc.cell (p := ⟨g, o + 2, none⟩) (by show g < _; omega)).trans d2
    have z0 : wc.cell? ⟨W.heap.size, 0, none⟩ = some (.int .i64 0) := (bwc.cell (p := ⟨W.heap.size, 0, none⟩) (by show W.heap.size < _; omega)).trans (by simp [go_sem])
    have z1 : wc.cell? ⟨W.heap.size, 1, none⟩ = some (.int .i64 0) := (bwc.cell (p := ⟨W.heap.size, 1, none⟩) (by show W.heap.size < _; omega)).trans (by simp [go_sem])
    have z2 : wc.cell? ⟨W.heap.size, 2, none⟩ = some (.string ⟨#[]⟩) := (bwc.cell (p := ⟨W.heap.size, 2, none⟩) (by show W.heap.size < _; omega)).trans (by simp [go_sem])
    have j0 : wc.frozen? ⟨W.heap.size, 0, none⟩ = false := (bwc.frozen (p := ⟨W.heap.size, 0, none⟩) (by show W.heap.size < _; omega)).trans (by simp [go_sem])
    have j1 : wc.frozen? ⟨W.heap.size, 1, none⟩ = false := (bwc.frozen (p := ⟨W.heap.size, 1, none⟩) (by show W.heap.size < _; omega)).trans (by simp [go_sem])
    have j2 : wc.frozen? ⟨W.heap.size, 2, none⟩ = false := (bwc.frozen (p := ⟨W.heap.size, 2, none⟩) (by show W.heap.size < _; omega)).trans (by simp [go_sem])
    have BW : Hid (Below W.heap.size W wc) := bw0.trans (bwc.mono (by omega))
    clear d0 d1 d2 d3 d4 d5 bwc bw0
    go_wp2
    go_region_with (go_at_call 58; refine (boolValue_any _ _).mono ?_; rintro e wV ⟨rfl, hbV⟩; (first | (replace hbV := undrew hbV) | skip); obtain ⟨hcV, hfV⟩ := bcell hbV; have hzV := hbV.size; have bV : Below W.heap.size W wV := BW.out.trans (hbV.mono BW.out.size))
    all_goals
      have hw1 : W.heap.size < wc.heap.size := by omega
      have hw2 : W.heap.size < wV.heap.size := by omega
      have hw3 : g < wc.heap.size := by omega
      go_wp2
      refine bodyPost_ret (v := Rd.tV 0 0 ⟨#[]⟩ 0) (by simp [results, Tryz.results90, go_sem, Rd.tV, hcV, hfV, z0, z1, z2, j0, j1, j2, x0, x1, x2, hw1, hw2, hw3]) rfl (Gives.mk rfl ?_)
      exact (by (go_light; repeat (first | with_reducible assumption | with_reducible exact Below.refl _ _ | (with_reducible refine Below.setCell ?_ ?_ _; rotate_left; (focus first | (simp; done) | (simp; omega) | omega)) | (with_reducible refine Below.alloc ?_ ?_ _; rotate_left; (focus first | (simp; done) | (simp; omega) | omega)) | with_reducible refine Below.drew ?_)))
set_option maxHeartbeats 4000000 in
theorem nullif_no (k n : Int) (s : ByteArray) (k2 n2 : Int) (s2 : ByteArray) (a : Option Addr) (cap : Nat) (W : World) (h : RVO W (.slice a 2 cap) [(k, n, s), (k2, n2, s2)])
    (hcon : ∀ w, Below W.heap.size W w → Calls Tryz.prog 22 #[.int .i64 7, .agg #[.int .i64 k, .int .i64 n, .string s], .agg #[.int .i64 k2, .int .i64 n2, .string s2]] w fun e w' => e = .returned (.tuple #[.agg #[.int .i64 4, .int .i64 0, .string ⟨#[]⟩], .int .i64 0]) ∧ Below w.heap.size w w') :
    Calls Tryz.prog 90 #[.slice a 2 cap] W fun e w' => Gives (fun V => V = Rd.tV k n s 0) W e w' := by
  obtain ⟨g, o, rfl, hg, ⟨c0, c1, c2⟩, e0, e1, e2⟩ := two_cells h
  have bw0 := below_alloc W (.cells #[.int .i64 0, .int .i64 0, .string ⟨#[]⟩] 29)
  have d0 := (bw0.cell (p := ⟨g, o, none⟩) hg).trans c0
  have d1 := (bw0.cell (p := ⟨g, o + 1, none⟩) hg).trans c1
  have d2 := (bw0.cell (p := ⟨g, o + 2, none⟩) hg).trans c2
  have d3 := (bw0.cell (p := ⟨g, o + 3, none⟩) hg).trans e0
  have d4 := (bw0.cell (p := ⟨g, o + 3 + 1, none⟩) hg).trans e1
  have d5 := (bw0.cell (p := ⟨g, o + 3 + 2, none⟩) hg).trans e2
  have HC : Hid _ := hcon
  have hne : W.heap.size + 1 ≠ g := by omega
  clear h c0 c1 c2 e0 e1 e2 hcon
  go_enter Tryz.func90, Tryz.ntmps90
  go_upto_region 1 with fail
  go_cut [4, 5] from 6 to 15 (fun v4 v5 wx => ∃ b, v4 = .pointer (some ⟨b, 0, none⟩) ∧ v5 = .int .i64 0 ∧ W.heap.size < b ∧ b < wx.heap.size ∧ wx.cell? ⟨b, 0, none⟩ = some (.int .i64 4) ∧ wx.cell? ⟨b, 1, none⟩ = some (.int .i64 0) ∧ wx.cell? ⟨b, 2, none⟩ = some (.string ⟨#[]⟩) ∧ Below (W.heap.size + 1) (W.alloc (.cells #[.int .i64 0, .int .i64 0, .string ⟨#[]⟩] 29)) wx)
  case first =>
    go_region_held3 (fun w' => w'.cell? ⟨g, o, none⟩ = some (.int .i64 k) ∧ w'.cell? ⟨g, o + 1, none⟩ = some (.int .i64 n) ∧ w'.cell? ⟨g, o + 2, none⟩ = some (.string s) ∧ w'.cell? ⟨g, o + 3, none⟩ = some (.int .i64 k2) ∧ w'.cell? ⟨g, o + 3 + 1, none⟩ = some (.int .i64 n2) ∧ w'.cell? ⟨g, o + 3 + 2, none⟩ = some (.string s2)) (go_keep) (first | (go_at_call 22; refine (HC.out _ ?_).mono ?_; (exact (by (go_light; repeat (first | with_reducible assumption | with_reducible exact Below.refl _ _ | (with_reducible refine Below.setCell ?_ ?_ _; rotate_left; (focus first | (simp; done) | (simp; omega) | omega)) | (with_reducible refine Below.alloc ?_ ?_ _; rotate_left; (focus first | (simp; done) | (simp; omega) | omega)) | with_reducible refine Below.drew ?_)))); rintro e w1 ⟨rfl, hb1⟩; obtain ⟨hc1, hf1⟩ := bcell hb1; have hz1 := hb1.size; simp at hz1; have hne1 : w1.heap.size ≠ g := (by omega); have bw1 : Below (W.heap.size + 1) (W.alloc (.cells #[.int .i64 0, .int .i64 0, .string ⟨#[]⟩] 29)) w1 := Below.trans (by (go_light; repeat (first | with_reducible assumption | with_reducible exact Below.refl _ _ | (with_reducible refine Below.setCell ?_ ?_ _; rotate_left; (focus first | (simp; done) | (simp; omega) | omega)) | (with_reducible refine Below.alloc ?_ ?_ _; rotate_left; (focus first | (simp; done) | (simp; omega) | omega)) | with_reducible refine Below.drew ?_))) (hb1.mono (by simp)); have y0 : w1.cell? ⟨g, o, none⟩ = some (.int .i64 k) := (hc1 g (o) (by simp; omega)).trans (by go_keep); have y1 : w1.cell? ⟨g, o + 1, none⟩ = some (.int .i64 n) := (hc1 g (o + 1) (by simp; omega)).trans (by go_keep); have y2 : w1.cell? ⟨g, o + 2, none⟩ = some (.string s) := (hc1 g (o + 2) (by simp; omega)).trans (by go_keep); have y3 : w1.cell? ⟨g, o + 3, none⟩ = some (.int .i64 k2) := (hc1 g (o + 3) (by simp; omega)).trans (by go_keep); have y4 : w1.cell? ⟨g, o + 3 + 1, none⟩ = some (.int .i64 n2) := (hc1 g (o + 3 + 1) (by simp; omega)).trans (by go_keep); have y5 : w1.cell? ⟨g, o + 3 + 2, none⟩ = some (.string s2) := (hc1 g (o + 3 + 2) (by simp; omega)).trans (by go_keep)))
    all_goals
      go_wp2_with fail
      go_meet
      first
        | exact ⟨w1.heap.size, rfl, rfl, by omega, (by first | (simp; done) | (simp; omega)), by simp [go_sem], by simp [go_sem], by simp [go_sem], (by (go_light; repeat (first | with_reducible assumption | with_reducible exact Below.refl _ _ | (with_reducible refine Below.setCell ?_ ?_ _; rotate_left; (focus first | (simp; done) | (simp; omega) | omega)) | (with_reducible refine Below.alloc ?_ ?_ _; rotate_left; (focus first | (simp; done) | (simp; omega) | omega)) | with_reducible refine Below.drew ?_)))⟩
        | exact ⟨W.heap.size + 1, rfl, rfl, by omega, (by first | (simp; done) | (simp; omega)), by simp [go_sem, hc1], by simp [go_sem, hc1], by simp [go_sem, hc1], (by (go_light; repeat (first | with_reducible assumption | with_reducible exact Below.refl _ _ | (with_reducible refine Below.setCell ?_ ?_ _; rotate_left; (focus first | (simp; done) | (simp; omega) | omega)) | (with_reducible refine Below.alloc ?_ ?_ _; rotate_left; (focus first | (simp; done) | (simp; omega) | omega)) | with_reducible refine Below.drew ?_)))⟩
  case rest =>
    obtain ⟨b, rfl, rfl, hb1, hb2, k0, k1, k2c, bwc⟩ := hcut
    have x0 := (bwc.cell (p := ⟨g, o, none⟩) (by show g < _; omega)).trans d0
    have x1 := (bwc.cell (p := ⟨g, o + 1, none⟩) (by show g < _; omega)).trans d1
    have x2 := (bwc.cell (p := ⟨g, o + 2, none⟩) (by show g < _; omega)).trans d2
    have z0 : wc.cell? ⟨W.heap.size, 0, none⟩ = some (.int .i64 0) := (bwc.cell (p := ⟨W.heap.size, 0, none⟩) (by show W.heap.size < _; omega)).trans (by simp [go_sem])
    have z1 : wc.cell? ⟨W.heap.size, 1, none⟩ = some (.int .i64 0) := (bwc.cell (p := ⟨W.heap.size, 1, none⟩) (by show W.heap.size < _; omega)).trans (by simp [go_sem])
    have z2 : wc.cell? ⟨W.heap.size, 2, none⟩ = some (.string ⟨#[]⟩) := (bwc.cell (p := ⟨W.heap.size, 2, none⟩) (by show W.heap.size < _; omega)).trans (by simp [go_sem])
    have j0 : wc.frozen? ⟨W.heap.size, 0, none⟩ = false := (bwc.frozen (p := ⟨W.heap.size, 0, none⟩) (by show W.heap.size < _; omega)).trans (by simp [go_sem])
    have j1 : wc.frozen? ⟨W.heap.size, 1, none⟩ = false := (bwc.frozen (p := ⟨W.heap.size, 1, none⟩) (by show W.heap.size < _; omega)).trans (by simp [go_sem])
    have j2 : wc.frozen? ⟨W.heap.size, 2, none⟩ = false := (bwc.frozen (p := ⟨W.heap.size, 2, none⟩) (by show W.heap.size < _; omega)).trans (by simp [go_sem])
    have BW : Hid (Below W.heap.size W wc) := bw0.trans (bwc.mono (by omega))
    clear d0 d1 d2 d3 d4 d5 bwc bw0
    go_wp2
    go_region_with (go_at_call 58; refine (boolValue_any _ _).mono ?_; rintro e wV ⟨rfl, hbV⟩; (first | (replace hbV := undrew hbV) | skip); obtain ⟨hcV, hfV⟩ := bcell hbV; have hzV := hbV.size; have bV : Below W.heap.size W wV := BW.out.trans (hbV.mono BW.out.size))
    all_goals
      have hw1 : W.heap.size < wc.heap.size := by omega
      have hw2 : W.heap.size < wV.heap.size := by omega
      have hw3 : g < wc.heap.size := by omega
      go_wp2
      refine bodyPost_ret (v := Rd.tV k n s 0) (by simp [results, Tryz.results90, go_sem, Rd.tV, hcV, hfV, z0, z1, z2, j0, j1, j2, x0, x1, x2, hw1, hw2, hw3]) rfl (Gives.mk rfl ?_)
      exact (by (go_light; repeat (first | with_reducible assumption | with_reducible exact Below.refl _ _ | (with_reducible refine Below.setCell ?_ ?_ _; rotate_left; (focus first | (simp; done) | (simp; omega) | omega)) | (with_reducible refine Below.alloc ?_ ?_ _; rotate_left; (focus first | (simp; done) | (simp; omega) | omega)) | with_reducible refine Below.drew ?_)))
set_option maxHeartbeats 4000000 in
theorem nullif_null (k n : Int) (s : ByteArray) (k2 n2 : Int) (s2 : ByteArray) (a : Option Addr) (cap : Nat) (W : World) (h : RVO W (.slice a 2 cap) [(k, n, s), (k2, n2, s2)])
    (hcon : ∀ w, Below W.heap.size W w → Calls Tryz.prog 22 #[.int .i64 7, .agg #[.int .i64 k, .int .i64 n, .string s], .agg #[.int .i64 k2, .int .i64 n2, .string s2]] w fun e w' => e = .returned (.tuple #[.agg #[.int .i64 0, .int .i64 0, .string ⟨#[]⟩], .int .i64 0]) ∧ Below w.heap.size w w') :
    Calls Tryz.prog 90 #[.slice a 2 cap] W fun e w' => Gives (fun V => V = Rd.tV k n s 0) W e w' := by
  obtain ⟨g, o, rfl, hg, ⟨c0, c1, c2⟩, e0, e1, e2⟩ := two_cells h
  have bw0 := below_alloc W (.cells #[.int .i64 0, .int .i64 0, .string ⟨#[]⟩] 29)
  have d0 := (bw0.cell (p := ⟨g, o, none⟩) hg).trans c0
  have d1 := (bw0.cell (p := ⟨g, o + 1, none⟩) hg).trans c1
  have d2 := (bw0.cell (p := ⟨g, o + 2, none⟩) hg).trans c2
  have d3 := (bw0.cell (p := ⟨g, o + 3, none⟩) hg).trans e0
  have d4 := (bw0.cell (p := ⟨g, o + 3 + 1, none⟩) hg).trans e1
  have d5 := (bw0.cell (p := ⟨g, o + 3 + 2, none⟩) hg).trans e2
  have HC : Hid _ := hcon
  have hne : W.heap.size + 1 ≠ g := by omega
  clear h c0 c1 c2 e0 e1 e2 hcon
  go_enter Tryz.func90, Tryz.ntmps90
  go_upto_region 1 with fail
  go_cut [4, 5] from 6 to 15 (fun v4 v5 wx => ∃ b, v4 = .pointer (some ⟨b, 0, none⟩) ∧ v5 = .int .i64 0 ∧ W.heap.size < b ∧ b < wx.heap.size ∧ wx.cell? ⟨b, 0, none⟩ = some (.int .i64 0) ∧ wx.cell? ⟨b, 1, none⟩ = some (.int .i64 0) ∧ wx.cell? ⟨b, 2, none⟩ = some (.string ⟨#[]⟩) ∧ Below (W.heap.size + 1) (W.alloc (.cells #[.int .i64 0, .int .i64 0, .string ⟨#[]⟩] 29)) wx)
  case first =>
    go_region_held3 (fun w' => w'.cell? ⟨g, o, none⟩ = some (.int .i64 k) ∧ w'.cell? ⟨g, o + 1, none⟩ = some (.int .i64 n) ∧ w'.cell? ⟨g, o + 2, none⟩ = some (.string s) ∧ w'.cell? ⟨g, o + 3, none⟩ = some (.int .i64 k2) ∧ w'.cell? ⟨g, o + 3 + 1, none⟩ = some (.int .i64 n2) ∧ w'.cell? ⟨g, o + 3 + 2, none⟩ = some (.string s2)) (go_keep) (first | (go_at_call 22; refine (HC.out _ ?_).mono ?_; (exact (by (go_light; repeat (first | with_reducible assumption | with_reducible exact Below.refl _ _ | (with_reducible refine Below.setCell ?_ ?_ _; rotate_left; (focus first | (simp; done) | (simp; omega) | omega)) | (with_reducible refine Below.alloc ?_ ?_ _; rotate_left; (focus first | (simp; done) | (simp; omega) | omega)) | with_reducible refine Below.drew ?_)))); rintro e w1 ⟨rfl, hb1⟩; obtain ⟨hc1, hf1⟩ := bcell hb1; have hz1 := hb1.size; simp at hz1; have hne1 : w1.heap.size ≠ g := (by omega); have bw1 : Below (W.heap.size + 1) (W.alloc (.cells #[.int .i64 0, .int .i64 0, .string ⟨#[]⟩] 29)) w1 := Below.trans (by (go_light; repeat (first | with_reducible assumption | with_reducible exact Below.refl _ _ | (with_reducible refine Below.setCell ?_ ?_ _; rotate_left; (focus first | (simp; done) | (simp; omega) | omega)) | (with_reducible refine Below.alloc ?_ ?_ _; rotate_left; (focus first | (simp; done) | (simp; omega) | omega)) | with_reducible refine Below.drew ?_))) (hb1.mono (by simp)); have y0 : w1.cell? ⟨g, o, none⟩ = some (.int .i64 k) := (hc1 g (o) (by simp; omega)).trans (by go_keep); have y1 : w1.cell? ⟨g, o + 1, none⟩ = some (.int .i64 n) := (hc1 g (o + 1) (by simp; omega)).trans (by go_keep); have y2 : w1.cell? ⟨g, o + 2, none⟩ = some (.string s) := (hc1 g (o + 2) (by simp; omega)).trans (by go_keep); have y3 : w1.cell? ⟨g, o + 3, none⟩ = some (.int .i64 k2) := (hc1 g (o + 3) (by simp; omega)).trans (by go_keep); have y4 : w1.cell? ⟨g, o + 3 + 1, none⟩ = some (.int .i64 n2) := (hc1 g (o + 3 + 1) (by simp; omega)).trans (by go_keep); have y5 : w1.cell? ⟨g, o + 3 + 2, none⟩ = some (.string s2) := (hc1 g (o + 3 + 2) (by simp; omega)).trans (by go_keep)))
    all_goals
      go_wp2_with fail
      go_meet
      first
        | exact ⟨w1.heap.size, rfl, rfl, by omega, (by first | (simp; done) | (simp; omega)), by simp [go_sem], by simp [go_sem], by simp [go_sem], (by (go_light; repeat (first | with_reducible assumption | with_reducible exact Below.refl _ _ | (with_reducible refine Below.setCell ?_ ?_ _; rotate_left; (focus first | (simp; done) | (simp; omega) | omega)) | (with_reducible refine Below.alloc ?_ ?_ _; rotate_left; (focus first | (simp; done) | (simp; omega) | omega)) | with_reducible refine Below.drew ?_)))⟩
        | exact ⟨W.heap.size + 1, rfl, rfl, by omega, (by first | (simp; done) | (simp; omega)), by simp [go_sem, hc1], by simp [go_sem, hc1], by simp [go_sem, hc1], (by (go_light; repeat (first | with_reducible assumption | with_reducible exact Below.refl _ _ | (with_reducible refine Below.setCell ?_ ?_ _; rotate_left; (focus first | (simp; done) | (simp; omega) | omega)) | (with_reducible refine Below.alloc ?_ ?_ _; rotate_left; (focus first | (simp; done) | (simp; omega) | omega)) | with_reducible refine Below.drew ?_)))⟩
  case rest =>
    obtain ⟨b, rfl, rfl, hb1, hb2, k0, k1, k2c, bwc⟩ := hcut
    have x0 := (bwc.cell (p := ⟨g, o, none⟩) (by show g < _; omega)).trans d0
    have x1 := (bwc.cell (p := ⟨g, o + 1, none⟩) (by show g < _; omega)).trans d1
    have x2 := (bwc.cell (p := ⟨g, o + 2, none⟩) (by show g < _; omega)).trans d2
    have z0 : wc.cell? ⟨W.heap.size, 0, none⟩ = some (.int .i64 0) := (bwc.cell (p := ⟨W.heap.size, 0, none⟩) (by show W.heap.size < _; omega)).trans (by simp [go_sem])
    have z1 : wc.cell? ⟨W.heap.size, 1, none⟩ = some (.int .i64 0) := (bwc.cell (p := ⟨W.heap.size, 1, none⟩) (by show W.heap.size < _; omega)).trans (by simp [go_sem])
    have z2 : wc.cell? ⟨W.heap.size, 2, none⟩ = some (.string ⟨#[]⟩) := (bwc.cell (p := ⟨W.heap.size, 2, none⟩) (by show W.heap.size < _; omega)).trans (by simp [go_sem])
    have j0 : wc.frozen? ⟨W.heap.size, 0, none⟩ = false := (bwc.frozen (p := ⟨W.heap.size, 0, none⟩) (by show W.heap.size < _; omega)).trans (by simp [go_sem])
    have j1 : wc.frozen? ⟨W.heap.size, 1, none⟩ = false := (bwc.frozen (p := ⟨W.heap.size, 1, none⟩) (by show W.heap.size < _; omega)).trans (by simp [go_sem])
    have j2 : wc.frozen? ⟨W.heap.size, 2, none⟩ = false := (bwc.frozen (p := ⟨W.heap.size, 2, none⟩) (by show W.heap.size < _; omega)).trans (by simp [go_sem])
    have BW : Hid (Below W.heap.size W wc) := bw0.trans (bwc.mono (by omega))
    clear d0 d1 d2 d3 d4 d5 bwc bw0
    go_wp2
    go_region_with (go_at_call 58; refine (boolValue_any _ _).mono ?_; rintro e wV ⟨rfl, hbV⟩; (first | (replace hbV := undrew hbV) | skip); obtain ⟨hcV, hfV⟩ := bcell hbV; have hzV := hbV.size; have bV : Below W.heap.size W wV := BW.out.trans (hbV.mono BW.out.size))
    all_goals
      have hw1 : W.heap.size < wc.heap.size := by omega
      have hw2 : W.heap.size < wV.heap.size := by omega
      have hw3 : g < wc.heap.size := by omega
      go_wp2
      refine bodyPost_ret (v := Rd.tV k n s 0) (by simp [results, Tryz.results90, go_sem, Rd.tV, hcV, hfV, z0, z1, z2, j0, j1, j2, x0, x1, x2, hw1, hw2, hw3]) rfl (Gives.mk rfl ?_)
      exact (by (go_light; repeat (first | with_reducible assumption | with_reducible exact Below.refl _ _ | (with_reducible refine Below.setCell ?_ ?_ _; rotate_left; (focus first | (simp; done) | (simp; omega) | omega)) | (with_reducible refine Below.alloc ?_ ?_ _; rotate_left; (focus first | (simp; done) | (simp; omega) | omega)) | with_reducible refine Below.drew ?_)))
end Go.Proofs.YtdcdoeolaongkaaGreatDoor.Ca
namespace Go.Proofs.YtdcdoeolaongkaaGreatDoor
open Go.ChangeShapes Go.WideShapes Go.ChangeAt Go.RowKit Go.Shelf
set_option linter.unusedVariables false
set_option linter.unusedSimpArgs false
set_option maxRecDepth 100000
theorem holdsS_eq (o : Int) (w : World) : Calls Tryz.prog 139 #[.int .i64 7, .int .i64 o] w fun e w' => e = .returned (.bool (o == 0)) ∧ w' = w := by
  go_enter Tryz.func139, Tryz.ntmps139
  go_wp2
  go_ret
  exact ⟨rfl, rfl⟩
set_option maxHeartbeats 4000000 in
theorem binaryS_eq (k1 n1 : Int) (s1 : ByteArray) (k2 n2 : Int) (s2 : ByteArray) (w : World) (hs1 : s1.size ≤ 1048576) (hs2 : s2.size ≤ 1048576) (hv1 : vok k1 n1 s1 = true) (hv2 : vok k2 n2 s2 = true) (ht : together k1 k2 = true) (g1 : (k1 == 0) = false) (g2 : (k2 == 0) = false) :
    Calls Tryz.prog 74 #[.int .i64 7, .agg #[.int .i64 k1, .int .i64 n1, .string s1], .agg #[.int .i64 k2, .int .i64 n2, .string s2]] w fun e w' => e = .returned (.tuple #[.agg #[.int .i64 4, .int .i64 (zB (ordV k1 n1 s1 k2 n2 s2 == 0)), .string ⟨#[]⟩], .int .i64 0]) ∧ Below w.heap.size w w' := by
  have bw0 : Below w.heap.size w (((w.alloc (.cells #[.int .i64 k1, .int .i64 n1, .string s1] 29)).alloc (.cells #[.int .i64 k2, .int .i64 n2, .string s2] 29)).alloc (.cells #[.int .i64 0, .int .i64 0, .string ⟨#[]⟩] 29)) := ((below_alloc w _).alloc (by simp) _).alloc (by simp; omega) _
  have HV1 : Hid (vok k1 n1 s1 = true) := hv1
  have HV2 : Hid (vok k2 n2 s2 = true) := hv2
  have HK : Hid (Ok.opk 7 k1 k2 = 4) := (opk_same k1 k2 (vok_kind hv1).1 (vok_kind hv2).1 ht).2
  have HR : Hid (cmpR k1 n1 s1 k2 n2 s2 = (ordV k1 n1 s1 k2 n2 s2, 0)) := (by simp [cmpR, hv1, hv2, ht] : cmpR k1 n1 s1 k2 n2 s2 = (ordV k1 n1 s1 k2 n2 s2, 0))
  clear hv1 hv2 ht
  go_enter Tryz.func74, Tryz.ntmps74
  go_wp2_with (go_at_call 14; fail)
  refine (vok_spec k1 n1 s1 _ hs1).mono ?_
  rw [HV1.out]
  rintro e w1 ⟨rfl, hb⟩
  obtain ⟨hc, hf⟩ := bcell hb
  have bw1 : Below w.heap.size w w1 := bw0.trans (hb.mono (by simp; omega))
  have hx1 : w.heap.size + 1 + 1 < w1.heap.size := by have := hb.size; simp at this; omega
  have hz1 : w.heap.size + 1 < w1.heap.size := by omega
  have hy1 : w.heap.size < w1.heap.size := by omega
  go_wp2_with (go_at_call 14; fail)
  refine (vok_spec k2 n2 s2 _ hs2).mono ?_
  rw [HV2.out]
  rintro e w2 ⟨rfl, hb2⟩
  obtain ⟨hc2, hf2⟩ := bcell hb2
  have bw2 : Below w.heap.size w w2 := bw1.trans (hb2.mono bw1.size)
  have hx2 : w.heap.size + 1 + 1 < w2.heap.size := by have := hb2.size; omega
  have hz2 : w.heap.size + 1 < w2.heap.size := by omega
  have hy2 : w.heap.size < w2.heap.size := by omega
  go_wp2_with (go_at_call 38; fail)
  refine (Ok.opKind_spec _ _ _ _).mono ?_
  rw [HK.out]
  rintro e w3 ⟨rfl, rfl⟩
  go_wp2_with (go_at_call 78; fail)
  refine (compare_spec k1 n1 s1 k2 n2 s2 _ hs1 hs2).mono ?_
  rw [HR.out]
  rintro e w4 ⟨rfl, hb4⟩
  obtain ⟨hc4, hf4⟩ := bcell hb4
  have bw4 : Below w.heap.size w w4 := bw2.trans (hb4.mono bw2.size)
  have hx4 : w.heap.size + 1 + 1 < w4.heap.size := by have := hb4.size; omega
  have hz4 : w.heap.size + 1 < w4.heap.size := by omega
  have hy4 : w.heap.size < w4.heap.size := by omega
  go_wp2_with (go_at_call 139; refine (holdsS_eq _ _).mono ?_; rintro e w' ⟨rfl, rfl⟩)
  refine (truth_any _ _).mono ?_
  rintro e w5 ⟨rfl, hb5⟩
  obtain ⟨hc5, hf5⟩ := bcell hb5
  have bw5 : Below w.heap.size w w5 := bw4.trans (hb5.mono bw4.size)
  have hx5 : w.heap.size + 1 + 1 < w5.heap.size := by have := hb5.size; omega
  go_wp2
  refine bodyPost_ret (v := .tuple #[.agg #[.int .i64 4, .int .i64 (zB (ordV k1 n1 s1 k2 n2 s2 == 0)), .string ⟨#[]⟩], .int .i64 0]) (by simp [results, Tryz.results74, go_sem, hc, hf, hc2, hf2, hc4, hf4, hc5, hf5, hx1, hx2, hx4, hx5]) rfl ⟨rfl, ?_⟩
  exact (by (go_light; repeat (first | with_reducible assumption | with_reducible exact Below.refl _ _ | (with_reducible refine Below.setCell ?_ ?_ _; rotate_left; (focus first | (simp; done) | (simp; omega) | omega)) | (with_reducible refine Below.alloc ?_ ?_ _; rotate_left; (focus first | (simp; done) | (simp; omega) | omega)) | with_reducible refine Below.drew ?_)))
set_option maxHeartbeats 4000000 in
theorem binaryS_null_a (k1 n1 : Int) (s1 : ByteArray) (k2 n2 : Int) (s2 : ByteArray) (w : World) (hs1 : s1.size ≤ 1048576) (hs2 : s2.size ≤ 1048576) (hv1 : vok k1 n1 s1 = true) (hv2 : vok k2 n2 s2 = true) (ht : together k1 k2 = true) (g1 : (k1 == 0) = true) :
    Calls Tryz.prog 74 #[.int .i64 7, .agg #[.int .i64 k1, .int .i64 n1, .string s1], .agg #[.int .i64 k2, .int .i64 n2, .string s2]] w fun e w' => e = .returned (.tuple #[.agg #[.int .i64 0, .int .i64 0, .string ⟨#[]⟩], .int .i64 0]) ∧ Below w.heap.size w w' := by
  have bw0 : Below w.heap.size w (((w.alloc (.cells #[.int .i64 k1, .int .i64 n1, .string s1] 29)).alloc (.cells #[.int .i64 k2, .int .i64 n2, .string s2] 29)).alloc (.cells #[.int .i64 0, .int .i64 0, .string ⟨#[]⟩] 29)) := ((below_alloc w _).alloc (by simp) _).alloc (by simp; omega) _
  have HV1 : Hid (vok k1 n1 s1 = true) := hv1
  have HV2 : Hid (vok k2 n2 s2 = true) := hv2
  have HK : Hid (Ok.opk 7 k1 k2 = 4) := (opk_same k1 k2 (vok_kind hv1).1 (vok_kind hv2).1 ht).2
  have HR : Hid (cmpR k1 n1 s1 k2 n2 s2 = (ordV k1 n1 s1 k2 n2 s2, 0)) := (by simp [cmpR, hv1, hv2, ht] : cmpR k1 n1 s1 k2 n2 s2 = (ordV k1 n1 s1 k2 n2 s2, 0))
  clear hv1 hv2 ht
  go_enter Tryz.func74, Tryz.ntmps74
  go_wp2_with (go_at_call 14; fail)
  refine (vok_spec k1 n1 s1 _ hs1).mono ?_
  rw [HV1.out]
  rintro e w1 ⟨rfl, hb⟩
  obtain ⟨hc, hf⟩ := bcell hb
  have bw1 : Below w.heap.size w w1 := bw0.trans (hb.mono (by simp; omega))
  have hx1 : w.heap.size + 1 + 1 < w1.heap.size := by have := hb.size; simp at this; omega
  have hz1 : w.heap.size + 1 < w1.heap.size := by omega
  have hy1 : w.heap.size < w1.heap.size := by omega
  go_wp2_with (go_at_call 14; fail)
  refine (vok_spec k2 n2 s2 _ hs2).mono ?_
  rw [HV2.out]
  rintro e w2 ⟨rfl, hb2⟩
  obtain ⟨hc2, hf2⟩ := bcell hb2
  have bw2 : Below w.heap.size w w2 := bw1.trans (hb2.mono bw1.size)
  have hx2 : w.heap.size + 1 + 1 < w2.heap.size := by have := hb2.size; omega
  have hz2 : w.heap.size + 1 < w2.heap.size := by omega
  have hy2 : w.heap.size < w2.heap.size := by omega
  go_wp2_with (go_at_call 38; fail)
  refine (Ok.opKind_spec _ _ _ _).mono ?_
  rw [HK.out]
  rintro e w3 ⟨rfl, rfl⟩
  go_wp2
  refine bodyPost_ret (v := .tuple #[.agg #[.int .i64 0, .int .i64 0, .string ⟨#[]⟩], .int .i64 0]) (by simp [results, Tryz.results74, go_sem, hc, hf, hc2, hf2, hx1, hx2]) rfl ⟨rfl, ?_⟩
  exact (by (go_light; repeat (first | with_reducible assumption | with_reducible exact Below.refl _ _ | (with_reducible refine Below.setCell ?_ ?_ _; rotate_left; (focus first | (simp; done) | (simp; omega) | omega)) | (with_reducible refine Below.alloc ?_ ?_ _; rotate_left; (focus first | (simp; done) | (simp; omega) | omega)) | with_reducible refine Below.drew ?_)))
set_option maxHeartbeats 4000000 in
theorem binaryS_null_b (k1 n1 : Int) (s1 : ByteArray) (k2 n2 : Int) (s2 : ByteArray) (w : World) (hs1 : s1.size ≤ 1048576) (hs2 : s2.size ≤ 1048576) (hv1 : vok k1 n1 s1 = true) (hv2 : vok k2 n2 s2 = true) (ht : together k1 k2 = true) (g1 : (k1 == 0) = false) (g2 : (k2 == 0) = true) :
    Calls Tryz.prog 74 #[.int .i64 7, .agg #[.int .i64 k1, .int .i64 n1, .string s1], .agg #[.int .i64 k2, .int .i64 n2, .string s2]] w fun e w' => e = .returned (.tuple #[.agg #[.int .i64 0, .int .i64 0, .string ⟨#[]⟩], .int .i64 0]) ∧ Below w.heap.size w w' := by
  have bw0 : Below w.heap.size w (((w.alloc (.cells #[.int .i64 k1, .int .i64 n1, .string s1] 29)).alloc (.cells #[.int .i64 k2, .int .i64 n2, .string s2] 29)).alloc (.cells #[.int .i64 0, .int .i64 0, .string ⟨#[]⟩] 29)) := ((below_alloc w _).alloc (by simp) _).alloc (by simp; omega) _
  have HV1 : Hid (vok k1 n1 s1 = true) := hv1
  have HV2 : Hid (vok k2 n2 s2 = true) := hv2
  have HK : Hid (Ok.opk 7 k1 k2 = 4) := (opk_same k1 k2 (vok_kind hv1).1 (vok_kind hv2).1 ht).2
  have HR : Hid (cmpR k1 n1 s1 k2 n2 s2 = (ordV k1 n1 s1 k2 n2 s2, 0)) := (by simp [cmpR, hv1, hv2, ht] : cmpR k1 n1 s1 k2 n2 s2 = (ordV k1 n1 s1 k2 n2 s2, 0))
  clear hv1 hv2 ht
  go_enter Tryz.func74, Tryz.ntmps74
  go_wp2_with (go_at_call 14; fail)
  refine (vok_spec k1 n1 s1 _ hs1).mono ?_
  rw [HV1.out]
  rintro e w1 ⟨rfl, hb⟩
  obtain ⟨hc, hf⟩ := bcell hb
  have bw1 : Below w.heap.size w w1 := bw0.trans (hb.mono (by simp; omega))
  have hx1 : w.heap.size + 1 + 1 < w1.heap.size := by have := hb.size; simp at this; omega
  have hz1 : w.heap.size + 1 < w1.heap.size := by omega
  have hy1 : w.heap.size < w1.heap.size := by omega
  go_wp2_with (go_at_call 14; fail)
  refine (vok_spec k2 n2 s2 _ hs2).mono ?_
  rw [HV2.out]
  rintro e w2 ⟨rfl, hb2⟩
  obtain ⟨hc2, hf2⟩ := bcell hb2
  have bw2 : Below w.heap.size w w2 := bw1.trans (hb2.mono bw1.size)
  have hx2 : w.heap.size + 1 + 1 < w2.heap.size := by have := hb2.size; omega
  have hz2 : w.heap.size + 1 < w2.heap.size := by omega
  have hy2 : w.heap.size < w2.heap.size := by omega
  go_wp2_with (go_at_call 38; fail)
  refine (Ok.opKind_spec _ _ _ _).mono ?_
  rw [HK.out]
  rintro e w3 ⟨rfl, rfl⟩
  go_wp2
  refine bodyPost_ret (v := .tuple #[.agg #[.int .i64 0, .int .i64 0, .string ⟨#[]⟩], .int .i64 0]) (by simp [results, Tryz.results74, go_sem, hc, hf, hc2, hf2, hx1, hx2]) rfl ⟨rfl, ?_⟩
  exact (by (go_light; repeat (first | with_reducible assumption | with_reducible exact Below.refl _ _ | (with_reducible refine Below.setCell ?_ ?_ _; rotate_left; (focus first | (simp; done) | (simp; omega) | omega)) | (with_reducible refine Below.alloc ?_ ?_ _; rotate_left; (focus first | (simp; done) | (simp; omega) | omega)) | with_reducible refine Below.drew ?_)))
end Go.Proofs.YtdcdoeolaongkaaGreatDoor
namespace Go.Proofs.YtdcdoeolaongkaaGreatDoor.Ca
open Go.MapKept Go.ChangeMaps
open Go.ChangeShapes Go.WideShapes Go.ChangeAt Go.RowKit Go.Shelf
open Go.Proofs.YtdcdoeolaongkaaGreatDoor.Rd
set_option linter.unusedVariables false
set_option linter.unusedSimpArgs false
set_option maxRecDepth 100000
set_option maxHeartbeats 4000000 in
theorem callF_big (fn : Int) (a : Option Addr) (n cap : Nat) (w : World) (h8 : 8 < n) :
    Calls Tryz.prog 20 #[.int .i64 fn, .slice a n cap] w fun e w' => e = .returned (tV 0 0 ⟨#[]⟩ 1) ∧ Below w.heap.size w w' := by
  have h8i : (8 : Int) < n := by omega
  go_enter Tryz.func20, Tryz.ntmps20
  go_wp2
  refine bodyPost_ret (v := tV 0 0 ⟨#[]⟩ 1) (by simp [results, Tryz.results20, go_sem, tV]) rfl ⟨rfl, (by (go_light; repeat (first | with_reducible assumption | with_reducible exact Below.refl _ _ | (with_reducible refine Below.setCell ?_ ?_ _; rotate_left; (focus first | (simp; done) | (simp; omega) | omega)) | (with_reducible refine Below.alloc ?_ ?_ _; rotate_left; (focus first | (simp; done) | (simp; omega) | omega)) | with_reducible refine Below.drew ?_)))⟩
set_option maxHeartbeats 16000000 in
theorem callF_none (fn : Int) (ar : List TA) (a : Option Addr) (cap : Nat) (w : World) (h8 : ar.length ≤ 8) (hr : RVO w (.slice a ar.length cap) ar) (hsz : ∀ t ∈ ar, t.2.2.size ≤ 1048576) (hT : Tabs w) (hv : Hid (∀ t ∈ ar, vok t.1 t.2.1 t.2.2 = true)) (h13 : fn < 1 ∨ 13 < fn) :
    Calls Tryz.prog 20 #[.int .i64 fn, .slice a ar.length cap] w fun e w' => e = .returned (tV 0 0 ⟨#[]⟩ 10) ∧ Below w.heap.size w w' := by
  obtain ⟨i0, hi, hz0, hz1, hz2⟩ := info_parts info3
  have hrr := hr
  obtain ⟨a', cap', hsl, hcells⟩ := hr
  simp only [Value.slice.injEq] at hsl
  obtain ⟨rfl, _, rfl⟩ := hsl
  have h8i : ¬ (8 : Int) < ar.length := by omega
  have bw0 := below_alloc w (.cells #[.int .i64 0, .int .i64 0, .string ⟨#[]⟩] 29)
  have HRR : Hid (RVO w (.slice a ar.length cap) ar) := hrr
  clear hrr
  go_enter Tryz.func20, Tryz.ntmps20
  go_wp2
  generalize hW0 : w.alloc (.cells #[.int .i64 0, .int .i64 0, .string ⟨#[]⟩] 29) = W0 at *
  have hs0 : w.heap.size < W0.heap.size := by rw [← hW0]; simp
  have r0 : W0.cell? ⟨w.heap.size, 0, none⟩ = some (.int .i64 0) ∧ W0.cell? ⟨w.heap.size, 1, none⟩ = some (.int .i64 0) ∧ W0.cell? ⟨w.heap.size, 2, none⟩ = some (.string ⟨#[]⟩) ∧ W0.frozen? ⟨w.heap.size, 0, none⟩ = false ∧ W0.frozen? ⟨w.heap.size, 1, none⟩ = false ∧ W0.frozen? ⟨w.heap.size, 2, none⟩ = false := by
    rw [← hW0]; simp [go_sem]
  have HR0 : Hid _ := r0
  have HB0 : Hid (Below w.heap.size w W0) := bw0
  clear r0 bw0 hW0
  go_loopw [6, 7, 9, 18] (fun kv nb _ i wr => ∃ k : Nat, k ≤ ar.length ∧ i = .int .i64 k ∧ nb = .bool (nullsA (ar.take k)) ∧ OwnK W0.heap.size kv k (kindsA (ar.take k)) wr ∧ Below W0.heap.size W0 wr) (fun _ _ _ i _ => ar.length - (intOf i).toNat)
  case atStart => exact ⟨0, Nat.zero_le _, rfl, rfl, (⟨rfl, .inl ⟨rfl, rfl⟩⟩ : W0.ownsRow W0.heap.size 3 1 (.slice none 0 0) 0 []), Below.refl _ _⟩
  case round =>
    obtain ⟨k, hk, rfl, rfl, hoK, hbel⟩ := hrel
    have ho : wr.ownsRow W0.heap.size 3 1 _ k ((kindsA (ar.take k)).map (Value.int .i64)) := hoK
    clear hoK
    have hbs := hbel.size
    by_cases hlt : k < ar.length
    · have hlti : (k : Int) < ar.length := by omega
      obtain ⟨g, o, rfl, hgg, hgc⟩ := hcells (by omega)
      have bww : Below w.heap.size w wr := HB0.out.trans (hbel.mono (by omega))
      obtain ⟨c0, c1, c2⟩ := hgc k hlt
      have d0 := (bww.cell (p := ⟨g, o + k * 3, none⟩) hgg).trans c0
      have d1 := (bww.cell (p := ⟨g, o + k * 3 + 1, none⟩) hgg).trans c1
      have d2 := (bww.cell (p := ⟨g, o + k * 3 + 2, none⟩) hgg).trans c2
      have hsx := hsz ar[k] (List.getElem_mem hlt)
      have hvx := hv.out ar[k] (List.getElem_mem hlt)
      have HTK : Hid (ar.take (k + 1) = ar.take k ++ [ar[k]]) := take_snoc hlt
      clear c0 c1 c2 hgc hcells hsz
      generalize ar[k] = t at *
      obtain ⟨tk, tn, ts⟩ := t
      simp only at d0 d1 d2 hsx hvx
      have HVX : Hid (vok tk tn ts = true) := hvx
      clear hvx
      have HNB : Hid (nullsA (ar.take (k + 1)) = (nullsA (ar.take k) || tk == 0)) := (by rw [HTK.out, nullsA_snoc] : nullsA (ar.take (k + 1)) = (nullsA (ar.take k) || tk == 0))
      generalize nullsA (ar.take k) = nb at *
      have cs : nb = true ∨ (nb = false ∧ (tk == 0) = true) ∨ (nb = false ∧ (tk == 0) = false) := by cases nb <;> cases (tk == 0) <;> simp
      have hVX := fun W (h : Below w.heap.size w W) => vok_impl tk tn ts W hsx (tabs_below hT h)
      rw [HVX.out] at hVX
      rcases cs with rfl | ⟨rfl, ez⟩ | ⟨rfl, ez⟩
      all_goals
        go_wp2_with (first | (go_at_call 43; refine (hVX _ (bww.alloc bww.size _)).mono ?_; rintro e w1 ⟨rfl, hb1⟩; obtain ⟨hc1, hf1⟩ := bcell hb1; have hz1w : wr.heap.size < w1.heap.size := (by have := hb1.size; simp at this; omega); have bw1 : Below W0.heap.size W0 w1 := (hbel.alloc hbs _).trans (hb1.mono (by simp; omega)); have ho1 := own_below (ho.alloc _) hb1; have e0 : w1.cell? ⟨wr.heap.size, 0, none⟩ = some (.int .i64 tk) := (hc1 wr.heap.size 0 (by simp)).trans (by simp [go_sem])) | (at_builtin; refine wpList_append_own _ rfl (.tmp 26) (.tmp 29) 22 rfl W0.heap.size 3 i0 (.int .i64 0) 1 8 Tryz.underlying22 hi hz0 hz1 hz2 rfl (by decide) _ k ((kindsA (ar.take k)).map (Value.int .i64)) rfl (ho1.alloc _) ⟨w1.heap.size, 0, none⟩ 1 1 [.int .i64 tk] rfl rfl (cell_one_new _ _ _) (by intro u hu; simp at hu; subst hu; rfl) (by unfold maxLen; omega) (by omega) (by have := bw1.size; simp; omega) ?_; intro v' w2 hown' hgrow _; have bw2 : Below W0.heap.size W0 w2 := (bw1.alloc bw1.size _).grown hgrow (by have := bw1.size; simp; omega) (fun j hj => (ho1.lt j hj).1); have e2 : w2.cell? ⟨wr.heap.size, 0, none⟩ = some (.int .i64 tk) := (cell_grown hgrow (by simp; omega) (fun e => by have := (ho.lt wr.heap.size e.symm).2; omega)).trans (((below_alloc w1 _).cell (p := ⟨wr.heap.size, 0, none⟩) hz1w).trans e0); have HOW : Hid (OwnK W0.heap.size v' (k + 1) (kindsA (ar.take (k + 1))) w2) := OwnK.of HTK.out hown'; clear hown' hgrow))
        go_roundw
        case rel => exact ⟨k + 1, by omega, by go_num, by rw [HNB.out]; first | (rw [ez]; rfl) | rfl, HOW.out, bw2⟩
        case measure => simp [intOf]; omega
    · have hkn : k = ar.length := by omega
      subst hkn
      have hlti : ¬ (ar.length : Int) < ar.length := by omega
      rw [List.take_length] at ho
      rw [List.take_length]
      generalize nullsA ar = nb at *
      have hkl : (kindsA ar).length = ar.length := by simp [kindsA]
      rw [← hkl] at ho
      obtain ⟨ka, kc, rfl, hrio⟩ := own_rio ho
      clear ho
      generalize hks : kindsA ar = ks at *
      have HKL : Hid (ks.length = ar.length) := hkl
      have bww : Below w.heap.size w wr := HB0.out.trans (hbel.mono (by omega))
      obtain ⟨q0, q1, q2, f0, f1, f2⟩ := HR0.out
      have q0 := (hbel.cell (p := ⟨w.heap.size, 0, none⟩) (by show w.heap.size < _; omega)).trans q0
      have q1 := (hbel.cell (p := ⟨w.heap.size, 1, none⟩) (by show w.heap.size < _; omega)).trans q1
      have q2 := (hbel.cell (p := ⟨w.heap.size, 2, none⟩) (by show w.heap.size < _; omega)).trans q2
      have f0 := (hbel.frozen (p := ⟨w.heap.size, 0, none⟩) (by show w.heap.size < _; omega)).trans f0
      have f1 := (hbel.frozen (p := ⟨w.heap.size, 1, none⟩) (by show w.heap.size < _; omega)).trans f1
      have f2 := (hbel.frozen (p := ⟨w.heap.size, 2, none⟩) (by show w.heap.size < _; omega)).trans f2
      have hwr : w.heap.size < wr.heap.size := by omega
      have hn20 : ks.length ≤ 1048576 := by rw [hkl]; omega
      clear hkl hks hbel HR0 HB0
      go_wp2_with (go_at_call 39; fail)
      refine (Mp.table_any _).mono ?_
      rintro e w1 ⟨rfl, hst⟩
      obtain ⟨l, hm, hks, hgood, hb1⟩ := hst
      have hrun := hm.look Tryz.underlying72 Tryz.underlying3 (Tryz.zeroValue70 _) fn
      rw [Mp.lookL_none (l := l) (k := fn) (by rw [hks]; exact Mp.not13 h13)] at hrun
      simp only [Option.getD_none, Option.isSome_none] at hrun
      have bw1 : Below w.heap.size w w1 := bww.trans (hb1.mono bww.size)
      have hy2 : w.heap.size < w1.heap.size := by have := hb1.size; omega
      have p0 := (hb1.cell (p := ⟨w.heap.size, 0, none⟩) hwr).trans q0
      have p1 := (hb1.cell (p := ⟨w.heap.size, 1, none⟩) hwr).trans q1
      have p2 := (hb1.cell (p := ⟨w.heap.size, 2, none⟩) hwr).trans q2
      have j0 := (hb1.frozen (p := ⟨w.heap.size, 0, none⟩) hwr).trans f0
      have j1 := (hb1.frozen (p := ⟨w.heap.size, 1, none⟩) hwr).trans f1
      have j2 := (hb1.frozen (p := ⟨w.heap.size, 2, none⟩) hwr).trans f2
      clear hgood hks hm hrio
      go_wp2
      refine bodyPost_ret (v := tV 0 0 ⟨#[]⟩ 10) (by simp [results, Tryz.results20, go_sem, tV, p0, p1, p2, j0, j1, j2, hy2]) rfl ⟨rfl, (by (go_light; repeat (first | with_reducible assumption | with_reducible exact Below.refl _ _ | (with_reducible refine Below.setCell ?_ ?_ _; rotate_left; (focus first | (simp; done) | (simp; omega) | omega)) | (with_reducible refine Below.alloc ?_ ?_ _; rotate_left; (focus first | (simp; done) | (simp; omega) | omega)) | with_reducible refine Below.drew ?_)))⟩
set_option maxHeartbeats 16000000 in
theorem callF_bad (fn : Int) (ar : List TA) (a : Option Addr) (cap : Nat) (w : World) (h8 : ar.length ≤ 8) (hr : RVO w (.slice a ar.length cap) ar) (hsz : ∀ t ∈ ar, t.2.2.size ≤ 1048576) (hT : Tabs w) (hbad : Hid (¬ ∀ t ∈ ar, vok t.1 t.2.1 t.2.2 = true)) :
    Calls Tryz.prog 20 #[.int .i64 fn, .slice a ar.length cap] w fun e w' => e = .returned (tV 0 0 ⟨#[]⟩ 1) ∧ Below w.heap.size w w' := by
  obtain ⟨i0, hi, hz0, hz1, hz2⟩ := info_parts info3
  have hrr := hr
  obtain ⟨a', cap', hsl, hcells⟩ := hr
  simp only [Value.slice.injEq] at hsl
  obtain ⟨rfl, _, rfl⟩ := hsl
  have h8i : ¬ (8 : Int) < ar.length := by omega
  have bw0 := below_alloc w (.cells #[.int .i64 0, .int .i64 0, .string ⟨#[]⟩] 29)
  have HRR : Hid (RVO w (.slice a ar.length cap) ar) := hrr
  clear hrr
  go_enter Tryz.func20, Tryz.ntmps20
  go_wp2
  generalize hW0 : w.alloc (.cells #[.int .i64 0, .int .i64 0, .string ⟨#[]⟩] 29) = W0 at *
  have hs0 : w.heap.size < W0.heap.size := by rw [← hW0]; simp
  have r0 : W0.cell? ⟨w.heap.size, 0, none⟩ = some (.int .i64 0) ∧ W0.cell? ⟨w.heap.size, 1, none⟩ = some (.int .i64 0) ∧ W0.cell? ⟨w.heap.size, 2, none⟩ = some (.string ⟨#[]⟩) ∧ W0.frozen? ⟨w.heap.size, 0, none⟩ = false ∧ W0.frozen? ⟨w.heap.size, 1, none⟩ = false ∧ W0.frozen? ⟨w.heap.size, 2, none⟩ = false := by
    rw [← hW0]; simp [go_sem]
  have HR0 : Hid _ := r0
  have HB0 : Hid (Below w.heap.size w W0) := bw0
  clear r0 bw0 hW0
  go_loopw [6, 7, 9, 18] (fun kv nb _ i wr => ∃ k : Nat, k ≤ ar.length ∧ i = .int .i64 k ∧ nb = .bool (nullsA (ar.take k)) ∧ OwnK W0.heap.size kv k (kindsA (ar.take k)) wr ∧ Below W0.heap.size W0 wr ∧ Hid (∀ m (h : m < ar.length), m < k → vok ar[m].1 ar[m].2.1 ar[m].2.2 = true)) (fun _ _ _ i _ => ar.length - (intOf i).toNat)
  case atStart => exact ⟨0, Nat.zero_le _, rfl, rfl, (⟨rfl, .inl ⟨rfl, rfl⟩⟩ : W0.ownsRow W0.heap.size 3 1 (.slice none 0 0) 0 []), Below.refl _ _, (fun m h hm => by omega : ∀ m (h : m < ar.length), m < 0 → vok ar[m].1 ar[m].2.1 ar[m].2.2 = true)⟩
  case round =>
    obtain ⟨k, hk, rfl, rfl, hoK, hbel, HAV⟩ := hrel
    have ho : wr.ownsRow W0.heap.size 3 1 _ k ((kindsA (ar.take k)).map (Value.int .i64)) := hoK
    clear hoK
    have hbs := hbel.size
    by_cases hlt : k < ar.length
    · have hlti : (k : Int) < ar.length := by omega
      obtain ⟨g, o, rfl, hgg, hgc⟩ := hcells (by omega)
      have bww : Below w.heap.size w wr := HB0.out.trans (hbel.mono (by omega))
      obtain ⟨c0, c1, c2⟩ := hgc k hlt
      have d0 := (bww.cell (p := ⟨g, o + k * 3, none⟩) hgg).trans c0
      have d1 := (bww.cell (p := ⟨g, o + k * 3 + 1, none⟩) hgg).trans c1
      have d2 := (bww.cell (p := ⟨g, o + k * 3 + 2, none⟩) hgg).trans c2
      have hsx := hsz ar[k] (List.getElem_mem hlt)
      have HVS : Hid (vok ar[k].1 ar[k].2.1 ar[k].2.2 = true → ∀ m (h : m < ar.length), m < k + 1 → vok ar[m].1 ar[m].2.1 ar[m].2.2 = true) := (fun hv m h hm => by
        by_cases e : m = k
        · subst e; exact hv
        · exact HAV.out m h (by omega) : vok ar[k].1 ar[k].2.1 ar[k].2.2 = true → ∀ m (h : m < ar.length), m < k + 1 → vok ar[m].1 ar[m].2.1 ar[m].2.2 = true)
      clear HAV hbad
      have HTK : Hid (ar.take (k + 1) = ar.take k ++ [ar[k]]) := take_snoc hlt
      clear c0 c1 c2 hgc hcells hsz
      generalize ar[k] = t at *
      obtain ⟨tk, tn, ts⟩ := t
      simp only at d0 d1 d2 hsx
      have HNB : Hid (nullsA (ar.take (k + 1)) = (nullsA (ar.take k) || tk == 0)) := (by rw [HTK.out, nullsA_snoc] : nullsA (ar.take (k + 1)) = (nullsA (ar.take k) || tk == 0))
      generalize nullsA (ar.take k) = nb at *
      have cs : nb = true ∨ (nb = false ∧ (tk == 0) = true) ∨ (nb = false ∧ (tk == 0) = false) := by cases nb <;> cases (tk == 0) <;> simp
      have hVX := fun W (h : Below w.heap.size w W) => vok_impl tk tn ts W hsx (tabs_below hT h)
      cases hvv : vok tk tn ts
      · rw [hvv] at hVX
        clear hvv HVS
        obtain ⟨q0, q1, q2, f0, f1, f2⟩ := HR0.out
        go_wp2_with (go_at_call 43; fail)
        refine (hVX _ (bww.alloc bww.size _)).mono ?_
        rintro e w1 ⟨rfl, hb1⟩
        have hwr : w.heap.size < wr.heap.size := by omega
        have b1 : Below W0.heap.size W0 w1 := (hbel.alloc hbs _).trans (hb1.mono (by simp; omega))
        have hy2 : w.heap.size < w1.heap.size := by have := b1.size; omega
        have bw1 : Below w.heap.size w w1 := HB0.out.trans (b1.mono (by omega))
        have p0 := (b1.cell (p := ⟨w.heap.size, 0, none⟩) (by show w.heap.size < _; omega)).trans q0
        have p1 := (b1.cell (p := ⟨w.heap.size, 1, none⟩) (by show w.heap.size < _; omega)).trans q1
        have p2 := (b1.cell (p := ⟨w.heap.size, 2, none⟩) (by show w.heap.size < _; omega)).trans q2
        have j0 := (b1.frozen (p := ⟨w.heap.size, 0, none⟩) (by show w.heap.size < _; omega)).trans f0
        have j1 := (b1.frozen (p := ⟨w.heap.size, 1, none⟩) (by show w.heap.size < _; omega)).trans f1
        have j2 := (b1.frozen (p := ⟨w.heap.size, 2, none⟩) (by show w.heap.size < _; omega)).trans f2
        go_wp2
        refine bodyPost_ret (v := tV 0 0 ⟨#[]⟩ 1) (by simp [results, Tryz.results20, go_sem, tV, p0, p1, p2, j0, j1, j2, hy2]) rfl ⟨rfl, ?_⟩
        exact ((bw1.setCell (Nat.le_refl _) _).setCell (Nat.le_refl _) _).setCell (Nat.le_refl _) _
      rw [hvv] at hVX
      have HVN : Hid _ := HVS.out hvv
      clear HVS hvv
      rcases cs with rfl | ⟨rfl, ez⟩ | ⟨rfl, ez⟩
      all_goals
        go_wp2_with (first | (go_at_call 43; refine (hVX _ (bww.alloc bww.size _)).mono ?_; rintro e w1 ⟨rfl, hb1⟩; obtain ⟨hc1, hf1⟩ := bcell hb1; have hz1w : wr.heap.size < w1.heap.size := (by have := hb1.size; simp at this; omega); have bw1 : Below W0.heap.size W0 w1 := (hbel.alloc hbs _).trans (hb1.mono (by simp; omega)); have ho1 := own_below (ho.alloc _) hb1; have e0 : w1.cell? ⟨wr.heap.size, 0, none⟩ = some (.int .i64 tk) := (hc1 wr.heap.size 0 (by simp)).trans (by simp [go_sem])) | (at_builtin; refine wpList_append_own _ rfl (.tmp 26) (.tmp 29) 22 rfl W0.heap.size 3 i0 (.int .i64 0) 1 8 Tryz.underlying22 hi hz0 hz1 hz2 rfl (by decide) _ k ((kindsA (ar.take k)).map (Value.int .i64)) rfl (ho1.alloc _) ⟨w1.heap.size, 0, none⟩ 1 1 [.int .i64 tk] rfl rfl (cell_one_new _ _ _) (by intro u hu; simp at hu; subst hu; rfl) (by unfold maxLen; omega) (by omega) (by have := bw1.size; simp; omega) ?_; intro v' w2 hown' hgrow _; have bw2 : Below W0.heap.size W0 w2 := (bw1.alloc bw1.size _).grown hgrow (by have := bw1.size; simp; omega) (fun j hj => (ho1.lt j hj).1); have e2 : w2.cell? ⟨wr.heap.size, 0, none⟩ = some (.int .i64 tk) := (cell_grown hgrow (by simp; omega) (fun e => by have := (ho.lt wr.heap.size e.symm).2; omega)).trans (((below_alloc w1 _).cell (p := ⟨wr.heap.size, 0, none⟩) hz1w).trans e0); have HOW : Hid (OwnK W0.heap.size v' (k + 1) (kindsA (ar.take (k + 1))) w2) := OwnK.of HTK.out hown'; clear hown' hgrow))
        go_roundw
        case rel => exact ⟨k + 1, by omega, by go_num, by rw [HNB.out]; first | (rw [ez]; rfl) | rfl, HOW.out, bw2, HVN⟩
        case measure => simp [intOf]; omega
    · exfalso
      refine hbad.out fun t ht => ?_
      obtain ⟨m, hm, rfl⟩ := List.mem_iff_getElem.1 ht
      exact HAV.out m hm (by omega)
end Go.Proofs.YtdcdoeolaongkaaGreatDoor.Ca
namespace Go.Proofs.YtdcdoeolaongkaaGreatDoor.Ca
open Go.MapKept Go.ChangeMaps
open Go.ChangeShapes Go.WideShapes Go.ChangeAt Go.RowKit Go.Shelf
open Go.Proofs.YtdcdoeolaongkaaGreatDoor.Rd
set_option linter.unusedVariables false
set_option linter.unusedSimpArgs false
set_option maxRecDepth 100000
set_option maxHeartbeats 16000000 in
theorem callF_82 (fn : Int) (ar : List TA) (a : Option Addr) (cap : Nat) (w : World) (h8 : ar.length ≤ 8) (hr : RVO w (.slice a ar.length cap) ar) (hsz : ∀ t ∈ ar, t.2.2.size ≤ 1048576) (hT : Tabs w) (hv : Hid (∀ t ∈ ar, vok t.1 t.2.1 t.2.2 = true)) (h13 : 1 ≤ fn ∧ fn ≤ 13) (hfn : Hid (fn = 1)) (c : Int) (hg : Hid (((Mp.gvK fn (kindsA ar) == -1) = true ∧ c = 10) ∨ ((Mp.gvK fn (kindsA ar) == -1) = false ∧ (nullsA ar && fn != 6) = true ∧ c = 0))) :
    Calls Tryz.prog 20 #[.int .i64 fn, .slice a ar.length cap] w fun e w' => e = .returned (tV 0 0 ⟨#[]⟩ c) ∧ Below w.heap.size w w' := by
  obtain ⟨i0, hi, hz0, hz1, hz2⟩ := info_parts info3
  have hrr := hr
  obtain ⟨a', cap', hsl, hcells⟩ := hr
  simp only [Value.slice.injEq] at hsl
  obtain ⟨rfl, _, rfl⟩ := hsl
  have h8i : ¬ (8 : Int) < ar.length := by omega
  have bw0 := below_alloc w (.cells #[.int .i64 0, .int .i64 0, .string ⟨#[]⟩] 29)
  have HRR : Hid (RVO w (.slice a ar.length cap) ar) := hrr
  clear hrr
  go_enter Tryz.func20, Tryz.ntmps20
  go_wp2
  generalize hW0 : w.alloc (.cells #[.int .i64 0, .int .i64 0, .string ⟨#[]⟩] 29) = W0 at *
  have hs0 : w.heap.size < W0.heap.size := by rw [← hW0]; simp
  have r0 : W0.cell? ⟨w.heap.size, 0, none⟩ = some (.int .i64 0) ∧ W0.cell? ⟨w.heap.size, 1, none⟩ = some (.int .i64 0) ∧ W0.cell? ⟨w.heap.size, 2, none⟩ = some (.string ⟨#[]⟩) ∧ W0.frozen? ⟨w.heap.size, 0, none⟩ = false ∧ W0.frozen? ⟨w.heap.size, 1, none⟩ = false ∧ W0.frozen? ⟨w.heap.size, 2, none⟩ = false := by
    rw [← hW0]; simp [go_sem]
  have HR0 : Hid _ := r0
  have HB0 : Hid (Below w.heap.size w W0) := bw0
  clear r0 bw0 hW0
  go_loopw [6, 7, 9, 18] (fun kv nb _ i wr => ∃ k : Nat, k ≤ ar.length ∧ i = .int .i64 k ∧ nb = .bool (nullsA (ar.take k)) ∧ OwnK W0.heap.size kv k (kindsA (ar.take k)) wr ∧ Below W0.heap.size W0 wr) (fun _ _ _ i _ => ar.length - (intOf i).toNat)
  case atStart => exact ⟨0, Nat.zero_le _, rfl, rfl, (⟨rfl, .inl ⟨rfl, rfl⟩⟩ : W0.ownsRow W0.heap.size 3 1 (.slice none 0 0) 0 []), Below.refl _ _⟩
  case round =>
    obtain ⟨k, hk, rfl, rfl, hoK, hbel⟩ := hrel
    have ho : wr.ownsRow W0.heap.size 3 1 _ k ((kindsA (ar.take k)).map (Value.int .i64)) := hoK
    clear hoK
    have hbs := hbel.size
    by_cases hlt : k < ar.length
    · have hlti : (k : Int) < ar.length := by omega
      obtain ⟨g, o, rfl, hgg, hgc⟩ := hcells (by omega)
      have bww : Below w.heap.size w wr := HB0.out.trans (hbel.mono (by omega))
      obtain ⟨c0, c1, c2⟩ := hgc k hlt
      have d0 := (bww.cell (p := ⟨g, o + k * 3, none⟩) hgg).trans c0
      have d1 := (bww.cell (p := ⟨g, o + k * 3 + 1, none⟩) hgg).trans c1
      have d2 := (bww.cell (p := ⟨g, o + k * 3 + 2, none⟩) hgg).trans c2
      have hsx := hsz ar[k] (List.getElem_mem hlt)
      have hvx := hv.out ar[k] (List.getElem_mem hlt)
      have HTK : Hid (ar.take (k + 1) = ar.take k ++ [ar[k]]) := take_snoc hlt
      clear c0 c1 c2 hgc hcells hsz
      generalize ar[k] = t at *
      obtain ⟨tk, tn, ts⟩ := t
      simp only at d0 d1 d2 hsx hvx
      have HVX : Hid (vok tk tn ts = true) := hvx
      clear hvx
      have HNB : Hid (nullsA (ar.take (k + 1)) = (nullsA (ar.take k) || tk == 0)) := (by rw [HTK.out, nullsA_snoc] : nullsA (ar.take (k + 1)) = (nullsA (ar.take k) || tk == 0))
      generalize nullsA (ar.take k) = nb at *
      have cs : nb = true ∨ (nb = false ∧ (tk == 0) = true) ∨ (nb = false ∧ (tk == 0) = false) := by cases nb <;> cases (tk == 0) <;> simp
      have hVX := fun W (h : Below w.heap.size w W) => vok_impl tk tn ts W hsx (tabs_below hT h)
      rw [HVX.out] at hVX
      rcases cs with rfl | ⟨rfl, ez⟩ | ⟨rfl, ez⟩
      all_goals
        go_wp2_with (first | (go_at_call 43; refine (hVX _ (bww.alloc bww.size _)).mono ?_; rintro e w1 ⟨rfl, hb1⟩; obtain ⟨hc1, hf1⟩ := bcell hb1; have hz1w : wr.heap.size < w1.heap.size := (by have := hb1.size; simp at this; omega); have bw1 : Below W0.heap.size W0 w1 := (hbel.alloc hbs _).trans (hb1.mono (by simp; omega)); have ho1 := own_below (ho.alloc _) hb1; have e0 : w1.cell? ⟨wr.heap.size, 0, none⟩ = some (.int .i64 tk) := (hc1 wr.heap.size 0 (by simp)).trans (by simp [go_sem])) | (at_builtin; refine wpList_append_own _ rfl (.tmp 26) (.tmp 29) 22 rfl W0.heap.size 3 i0 (.int .i64 0) 1 8 Tryz.underlying22 hi hz0 hz1 hz2 rfl (by decide) _ k ((kindsA (ar.take k)).map (Value.int .i64)) rfl (ho1.alloc _) ⟨w1.heap.size, 0, none⟩ 1 1 [.int .i64 tk] rfl rfl (cell_one_new _ _ _) (by intro u hu; simp at hu; subst hu; rfl) (by unfold maxLen; omega) (by omega) (by have := bw1.size; simp; omega) ?_; intro v' w2 hown' hgrow _; have bw2 : Below W0.heap.size W0 w2 := (bw1.alloc bw1.size _).grown hgrow (by have := bw1.size; simp; omega) (fun j hj => (ho1.lt j hj).1); have e2 : w2.cell? ⟨wr.heap.size, 0, none⟩ = some (.int .i64 tk) := (cell_grown hgrow (by simp; omega) (fun e => by have := (ho.lt wr.heap.size e.symm).2; omega)).trans (((below_alloc w1 _).cell (p := ⟨wr.heap.size, 0, none⟩) hz1w).trans e0); have HOW : Hid (OwnK W0.heap.size v' (k + 1) (kindsA (ar.take (k + 1))) w2) := OwnK.of HTK.out hown'; clear hown' hgrow))
        go_roundw
        case rel => exact ⟨k + 1, by omega, by go_num, by rw [HNB.out]; first | (rw [ez]; rfl) | rfl, HOW.out, bw2⟩
        case measure => simp [intOf]; omega
    · have hkn : k = ar.length := by omega
      subst hkn
      have hlti : ¬ (ar.length : Int) < ar.length := by omega
      rw [List.take_length] at ho
      rw [List.take_length]
      have hg' := hg.out
      generalize nullsA ar = nb at *
      have hkl : (kindsA ar).length = ar.length := by simp [kindsA]
      rw [← hkl] at ho
      obtain ⟨ka, kc, rfl, hrio⟩ := own_rio ho
      clear ho
      generalize hks : kindsA ar = ks at *
      have HKL : Hid (ks.length = ar.length) := hkl
      have bww : Below w.heap.size w wr := HB0.out.trans (hbel.mono (by omega))
      obtain ⟨q0, q1, q2, f0, f1, f2⟩ := HR0.out
      have q0 := (hbel.cell (p := ⟨w.heap.size, 0, none⟩) (by show w.heap.size < _; omega)).trans q0
      have q1 := (hbel.cell (p := ⟨w.heap.size, 1, none⟩) (by show w.heap.size < _; omega)).trans q1
      have q2 := (hbel.cell (p := ⟨w.heap.size, 2, none⟩) (by show w.heap.size < _; omega)).trans q2
      have f0 := (hbel.frozen (p := ⟨w.heap.size, 0, none⟩) (by show w.heap.size < _; omega)).trans f0
      have f1 := (hbel.frozen (p := ⟨w.heap.size, 1, none⟩) (by show w.heap.size < _; omega)).trans f1
      have f2 := (hbel.frozen (p := ⟨w.heap.size, 2, none⟩) (by show w.heap.size < _; omega)).trans f2
      have hwr : w.heap.size < wr.heap.size := by omega
      have hn20 : ks.length ≤ 1048576 := by rw [hkl]; omega
      clear hkl hks hbel HR0 HB0
      go_wp2_with (go_at_call 39; fail)
      refine (Mp.table_any _).mono ?_
      rintro e w1 ⟨rfl, hst⟩
      obtain ⟨l, hm, hks, hgood, hb1⟩ := hst
      have hrun := hm.look Tryz.underlying72 Tryz.underlying3 (Tryz.zeroValue70 _) fn
      obtain ⟨v, hv1, hv2⟩ := Mp.lookL_some (l := l) (k := fn) (by rw [hks]; exact Mp.mem13 h13)
      obtain ⟨g, hvg, hG⟩ := hgood _ hv2
      replace hG : Mp.GoodG w1 wr.heap.size fn g := hG
      simp only at hvg
      subst hvg
      rw [hv1] at hrun
      simp only [Option.getD_some, Option.isSome_some] at hrun
      obtain ⟨hc1, hf1⟩ := bcell hb1
      have hz1 : w.heap.size < w1.heap.size := by have := hb1.size; omega
      have bw1 : Below w.heap.size w w1 := bww.trans (hb1.mono bww.size)
      have hrio1 := hrio.below hb1
      clear hgood hks hm hv1 hv2 hrio
      have hgF : g = Mp.fnV 82 := by simpa [Mp.GoodG, hfn.out] using hG
      subst hgF
      have HG : Mp.gvK fn ks = Mp.absK ks := by simp [Mp.gvK, hfn.out]
      rw [HG] at hg'
      clear hG HG hg
      generalize Mp.workN fn = wn at *
      go_wp2_with (go_at_call 82; fail)
      refine (Mp.abs_any ks _ _ _ hn20 (hrio1.below (below_alloc _ _))).mono ?_
      rintro e w2 ⟨rfl, hb2⟩
      generalize Mp.absK ks = gr at *
      obtain ⟨hc2, hf2⟩ := bcell hb2
      have hz2 : w1.heap.size < w2.heap.size := by have := hb2.size; simp at this; omega
      have hy2 : w.heap.size < w2.heap.size := by omega
      have bw1a : Below w.heap.size w (w1.alloc (.cells #[Value.func (Fn.func 82) #[] #[], Value.func (Fn.func wn) #[] #[]] 70)) := bw1.alloc bw1.size _
      have bw2 : Below w.heap.size w w2 := bw1a.trans (hb2.mono bw1a.size)
      have b12 : Below wr.heap.size wr w2 := (hb1.alloc hb1.size _).trans (hb2.mono (by have := hb1.size; simp; omega))
      have p0 := (b12.cell (p := ⟨w.heap.size, 0, none⟩) hwr).trans q0
      have p1 := (b12.cell (p := ⟨w.heap.size, 1, none⟩) hwr).trans q1
      have p2 := (b12.cell (p := ⟨w.heap.size, 2, none⟩) hwr).trans q2
      have j0 := (b12.frozen (p := ⟨w.heap.size, 0, none⟩) hwr).trans f0
      have j1 := (b12.frozen (p := ⟨w.heap.size, 1, none⟩) hwr).trans f1
      have j2 := (b12.frozen (p := ⟨w.heap.size, 2, none⟩) hwr).trans f2
      clear b12 hc1 hf1 hc2 hf2
      rcases hg' with ⟨hgy, rfl⟩ | ⟨hgn, hnu, rfl⟩
      · go_wp2
        refine bodyPost_ret (v := tV 0 0 ⟨#[]⟩ 10) (by simp [results, Tryz.results20, go_sem, tV, p0, p1, p2, j0, j1, j2, hy2]) rfl ⟨rfl, ?_⟩
        exact ((bw2.setCell (Nat.le_refl _) _).setCell (Nat.le_refl _) _).setCell (Nat.le_refl _) _
      · rw [Bool.and_eq_true] at hnu
        obtain ⟨rfl, hn6⟩ := hnu
        go_wp2
        refine bodyPost_ret (v := tV 0 0 ⟨#[]⟩ 0) (by simp [results, Tryz.results20, go_sem, tV, p0, p1, p2, j0, j1, j2, hy2]) rfl ⟨rfl, ?_⟩
        exact ((bw2.setCell (Nat.le_refl _) _).setCell (Nat.le_refl _) _).setCell (Nat.le_refl _) _
end Go.Proofs.YtdcdoeolaongkaaGreatDoor.Ca
namespace Go.Proofs.YtdcdoeolaongkaaGreatDoor.Ca
open Go.MapKept Go.ChangeMaps
open Go.ChangeShapes Go.WideShapes Go.ChangeAt Go.RowKit Go.Shelf
open Go.Proofs.YtdcdoeolaongkaaGreatDoor.Rd
set_option linter.unusedVariables false
set_option linter.unusedSimpArgs false
set_option maxRecDepth 100000
set_option maxHeartbeats 16000000 in
theorem callF_89 (fn : Int) (ar : List TA) (a : Option Addr) (cap : Nat) (w : World) (h8 : ar.length ≤ 8) (hr : RVO w (.slice a ar.length cap) ar) (hsz : ∀ t ∈ ar, t.2.2.size ≤ 1048576) (hT : Tabs w) (hv : Hid (∀ t ∈ ar, vok t.1 t.2.1 t.2.2 = true)) (h13 : 1 ≤ fn ∧ fn ≤ 13) (hfn : Hid (fn = 6)) (c : Int) (hg : Hid (((Mp.gvK fn (kindsA ar) == -1) = true ∧ c = 10) ∨ ((Mp.gvK fn (kindsA ar) == -1) = false ∧ (nullsA ar && fn != 6) = true ∧ c = 0))) :
    Calls Tryz.prog 20 #[.int .i64 fn, .slice a ar.length cap] w fun e w' => e = .returned (tV 0 0 ⟨#[]⟩ c) ∧ Below w.heap.size w w' := by
  obtain ⟨i0, hi, hz0, hz1, hz2⟩ := info_parts info3
  have hrr := hr
  obtain ⟨a', cap', hsl, hcells⟩ := hr
  simp only [Value.slice.injEq] at hsl
  obtain ⟨rfl, _, rfl⟩ := hsl
  have h8i : ¬ (8 : Int) < ar.length := by omega
  have bw0 := below_alloc w (.cells #[.int .i64 0, .int .i64 0, .string ⟨#[]⟩] 29)
  have HRR : Hid (RVO w (.slice a ar.length cap) ar) := hrr
  clear hrr
  go_enter Tryz.func20, Tryz.ntmps20
  go_wp2
  generalize hW0 : w.alloc (.cells #[.int .i64 0, .int .i64 0, .string ⟨#[]⟩] 29) = W0 at *
  have hs0 : w.heap.size < W0.heap.size := by rw [← hW0]; simp
  have r0 : W0.cell? ⟨w.heap.size, 0, none⟩ = some (.int .i64 0) ∧ W0.cell? ⟨w.heap.size, 1, none⟩ = some (.int .i64 0) ∧ W0.cell? ⟨w.heap.size, 2, none⟩ = some (.string ⟨#[]⟩) ∧ W0.frozen? ⟨w.heap.size, 0, none⟩ = false ∧ W0.frozen? ⟨w.heap.size, 1, none⟩ = false ∧ W0.frozen? ⟨w.heap.size, 2, none⟩ = false := by
    rw [← hW0]; simp [go_sem]
  have HR0 : Hid _ := r0
  have HB0 : Hid (Below w.heap.size w W0) := bw0
  clear r0 bw0 hW0
  go_loopw [6, 7, 9, 18] (fun kv nb _ i wr => ∃ k : Nat, k ≤ ar.length ∧ i = .int .i64 k ∧ nb = .bool (nullsA (ar.take k)) ∧ OwnK W0.heap.size kv k (kindsA (ar.take k)) wr ∧ Below W0.heap.size W0 wr) (fun _ _ _ i _ => ar.length - (intOf i).toNat)
  case atStart => exact ⟨0, Nat.zero_le _, rfl, rfl, (⟨rfl, .inl ⟨rfl, rfl⟩⟩ : W0.ownsRow W0.heap.size 3 1 (.slice none 0 0) 0 []), Below.refl _ _⟩
  case round =>
    obtain ⟨k, hk, rfl, rfl, hoK, hbel⟩ := hrel
    have ho : wr.ownsRow W0.heap.size 3 1 _ k ((kindsA (ar.take k)).map (Value.int .i64)) := hoK
    clear hoK
    have hbs := hbel.size
    by_cases hlt : k < ar.length
    · have hlti : (k : Int) < ar.length := by omega
      obtain ⟨g, o, rfl, hgg, hgc⟩ := hcells (by omega)
      have bww : Below w.heap.size w wr := HB0.out.trans (hbel.mono (by omega))
      obtain ⟨c0, c1, c2⟩ := hgc k hlt
      have d0 := (bww.cell (p := ⟨g, o + k * 3, none⟩) hgg).trans c0
      have d1 := (bww.cell (p := ⟨g, o + k * 3 + 1, none⟩) hgg).trans c1
      have d2 := (bww.cell (p := ⟨g, o + k * 3 + 2, none⟩) hgg).trans c2
      have hsx := hsz ar[k] (List.getElem_mem hlt)
      have hvx := hv.out ar[k] (List.getElem_mem hlt)
      have HTK : Hid (ar.take (k + 1) = ar.take k ++ [ar[k]]) := take_snoc hlt
      clear c0 c1 c2 hgc hcells hsz
      generalize ar[k] = t at *
      obtain ⟨tk, tn, ts⟩ := t
      simp only at d0 d1 d2 hsx hvx
      have HVX : Hid (vok tk tn ts = true) := hvx
      clear hvx
      have HNB : Hid (nullsA (ar.take (k + 1)) = (nullsA (ar.take k) || tk == 0)) := (by rw [HTK.out, nullsA_snoc] : nullsA (ar.take (k + 1)) = (nullsA (ar.take k) || tk == 0))
      generalize nullsA (ar.take k) = nb at *
      have cs : nb = true ∨ (nb = false ∧ (tk == 0) = true) ∨ (nb = false ∧ (tk == 0) = false) := by cases nb <;> cases (tk == 0) <;> simp
      have hVX := fun W (h : Below w.heap.size w W) => vok_impl tk tn ts W hsx (tabs_below hT h)
      rw [HVX.out] at hVX
      rcases cs with rfl | ⟨rfl, ez⟩ | ⟨rfl, ez⟩
      all_goals
        go_wp2_with (first | (go_at_call 43; refine (hVX _ (bww.alloc bww.size _)).mono ?_; rintro e w1 ⟨rfl, hb1⟩; obtain ⟨hc1, hf1⟩ := bcell hb1; have hz1w : wr.heap.size < w1.heap.size := (by have := hb1.size; simp at this; omega); have bw1 : Below W0.heap.size W0 w1 := (hbel.alloc hbs _).trans (hb1.mono (by simp; omega)); have ho1 := own_below (ho.alloc _) hb1; have e0 : w1.cell? ⟨wr.heap.size, 0, none⟩ = some (.int .i64 tk) := (hc1 wr.heap.size 0 (by simp)).trans (by simp [go_sem])) | (at_builtin; refine wpList_append_own _ rfl (.tmp 26) (.tmp 29) 22 rfl W0.heap.size 3 i0 (.int .i64 0) 1 8 Tryz.underlying22 hi hz0 hz1 hz2 rfl (by decide) _ k ((kindsA (ar.take k)).map (Value.int .i64)) rfl (ho1.alloc _) ⟨w1.heap.size, 0, none⟩ 1 1 [.int .i64 tk] rfl rfl (cell_one_new _ _ _) (by intro u hu; simp at hu; subst hu; rfl) (by unfold maxLen; omega) (by omega) (by have := bw1.size; simp; omega) ?_; intro v' w2 hown' hgrow _; have bw2 : Below W0.heap.size W0 w2 := (bw1.alloc bw1.size _).grown hgrow (by have := bw1.size; simp; omega) (fun j hj => (ho1.lt j hj).1); have e2 : w2.cell? ⟨wr.heap.size, 0, none⟩ = some (.int .i64 tk) := (cell_grown hgrow (by simp; omega) (fun e => by have := (ho.lt wr.heap.size e.symm).2; omega)).trans (((below_alloc w1 _).cell (p := ⟨wr.heap.size, 0, none⟩) hz1w).trans e0); have HOW : Hid (OwnK W0.heap.size v' (k + 1) (kindsA (ar.take (k + 1))) w2) := OwnK.of HTK.out hown'; clear hown' hgrow))
        go_roundw
        case rel => exact ⟨k + 1, by omega, by go_num, by rw [HNB.out]; first | (rw [ez]; rfl) | rfl, HOW.out, bw2⟩
        case measure => simp [intOf]; omega
    · have hkn : k = ar.length := by omega
      subst hkn
      have hlti : ¬ (ar.length : Int) < ar.length := by omega
      rw [List.take_length] at ho
      rw [List.take_length]
      have hg' := hg.out
      generalize nullsA ar = nb at *
      have hkl : (kindsA ar).length = ar.length := by simp [kindsA]
      rw [← hkl] at ho
      obtain ⟨ka, kc, rfl, hrio⟩ := own_rio ho
      clear ho
      generalize hks : kindsA ar = ks at *
      have HKL : Hid (ks.length = ar.length) := hkl
      have bww : Below w.heap.size w wr := HB0.out.trans (hbel.mono (by omega))
      obtain ⟨q0, q1, q2, f0, f1, f2⟩ := HR0.out
      have q0 := (hbel.cell (p := ⟨w.heap.size, 0, none⟩) (by show w.heap.size < _; omega)).trans q0
      have q1 := (hbel.cell (p := ⟨w.heap.size, 1, none⟩) (by show w.heap.size < _; omega)).trans q1
      have q2 := (hbel.cell (p := ⟨w.heap.size, 2, none⟩) (by show w.heap.size < _; omega)).trans q2
      have f0 := (hbel.frozen (p := ⟨w.heap.size, 0, none⟩) (by show w.heap.size < _; omega)).trans f0
      have f1 := (hbel.frozen (p := ⟨w.heap.size, 1, none⟩) (by show w.heap.size < _; omega)).trans f1
      have f2 := (hbel.frozen (p := ⟨w.heap.size, 2, none⟩) (by show w.heap.size < _; omega)).trans f2
      have hwr : w.heap.size < wr.heap.size := by omega
      have hn20 : ks.length ≤ 1048576 := by rw [hkl]; omega
      clear hkl hks hbel HR0 HB0
      go_wp2_with (go_at_call 39; fail)
      refine (Mp.table_any _).mono ?_
      rintro e w1 ⟨rfl, hst⟩
      obtain ⟨l, hm, hks, hgood, hb1⟩ := hst
      have hrun := hm.look Tryz.underlying72 Tryz.underlying3 (Tryz.zeroValue70 _) fn
      obtain ⟨v, hv1, hv2⟩ := Mp.lookL_some (l := l) (k := fn) (by rw [hks]; exact Mp.mem13 h13)
      obtain ⟨g, hvg, hG⟩ := hgood _ hv2
      replace hG : Mp.GoodG w1 wr.heap.size fn g := hG
      simp only at hvg
      subst hvg
      rw [hv1] at hrun
      simp only [Option.getD_some, Option.isSome_some] at hrun
      obtain ⟨hc1, hf1⟩ := bcell hb1
      have hz1 : w.heap.size < w1.heap.size := by have := hb1.size; omega
      have bw1 : Below w.heap.size w w1 := bww.trans (hb1.mono bww.size)
      have hrio1 := hrio.below hb1
      clear hgood hks hm hv1 hv2 hrio
      have hgF : g = Mp.fnV 89 := by simpa [Mp.GoodG, hfn.out] using hG
      subst hgF
      have HG : Mp.gvK fn ks = Mp.nullifK ks := by simp [Mp.gvK, hfn.out]
      rw [HG] at hg'
      clear hG HG hg
      generalize Mp.workN fn = wn at *
      go_wp2_with (go_at_call 89; fail)
      refine (Mp.nullif_any ks _ _ _ hn20 (hrio1.below (below_alloc _ _))).mono ?_
      rintro e w2 ⟨rfl, hb2⟩
      generalize Mp.nullifK ks = gr at *
      obtain ⟨hc2, hf2⟩ := bcell hb2
      have hz2 : w1.heap.size < w2.heap.size := by have := hb2.size; simp at this; omega
      have hy2 : w.heap.size < w2.heap.size := by omega
      have bw1a : Below w.heap.size w (w1.alloc (.cells #[Value.func (Fn.func 89) #[] #[], Value.func (Fn.func wn) #[] #[]] 70)) := bw1.alloc bw1.size _
      have bw2 : Below w.heap.size w w2 := bw1a.trans (hb2.mono bw1a.size)
      have b12 : Below wr.heap.size wr w2 := (hb1.alloc hb1.size _).trans (hb2.mono (by have := hb1.size; simp; omega))
      have p0 := (b12.cell (p := ⟨w.heap.size, 0, none⟩) hwr).trans q0
      have p1 := (b12.cell (p := ⟨w.heap.size, 1, none⟩) hwr).trans q1
      have p2 := (b12.cell (p := ⟨w.heap.size, 2, none⟩) hwr).trans q2
      have j0 := (b12.frozen (p := ⟨w.heap.size, 0, none⟩) hwr).trans f0
      have j1 := (b12.frozen (p := ⟨w.heap.size, 1, none⟩) hwr).trans f1
      have j2 := (b12.frozen (p := ⟨w.heap.size, 2, none⟩) hwr).trans f2
      clear b12 hc1 hf1 hc2 hf2
      rcases hg' with ⟨hgy, rfl⟩ | ⟨hgn, hnu, rfl⟩
      · go_wp2
        refine bodyPost_ret (v := tV 0 0 ⟨#[]⟩ 10) (by simp [results, Tryz.results20, go_sem, tV, p0, p1, p2, j0, j1, j2, hy2]) rfl ⟨rfl, ?_⟩
        exact ((bw2.setCell (Nat.le_refl _) _).setCell (Nat.le_refl _) _).setCell (Nat.le_refl _) _
      · rw [Bool.and_eq_true] at hnu
        obtain ⟨rfl, hn6⟩ := hnu
        go_wp2
        refine bodyPost_ret (v := tV 0 0 ⟨#[]⟩ 0) (by simp [results, Tryz.results20, go_sem, tV, p0, p1, p2, j0, j1, j2, hy2]) rfl ⟨rfl, ?_⟩
        exact ((bw2.setCell (Nat.le_refl _) _).setCell (Nat.le_refl _) _).setCell (Nat.le_refl _) _
end Go.Proofs.YtdcdoeolaongkaaGreatDoor.Ca
namespace Go.Proofs.YtdcdoeolaongkaaGreatDoor.Ca
open Go.MapKept Go.ChangeMaps
open Go.ChangeShapes Go.WideShapes Go.ChangeAt Go.RowKit Go.Shelf
open Go.Proofs.YtdcdoeolaongkaaGreatDoor.Rd
set_option linter.unusedVariables false
set_option linter.unusedSimpArgs false
set_option maxRecDepth 100000
set_option maxHeartbeats 16000000 in
theorem callF_96 (fn : Int) (ar : List TA) (a : Option Addr) (cap : Nat) (w : World) (h8 : ar.length ≤ 8) (hr : RVO w (.slice a ar.length cap) ar) (hsz : ∀ t ∈ ar, t.2.2.size ≤ 1048576) (hT : Tabs w) (hv : Hid (∀ t ∈ ar, vok t.1 t.2.1 t.2.2 = true)) (h13 : 1 ≤ fn ∧ fn ≤ 13) (hfn : Hid (fn = 12 ∨ fn = 13)) (c : Int) (hg : Hid (((Mp.gvK fn (kindsA ar) == -1) = true ∧ c = 10) ∨ ((Mp.gvK fn (kindsA ar) == -1) = false ∧ (nullsA ar && fn != 6) = true ∧ c = 0))) :
    Calls Tryz.prog 20 #[.int .i64 fn, .slice a ar.length cap] w fun e w' => e = .returned (tV 0 0 ⟨#[]⟩ c) ∧ Below w.heap.size w w' := by
  obtain ⟨i0, hi, hz0, hz1, hz2⟩ := info_parts info3
  have hrr := hr
  obtain ⟨a', cap', hsl, hcells⟩ := hr
  simp only [Value.slice.injEq] at hsl
  obtain ⟨rfl, _, rfl⟩ := hsl
  have h8i : ¬ (8 : Int) < ar.length := by omega
  have bw0 := below_alloc w (.cells #[.int .i64 0, .int .i64 0, .string ⟨#[]⟩] 29)
  have HRR : Hid (RVO w (.slice a ar.length cap) ar) := hrr
  clear hrr
  go_enter Tryz.func20, Tryz.ntmps20
  go_wp2
  generalize hW0 : w.alloc (.cells #[.int .i64 0, .int .i64 0, .string ⟨#[]⟩] 29) = W0 at *
  have hs0 : w.heap.size < W0.heap.size := by rw [← hW0]; simp
  have r0 : W0.cell? ⟨w.heap.size, 0, none⟩ = some (.int .i64 0) ∧ W0.cell? ⟨w.heap.size, 1, none⟩ = some (.int .i64 0) ∧ W0.cell? ⟨w.heap.size, 2, none⟩ = some (.string ⟨#[]⟩) ∧ W0.frozen? ⟨w.heap.size, 0, none⟩ = false ∧ W0.frozen? ⟨w.heap.size, 1, none⟩ = false ∧ W0.frozen? ⟨w.heap.size, 2, none⟩ = false := by
    rw [← hW0]; simp [go_sem]
  have HR0 : Hid _ := r0
  have HB0 : Hid (Below w.heap.size w W0) := bw0
  clear r0 bw0 hW0
  go_loopw [6, 7, 9, 18] (fun kv nb _ i wr => ∃ k : Nat, k ≤ ar.length ∧ i = .int .i64 k ∧ nb = .bool (nullsA (ar.take k)) ∧ OwnK W0.heap.size kv k (kindsA (ar.take k)) wr ∧ Below W0.heap.size W0 wr) (fun _ _ _ i _ => ar.length - (intOf i).toNat)
  case atStart => exact ⟨0, Nat.zero_le _, rfl, rfl, (⟨rfl, .inl ⟨rfl, rfl⟩⟩ : W0.ownsRow W0.heap.size 3 1 (.slice none 0 0) 0 []), Below.refl _ _⟩
  case round =>
    obtain ⟨k, hk, rfl, rfl, hoK, hbel⟩ := hrel
    have ho : wr.ownsRow W0.heap.size 3 1 _ k ((kindsA (ar.take k)).map (Value.int .i64)) := hoK
    clear hoK
    have hbs := hbel.size
    by_cases hlt : k < ar.length
    · have hlti : (k : Int) < ar.length := by omega
      obtain ⟨g, o, rfl, hgg, hgc⟩ := hcells (by omega)
      have bww : Below w.heap.size w wr := HB0.out.trans (hbel.mono (by omega))
      obtain ⟨c0, c1, c2⟩ := hgc k hlt
      have d0 := (bww.cell (p := ⟨g, o + k * 3, none⟩) hgg).trans c0
      have d1 := (bww.cell (p := ⟨g, o + k * 3 + 1, none⟩) hgg).trans c1
      have d2 := (bww.cell (p := ⟨g, o + k * 3 + 2, none⟩) hgg).trans c2
      have hsx := hsz ar[k] (List.getElem_mem hlt)
      have hvx := hv.out ar[k] (List.getElem_mem hlt)
      have HTK : Hid (ar.take (k + 1) = ar.take k ++ [ar[k]]) := take_snoc hlt
      clear c0 c1 c2 hgc hcells hsz
      generalize ar[k] = t at *
      obtain ⟨tk, tn, ts⟩ := t
      simp only at d0 d1 d2 hsx hvx
      have HVX : Hid (vok tk tn ts = true) := hvx
      clear hvx
      have HNB : Hid (nullsA (ar.take (k + 1)) = (nullsA (ar.take k) || tk == 0)) := (by rw [HTK.out, nullsA_snoc] : nullsA (ar.take (k + 1)) = (nullsA (ar.take k) || tk == 0))
      generalize nullsA (ar.take k) = nb at *
      have cs : nb = true ∨ (nb = false ∧ (tk == 0) = true) ∨ (nb = false ∧ (tk == 0) = false) := by cases nb <;> cases (tk == 0) <;> simp
      have hVX := fun W (h : Below w.heap.size w W) => vok_impl tk tn ts W hsx (tabs_below hT h)
      rw [HVX.out] at hVX
      rcases cs with rfl | ⟨rfl, ez⟩ | ⟨rfl, ez⟩
      all_goals
        go_wp2_with (first | (go_at_call 43; refine (hVX _ (bww.alloc bww.size _)).mono ?_; rintro e w1 ⟨rfl, hb1⟩; obtain ⟨hc1, hf1⟩ := bcell hb1; have hz1w : wr.heap.size < w1.heap.size := (by have := hb1.size; simp at this; omega); have bw1 : Below W0.heap.size W0 w1 := (hbel.alloc hbs _).trans (hb1.mono (by simp; omega)); have ho1 := own_below (ho.alloc _) hb1; have e0 : w1.cell? ⟨wr.heap.size, 0, none⟩ = some (.int .i64 tk) := (hc1 wr.heap.size 0 (by simp)).trans (by simp [go_sem])) | (at_builtin; refine wpList_append_own _ rfl (.tmp 26) (.tmp 29) 22 rfl W0.heap.size 3 i0 (.int .i64 0) 1 8 Tryz.underlying22 hi hz0 hz1 hz2 rfl (by decide) _ k ((kindsA (ar.take k)).map (Value.int .i64)) rfl (ho1.alloc _) ⟨w1.heap.size, 0, none⟩ 1 1 [.int .i64 tk] rfl rfl (cell_one_new _ _ _) (by intro u hu; simp at hu; subst hu; rfl) (by unfold maxLen; omega) (by omega) (by have := bw1.size; simp; omega) ?_; intro v' w2 hown' hgrow _; have bw2 : Below W0.heap.size W0 w2 := (bw1.alloc bw1.size _).grown hgrow (by have := bw1.size; simp; omega) (fun j hj => (ho1.lt j hj).1); have e2 : w2.cell? ⟨wr.heap.size, 0, none⟩ = some (.int .i64 tk) := (cell_grown hgrow (by simp; omega) (fun e => by have := (ho.lt wr.heap.size e.symm).2; omega)).trans (((below_alloc w1 _).cell (p := ⟨wr.heap.size, 0, none⟩) hz1w).trans e0); have HOW : Hid (OwnK W0.heap.size v' (k + 1) (kindsA (ar.take (k + 1))) w2) := OwnK.of HTK.out hown'; clear hown' hgrow))
        go_roundw
        case rel => exact ⟨k + 1, by omega, by go_num, by rw [HNB.out]; first | (rw [ez]; rfl) | rfl, HOW.out, bw2⟩
        case measure => simp [intOf]; omega
    · have hkn : k = ar.length := by omega
      subst hkn
      have hlti : ¬ (ar.length : Int) < ar.length := by omega
      rw [List.take_length] at ho
      rw [List.take_length]
      have hg' := hg.out
      generalize nullsA ar = nb at *
      have hkl : (kindsA ar).length = ar.length := by simp [kindsA]
      rw [← hkl] at ho
      obtain ⟨ka, kc, rfl, hrio⟩ := own_rio ho
      clear ho
      generalize hks : kindsA ar = ks at *
      have HKL : Hid (ks.length = ar.length) := hkl
      have bww : Below w.heap.size w wr := HB0.out.trans (hbel.mono (by omega))
      obtain ⟨q0, q1, q2, f0, f1, f2⟩ := HR0.out
      have q0 := (hbel.cell (p := ⟨w.heap.size, 0, none⟩) (by show w.heap.size < _; omega)).trans q0
      have q1 := (hbel.cell (p := ⟨w.heap.size, 1, none⟩) (by show w.heap.size < _; omega)).trans q1
      have q2 := (hbel.cell (p := ⟨w.heap.size, 2, none⟩) (by show w.heap.size < _; omega)).trans q2
      have f0 := (hbel.frozen (p := ⟨w.heap.size, 0, none⟩) (by show w.heap.size < _; omega)).trans f0
      have f1 := (hbel.frozen (p := ⟨w.heap.size, 1, none⟩) (by show w.heap.size < _; omega)).trans f1
      have f2 := (hbel.frozen (p := ⟨w.heap.size, 2, none⟩) (by show w.heap.size < _; omega)).trans f2
      have hwr : w.heap.size < wr.heap.size := by omega
      have hn20 : ks.length ≤ 1048576 := by rw [hkl]; omega
      clear hkl hks hbel HR0 HB0
      go_wp2_with (go_at_call 39; fail)
      refine (Mp.table_any _).mono ?_
      rintro e w1 ⟨rfl, hst⟩
      obtain ⟨l, hm, hks, hgood, hb1⟩ := hst
      have hrun := hm.look Tryz.underlying72 Tryz.underlying3 (Tryz.zeroValue70 _) fn
      obtain ⟨v, hv1, hv2⟩ := Mp.lookL_some (l := l) (k := fn) (by rw [hks]; exact Mp.mem13 h13)
      obtain ⟨g, hvg, hG⟩ := hgood _ hv2
      replace hG : Mp.GoodG w1 wr.heap.size fn g := hG
      simp only at hvg
      subst hvg
      rw [hv1] at hrun
      simp only [Option.getD_some, Option.isSome_some] at hrun
      obtain ⟨hc1, hf1⟩ := bcell hb1
      have hz1 : w.heap.size < w1.heap.size := by have := hb1.size; omega
      have bw1 : Below w.heap.size w w1 := bww.trans (hb1.mono bww.size)
      have hrio1 := hrio.below hb1
      clear hgood hks hm hv1 hv2 hrio
      have hgF : g = Mp.fnV 96 := by rcases hfn.out with h | h <;> simpa [Mp.GoodG, h] using hG
      subst hgF
      have HG : Mp.gvK fn ks = Mp.twoK ks := by rcases hfn.out with h | h <;> simp [Mp.gvK, h]
      rw [HG] at hg'
      clear hG HG hg
      generalize Mp.workN fn = wn at *
      go_wp2_with (go_at_call 96; fail)
      refine (Mp.two_any ks _ _ _ hn20 (hrio1.below (below_alloc _ _))).mono ?_
      rintro e w2 ⟨rfl, hb2⟩
      generalize Mp.twoK ks = gr at *
      obtain ⟨hc2, hf2⟩ := bcell hb2
      have hz2 : w1.heap.size < w2.heap.size := by have := hb2.size; simp at this; omega
      have hy2 : w.heap.size < w2.heap.size := by omega
      have bw1a : Below w.heap.size w (w1.alloc (.cells #[Value.func (Fn.func 96) #[] #[], Value.func (Fn.func wn) #[] #[]] 70)) := bw1.alloc bw1.size _
      have bw2 : Below w.heap.size w w2 := bw1a.trans (hb2.mono bw1a.size)
      have b12 : Below wr.heap.size wr w2 := (hb1.alloc hb1.size _).trans (hb2.mono (by have := hb1.size; simp; omega))
      have p0 := (b12.cell (p := ⟨w.heap.size, 0, none⟩) hwr).trans q0
      have p1 := (b12.cell (p := ⟨w.heap.size, 1, none⟩) hwr).trans q1
      have p2 := (b12.cell (p := ⟨w.heap.size, 2, none⟩) hwr).trans q2
      have j0 := (b12.frozen (p := ⟨w.heap.size, 0, none⟩) hwr).trans f0
      have j1 := (b12.frozen (p := ⟨w.heap.size, 1, none⟩) hwr).trans f1
      have j2 := (b12.frozen (p := ⟨w.heap.size, 2, none⟩) hwr).trans f2
      clear b12 hc1 hf1 hc2 hf2
      rcases hg' with ⟨hgy, rfl⟩ | ⟨hgn, hnu, rfl⟩
      · go_wp2
        refine bodyPost_ret (v := tV 0 0 ⟨#[]⟩ 10) (by simp [results, Tryz.results20, go_sem, tV, p0, p1, p2, j0, j1, j2, hy2]) rfl ⟨rfl, ?_⟩
        exact ((bw2.setCell (Nat.le_refl _) _).setCell (Nat.le_refl _) _).setCell (Nat.le_refl _) _
      · rw [Bool.and_eq_true] at hnu
        obtain ⟨rfl, hn6⟩ := hnu
        go_wp2
        refine bodyPost_ret (v := tV 0 0 ⟨#[]⟩ 0) (by simp [results, Tryz.results20, go_sem, tV, p0, p1, p2, j0, j1, j2, hy2]) rfl ⟨rfl, ?_⟩
        exact ((bw2.setCell (Nat.le_refl _) _).setCell (Nat.le_refl _) _).setCell (Nat.le_refl _) _
end Go.Proofs.YtdcdoeolaongkaaGreatDoor.Ca
namespace Go.Proofs.YtdcdoeolaongkaaGreatDoor.Ca
open Go.MapKept Go.ChangeMaps
open Go.ChangeShapes Go.WideShapes Go.ChangeAt Go.RowKit Go.Shelf
open Go.Proofs.YtdcdoeolaongkaaGreatDoor.Rd
set_option linter.unusedVariables false
set_option linter.unusedSimpArgs false
set_option maxRecDepth 100000
theorem wantK_len (fn : Int) : (Mp.wantK fn).length ≤ 100 := by unfold Mp.wantK; repeat (first | decide | split)
set_option maxHeartbeats 16000000 in
theorem callF_149 (fn : Int) (ar : List TA) (a : Option Addr) (cap : Nat) (w : World) (h8 : ar.length ≤ 8) (hr : RVO w (.slice a ar.length cap) ar) (hsz : ∀ t ∈ ar, t.2.2.size ≤ 1048576) (hT : Tabs w) (hv : Hid (∀ t ∈ ar, vok t.1 t.2.1 t.2.2 = true)) (h13 : 1 ≤ fn ∧ fn ≤ 13) (hfn : Hid (fn ≠ 1 ∧ fn ≠ 6 ∧ fn ≠ 12 ∧ fn ≠ 13)) (c : Int) (hg : Hid (((Mp.gvK fn (kindsA ar) == -1) = true ∧ c = 10) ∨ ((Mp.gvK fn (kindsA ar) == -1) = false ∧ (nullsA ar && fn != 6) = true ∧ c = 0))) :
    Calls Tryz.prog 20 #[.int .i64 fn, .slice a ar.length cap] w fun e w' => e = .returned (tV 0 0 ⟨#[]⟩ c) ∧ Below w.heap.size w w' := by
  obtain ⟨i0, hi, hz0, hz1, hz2⟩ := info_parts info3
  have hrr := hr
  obtain ⟨a', cap', hsl, hcells⟩ := hr
  simp only [Value.slice.injEq] at hsl
  obtain ⟨rfl, _, rfl⟩ := hsl
  have h8i : ¬ (8 : Int) < ar.length := by omega
  have bw0 := below_alloc w (.cells #[.int .i64 0, .int .i64 0, .string ⟨#[]⟩] 29)
  have HRR : Hid (RVO w (.slice a ar.length cap) ar) := hrr
  clear hrr
  go_enter Tryz.func20, Tryz.ntmps20
  go_wp2
  generalize hW0 : w.alloc (.cells #[.int .i64 0, .int .i64 0, .string ⟨#[]⟩] 29) = W0 at *
  have hs0 : w.heap.size < W0.heap.size := by rw [← hW0]; simp
  have r0 : W0.cell? ⟨w.heap.size, 0, none⟩ = some (.int .i64 0) ∧ W0.cell? ⟨w.heap.size, 1, none⟩ = some (.int .i64 0) ∧ W0.cell? ⟨w.heap.size, 2, none⟩ = some (.string ⟨#[]⟩) ∧ W0.frozen? ⟨w.heap.size, 0, none⟩ = false ∧ W0.frozen? ⟨w.heap.size, 1, none⟩ = false ∧ W0.frozen? ⟨w.heap.size, 2, none⟩ = false := by
    rw [← hW0]; simp [go_sem]
  have HR0 : Hid _ := r0
  have HB0 : Hid (Below w.heap.size w W0) := bw0
  clear r0 bw0 hW0
  go_loopw [6, 7, 9, 18] (fun kv nb _ i wr => ∃ k : Nat, k ≤ ar.length ∧ i = .int .i64 k ∧ nb = .bool (nullsA (ar.take k)) ∧ OwnK W0.heap.size kv k (kindsA (ar.take k)) wr ∧ Below W0.heap.size W0 wr) (fun _ _ _ i _ => ar.length - (intOf i).toNat)
  case atStart => exact ⟨0, Nat.zero_le _, rfl, rfl, (⟨rfl, .inl ⟨rfl, rfl⟩⟩ : W0.ownsRow W0.heap.size 3 1 (.slice none 0 0) 0 []), Below.refl _ _⟩
  case round =>
    obtain ⟨k, hk, rfl, rfl, hoK, hbel⟩ := hrel
    have ho : wr.ownsRow W0.heap.size 3 1 _ k ((kindsA (ar.take k)).map (Value.int .i64)) := hoK
    clear hoK
    have hbs := hbel.size
    by_cases hlt : k < ar.length
    · have hlti : (k : Int) < ar.length := by omega
      obtain ⟨g, o, rfl, hgg, hgc⟩ := hcells (by omega)
      have bww : Below w.heap.size w wr := HB0.out.trans (hbel.mono (by omega))
      obtain ⟨c0, c1, c2⟩ := hgc k hlt
      have d0 := (bww.cell (p := ⟨g, o + k * 3, none⟩) hgg).trans c0
      have d1 := (bww.cell (p := ⟨g, o + k * 3 + 1, none⟩) hgg).trans c1
      have d2 := (bww.cell (p := ⟨g, o + k * 3 + 2, none⟩) hgg).trans c2
      have hsx := hsz ar[k] (List.getElem_mem hlt)
      have hvx := hv.out ar[k] (List.getElem_mem hlt)
      have HTK : Hid (ar.take (k + 1) = ar.take k ++ [ar[k]]) := take_snoc hlt
      clear c0 c1 c2 hgc hcells hsz
      generalize ar[k] = t at *
      obtain ⟨tk, tn, ts⟩ := t
      simp only at d0 d1 d2 hsx hvx
      have HVX : Hid (vok tk tn ts = true) := hvx
      clear hvx
      have HNB : Hid (nullsA (ar.take (k + 1)) = (nullsA (ar.take k) || tk == 0)) := (by rw [HTK.out, nullsA_snoc] : nullsA (ar.take (k + 1)) = (nullsA (ar.take k) || tk == 0))
      generalize nullsA (ar.take k) = nb at *
      have cs : nb = true ∨ (nb = false ∧ (tk == 0) = true) ∨ (nb = false ∧ (tk == 0) = false) := by cases nb <;> cases (tk == 0) <;> simp
      have hVX := fun W (h : Below w.heap.size w W) => vok_impl tk tn ts W hsx (tabs_below hT h)
      rw [HVX.out] at hVX
      rcases cs with rfl | ⟨rfl, ez⟩ | ⟨rfl, ez⟩
      all_goals
        go_wp2_with (first | (go_at_call 43; refine (hVX _ (bww.alloc bww.size _)).mono ?_; rintro e w1 ⟨rfl, hb1⟩; obtain ⟨hc1, hf1⟩ := bcell hb1; have hz1w : wr.heap.size < w1.heap.size := (by have := hb1.size; simp at this; omega); have bw1 : Below W0.heap.size W0 w1 := (hbel.alloc hbs _).trans (hb1.mono (by simp; omega)); have ho1 := own_below (ho.alloc _) hb1; have e0 : w1.cell? ⟨wr.heap.size, 0, none⟩ = some (.int .i64 tk) := (hc1 wr.heap.size 0 (by simp)).trans (by simp [go_sem])) | (at_builtin; refine wpList_append_own _ rfl (.tmp 26) (.tmp 29) 22 rfl W0.heap.size 3 i0 (.int .i64 0) 1 8 Tryz.underlying22 hi hz0 hz1 hz2 rfl (by decide) _ k ((kindsA (ar.take k)).map (Value.int .i64)) rfl (ho1.alloc _) ⟨w1.heap.size, 0, none⟩ 1 1 [.int .i64 tk] rfl rfl (cell_one_new _ _ _) (by intro u hu; simp at hu; subst hu; rfl) (by unfold maxLen; omega) (by omega) (by have := bw1.size; simp; omega) ?_; intro v' w2 hown' hgrow _; have bw2 : Below W0.heap.size W0 w2 := (bw1.alloc bw1.size _).grown hgrow (by have := bw1.size; simp; omega) (fun j hj => (ho1.lt j hj).1); have e2 : w2.cell? ⟨wr.heap.size, 0, none⟩ = some (.int .i64 tk) := (cell_grown hgrow (by simp; omega) (fun e => by have := (ho.lt wr.heap.size e.symm).2; omega)).trans (((below_alloc w1 _).cell (p := ⟨wr.heap.size, 0, none⟩) hz1w).trans e0); have HOW : Hid (OwnK W0.heap.size v' (k + 1) (kindsA (ar.take (k + 1))) w2) := OwnK.of HTK.out hown'; clear hown' hgrow))
        go_roundw
        case rel => exact ⟨k + 1, by omega, by go_num, by rw [HNB.out]; first | (rw [ez]; rfl) | rfl, HOW.out, bw2⟩
        case measure => simp [intOf]; omega
    · have hkn : k = ar.length := by omega
      subst hkn
      have hlti : ¬ (ar.length : Int) < ar.length := by omega
      rw [List.take_length] at ho
      rw [List.take_length]
      have hg' := hg.out
      generalize nullsA ar = nb at *
      have hkl : (kindsA ar).length = ar.length := by simp [kindsA]
      rw [← hkl] at ho
      obtain ⟨ka, kc, rfl, hrio⟩ := own_rio ho
      clear ho
      generalize hks : kindsA ar = ks at *
      have HKL : Hid (ks.length = ar.length) := hkl
      have bww : Below w.heap.size w wr := HB0.out.trans (hbel.mono (by omega))
      obtain ⟨q0, q1, q2, f0, f1, f2⟩ := HR0.out
      have q0 := (hbel.cell (p := ⟨w.heap.size, 0, none⟩) (by show w.heap.size < _; omega)).trans q0
      have q1 := (hbel.cell (p := ⟨w.heap.size, 1, none⟩) (by show w.heap.size < _; omega)).trans q1
      have q2 := (hbel.cell (p := ⟨w.heap.size, 2, none⟩) (by show w.heap.size < _; omega)).trans q2
      have f0 := (hbel.frozen (p := ⟨w.heap.size, 0, none⟩) (by show w.heap.size < _; omega)).trans f0
      have f1 := (hbel.frozen (p := ⟨w.heap.size, 1, none⟩) (by show w.heap.size < _; omega)).trans f1
      have f2 := (hbel.frozen (p := ⟨w.heap.size, 2, none⟩) (by show w.heap.size < _; omega)).trans f2
      have hwr : w.heap.size < wr.heap.size := by omega
      have hn20 : ks.length ≤ 1048576 := by rw [hkl]; omega
      clear hkl hks hbel HR0 HB0
      go_wp2_with (go_at_call 39; fail)
      refine (Mp.table_any _).mono ?_
      rintro e w1 ⟨rfl, hst⟩
      obtain ⟨l, hm, hks, hgood, hb1⟩ := hst
      have hrun := hm.look Tryz.underlying72 Tryz.underlying3 (Tryz.zeroValue70 _) fn
      obtain ⟨v, hv1, hv2⟩ := Mp.lookL_some (l := l) (k := fn) (by rw [hks]; exact Mp.mem13 h13)
      obtain ⟨g, hvg, hG⟩ := hgood _ hv2
      replace hG : Mp.GoodG w1 wr.heap.size fn g := hG
      simp only at hvg
      subst hvg
      rw [hv1] at hrun
      simp only [Option.getD_some, Option.isSome_some] at hrun
      obtain ⟨hc1, hf1⟩ := bcell hb1
      have hz1 : w.heap.size < w1.heap.size := by have := hb1.size; omega
      have bw1 : Below w.heap.size w w1 := bww.trans (hb1.mono bww.size)
      have hrio1 := hrio.below hb1
      clear hgood hks hm hv1 hv2 hrio
      have hT2 : Mp.Taker w1 wr.heap.size g (Mp.resK fn) (Mp.wantK fn) := by simpa [Mp.GoodG, hfn.out] using hG
      have HG : Mp.gvK fn ks = Mp.takeK (Mp.resK fn) (Mp.wantK fn) ks := by simp [Mp.gvK, hfn.out]
      have HWL : Hid ((Mp.wantK fn).length ≤ 100) := wantK_len fn
      rw [HG] at hg'
      clear hG HG hg
      generalize Mp.workN fn = wn at *
      generalize Mp.resK fn = rs at *
      generalize Mp.wantK fn = wsl at *
      obtain ⟨bw_, br, sb, rfl, _, ⟨l1, l2, l3⟩, t1, t2, t3⟩ := hT2
      have HTK : Hid ((bw_ < w1.heap.size ∧ br < w1.heap.size ∧ sb < w1.heap.size) ∧ w1.cell? ⟨bw_, 0, none⟩ = some (.slice (some ⟨sb, 0, none⟩) wsl.length wsl.length) ∧ w1.cell? ⟨br, 0, none⟩ = some (.int .i64 rs) ∧ ∀ i (h : i < wsl.length), w1.cell? ⟨sb, i, none⟩ = some (.int .i64 wsl[i])) := ⟨⟨l1, l2, l3⟩, t1, t2, t3⟩
      clear t1 t2 t3 l1 l2 l3
      go_wp2_with (go_at_call 149; fail)
      refine (Mp.taking1_any 0 rs wsl ks _ _ bw_ br sb _ hn20 HWL.out (hrio1.below (below_alloc _ _)) (((below_alloc w1 _).cell (p := ⟨bw_, 0, none⟩) HTK.out.1.1).trans HTK.out.2.1) (((below_alloc w1 _).cell (p := ⟨br, 0, none⟩) HTK.out.1.2.1).trans HTK.out.2.2.1) (fun i hi => ((below_alloc w1 _).cell (p := ⟨sb, i, none⟩) HTK.out.1.2.2).trans (HTK.out.2.2.2 i hi))).mono ?_
      rintro e w2 ⟨rfl, hbe2⟩
      have hb2 : Below (w1.alloc (.cells #[Value.func (Fn.func 149) #[] #[Value.pointer (some ⟨bw_, 0, none⟩), Value.pointer (some ⟨br, 0, none⟩)], Value.func (Fn.func wn) #[] #[]] 70)).heap.size (w1.alloc (.cells #[Value.func (Fn.func 149) #[] #[Value.pointer (some ⟨bw_, 0, none⟩), Value.pointer (some ⟨br, 0, none⟩)], Value.func (Fn.func wn) #[] #[]] 70)) w2 := by rw [hbe2]; exact Below.refl _ _
      clear hbe2
      generalize Mp.takeK rs wsl ks = gr at *
      obtain ⟨hc2, hf2⟩ := bcell hb2
      have hz2 : w1.heap.size < w2.heap.size := by have := hb2.size; simp at this; omega
      have hy2 : w.heap.size < w2.heap.size := by omega
      have bw1a : Below w.heap.size w (w1.alloc (.cells #[Value.func (Fn.func 149) #[] #[Value.pointer (some ⟨bw_, 0, none⟩), Value.pointer (some ⟨br, 0, none⟩)], Value.func (Fn.func wn) #[] #[]] 70)) := bw1.alloc bw1.size _
      have bw2 : Below w.heap.size w w2 := bw1a.trans (hb2.mono bw1a.size)
      have b12 : Below wr.heap.size wr w2 := (hb1.alloc hb1.size _).trans (hb2.mono (by have := hb1.size; simp; omega))
      have p0 := (b12.cell (p := ⟨w.heap.size, 0, none⟩) hwr).trans q0
      have p1 := (b12.cell (p := ⟨w.heap.size, 1, none⟩) hwr).trans q1
      have p2 := (b12.cell (p := ⟨w.heap.size, 2, none⟩) hwr).trans q2
      have j0 := (b12.frozen (p := ⟨w.heap.size, 0, none⟩) hwr).trans f0
      have j1 := (b12.frozen (p := ⟨w.heap.size, 1, none⟩) hwr).trans f1
      have j2 := (b12.frozen (p := ⟨w.heap.size, 2, none⟩) hwr).trans f2
      clear b12 hc1 hf1 hc2 hf2
      rcases hg' with ⟨hgy, rfl⟩ | ⟨hgn, hnu, rfl⟩
      · go_wp2
        refine bodyPost_ret (v := tV 0 0 ⟨#[]⟩ 10) (by simp [results, Tryz.results20, go_sem, tV, p0, p1, p2, j0, j1, j2, hy2]) rfl ⟨rfl, ?_⟩
        exact ((bw2.setCell (Nat.le_refl _) _).setCell (Nat.le_refl _) _).setCell (Nat.le_refl _) _
      · rw [Bool.and_eq_true] at hnu
        obtain ⟨rfl, hn6⟩ := hnu
        go_wp2
        refine bodyPost_ret (v := tV 0 0 ⟨#[]⟩ 0) (by simp [results, Tryz.results20, go_sem, tV, p0, p1, p2, j0, j1, j2, hy2]) rfl ⟨rfl, ?_⟩
        exact ((bw2.setCell (Nat.le_refl _) _).setCell (Nat.le_refl _) _).setCell (Nat.le_refl _) _
end Go.Proofs.YtdcdoeolaongkaaGreatDoor.Ca
