import Derived.Test.YtbcnfepfmoecjaaDoorR6
import Derived.Deep.RegionWith
namespace Go.Proofs.YtbcnfepfmoecjaaDoor.Dr
open Go.ChangeShapes Go.WideShapes Go.ChangeAt Go.RowKit
set_option linter.unusedVariables false
set_option linter.unusedSimpArgs false
set_option maxRecDepth 100000
def kinds4 : List Int := [2, 1, 0, 1]
/-- Two drawn values. -/
def DrawnVV (L : Nat) (c : Nat) (A : Int) (w : World) (e : Ending) (w' : World) : Prop := ∃ (k n : Int) (s : ByteArray) (k' n' : Int) (s' : ByteArray), s.size ≤ L ∧ s'.size ≤ L ∧ e = .returned (.tuple #[.agg #[.int .i64 k, .int .i64 n, .string s], .agg #[.int .i64 k', .int .i64 n', .string s']]) ∧ IsCur w' c A ∧ Upd c w w'
theorem drawnVV_mk {L c : Nat} {A A' : Int} {w w1 w2 : World} {k n : Int} {s : ByteArray} {k' n' : Int} {s' : ByteArray} (hlt : c < w.heap.size) (hs : s.size ≤ L) (hs' : s'.size ≤ L) (hc : IsCur w1 c A') (hA : A' ≤ A) (hu : Upd c w w1) (hb : Below w.heap.size w1 w2) : DrawnVV L c A w (.returned (.tuple #[.agg #[.int .i64 k, .int .i64 n, .string s], .agg #[.int .i64 k', .int .i64 n', .string s']])) w2 :=
  ⟨k, n, s, k', n', s', hs, hs', rfl, (hc.below hb hlt).mono hA, hu.thenB hb (Nat.le_refl _)⟩
theorem IsCur.drew {w : World} {c : Nat} {A : Int} (h : IsCur w c A) : IsCur w.drew c A := h.same (fun _ _ => rfl) h.lt
theorem Holds.drew {w : World} {b : Nat} {k n : Int} {s : ByteArray} (h : Holds w b k n s) : Holds w.drew b k n s := h.same rfl h.lt
theorem below_drew (w : World) : Below w.heap.size w w.drew := (Below.refl w.heap.size w).drew
set_option maxHeartbeats 8000000 in
theorem drawTwo_any (c : Nat) (A : Int) (w : World) (h : IsCur w c A) (hA : A ≤ 10000) : Calls Tryd.prog 51 #[.pointer (some ⟨c, 0, none⟩)] w fun e w' => DrawnVV 700 c (A + 100) w e w' := by
  have hlt := h.lt
  have hne : w.heap.size ≠ c := by omega
  have hne' : w.heap.size + 1 ≠ c := by omega
  go_enter Tryd.func51, Tryd.ntmps51
  go_wp2_with fail
  refine (drawValue_any c A _ (cur_alloc (cur_alloc h _) _) (by omega)).mono ?_
  rintro e w1 ⟨k, n, s, hs, rfl, hc1, hu1⟩
  have hr1 : Holds w1 w.heap.size 0 0 ⟨#[]⟩ := ((Holds.new w 0 0 ⟨#[]⟩).below (below_alloc _ _) (by simp)).upd hu1 hne
  have hq1 : Holds w1 (w.heap.size + 1) 0 0 ⟨#[]⟩ := by
    have := (Holds.new (w.alloc (.cells #[.int .i64 0, .int .i64 0, .string ⟨#[]⟩] 26)) 0 0 ⟨#[]⟩).upd hu1 (by simpa using hne')
    simpa using this
  have HU1 : Hid (Upd c w w1) := ((upd_alloc c w _).trans (upd_alloc c _ _)).trans hu1
  have HS : Hid (s.size ≤ 700) := hs
  have hz1 := hq1.lt
  have hy1 := hr1.lt
  have hv : w1.heap.size ≠ c := by omega
  clear h hu1 hs
  go_wp2_with fail
  refine (pick_any c (A + 30) 4 _ (hc1.below (B := w1.heap.size) (by (go_light; repeat (first | with_reducible exact Below.refl _ _ | (with_reducible refine Below.setCell ?_ ?_ _; rotate_left; (focus first | (simp; done) | (simp; omega) | omega)) | (with_reducible refine Below.alloc ?_ ?_ _; rotate_left; (focus first | (simp; done) | (simp; omega) | omega)) | with_reducible refine Below.drew ?_))) (by omega)) (by omega) (by omega) (by omega)).mono ?_
  rintro e w2 ⟨r, r0, r1, rfl, hc2, hu2⟩
  have hr2 := Holds.upd (hr1.below (B := w1.heap.size) (by (go_light; repeat (first | with_reducible exact Below.refl _ _ | (with_reducible refine Below.setCell ?_ ?_ _; rotate_left; (focus first | (simp; done) | (simp; omega) | omega)) | (with_reducible refine Below.alloc ?_ ?_ _; rotate_left; (focus first | (simp; done) | (simp; omega) | omega)) | with_reducible refine Below.drew ?_))) hy1) hu2 hne
  have hq2 := Holds.upd (hq1.below (B := w1.heap.size) (by (go_light; repeat (first | with_reducible exact Below.refl _ _ | (with_reducible refine Below.setCell ?_ ?_ _; rotate_left; (focus first | (simp; done) | (simp; omega) | omega)) | (with_reducible refine Below.alloc ?_ ?_ _; rotate_left; (focus first | (simp; done) | (simp; omega) | omega)) | with_reducible refine Below.drew ?_))) hz1) hu2 hne'
  have hv2 : Holds w2 w1.heap.size k n s := Holds.upd ⟨by simp [go_sem], by simp [go_sem], by simp [go_sem], by simp [go_sem], by simp [go_sem], by simp [go_sem], by simp⟩ hu2 hv
  have HU2 : Hid (Upd c w w2) := (HU1.out.thenB (B := w1.heap.size) (by (go_light; repeat (first | with_reducible exact Below.refl _ _ | (with_reducible refine Below.setCell ?_ ?_ _; rotate_left; (focus first | (simp; done) | (simp; omega) | omega)) | (with_reducible refine Below.alloc ?_ ?_ _; rotate_left; (focus first | (simp; done) | (simp; omega) | omega)) | with_reducible refine Below.drew ?_))) (by omega)).trans hu2
  have d1 : w.heap.size ≠ w1.heap.size := by omega
  have d2 : w1.heap.size ≠ w.heap.size := by omega
  have d3 : w.heap.size + 1 ≠ w1.heap.size := by omega
  have d4 : w1.heap.size ≠ w.heap.size + 1 := by omega
  clear HU1 hu2 hr1 hq1 hc1
  by_cases t : r = 3
  · subst t
    have hr2' := hr2
    have hq2' := hq2
    have hv2' := hv2
    obtain ⟨v0, v1, v2, g0, g1, g2, hy3⟩ := hv2'
    clear hr2' hq2' g0 g1 g2
    go_wp2
    have hrd := Holds.drew hr2
    have hqd := Holds.drew hq2
    have hvd := Holds.drew hv2
    have hcd := IsCur.drew hc2
    go_region_with (go_at_call 84; refine (drawValue_any c (A + 32) w2.drew (hcd.mono (by omega)) (by omega)).mono ?_; rintro e w3 ⟨k3, n3, s3, hs3, rfl, hc3, hu3⟩; have hs3' := HS.out; obtain ⟨p0, p1, p2, p3, p4, p5, p6⟩ := Holds.upd hrd hu3 hne; obtain ⟨q0, q1, q2, q3, q4, q5, q6⟩ := Holds.upd hqd hu3 hne'; obtain ⟨o0, o1, o2, o3, o4, o5, o6⟩ := Holds.upd hvd hu3 hv; have HU3 : Hid (Upd c w w3) := HU2.out.trans ((Upd.of_below (below_drew _)).trans hu3))
    all_goals
      go_wp2
      refine bodyPost_ret (v := .tuple #[.agg #[.int .i64 k, .int .i64 n, .string s], .agg #[.int .i64 k3, .int .i64 n3, .string s3]]) (by simp [results, Tryd.results51, go_sem, p0, p1, p2, p3, p4, p5, p6, q0, q1, q2, q3, q4, q5, q6, o0, o1, o2, d1, d2, d3, d4]) rfl ?_
      refine drawnVV_mk hlt HS.out hs3 hc3 (by omega) HU3.out ?_
      (go_light; repeat (first | with_reducible exact Below.refl _ _ | (with_reducible refine Below.setCell ?_ ?_ _; rotate_left; (focus first | (simp; done) | (simp; omega) | omega)) | (with_reducible refine Below.alloc ?_ ?_ _; rotate_left; (focus first | (simp; done) | (simp; omega) | omega)) | with_reducible refine Below.drew ?_))
  have t' : (r == 3) = false := by simpa using t
  have hv2' := hv2
  obtain ⟨v0, v1, v2, g0, g1, g2, hy3⟩ := hv2'
  clear t g0 g1 g2
  go_wp2_with fail
  refine (pick_any c (A + 32) 6 _ (hc2.mono (by omega)) (by omega) (by omega) (by omega)).mono ?_
  rintro e w4 ⟨u, u0, u1, rfl, hc4, hu4⟩
  have hr4 := hr2.upd hu4 hne
  have hq4 := hq2.upd hu4 hne'
  have hv4 := hv2.upd hu4 hv
  have HU4 : Hid (Upd c w w4) := HU2.out.trans hu4
  clear v0 v1 v2 hy3 hr2 hq2 hv2 HU2 hu4 hc2
  by_cases t1 : u = 5
  · subst t1
    obtain ⟨p0, p1, p2, p3, p4, p5, p6⟩ := hr4
    obtain ⟨q0, q1, q2, q3, q4, q5, q6⟩ := hq4
    obtain ⟨o0, o1, o2, o3, o4, o5, o6⟩ := hv4
    go_wp2
    go_region
    all_goals
      go_wp2
      refine bodyPost_ret (v := .tuple #[.agg #[.int .i64 k, .int .i64 n, .string s], .agg #[.int .i64 k, .int .i64 n, .string s]]) (by simp [results, Tryd.results51, go_sem, p0, p1, p2, p3, p4, p5, p6, q0, q1, q2, q3, q4, q5, q6, o0, o1, o2, d1, d2, d3, d4]) rfl ?_
      refine drawnVV_mk hlt HS.out HS.out hc4 (by omega) HU4.out ?_
      (go_light; repeat (first | with_reducible exact Below.refl _ _ | (with_reducible refine Below.setCell ?_ ?_ _; rotate_left; (focus first | (simp; done) | (simp; omega) | omega)) | (with_reducible refine Below.alloc ?_ ?_ _; rotate_left; (focus first | (simp; done) | (simp; omega) | omega)) | with_reducible refine Below.drew ?_))
  have t1' : (u == 5) = false := by simpa using t1
  have hv4' := hv4
  obtain ⟨v0, v1, v2, g0, g1, g2, hy3⟩ := hv4'
  clear t1 g0 g1 g2
  go_wp2_with fail
  refine (pick_any c (A + 34) 4 _ (hc4.mono (by omega)) (by omega) (by omega) (by omega)).mono ?_
  rintro e w5 ⟨x, x0, x1, rfl, hc5, hu5⟩
  have hr5 := hr4.upd hu5 hne
  have hq5 := hq4.upd hu5 hne'
  have hv5 := hv4.upd hu5 hv
  have HU5 : Hid (Upd c w w5) := HU4.out.trans hu5
  clear v0 v1 v2 hy3 hr4 hq4 hv4 HU4 hu5 hc4
  by_cases t2 : x = 3
  · subst t2
    have h5 : w.heap.size < w5.heap.size := hr5.lt
    have h5' : w5.heap.size ≠ c := by omega
    go_wp2_with fail
    refine (pick_any c (A + 36) 4 _ ((cur_alloc hc5 _).mono (by omega)) (by omega) (by omega) (by omega)).mono ?_
    rintro e w6 ⟨y, y0, y1, rfl, hc6, hu6⟩
    have hu6' : Upd c w5 w6 := (upd_alloc c w5 _).trans hu6
    have hcell : w6.cell? ⟨w5.heap.size, y.toNat, none⟩ = some (.int .i64 (kinds4.getD y.toNat 0)) := (hu6.cell (p := ⟨w5.heap.size, y.toNat, none⟩) (by simp) h5').trans (alloc_ints _ kinds4 y.toNat (by show y.toNat < 4; omega))
    generalize kinds4.getD y.toNat 0 = z at *
    have hr6 := hr5.upd hu6' hne
    have hq6 := hq5.upd hu6' hne'
    have hv6 := hv5.upd hu6' hv
    have HU6 : Hid (Upd c w w6) := HU5.out.trans hu6'
    clear hr5 hq5 hv5 HU5 hu6 hu6' hc5
    have hv6' := hv6
    obtain ⟨v0, v1, v2, g0, g1, g2, hy3⟩ := hv6'
    clear g0 g1 g2
    go_wp2
    have hrd := Holds.drew hr6
    have hqd := Holds.drew hq6
    have hvd := Holds.drew hv6
    have hcd := IsCur.drew hc6
    go_region_with (go_at_call 62; refine (drawKind_any c (A + 40) _ w6.drew (hcd.mono (by omega)) (by omega)).mono ?_; rintro e w3 ⟨k3, n3, s3, hs3, rfl, hc3, hu3⟩; have hs3' := HS.out; obtain ⟨p0, p1, p2, p3, p4, p5, p6⟩ := Holds.upd hrd hu3 hne; obtain ⟨q0, q1, q2, q3, q4, q5, q6⟩ := Holds.upd hqd hu3 hne'; obtain ⟨o0, o1, o2, o3, o4, o5, o6⟩ := Holds.upd hvd hu3 hv; have HU3 : Hid (Upd c w w3) := HU6.out.trans ((Upd.of_below (below_drew _)).trans hu3))
    all_goals
      go_wp2
      refine bodyPost_ret (v := .tuple #[.agg #[.int .i64 k, .int .i64 n, .string s], .agg #[.int .i64 k3, .int .i64 n3, .string s3]]) (by simp [results, Tryd.results51, go_sem, p0, p1, p2, p3, p4, p5, p6, q0, q1, q2, q3, q4, q5, q6, o0, o1, o2, d1, d2, d3, d4]) rfl ?_
      refine drawnVV_mk hlt HS.out (Nat.le_trans hs3 (by decide)) hc3 (by omega) HU3.out ?_
      (go_light; repeat (first | with_reducible exact Below.refl _ _ | (with_reducible refine Below.setCell ?_ ?_ _; rotate_left; (focus first | (simp; done) | (simp; omega) | omega)) | (with_reducible refine Below.alloc ?_ ?_ _; rotate_left; (focus first | (simp; done) | (simp; omega) | omega)) | with_reducible refine Below.drew ?_))
  have t2' : (x == 3) = false := by simpa using t2
  have hv5' := hv5
  obtain ⟨v0, v1, v2, g0, g1, g2, hy3⟩ := hv5'
  clear t2 g0 g1 g2
  go_wp2
  have hrd := Holds.drew hr5
  have hqd := Holds.drew hq5
  have hvd := Holds.drew hv5
  have hcd := IsCur.drew hc5
  go_region_with (go_at_call 62; refine (drawKind_any c (A + 40) _ w5.drew (hcd.mono (by omega)) (by omega)).mono ?_; rintro e w3 ⟨k3, n3, s3, hs3, rfl, hc3, hu3⟩; have hs3' := HS.out; obtain ⟨p0, p1, p2, p3, p4, p5, p6⟩ := Holds.upd hrd hu3 hne; obtain ⟨q0, q1, q2, q3, q4, q5, q6⟩ := Holds.upd hqd hu3 hne'; obtain ⟨o0, o1, o2, o3, o4, o5, o6⟩ := Holds.upd hvd hu3 hv; have HU3 : Hid (Upd c w w3) := HU5.out.trans ((Upd.of_below (below_drew _)).trans hu3))
  all_goals
    go_wp2
    refine bodyPost_ret (v := .tuple #[.agg #[.int .i64 k, .int .i64 n, .string s], .agg #[.int .i64 k3, .int .i64 n3, .string s3]]) (by simp [results, Tryd.results51, go_sem, p0, p1, p2, p3, p4, p5, p6, q0, q1, q2, q3, q4, q5, q6, o0, o1, o2, d1, d2, d3, d4]) rfl ?_
    refine drawnVV_mk hlt HS.out (Nat.le_trans hs3 (by decide)) hc3 (by omega) HU3.out ?_
    (go_light; repeat (first | with_reducible exact Below.refl _ _ | (with_reducible refine Below.setCell ?_ ?_ _; rotate_left; (focus first | (simp; done) | (simp; omega) | omega)) | (with_reducible refine Below.alloc ?_ ?_ _; rotate_left; (focus first | (simp; done) | (simp; omega) | omega)) | with_reducible refine Below.drew ?_))
end Go.Proofs.YtbcnfepfmoecjaaDoor.Dr
