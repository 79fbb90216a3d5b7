import Derived.Test.YtghdjagomdgnfaaDoorHAG
namespace Go.Proofs.YtghdjagomdgnfaaDoor
open Go.ChangeShapes Go.WideShapes Go.ChangeAt Go.RowKit
set_option linter.unusedVariables false
set_option linter.unusedSimpArgs false
set_option maxRecDepth 100000
set_option maxHeartbeats 8000000 in
theorem f71_18 (t : Nd) (ka : Option Addr) (kl kc : Nat) (w : World) (hop : t.op = 18) :
    Calls Tryd.prog 71 #[ndV t (.slice ka kl kc)] w fun e w' => TabP ⟨0, 1, 0, 0, 0, 0, []⟩ w e w' := by
  obtain ⟨op, name, qual, n, m, vk, vn, vs, kids, pos⟩ := t
  simp only [ndV] at *
  subst hop
  go_enter Tryd.func71, Tryd.ntmps71
  go_wp2
  refine bodyPost_ret (v := formV ⟨0, 1, 0, 0, 0, 0, []⟩ (.slice none 0 0)) (by simp [results, formV, Tryd.results71, go_sem]) rfl ⟨_, rfl, ?_, ?_⟩
  · exact ⟨none, 0, rfl, fun h => absurd h (by simp)⟩
  · exact (by (go_light; repeat (first | with_reducible assumption | with_reducible exact Below.refl _ _ | (with_reducible refine Below.setCell ?_ ?_ _; rotate_left; (focus first | (simp; done) | (simp; omega) | omega)) | (with_reducible refine Below.alloc ?_ ?_ _; rotate_left; (focus first | (simp; done) | (simp; omega) | omega)) | with_reducible refine Below.drew ?_)))
set_option maxHeartbeats 8000000 in
theorem f71_19 (t : Nd) (ka : Option Addr) (kl kc : Nat) (w : World) (hop : t.op = 19) :
    Calls Tryd.prog 71 #[ndV t (.slice ka kl kc)] w fun e w' => TabP ⟨1, 0, 0, 0, 0, 0, [(262142, 1, 1)]⟩ w e w' := by
  obtain ⟨op, name, qual, n, m, vk, vn, vs, kids, pos⟩ := t
  simp only [ndV] at *
  subst hop
  go_enter Tryd.func71, Tryd.ntmps71
  go_wp2_with (go_at_call 93; fail)
  refine (expressions_any 1 1 _).mono ?_
  rintro e w1 ⟨rfl, hb1⟩
  have hz1 := hb1.size
  try simp at hz1
  have B1 : Below w.heap.size w w1 := Below.trans (by (go_light; repeat (first | with_reducible assumption | with_reducible exact Below.refl _ _ | (with_reducible refine Below.setCell ?_ ?_ _; rotate_left; (focus first | (simp; done) | (simp; omega) | omega)) | (with_reducible refine Below.alloc ?_ ?_ _; rotate_left; (focus first | (simp; done) | (simp; omega) | omega)) | with_reducible refine Below.drew ?_))) (hb1.mono (by first | omega | (simp; done) | (simp; omega)))
  have hx1 : w.heap.size + 1 < w1.heap.size := by omega
  have Z1 : Z7 w1 (w.heap.size + 1) := (Z7.start _ _ (w.heap.size + 1) (by simp)).below hb1 (by simp)
  clear hb1
  obtain ⟨c0, f0, c1, f1, c2, f2, c3, f3, c4, f4, c5, f5, c6, f6⟩ := Z1
  go_wp2
  refine bodyPost_ret (v := formV ⟨1, 0, 0, 0, 0, 0, [(262142, 1, 1)]⟩ (.slice (some ⟨w1.heap.size, 0, none⟩) 1 1)) (by simp [results, formV, Tryd.results71, go_sem, hx1, c0, f0, c1, f1, c2, f2, c3, f3, c4, f4, c5, f5, c6, f6]) rfl ⟨_, rfl, ?_, ?_⟩
  · refine RPB.rpx (B := w.heap.size) ?_
    exact rp1 _ _ _ _ _ _ _  (by simp) (by first | omega | (simp; done) | (simp; omega))
  · exact (by (go_light; repeat (first | with_reducible assumption | with_reducible exact Below.refl _ _ | (with_reducible refine Below.setCell ?_ ?_ _; rotate_left; (focus first | (simp; done) | (simp; omega) | omega)) | (with_reducible refine Below.alloc ?_ ?_ _; rotate_left; (focus first | (simp; done) | (simp; omega) | omega)) | with_reducible refine Below.drew ?_)))
set_option maxHeartbeats 8000000 in
theorem f71_20 (t : Nd) (ka : Option Addr) (kl kc : Nat) (w : World) (hop : t.op = 20) :
    Calls Tryd.prog 71 #[ndV t (.slice ka kl kc)] w fun e w' => TabP ⟨0, 0, 0, 0, 0, 0, [(setI [18, 19], 1, 6000)]⟩ w e w' := by
  obtain ⟨op, name, qual, n, m, vk, vn, vs, kids, pos⟩ := t
  simp only [ndV] at *
  subst hop
  go_enter Tryd.func71, Tryd.ntmps71
  go_wp2_with (go_at_call 95; fail)
  refine (manyOf_any [18, 19] _ _ (by decide) (by decide) ?_).mono ?_
  · exact ri2 _ _ _ _ _  (by simp)
  rintro e w1 ⟨rfl, hb1⟩
  have hz1 := hb1.size
  try simp at hz1
  have B1 : Below w.heap.size w w1 := Below.trans (by (go_light; repeat (first | with_reducible assumption | with_reducible exact Below.refl _ _ | (with_reducible refine Below.setCell ?_ ?_ _; rotate_left; (focus first | (simp; done) | (simp; omega) | omega)) | (with_reducible refine Below.alloc ?_ ?_ _; rotate_left; (focus first | (simp; done) | (simp; omega) | omega)) | with_reducible refine Below.drew ?_))) (hb1.mono (by first | omega | (simp; done) | (simp; omega)))
  have hx1 : w.heap.size + 1 < w1.heap.size := by omega
  have Z1 : Z7 w1 (w.heap.size + 1) := ((Z7.start _ _ (w.heap.size + 1) (by simp)).alloc (by simp) _).below hb1 (by first | omega | (simp; done) | (simp; omega))
  clear hb1
  obtain ⟨c0, f0, c1, f1, c2, f2, c3, f3, c4, f4, c5, f5, c6, f6⟩ := Z1
  go_wp2
  refine bodyPost_ret (v := formV ⟨0, 0, 0, 0, 0, 0, [(setI [18, 19], 1, 6000)]⟩ (.slice (some ⟨w1.heap.size, 0, none⟩) 1 1)) (by simp [results, formV, Tryd.results71, go_sem, hx1, c0, f0, c1, f1, c2, f2, c3, f3, c4, f4, c5, f5, c6, f6]) rfl ⟨_, rfl, ?_, ?_⟩
  · refine RPB.rpx (B := w.heap.size) ?_
    exact rp1 _ _ _ _ _ _ _  (by simp) (by first | omega | (simp; done) | (simp; omega))
  · exact (by (go_light; repeat (first | with_reducible assumption | with_reducible exact Below.refl _ _ | (with_reducible refine Below.setCell ?_ ?_ _; rotate_left; (focus first | (simp; done) | (simp; omega) | omega)) | (with_reducible refine Below.alloc ?_ ?_ _; rotate_left; (focus first | (simp; done) | (simp; omega) | omega)) | with_reducible refine Below.drew ?_)))
set_option maxHeartbeats 8000000 in
theorem f71_21 (t : Nd) (ka : Option Addr) (kl kc : Nat) (w : World) (hop : t.op = 21) :
    Calls Tryd.prog 71 #[ndV t (.slice ka kl kc)] w fun e w' => TabP ⟨0, 0, 0, 0, 0, 0, [(setI [31, 32, 33], 1, 6000)]⟩ w e w' := by
  obtain ⟨op, name, qual, n, m, vk, vn, vs, kids, pos⟩ := t
  simp only [ndV] at *
  subst hop
  go_enter Tryd.func71, Tryd.ntmps71
  go_wp2_with (go_at_call 95; fail)
  refine (manyOf_any [31, 32, 33] _ _ (by decide) (by decide) ?_).mono ?_
  · exact ri3 _ _ _ _ _ _  (by simp)
  rintro e w1 ⟨rfl, hb1⟩
  have hz1 := hb1.size
  try simp at hz1
  have B1 : Below w.heap.size w w1 := Below.trans (by (go_light; repeat (first | with_reducible assumption | with_reducible exact Below.refl _ _ | (with_reducible refine Below.setCell ?_ ?_ _; rotate_left; (focus first | (simp; done) | (simp; omega) | omega)) | (with_reducible refine Below.alloc ?_ ?_ _; rotate_left; (focus first | (simp; done) | (simp; omega) | omega)) | with_reducible refine Below.drew ?_))) (hb1.mono (by first | omega | (simp; done) | (simp; omega)))
  have hx1 : w.heap.size + 1 < w1.heap.size := by omega
  have Z1 : Z7 w1 (w.heap.size + 1) := ((Z7.start _ _ (w.heap.size + 1) (by simp)).alloc (by simp) _).below hb1 (by first | omega | (simp; done) | (simp; omega))
  clear hb1
  obtain ⟨c0, f0, c1, f1, c2, f2, c3, f3, c4, f4, c5, f5, c6, f6⟩ := Z1
  go_wp2
  refine bodyPost_ret (v := formV ⟨0, 0, 0, 0, 0, 0, [(setI [31, 32, 33], 1, 6000)]⟩ (.slice (some ⟨w1.heap.size, 0, none⟩) 1 1)) (by simp [results, formV, Tryd.results71, go_sem, hx1, c0, f0, c1, f1, c2, f2, c3, f3, c4, f4, c5, f5, c6, f6]) rfl ⟨_, rfl, ?_, ?_⟩
  · refine RPB.rpx (B := w.heap.size) ?_
    exact rp1 _ _ _ _ _ _ _  (by simp) (by first | omega | (simp; done) | (simp; omega))
  · exact (by (go_light; repeat (first | with_reducible assumption | with_reducible exact Below.refl _ _ | (with_reducible refine Below.setCell ?_ ?_ _; rotate_left; (focus first | (simp; done) | (simp; omega) | omega)) | (with_reducible refine Below.alloc ?_ ?_ _; rotate_left; (focus first | (simp; done) | (simp; omega) | omega)) | with_reducible refine Below.drew ?_)))
end Go.Proofs.YtghdjagomdgnfaaDoor
namespace Go.Proofs.YtghdjagomdgnfaaDoor
open Go.ChangeShapes Go.WideShapes Go.ChangeAt Go.RowKit
set_option linter.unusedVariables false
set_option linter.unusedSimpArgs false
set_option maxRecDepth 100000
set_option maxHeartbeats 8000000 in
theorem f71_22 (t : Nd) (ka : Option Addr) (kl kc : Nat) (w : World) (hop : t.op = 22) :
    Calls Tryd.prog 71 #[ndV t (.slice ka kl kc)] w fun e w' => TabP ⟨0, 0, 0, 0, 0, 0, [(262142, 1, 1)]⟩ w e w' := by
  obtain ⟨op, name, qual, n, m, vk, vn, vs, kids, pos⟩ := t
  simp only [ndV] at *
  subst hop
  go_enter Tryd.func71, Tryd.ntmps71
  go_wp2_with (go_at_call 93; fail)
  refine (expressions_any 1 1 _).mono ?_
  rintro e w1 ⟨rfl, hb1⟩
  have hz1 := hb1.size
  try simp at hz1
  have B1 : Below w.heap.size w w1 := Below.trans (by (go_light; repeat (first | with_reducible assumption | with_reducible exact Below.refl _ _ | (with_reducible refine Below.setCell ?_ ?_ _; rotate_left; (focus first | (simp; done) | (simp; omega) | omega)) | (with_reducible refine Below.alloc ?_ ?_ _; rotate_left; (focus first | (simp; done) | (simp; omega) | omega)) | with_reducible refine Below.drew ?_))) (hb1.mono (by first | omega | (simp; done) | (simp; omega)))
  have hx1 : w.heap.size + 1 < w1.heap.size := by omega
  have Z1 : Z7 w1 (w.heap.size + 1) := (Z7.start _ _ (w.heap.size + 1) (by simp)).below hb1 (by simp)
  clear hb1
  obtain ⟨c0, f0, c1, f1, c2, f2, c3, f3, c4, f4, c5, f5, c6, f6⟩ := Z1
  go_wp2
  refine bodyPost_ret (v := formV ⟨0, 0, 0, 0, 0, 0, [(262142, 1, 1)]⟩ (.slice (some ⟨w1.heap.size, 0, none⟩) 1 1)) (by simp [results, formV, Tryd.results71, go_sem, hx1, c0, f0, c1, f1, c2, f2, c3, f3, c4, f4, c5, f5, c6, f6]) rfl ⟨_, rfl, ?_, ?_⟩
  · refine RPB.rpx (B := w.heap.size) ?_
    exact rp1 _ _ _ _ _ _ _  (by simp) (by first | omega | (simp; done) | (simp; omega))
  · exact (by (go_light; repeat (first | with_reducible assumption | with_reducible exact Below.refl _ _ | (with_reducible refine Below.setCell ?_ ?_ _; rotate_left; (focus first | (simp; done) | (simp; omega) | omega)) | (with_reducible refine Below.alloc ?_ ?_ _; rotate_left; (focus first | (simp; done) | (simp; omega) | omega)) | with_reducible refine Below.drew ?_)))
set_option maxHeartbeats 8000000 in
theorem f71_24 (t : Nd) (ka : Option Addr) (kl kc : Nat) (w : World) (hop : t.op = 24) :
    Calls Tryd.prog 71 #[ndV t (.slice ka kl kc)] w fun e w' => TabP ⟨0, 0, 0, 0, 0, 0, [(262142, 1, 1)]⟩ w e w' := by
  obtain ⟨op, name, qual, n, m, vk, vn, vs, kids, pos⟩ := t
  simp only [ndV] at *
  subst hop
  go_enter Tryd.func71, Tryd.ntmps71
  go_wp2_with (go_at_call 93; fail)
  refine (expressions_any 1 1 _).mono ?_
  rintro e w1 ⟨rfl, hb1⟩
  have hz1 := hb1.size
  try simp at hz1
  have B1 : Below w.heap.size w w1 := Below.trans (by (go_light; repeat (first | with_reducible assumption | with_reducible exact Below.refl _ _ | (with_reducible refine Below.setCell ?_ ?_ _; rotate_left; (focus first | (simp; done) | (simp; omega) | omega)) | (with_reducible refine Below.alloc ?_ ?_ _; rotate_left; (focus first | (simp; done) | (simp; omega) | omega)) | with_reducible refine Below.drew ?_))) (hb1.mono (by first | omega | (simp; done) | (simp; omega)))
  have hx1 : w.heap.size + 1 < w1.heap.size := by omega
  have Z1 : Z7 w1 (w.heap.size + 1) := (Z7.start _ _ (w.heap.size + 1) (by simp)).below hb1 (by simp)
  clear hb1
  obtain ⟨c0, f0, c1, f1, c2, f2, c3, f3, c4, f4, c5, f5, c6, f6⟩ := Z1
  go_wp2
  refine bodyPost_ret (v := formV ⟨0, 0, 0, 0, 0, 0, [(262142, 1, 1)]⟩ (.slice (some ⟨w1.heap.size, 0, none⟩) 1 1)) (by simp [results, formV, Tryd.results71, go_sem, hx1, c0, f0, c1, f1, c2, f2, c3, f3, c4, f4, c5, f5, c6, f6]) rfl ⟨_, rfl, ?_, ?_⟩
  · refine RPB.rpx (B := w.heap.size) ?_
    exact rp1 _ _ _ _ _ _ _  (by simp) (by first | omega | (simp; done) | (simp; omega))
  · exact (by (go_light; repeat (first | with_reducible assumption | with_reducible exact Below.refl _ _ | (with_reducible refine Below.setCell ?_ ?_ _; rotate_left; (focus first | (simp; done) | (simp; omega) | omega)) | (with_reducible refine Below.alloc ?_ ?_ _; rotate_left; (focus first | (simp; done) | (simp; omega) | omega)) | with_reducible refine Below.drew ?_)))
set_option maxHeartbeats 8000000 in
theorem f71_23 (t : Nd) (ka : Option Addr) (kl kc : Nat) (w : World) (hop : t.op = 23) :
    Calls Tryd.prog 71 #[ndV t (.slice ka kl kc)] w fun e w' => TabP ⟨0, 0, 0, 0, 0, 0, [(262142, 1, 6000)]⟩ w e w' := by
  obtain ⟨op, name, qual, n, m, vk, vn, vs, kids, pos⟩ := t
  simp only [ndV] at *
  subst hop
  go_enter Tryd.func71, Tryd.ntmps71
  go_wp2_with (go_at_call 93; fail)
  refine (expressions_any 1 6000 _).mono ?_
  rintro e w1 ⟨rfl, hb1⟩
  have hz1 := hb1.size
  try simp at hz1
  have B1 : Below w.heap.size w w1 := Below.trans (by (go_light; repeat (first | with_reducible assumption | with_reducible exact Below.refl _ _ | (with_reducible refine Below.setCell ?_ ?_ _; rotate_left; (focus first | (simp; done) | (simp; omega) | omega)) | (with_reducible refine Below.alloc ?_ ?_ _; rotate_left; (focus first | (simp; done) | (simp; omega) | omega)) | with_reducible refine Below.drew ?_))) (hb1.mono (by first | omega | (simp; done) | (simp; omega)))
  have hx1 : w.heap.size + 1 < w1.heap.size := by omega
  have Z1 : Z7 w1 (w.heap.size + 1) := (Z7.start _ _ (w.heap.size + 1) (by simp)).below hb1 (by simp)
  clear hb1
  obtain ⟨c0, f0, c1, f1, c2, f2, c3, f3, c4, f4, c5, f5, c6, f6⟩ := Z1
  go_wp2
  refine bodyPost_ret (v := formV ⟨0, 0, 0, 0, 0, 0, [(262142, 1, 6000)]⟩ (.slice (some ⟨w1.heap.size, 0, none⟩) 1 1)) (by simp [results, formV, Tryd.results71, go_sem, hx1, c0, f0, c1, f1, c2, f2, c3, f3, c4, f4, c5, f5, c6, f6]) rfl ⟨_, rfl, ?_, ?_⟩
  · refine RPB.rpx (B := w.heap.size) ?_
    exact rp1 _ _ _ _ _ _ _  (by simp) (by first | omega | (simp; done) | (simp; omega))
  · exact (by (go_light; repeat (first | with_reducible assumption | with_reducible exact Below.refl _ _ | (with_reducible refine Below.setCell ?_ ?_ _; rotate_left; (focus first | (simp; done) | (simp; omega) | omega)) | (with_reducible refine Below.alloc ?_ ?_ _; rotate_left; (focus first | (simp; done) | (simp; omega) | omega)) | with_reducible refine Below.drew ?_)))
set_option maxHeartbeats 8000000 in
theorem f71_25 (t : Nd) (ka : Option Addr) (kl kc : Nat) (w : World) (hop : t.op = 25) :
    Calls Tryd.prog 71 #[ndV t (.slice ka kl kc)] w fun e w' => TabP ⟨0, 0, 0, 1, 0, 0, [(setI [20], 1, 1), (setI [21], 0, 1), (setI [22], 0, 1), (setI [23], 0, 1), (setI [24], 0, 1)]⟩ w e w' := by
  obtain ⟨op, name, qual, n, m, vk, vn, vs, kids, pos⟩ := t
  simp only [ndV] at *
  subst hop
  go_enter Tryd.func71, Tryd.ntmps71
  go_wp2_with (go_at_call 94; fail)
  refine (oneOf_any [20] _ _ (by decide) (by decide) ?_).mono ?_
  · exact ri1 _ _ _ _  (by simp)
  rintro e w1 ⟨rfl, hb1⟩
  have hz1 := hb1.size
  try simp at hz1
  have B1 : Below w.heap.size w w1 := Below.trans (by (go_light; repeat (first | with_reducible assumption | with_reducible exact Below.refl _ _ | (with_reducible refine Below.setCell ?_ ?_ _; rotate_left; (focus first | (simp; done) | (simp; omega) | omega)) | (with_reducible refine Below.alloc ?_ ?_ _; rotate_left; (focus first | (simp; done) | (simp; omega) | omega)) | with_reducible refine Below.drew ?_))) (hb1.mono (by first | omega | (simp; done) | (simp; omega)))
  have hx1 : w.heap.size + 1 < w1.heap.size := by omega
  have Z1 : Z7 w1 (w.heap.size + 1) := ((Z7.start _ _ (w.heap.size + 1) (by simp)).alloc (by simp) _).below hb1 (by first | omega | (simp; done) | (simp; omega))
  clear hb1
  go_wp2_with (go_at_call 96; fail)
  refine (perhapsOne_any 21 _ (by decide) (by decide)).mono ?_
  rintro e w2 ⟨rfl, hb2⟩
  have hz2 := hb2.size
  try simp at hz2
  have B2 : Below w.heap.size w w2 := Below.trans (by (go_light; repeat (first | with_reducible assumption | with_reducible exact Below.refl _ _ | (with_reducible refine Below.setCell ?_ ?_ _; rotate_left; (focus first | (simp; done) | (simp; omega) | omega)) | (with_reducible refine Below.alloc ?_ ?_ _; rotate_left; (focus first | (simp; done) | (simp; omega) | omega)) | with_reducible refine Below.drew ?_))) (hb2.mono (by first | omega | (simp; done) | (simp; omega)))
  have hx2 : w.heap.size + 1 < w2.heap.size := by omega
  have Z2 : Z7 w2 (w.heap.size + 1) := Z1.below hb2 (by omega)
  clear hb2 Z1
  go_wp2_with (go_at_call 96; fail)
  refine (perhapsOne_any 22 _ (by decide) (by decide)).mono ?_
  rintro e w3 ⟨rfl, hb3⟩
  have hz3 := hb3.size
  try simp at hz3
  have B3 : Below w.heap.size w w3 := Below.trans (by (go_light; repeat (first | with_reducible assumption | with_reducible exact Below.refl _ _ | (with_reducible refine Below.setCell ?_ ?_ _; rotate_left; (focus first | (simp; done) | (simp; omega) | omega)) | (with_reducible refine Below.alloc ?_ ?_ _; rotate_left; (focus first | (simp; done) | (simp; omega) | omega)) | with_reducible refine Below.drew ?_))) (hb3.mono (by first | omega | (simp; done) | (simp; omega)))
  have hx3 : w.heap.size + 1 < w3.heap.size := by omega
  have Z3 : Z7 w3 (w.heap.size + 1) := Z2.below hb3 (by omega)
  clear hb3 Z2
  go_wp2_with (go_at_call 96; fail)
  refine (perhapsOne_any 23 _ (by decide) (by decide)).mono ?_
  rintro e w4 ⟨rfl, hb4⟩
  have hz4 := hb4.size
  try simp at hz4
  have B4 : Below w.heap.size w w4 := Below.trans (by (go_light; repeat (first | with_reducible assumption | with_reducible exact Below.refl _ _ | (with_reducible refine Below.setCell ?_ ?_ _; rotate_left; (focus first | (simp; done) | (simp; omega) | omega)) | (with_reducible refine Below.alloc ?_ ?_ _; rotate_left; (focus first | (simp; done) | (simp; omega) | omega)) | with_reducible refine Below.drew ?_))) (hb4.mono (by first | omega | (simp; done) | (simp; omega)))
  have hx4 : w.heap.size + 1 < w4.heap.size := by omega
  have Z4 : Z7 w4 (w.heap.size + 1) := Z3.below hb4 (by omega)
  clear hb4 Z3
  go_wp2_with (go_at_call 96; fail)
  refine (perhapsOne_any 24 _ (by decide) (by decide)).mono ?_
  rintro e w5 ⟨rfl, hb5⟩
  have hz5 := hb5.size
  try simp at hz5
  have B5 : Below w.heap.size w w5 := Below.trans (by (go_light; repeat (first | with_reducible assumption | with_reducible exact Below.refl _ _ | (with_reducible refine Below.setCell ?_ ?_ _; rotate_left; (focus first | (simp; done) | (simp; omega) | omega)) | (with_reducible refine Below.alloc ?_ ?_ _; rotate_left; (focus first | (simp; done) | (simp; omega) | omega)) | with_reducible refine Below.drew ?_))) (hb5.mono (by first | omega | (simp; done) | (simp; omega)))
  have hx5 : w.heap.size + 1 < w5.heap.size := by omega
  have Z5 : Z7 w5 (w.heap.size + 1) := Z4.below hb5 (by omega)
  clear hb5 Z4
  obtain ⟨c0, f0, c1, f1, c2, f2, c3, f3, c4, f4, c5, f5, c6, f6⟩ := Z5
  go_wp2
  refine bodyPost_ret (v := formV ⟨0, 0, 0, 1, 0, 0, [(setI [20], 1, 1), (setI [21], 0, 1), (setI [22], 0, 1), (setI [23], 0, 1), (setI [24], 0, 1)]⟩ (.slice (some ⟨w5.heap.size, 0, none⟩) 5 5)) (by simp [results, formV, Tryd.results71, go_sem, hx5, c0, f0, c1, f1, c2, f2, c3, f3, c4, f4, c5, f5, c6, f6]) rfl ⟨_, rfl, ?_, ?_⟩
  · refine RPB.rpx (B := w.heap.size) ?_
    exact rp5 _ _ _ _ _ _ _ _ _ _ _ _ _ _ _ _ _ _ _  (by simp) (by first | omega | (simp; done) | (simp; omega))
  · exact (by (go_light; repeat (first | with_reducible assumption | with_reducible exact Below.refl _ _ | (with_reducible refine Below.setCell ?_ ?_ _; rotate_left; (focus first | (simp; done) | (simp; omega) | omega)) | (with_reducible refine Below.alloc ?_ ?_ _; rotate_left; (focus first | (simp; done) | (simp; omega) | omega)) | with_reducible refine Below.drew ?_)))
end Go.Proofs.YtghdjagomdgnfaaDoor
namespace Go.Proofs.YtghdjagomdgnfaaDoor
open Go.ChangeShapes Go.WideShapes Go.ChangeAt Go.RowKit
set_option linter.unusedVariables false
set_option linter.unusedSimpArgs false
set_option maxRecDepth 100000
set_option maxHeartbeats 8000000 in
theorem f71_26 (t : Nd) (ka : Option Addr) (kl kc : Nat) (w : World) (hop : t.op = 26) :
    Calls Tryd.prog 71 #[ndV t (.slice ka kl kc)] w fun e w' => TabP ⟨0, 0, 1, 2, 0, 1, [(setI [25, 26, 27], 1, 1), (setI [25, 27], 1, 1)]⟩ w e w' := by
  obtain ⟨op, name, qual, n, m, vk, vn, vs, kids, pos⟩ := t
  simp only [ndV] at *
  subst hop
  go_enter Tryd.func71, Tryd.ntmps71
  go_wp2_with (go_at_call 94; fail)
  refine (oneOf_any [25, 26, 27] _ _ (by decide) (by decide) ?_).mono ?_
  · exact ri3 _ _ _ _ _ _  (by simp)
  rintro e w1 ⟨rfl, hb1⟩
  have hz1 := hb1.size
  try simp at hz1
  have B1 : Below w.heap.size w w1 := Below.trans (by (go_light; repeat (first | with_reducible assumption | with_reducible exact Below.refl _ _ | (with_reducible refine Below.setCell ?_ ?_ _; rotate_left; (focus first | (simp; done) | (simp; omega) | omega)) | (with_reducible refine Below.alloc ?_ ?_ _; rotate_left; (focus first | (simp; done) | (simp; omega) | omega)) | with_reducible refine Below.drew ?_))) (hb1.mono (by first | omega | (simp; done) | (simp; omega)))
  have hx1 : w.heap.size + 1 < w1.heap.size := by omega
  have Z1 : Z7 w1 (w.heap.size + 1) := ((Z7.start _ _ (w.heap.size + 1) (by simp)).alloc (by simp) _).below hb1 (by first | omega | (simp; done) | (simp; omega))
  clear hb1
  go_wp2_with (go_at_call 94; fail)
  refine (oneOf_any [25, 27] _ _ (by decide) (by decide) ?_).mono ?_
  · exact ri2 _ _ _ _ _  (by simp)
  rintro e w2 ⟨rfl, hb2⟩
  have hz2 := hb2.size
  try simp at hz2
  have B2 : Below w.heap.size w w2 := Below.trans (by (go_light; repeat (first | with_reducible assumption | with_reducible exact Below.refl _ _ | (with_reducible refine Below.setCell ?_ ?_ _; rotate_left; (focus first | (simp; done) | (simp; omega) | omega)) | (with_reducible refine Below.alloc ?_ ?_ _; rotate_left; (focus first | (simp; done) | (simp; omega) | omega)) | with_reducible refine Below.drew ?_))) (hb2.mono (by first | omega | (simp; done) | (simp; omega)))
  have hx2 : w.heap.size + 1 < w2.heap.size := by omega
  have Z2 : Z7 w2 (w.heap.size + 1) := (Z1.alloc hx1 _).below hb2 (by first | omega | (simp; omega))
  clear hb2 Z1
  obtain ⟨c0, f0, c1, f1, c2, f2, c3, f3, c4, f4, c5, f5, c6, f6⟩ := Z2
  go_wp2
  refine bodyPost_ret (v := formV ⟨0, 0, 1, 2, 0, 1, [(setI [25, 26, 27], 1, 1), (setI [25, 27], 1, 1)]⟩ (.slice (some ⟨w2.heap.size, 0, none⟩) 2 2)) (by simp [results, formV, Tryd.results71, go_sem, hx2, c0, f0, c1, f1, c2, f2, c3, f3, c4, f4, c5, f5, c6, f6]) rfl ⟨_, rfl, ?_, ?_⟩
  · refine RPB.rpx (B := w.heap.size) ?_
    exact rp2 _ _ _ _ _ _ _ _ _ _  (by simp) (by first | omega | (simp; done) | (simp; omega))
  · exact (by (go_light; repeat (first | with_reducible assumption | with_reducible exact Below.refl _ _ | (with_reducible refine Below.setCell ?_ ?_ _; rotate_left; (focus first | (simp; done) | (simp; omega) | omega)) | (with_reducible refine Below.alloc ?_ ?_ _; rotate_left; (focus first | (simp; done) | (simp; omega) | omega)) | with_reducible refine Below.drew ?_)))
set_option maxHeartbeats 8000000 in
theorem f71_27 (t : Nd) (ka : Option Addr) (kl kc : Nat) (w : World) (hop : t.op = 27) :
    Calls Tryd.prog 71 #[ndV t (.slice ka kl kc)] w fun e w' => TabP ⟨0, 0, 0, 0, 0, 0, [(setI [25, 26, 27], 1, 1), (setI [28], 0, 1), (setI [30], 0, 1)]⟩ w e w' := by
  obtain ⟨op, name, qual, n, m, vk, vn, vs, kids, pos⟩ := t
  simp only [ndV] at *
  subst hop
  go_enter Tryd.func71, Tryd.ntmps71
  go_wp2_with (go_at_call 94; fail)
  refine (oneOf_any [25, 26, 27] _ _ (by decide) (by decide) ?_).mono ?_
  · exact ri3 _ _ _ _ _ _  (by simp)
  rintro e w1 ⟨rfl, hb1⟩
  have hz1 := hb1.size
  try simp at hz1
  have B1 : Below w.heap.size w w1 := Below.trans (by (go_light; repeat (first | with_reducible assumption | with_reducible exact Below.refl _ _ | (with_reducible refine Below.setCell ?_ ?_ _; rotate_left; (focus first | (simp; done) | (simp; omega) | omega)) | (with_reducible refine Below.alloc ?_ ?_ _; rotate_left; (focus first | (simp; done) | (simp; omega) | omega)) | with_reducible refine Below.drew ?_))) (hb1.mono (by first | omega | (simp; done) | (simp; omega)))
  have hx1 : w.heap.size + 1 < w1.heap.size := by omega
  have Z1 : Z7 w1 (w.heap.size + 1) := ((Z7.start _ _ (w.heap.size + 1) (by simp)).alloc (by simp) _).below hb1 (by first | omega | (simp; done) | (simp; omega))
  clear hb1
  go_wp2_with (go_at_call 96; fail)
  refine (perhapsOne_any 28 _ (by decide) (by decide)).mono ?_
  rintro e w2 ⟨rfl, hb2⟩
  have hz2 := hb2.size
  try simp at hz2
  have B2 : Below w.heap.size w w2 := Below.trans (by (go_light; repeat (first | with_reducible assumption | with_reducible exact Below.refl _ _ | (with_reducible refine Below.setCell ?_ ?_ _; rotate_left; (focus first | (simp; done) | (simp; omega) | omega)) | (with_reducible refine Below.alloc ?_ ?_ _; rotate_left; (focus first | (simp; done) | (simp; omega) | omega)) | with_reducible refine Below.drew ?_))) (hb2.mono (by first | omega | (simp; done) | (simp; omega)))
  have hx2 : w.heap.size + 1 < w2.heap.size := by omega
  have Z2 : Z7 w2 (w.heap.size + 1) := Z1.below hb2 (by omega)
  clear hb2 Z1
  go_wp2_with (go_at_call 96; fail)
  refine (perhapsOne_any 30 _ (by decide) (by decide)).mono ?_
  rintro e w3 ⟨rfl, hb3⟩
  have hz3 := hb3.size
  try simp at hz3
  have B3 : Below w.heap.size w w3 := Below.trans (by (go_light; repeat (first | with_reducible assumption | with_reducible exact Below.refl _ _ | (with_reducible refine Below.setCell ?_ ?_ _; rotate_left; (focus first | (simp; done) | (simp; omega) | omega)) | (with_reducible refine Below.alloc ?_ ?_ _; rotate_left; (focus first | (simp; done) | (simp; omega) | omega)) | with_reducible refine Below.drew ?_))) (hb3.mono (by first | omega | (simp; done) | (simp; omega)))
  have hx3 : w.heap.size + 1 < w3.heap.size := by omega
  have Z3 : Z7 w3 (w.heap.size + 1) := Z2.below hb3 (by omega)
  clear hb3 Z2
  obtain ⟨c0, f0, c1, f1, c2, f2, c3, f3, c4, f4, c5, f5, c6, f6⟩ := Z3
  go_wp2
  refine bodyPost_ret (v := formV ⟨0, 0, 0, 0, 0, 0, [(setI [25, 26, 27], 1, 1), (setI [28], 0, 1), (setI [30], 0, 1)]⟩ (.slice (some ⟨w3.heap.size, 0, none⟩) 3 3)) (by simp [results, formV, Tryd.results71, go_sem, hx3, c0, f0, c1, f1, c2, f2, c3, f3, c4, f4, c5, f5, c6, f6]) rfl ⟨_, rfl, ?_, ?_⟩
  · refine RPB.rpx (B := w.heap.size) ?_
    exact rp3 _ _ _ _ _ _ _ _ _ _ _ _ _  (by simp) (by first | omega | (simp; done) | (simp; omega))
  · exact (by (go_light; repeat (first | with_reducible assumption | with_reducible exact Below.refl _ _ | (with_reducible refine Below.setCell ?_ ?_ _; rotate_left; (focus first | (simp; done) | (simp; omega) | omega)) | (with_reducible refine Below.alloc ?_ ?_ _; rotate_left; (focus first | (simp; done) | (simp; omega) | omega)) | with_reducible refine Below.drew ?_)))
set_option maxHeartbeats 8000000 in
theorem f71_28 (t : Nd) (ka : Option Addr) (kl kc : Nat) (w : World) (hop : t.op = 28) :
    Calls Tryd.prog 71 #[ndV t (.slice ka kl kc)] w fun e w' => TabP ⟨0, 0, 0, 0, 0, 0, [(setI [29], 1, 6000)]⟩ w e w' := by
  obtain ⟨op, name, qual, n, m, vk, vn, vs, kids, pos⟩ := t
  simp only [ndV] at *
  subst hop
  go_enter Tryd.func71, Tryd.ntmps71
  go_wp2_with (go_at_call 95; fail)
  refine (manyOf_any [29] _ _ (by decide) (by decide) ?_).mono ?_
  · exact ri1 _ _ _ _  (by simp)
  rintro e w1 ⟨rfl, hb1⟩
  have hz1 := hb1.size
  try simp at hz1
  have B1 : Below w.heap.size w w1 := Below.trans (by (go_light; repeat (first | with_reducible assumption | with_reducible exact Below.refl _ _ | (with_reducible refine Below.setCell ?_ ?_ _; rotate_left; (focus first | (simp; done) | (simp; omega) | omega)) | (with_reducible refine Below.alloc ?_ ?_ _; rotate_left; (focus first | (simp; done) | (simp; omega) | omega)) | with_reducible refine Below.drew ?_))) (hb1.mono (by first | omega | (simp; done) | (simp; omega)))
  have hx1 : w.heap.size + 1 < w1.heap.size := by omega
  have Z1 : Z7 w1 (w.heap.size + 1) := ((Z7.start _ _ (w.heap.size + 1) (by simp)).alloc (by simp) _).below hb1 (by first | omega | (simp; done) | (simp; omega))
  clear hb1
  obtain ⟨c0, f0, c1, f1, c2, f2, c3, f3, c4, f4, c5, f5, c6, f6⟩ := Z1
  go_wp2
  refine bodyPost_ret (v := formV ⟨0, 0, 0, 0, 0, 0, [(setI [29], 1, 6000)]⟩ (.slice (some ⟨w1.heap.size, 0, none⟩) 1 1)) (by simp [results, formV, Tryd.results71, go_sem, hx1, c0, f0, c1, f1, c2, f2, c3, f3, c4, f4, c5, f5, c6, f6]) rfl ⟨_, rfl, ?_, ?_⟩
  · refine RPB.rpx (B := w.heap.size) ?_
    exact rp1 _ _ _ _ _ _ _  (by simp) (by first | omega | (simp; done) | (simp; omega))
  · exact (by (go_light; repeat (first | with_reducible assumption | with_reducible exact Below.refl _ _ | (with_reducible refine Below.setCell ?_ ?_ _; rotate_left; (focus first | (simp; done) | (simp; omega) | omega)) | (with_reducible refine Below.alloc ?_ ?_ _; rotate_left; (focus first | (simp; done) | (simp; omega) | omega)) | with_reducible refine Below.drew ?_)))
set_option maxHeartbeats 8000000 in
theorem f71_29 (t : Nd) (ka : Option Addr) (kl kc : Nat) (w : World) (hop : t.op = 29) :
    Calls Tryd.prog 71 #[ndV t (.slice ka kl kc)] w fun e w' => TabP ⟨0, 0, 0, 1, 0, 2, [(262142, 1, 1)]⟩ w e w' := by
  obtain ⟨op, name, qual, n, m, vk, vn, vs, kids, pos⟩ := t
  simp only [ndV] at *
  subst hop
  go_enter Tryd.func71, Tryd.ntmps71
  go_wp2_with (go_at_call 93; fail)
  refine (expressions_any 1 1 _).mono ?_
  rintro e w1 ⟨rfl, hb1⟩
  have hz1 := hb1.size
  try simp at hz1
  have B1 : Below w.heap.size w w1 := Below.trans (by (go_light; repeat (first | with_reducible assumption | with_reducible exact Below.refl _ _ | (with_reducible refine Below.setCell ?_ ?_ _; rotate_left; (focus first | (simp; done) | (simp; omega) | omega)) | (with_reducible refine Below.alloc ?_ ?_ _; rotate_left; (focus first | (simp; done) | (simp; omega) | omega)) | with_reducible refine Below.drew ?_))) (hb1.mono (by first | omega | (simp; done) | (simp; omega)))
  have hx1 : w.heap.size + 1 < w1.heap.size := by omega
  have Z1 : Z7 w1 (w.heap.size + 1) := (Z7.start _ _ (w.heap.size + 1) (by simp)).below hb1 (by simp)
  clear hb1
  obtain ⟨c0, f0, c1, f1, c2, f2, c3, f3, c4, f4, c5, f5, c6, f6⟩ := Z1
  go_wp2
  refine bodyPost_ret (v := formV ⟨0, 0, 0, 1, 0, 2, [(262142, 1, 1)]⟩ (.slice (some ⟨w1.heap.size, 0, none⟩) 1 1)) (by simp [results, formV, Tryd.results71, go_sem, hx1, c0, f0, c1, f1, c2, f2, c3, f3, c4, f4, c5, f5, c6, f6]) rfl ⟨_, rfl, ?_, ?_⟩
  · refine RPB.rpx (B := w.heap.size) ?_
    exact rp1 _ _ _ _ _ _ _  (by simp) (by first | omega | (simp; done) | (simp; omega))
  · exact (by (go_light; repeat (first | with_reducible assumption | with_reducible exact Below.refl _ _ | (with_reducible refine Below.setCell ?_ ?_ _; rotate_left; (focus first | (simp; done) | (simp; omega) | omega)) | (with_reducible refine Below.alloc ?_ ?_ _; rotate_left; (focus first | (simp; done) | (simp; omega) | omega)) | with_reducible refine Below.drew ?_)))
end Go.Proofs.YtghdjagomdgnfaaDoor
namespace Go.Proofs.YtghdjagomdgnfaaDoor
open Go.ChangeShapes Go.WideShapes Go.ChangeAt Go.RowKit
set_option linter.unusedVariables false
set_option linter.unusedSimpArgs false
set_option maxRecDepth 100000
set_option maxHeartbeats 8000000 in
theorem f71_30 (t : Nd) (ka : Option Addr) (kl kc : Nat) (w : World) (hop : t.op = 30) :
    Calls Tryd.prog 71 #[ndV t (.slice ka kl kc)] w fun e w' => TabP ⟨0, 0, (-1), 9223372036854775807, (-1), 9223372036854775807, []⟩ w e w' := by
  obtain ⟨op, name, qual, n, m, vk, vn, vs, kids, pos⟩ := t
  simp only [ndV] at *
  subst hop
  go_enter Tryd.func71, Tryd.ntmps71
  go_wp2
  refine bodyPost_ret (v := formV ⟨0, 0, (-1), 9223372036854775807, (-1), 9223372036854775807, []⟩ (.slice none 0 0)) (by simp [results, formV, Tryd.results71, go_sem]) rfl ⟨_, rfl, ?_, ?_⟩
  · exact ⟨none, 0, rfl, fun h => absurd h (by simp)⟩
  · exact (by (go_light; repeat (first | with_reducible assumption | with_reducible exact Below.refl _ _ | (with_reducible refine Below.setCell ?_ ?_ _; rotate_left; (focus first | (simp; done) | (simp; omega) | omega)) | (with_reducible refine Below.alloc ?_ ?_ _; rotate_left; (focus first | (simp; done) | (simp; omega) | omega)) | with_reducible refine Below.drew ?_)))
set_option maxHeartbeats 8000000 in
theorem f71_31 (t : Nd) (ka : Option Addr) (kl kc : Nat) (w : World) (hop : t.op = 31) :
    Calls Tryd.prog 71 #[ndV t (.slice ka kl kc)] w fun e w' => TabP ⟨2, 1, 0, 0, 0, 0, []⟩ w e w' := by
  obtain ⟨op, name, qual, n, m, vk, vn, vs, kids, pos⟩ := t
  simp only [ndV] at *
  subst hop
  go_enter Tryd.func71, Tryd.ntmps71
  go_wp2
  refine bodyPost_ret (v := formV ⟨2, 1, 0, 0, 0, 0, []⟩ (.slice none 0 0)) (by simp [results, formV, Tryd.results71, go_sem]) rfl ⟨_, rfl, ?_, ?_⟩
  · exact ⟨none, 0, rfl, fun h => absurd h (by simp)⟩
  · exact (by (go_light; repeat (first | with_reducible assumption | with_reducible exact Below.refl _ _ | (with_reducible refine Below.setCell ?_ ?_ _; rotate_left; (focus first | (simp; done) | (simp; omega) | omega)) | (with_reducible refine Below.alloc ?_ ?_ _; rotate_left; (focus first | (simp; done) | (simp; omega) | omega)) | with_reducible refine Below.drew ?_)))
set_option maxHeartbeats 8000000 in
theorem f71_32 (t : Nd) (ka : Option Addr) (kl kc : Nat) (w : World) (hop : t.op = 32) :
    Calls Tryd.prog 71 #[ndV t (.slice ka kl kc)] w fun e w' => TabP ⟨2, 0, 0, 0, 0, 0, [(setI [27], 1, 1)]⟩ w e w' := by
  obtain ⟨op, name, qual, n, m, vk, vn, vs, kids, pos⟩ := t
  simp only [ndV] at *
  subst hop
  go_enter Tryd.func71, Tryd.ntmps71
  go_wp2_with (go_at_call 94; fail)
  refine (oneOf_any [27] _ _ (by decide) (by decide) ?_).mono ?_
  · exact ri1 _ _ _ _  (by simp)
  rintro e w1 ⟨rfl, hb1⟩
  have hz1 := hb1.size
  try simp at hz1
  have B1 : Below w.heap.size w w1 := Below.trans (by (go_light; repeat (first | with_reducible assumption | with_reducible exact Below.refl _ _ | (with_reducible refine Below.setCell ?_ ?_ _; rotate_left; (focus first | (simp; done) | (simp; omega) | omega)) | (with_reducible refine Below.alloc ?_ ?_ _; rotate_left; (focus first | (simp; done) | (simp; omega) | omega)) | with_reducible refine Below.drew ?_))) (hb1.mono (by first | omega | (simp; done) | (simp; omega)))
  have hx1 : w.heap.size + 1 < w1.heap.size := by omega
  have Z1 : Z7 w1 (w.heap.size + 1) := ((Z7.start _ _ (w.heap.size + 1) (by simp)).alloc (by simp) _).below hb1 (by first | omega | (simp; done) | (simp; omega))
  clear hb1
  obtain ⟨c0, f0, c1, f1, c2, f2, c3, f3, c4, f4, c5, f5, c6, f6⟩ := Z1
  go_wp2
  refine bodyPost_ret (v := formV ⟨2, 0, 0, 0, 0, 0, [(setI [27], 1, 1)]⟩ (.slice (some ⟨w1.heap.size, 0, none⟩) 1 1)) (by simp [results, formV, Tryd.results71, go_sem, hx1, c0, f0, c1, f1, c2, f2, c3, f3, c4, f4, c5, f5, c6, f6]) rfl ⟨_, rfl, ?_, ?_⟩
  · refine RPB.rpx (B := w.heap.size) ?_
    exact rp1 _ _ _ _ _ _ _  (by simp) (by first | omega | (simp; done) | (simp; omega))
  · exact (by (go_light; repeat (first | with_reducible assumption | with_reducible exact Below.refl _ _ | (with_reducible refine Below.setCell ?_ ?_ _; rotate_left; (focus first | (simp; done) | (simp; omega) | omega)) | (with_reducible refine Below.alloc ?_ ?_ _; rotate_left; (focus first | (simp; done) | (simp; omega) | omega)) | with_reducible refine Below.drew ?_)))
end Go.Proofs.YtghdjagomdgnfaaDoor
