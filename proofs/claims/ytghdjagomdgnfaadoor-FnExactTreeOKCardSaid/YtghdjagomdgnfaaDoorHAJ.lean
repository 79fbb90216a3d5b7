import Derived.Test.YtghdjagomdgnfaaDoorHAG
namespace Go.Proofs.YtghdjagomdgnfaaDoor
open Go.ChangeShapes Go.WideShapes Go.ChangeAt Go.RowKit
set_option linter.unusedVariables false
set_option linter.unusedSimpArgs false
set_option maxRecDepth 100000
set_option maxHeartbeats 8000000 in
theorem f70_1 (t : Nd) (ka : Option Addr) (kl kc : Nat) (w : World) (hop : t.op = 1) :
    Calls Tryd.prog 70 #[ndV t (.slice ka kl kc)] w fun e w' => TabP ⟨0, 0, 0, 0, 0, 0, []⟩ w e w' := by
  obtain ⟨op, name, qual, n, m, vk, vn, vs, kids, pos⟩ := t
  simp only [ndV] at *
  subst hop
  go_enter Tryd.func70, Tryd.ntmps70
  go_wp2
  refine bodyPost_ret (v := formV ⟨0, 0, 0, 0, 0, 0, []⟩ (.slice none 0 0)) (by simp [results, formV, Tryd.results70, go_sem]) rfl ⟨_, rfl, ?_, ?_⟩
  · exact ⟨none, 0, rfl, fun h => absurd h (by simp)⟩
  · exact (by (go_light; repeat (first | with_reducible assumption | with_reducible exact Below.refl _ _ | (with_reducible refine Below.setCell ?_ ?_ _; rotate_left; (focus first | (simp; done) | (simp; omega) | omega)) | (with_reducible refine Below.alloc ?_ ?_ _; rotate_left; (focus first | (simp; done) | (simp; omega) | omega)) | with_reducible refine Below.drew ?_)))
set_option maxHeartbeats 8000000 in
theorem f70_2 (t : Nd) (ka : Option Addr) (kl kc : Nat) (w : World) (hop : t.op = 2) :
    Calls Tryd.prog 70 #[ndV t (.slice ka kl kc)] w fun e w' => TabP ⟨2, 1, 0, 0, 0, 0, []⟩ w e w' := by
  obtain ⟨op, name, qual, n, m, vk, vn, vs, kids, pos⟩ := t
  simp only [ndV] at *
  subst hop
  go_enter Tryd.func70, Tryd.ntmps70
  go_wp2
  refine bodyPost_ret (v := formV ⟨2, 1, 0, 0, 0, 0, []⟩ (.slice none 0 0)) (by simp [results, formV, Tryd.results70, go_sem]) rfl ⟨_, rfl, ?_, ?_⟩
  · exact ⟨none, 0, rfl, fun h => absurd h (by simp)⟩
  · exact (by (go_light; repeat (first | with_reducible assumption | with_reducible exact Below.refl _ _ | (with_reducible refine Below.setCell ?_ ?_ _; rotate_left; (focus first | (simp; done) | (simp; omega) | omega)) | (with_reducible refine Below.alloc ?_ ?_ _; rotate_left; (focus first | (simp; done) | (simp; omega) | omega)) | with_reducible refine Below.drew ?_)))
set_option maxHeartbeats 8000000 in
theorem f70_3 (t : Nd) (ka : Option Addr) (kl kc : Nat) (w : World) (hop : t.op = 3) :
    Calls Tryd.prog 70 #[ndV t (.slice ka kl kc)] w fun e w' => TabP ⟨0, 0, 0, 0, 0, 0, [(262142, 1, 1)]⟩ w e w' := by
  obtain ⟨op, name, qual, n, m, vk, vn, vs, kids, pos⟩ := t
  simp only [ndV] at *
  subst hop
  go_enter Tryd.func70, Tryd.ntmps70
  go_wp2_with (go_at_call 93; fail)
  refine (expressions_any 1 1 _).mono ?_
  rintro e w1 ⟨rfl, hb1⟩
  have hz1 := hb1.size
  try simp at hz1
  have B1 : Below w.heap.size w w1 := Below.trans (by (go_light; repeat (first | with_reducible assumption | with_reducible exact Below.refl _ _ | (with_reducible refine Below.setCell ?_ ?_ _; rotate_left; (focus first | (simp; done) | (simp; omega) | omega)) | (with_reducible refine Below.alloc ?_ ?_ _; rotate_left; (focus first | (simp; done) | (simp; omega) | omega)) | with_reducible refine Below.drew ?_))) (hb1.mono (by first | omega | (simp; done) | (simp; omega)))
  have hx1 : w.heap.size + 1 < w1.heap.size := by omega
  have Z1 : Z7 w1 (w.heap.size + 1) := (Z7.start _ _ (w.heap.size + 1) (by simp)).below hb1 (by simp)
  clear hb1
  obtain ⟨c0, f0, c1, f1, c2, f2, c3, f3, c4, f4, c5, f5, c6, f6⟩ := Z1
  go_wp2
  refine bodyPost_ret (v := formV ⟨0, 0, 0, 0, 0, 0, [(262142, 1, 1)]⟩ (.slice (some ⟨w1.heap.size, 0, none⟩) 1 1)) (by simp [results, formV, Tryd.results70, go_sem, hx1, c0, f0, c1, f1, c2, f2, c3, f3, c4, f4, c5, f5, c6, f6]) rfl ⟨_, rfl, ?_, ?_⟩
  · refine RPB.rpx (B := w.heap.size) ?_
    exact rp1 _ _ _ _ _ _ _  (by simp) (by first | omega | (simp; done) | (simp; omega))
  · exact (by (go_light; repeat (first | with_reducible assumption | with_reducible exact Below.refl _ _ | (with_reducible refine Below.setCell ?_ ?_ _; rotate_left; (focus first | (simp; done) | (simp; omega) | omega)) | (with_reducible refine Below.alloc ?_ ?_ _; rotate_left; (focus first | (simp; done) | (simp; omega) | omega)) | with_reducible refine Below.drew ?_)))
set_option maxHeartbeats 8000000 in
theorem f70_4 (t : Nd) (ka : Option Addr) (kl kc : Nat) (w : World) (hop : t.op = 4) :
    Calls Tryd.prog 70 #[ndV t (.slice ka kl kc)] w fun e w' => TabP ⟨0, 0, 0, 0, 0, 0, [(262142, 1, 1)]⟩ w e w' := by
  obtain ⟨op, name, qual, n, m, vk, vn, vs, kids, pos⟩ := t
  simp only [ndV] at *
  subst hop
  go_enter Tryd.func70, Tryd.ntmps70
  go_wp2_with (go_at_call 93; fail)
  refine (expressions_any 1 1 _).mono ?_
  rintro e w1 ⟨rfl, hb1⟩
  have hz1 := hb1.size
  try simp at hz1
  have B1 : Below w.heap.size w w1 := Below.trans (by (go_light; repeat (first | with_reducible assumption | with_reducible exact Below.refl _ _ | (with_reducible refine Below.setCell ?_ ?_ _; rotate_left; (focus first | (simp; done) | (simp; omega) | omega)) | (with_reducible refine Below.alloc ?_ ?_ _; rotate_left; (focus first | (simp; done) | (simp; omega) | omega)) | with_reducible refine Below.drew ?_))) (hb1.mono (by first | omega | (simp; done) | (simp; omega)))
  have hx1 : w.heap.size + 1 < w1.heap.size := by omega
  have Z1 : Z7 w1 (w.heap.size + 1) := (Z7.start _ _ (w.heap.size + 1) (by simp)).below hb1 (by simp)
  clear hb1
  obtain ⟨c0, f0, c1, f1, c2, f2, c3, f3, c4, f4, c5, f5, c6, f6⟩ := Z1
  go_wp2
  refine bodyPost_ret (v := formV ⟨0, 0, 0, 0, 0, 0, [(262142, 1, 1)]⟩ (.slice (some ⟨w1.heap.size, 0, none⟩) 1 1)) (by simp [results, formV, Tryd.results70, go_sem, hx1, c0, f0, c1, f1, c2, f2, c3, f3, c4, f4, c5, f5, c6, f6]) rfl ⟨_, rfl, ?_, ?_⟩
  · refine RPB.rpx (B := w.heap.size) ?_
    exact rp1 _ _ _ _ _ _ _  (by simp) (by first | omega | (simp; done) | (simp; omega))
  · exact (by (go_light; repeat (first | with_reducible assumption | with_reducible exact Below.refl _ _ | (with_reducible refine Below.setCell ?_ ?_ _; rotate_left; (focus first | (simp; done) | (simp; omega) | omega)) | (with_reducible refine Below.alloc ?_ ?_ _; rotate_left; (focus first | (simp; done) | (simp; omega) | omega)) | with_reducible refine Below.drew ?_)))
end Go.Proofs.YtghdjagomdgnfaaDoor
namespace Go.Proofs.YtghdjagomdgnfaaDoor
open Go.ChangeShapes Go.WideShapes Go.ChangeAt Go.RowKit
set_option linter.unusedVariables false
set_option linter.unusedSimpArgs false
set_option maxRecDepth 100000
set_option maxHeartbeats 8000000 in
theorem f70_5 (t : Nd) (ka : Option Addr) (kl kc : Nat) (w : World) (hop : t.op = 5) :
    Calls Tryd.prog 70 #[ndV t (.slice ka kl kc)] w fun e w' => TabP ⟨0, 0, 1, 15, 0, 0, [(262142, 2, 2)]⟩ w e w' := by
  obtain ⟨op, name, qual, n, m, vk, vn, vs, kids, pos⟩ := t
  simp only [ndV] at *
  subst hop
  go_enter Tryd.func70, Tryd.ntmps70
  go_wp2_with (go_at_call 93; fail)
  refine (expressions_any 2 2 _).mono ?_
  rintro e w1 ⟨rfl, hb1⟩
  have hz1 := hb1.size
  try simp at hz1
  have B1 : Below w.heap.size w w1 := Below.trans (by (go_light; repeat (first | with_reducible assumption | with_reducible exact Below.refl _ _ | (with_reducible refine Below.setCell ?_ ?_ _; rotate_left; (focus first | (simp; done) | (simp; omega) | omega)) | (with_reducible refine Below.alloc ?_ ?_ _; rotate_left; (focus first | (simp; done) | (simp; omega) | omega)) | with_reducible refine Below.drew ?_))) (hb1.mono (by first | omega | (simp; done) | (simp; omega)))
  have hx1 : w.heap.size + 1 < w1.heap.size := by omega
  have Z1 : Z7 w1 (w.heap.size + 1) := (Z7.start _ _ (w.heap.size + 1) (by simp)).below hb1 (by simp)
  clear hb1
  obtain ⟨c0, f0, c1, f1, c2, f2, c3, f3, c4, f4, c5, f5, c6, f6⟩ := Z1
  go_wp2
  refine bodyPost_ret (v := formV ⟨0, 0, 1, 15, 0, 0, [(262142, 2, 2)]⟩ (.slice (some ⟨w1.heap.size, 0, none⟩) 1 1)) (by simp [results, formV, Tryd.results70, go_sem, hx1, c0, f0, c1, f1, c2, f2, c3, f3, c4, f4, c5, f5, c6, f6]) rfl ⟨_, rfl, ?_, ?_⟩
  · refine RPB.rpx (B := w.heap.size) ?_
    exact rp1 _ _ _ _ _ _ _  (by simp) (by first | omega | (simp; done) | (simp; omega))
  · exact (by (go_light; repeat (first | with_reducible assumption | with_reducible exact Below.refl _ _ | (with_reducible refine Below.setCell ?_ ?_ _; rotate_left; (focus first | (simp; done) | (simp; omega) | omega)) | (with_reducible refine Below.alloc ?_ ?_ _; rotate_left; (focus first | (simp; done) | (simp; omega) | omega)) | with_reducible refine Below.drew ?_)))
set_option maxHeartbeats 8000000 in
theorem f70_6 (t : Nd) (ka : Option Addr) (kl kc : Nat) (w : World) (hop : t.op = 6) :
    Calls Tryd.prog 70 #[ndV t (.slice ka kl kc)] w fun e w' => TabP ⟨0, 0, 0, 1, 0, 0, [(262142, 1, 1)]⟩ w e w' := by
  obtain ⟨op, name, qual, n, m, vk, vn, vs, kids, pos⟩ := t
  simp only [ndV] at *
  subst hop
  go_enter Tryd.func70, Tryd.ntmps70
  go_wp2_with (go_at_call 93; fail)
  refine (expressions_any 1 1 _).mono ?_
  rintro e w1 ⟨rfl, hb1⟩
  have hz1 := hb1.size
  try simp at hz1
  have B1 : Below w.heap.size w w1 := Below.trans (by (go_light; repeat (first | with_reducible assumption | with_reducible exact Below.refl _ _ | (with_reducible refine Below.setCell ?_ ?_ _; rotate_left; (focus first | (simp; done) | (simp; omega) | omega)) | (with_reducible refine Below.alloc ?_ ?_ _; rotate_left; (focus first | (simp; done) | (simp; omega) | omega)) | with_reducible refine Below.drew ?_))) (hb1.mono (by first | omega | (simp; done) | (simp; omega)))
  have hx1 : w.heap.size + 1 < w1.heap.size := by omega
  have Z1 : Z7 w1 (w.heap.size + 1) := (Z7.start _ _ (w.heap.size + 1) (by simp)).below hb1 (by simp)
  clear hb1
  obtain ⟨c0, f0, c1, f1, c2, f2, c3, f3, c4, f4, c5, f5, c6, f6⟩ := Z1
  go_wp2
  refine bodyPost_ret (v := formV ⟨0, 0, 0, 1, 0, 0, [(262142, 1, 1)]⟩ (.slice (some ⟨w1.heap.size, 0, none⟩) 1 1)) (by simp [results, formV, Tryd.results70, go_sem, hx1, c0, f0, c1, f1, c2, f2, c3, f3, c4, f4, c5, f5, c6, f6]) rfl ⟨_, rfl, ?_, ?_⟩
  · refine RPB.rpx (B := w.heap.size) ?_
    exact rp1 _ _ _ _ _ _ _  (by simp) (by first | omega | (simp; done) | (simp; omega))
  · exact (by (go_light; repeat (first | with_reducible assumption | with_reducible exact Below.refl _ _ | (with_reducible refine Below.setCell ?_ ?_ _; rotate_left; (focus first | (simp; done) | (simp; omega) | omega)) | (with_reducible refine Below.alloc ?_ ?_ _; rotate_left; (focus first | (simp; done) | (simp; omega) | omega)) | with_reducible refine Below.drew ?_)))
set_option maxHeartbeats 8000000 in
theorem f70_7 (t : Nd) (ka : Option Addr) (kl kc : Nat) (w : World) (hop : t.op = 7) :
    Calls Tryd.prog 70 #[ndV t (.slice ka kl kc)] w fun e w' => TabP ⟨0, 0, 0, 1, 0, 0, [(262142, 2, 2)]⟩ w e w' := by
  obtain ⟨op, name, qual, n, m, vk, vn, vs, kids, pos⟩ := t
  simp only [ndV] at *
  subst hop
  go_enter Tryd.func70, Tryd.ntmps70
  go_wp2_with (go_at_call 93; fail)
  refine (expressions_any 2 2 _).mono ?_
  rintro e w1 ⟨rfl, hb1⟩
  have hz1 := hb1.size
  try simp at hz1
  have B1 : Below w.heap.size w w1 := Below.trans (by (go_light; repeat (first | with_reducible assumption | with_reducible exact Below.refl _ _ | (with_reducible refine Below.setCell ?_ ?_ _; rotate_left; (focus first | (simp; done) | (simp; omega) | omega)) | (with_reducible refine Below.alloc ?_ ?_ _; rotate_left; (focus first | (simp; done) | (simp; omega) | omega)) | with_reducible refine Below.drew ?_))) (hb1.mono (by first | omega | (simp; done) | (simp; omega)))
  have hx1 : w.heap.size + 1 < w1.heap.size := by omega
  have Z1 : Z7 w1 (w.heap.size + 1) := (Z7.start _ _ (w.heap.size + 1) (by simp)).below hb1 (by simp)
  clear hb1
  obtain ⟨c0, f0, c1, f1, c2, f2, c3, f3, c4, f4, c5, f5, c6, f6⟩ := Z1
  go_wp2
  refine bodyPost_ret (v := formV ⟨0, 0, 0, 1, 0, 0, [(262142, 2, 2)]⟩ (.slice (some ⟨w1.heap.size, 0, none⟩) 1 1)) (by simp [results, formV, Tryd.results70, go_sem, hx1, c0, f0, c1, f1, c2, f2, c3, f3, c4, f4, c5, f5, c6, f6]) rfl ⟨_, rfl, ?_, ?_⟩
  · refine RPB.rpx (B := w.heap.size) ?_
    exact rp1 _ _ _ _ _ _ _  (by simp) (by first | omega | (simp; done) | (simp; omega))
  · exact (by (go_light; repeat (first | with_reducible assumption | with_reducible exact Below.refl _ _ | (with_reducible refine Below.setCell ?_ ?_ _; rotate_left; (focus first | (simp; done) | (simp; omega) | omega)) | (with_reducible refine Below.alloc ?_ ?_ _; rotate_left; (focus first | (simp; done) | (simp; omega) | omega)) | with_reducible refine Below.drew ?_)))
set_option maxHeartbeats 8000000 in
theorem f70_8 (t : Nd) (ka : Option Addr) (kl kc : Nat) (w : World) (hop : t.op = 8) :
    Calls Tryd.prog 70 #[ndV t (.slice ka kl kc)] w fun e w' => TabP ⟨0, 0, 0, 1, 0, 0, [(262142, 2, 6000)]⟩ w e w' := by
  obtain ⟨op, name, qual, n, m, vk, vn, vs, kids, pos⟩ := t
  simp only [ndV] at *
  subst hop
  go_enter Tryd.func70, Tryd.ntmps70
  go_wp2_with (go_at_call 93; fail)
  refine (expressions_any 2 6000 _).mono ?_
  rintro e w1 ⟨rfl, hb1⟩
  have hz1 := hb1.size
  try simp at hz1
  have B1 : Below w.heap.size w w1 := Below.trans (by (go_light; repeat (first | with_reducible assumption | with_reducible exact Below.refl _ _ | (with_reducible refine Below.setCell ?_ ?_ _; rotate_left; (focus first | (simp; done) | (simp; omega) | omega)) | (with_reducible refine Below.alloc ?_ ?_ _; rotate_left; (focus first | (simp; done) | (simp; omega) | omega)) | with_reducible refine Below.drew ?_))) (hb1.mono (by first | omega | (simp; done) | (simp; omega)))
  have hx1 : w.heap.size + 1 < w1.heap.size := by omega
  have Z1 : Z7 w1 (w.heap.size + 1) := (Z7.start _ _ (w.heap.size + 1) (by simp)).below hb1 (by simp)
  clear hb1
  obtain ⟨c0, f0, c1, f1, c2, f2, c3, f3, c4, f4, c5, f5, c6, f6⟩ := Z1
  go_wp2
  refine bodyPost_ret (v := formV ⟨0, 0, 0, 1, 0, 0, [(262142, 2, 6000)]⟩ (.slice (some ⟨w1.heap.size, 0, none⟩) 1 1)) (by simp [results, formV, Tryd.results70, go_sem, hx1, c0, f0, c1, f1, c2, f2, c3, f3, c4, f4, c5, f5, c6, f6]) rfl ⟨_, rfl, ?_, ?_⟩
  · refine RPB.rpx (B := w.heap.size) ?_
    exact rp1 _ _ _ _ _ _ _  (by simp) (by first | omega | (simp; done) | (simp; omega))
  · exact (by (go_light; repeat (first | with_reducible assumption | with_reducible exact Below.refl _ _ | (with_reducible refine Below.setCell ?_ ?_ _; rotate_left; (focus first | (simp; done) | (simp; omega) | omega)) | (with_reducible refine Below.alloc ?_ ?_ _; rotate_left; (focus first | (simp; done) | (simp; omega) | omega)) | with_reducible refine Below.drew ?_)))
end Go.Proofs.YtghdjagomdgnfaaDoor
namespace Go.Proofs.YtghdjagomdgnfaaDoor
open Go.ChangeShapes Go.WideShapes Go.ChangeAt Go.RowKit
set_option linter.unusedVariables false
set_option linter.unusedSimpArgs false
set_option maxRecDepth 100000
set_option maxHeartbeats 8000000 in
theorem f70_11 (t : Nd) (ka : Option Addr) (kl kc : Nat) (w : World) (hop : t.op = 11) :
    Calls Tryd.prog 70 #[ndV t (.slice ka kl kc)] w fun e w' => TabP ⟨0, 0, 0, 1, 0, 0, [(262142, 2, 2)]⟩ w e w' := by
  obtain ⟨op, name, qual, n, m, vk, vn, vs, kids, pos⟩ := t
  simp only [ndV] at *
  subst hop
  go_enter Tryd.func70, Tryd.ntmps70
  go_wp2_with (go_at_call 93; fail)
  refine (expressions_any 2 2 _).mono ?_
  rintro e w1 ⟨rfl, hb1⟩
  have hz1 := hb1.size
  try simp at hz1
  have B1 : Below w.heap.size w w1 := Below.trans (by (go_light; repeat (first | with_reducible assumption | with_reducible exact Below.refl _ _ | (with_reducible refine Below.setCell ?_ ?_ _; rotate_left; (focus first | (simp; done) | (simp; omega) | omega)) | (with_reducible refine Below.alloc ?_ ?_ _; rotate_left; (focus first | (simp; done) | (simp; omega) | omega)) | with_reducible refine Below.drew ?_))) (hb1.mono (by first | omega | (simp; done) | (simp; omega)))
  have hx1 : w.heap.size + 1 < w1.heap.size := by omega
  have Z1 : Z7 w1 (w.heap.size + 1) := (Z7.start _ _ (w.heap.size + 1) (by simp)).below hb1 (by simp)
  clear hb1
  obtain ⟨c0, f0, c1, f1, c2, f2, c3, f3, c4, f4, c5, f5, c6, f6⟩ := Z1
  go_wp2
  refine bodyPost_ret (v := formV ⟨0, 0, 0, 1, 0, 0, [(262142, 2, 2)]⟩ (.slice (some ⟨w1.heap.size, 0, none⟩) 1 1)) (by simp [results, formV, Tryd.results70, go_sem, hx1, c0, f0, c1, f1, c2, f2, c3, f3, c4, f4, c5, f5, c6, f6]) rfl ⟨_, rfl, ?_, ?_⟩
  · refine RPB.rpx (B := w.heap.size) ?_
    exact rp1 _ _ _ _ _ _ _  (by simp) (by first | omega | (simp; done) | (simp; omega))
  · exact (by (go_light; repeat (first | with_reducible assumption | with_reducible exact Below.refl _ _ | (with_reducible refine Below.setCell ?_ ?_ _; rotate_left; (focus first | (simp; done) | (simp; omega) | omega)) | (with_reducible refine Below.alloc ?_ ?_ _; rotate_left; (focus first | (simp; done) | (simp; omega) | omega)) | with_reducible refine Below.drew ?_)))
set_option maxHeartbeats 8000000 in
theorem f70_9 (t : Nd) (ka : Option Addr) (kl kc : Nat) (w : World) (hop : t.op = 9) :
    Calls Tryd.prog 70 #[ndV t (.slice ka kl kc)] w fun e w' => TabP ⟨0, 0, 0, 1, 0, 0, [(262142, 1, 1), (setI [27], 1, 1)]⟩ w e w' := by
  obtain ⟨op, name, qual, n, m, vk, vn, vs, kids, pos⟩ := t
  simp only [ndV] at *
  subst hop
  go_enter Tryd.func70, Tryd.ntmps70
  go_wp2_with (go_at_call 93; fail)
  refine (expressions_any 1 1 _).mono ?_
  rintro e w1 ⟨rfl, hb1⟩
  have hz1 := hb1.size
  try simp at hz1
  have B1 : Below w.heap.size w w1 := Below.trans (by (go_light; repeat (first | with_reducible assumption | with_reducible exact Below.refl _ _ | (with_reducible refine Below.setCell ?_ ?_ _; rotate_left; (focus first | (simp; done) | (simp; omega) | omega)) | (with_reducible refine Below.alloc ?_ ?_ _; rotate_left; (focus first | (simp; done) | (simp; omega) | omega)) | with_reducible refine Below.drew ?_))) (hb1.mono (by first | omega | (simp; done) | (simp; omega)))
  have hx1 : w.heap.size + 1 < w1.heap.size := by omega
  have Z1 : Z7 w1 (w.heap.size + 1) := (Z7.start _ _ (w.heap.size + 1) (by simp)).below hb1 (by simp)
  clear hb1
  go_wp2_with (go_at_call 94; fail)
  refine (oneOf_any [27] _ _ (by decide) (by decide) ?_).mono ?_
  · exact ri1 _ _ _ _  (by simp)
  rintro e w2 ⟨rfl, hb2⟩
  have hz2 := hb2.size
  try simp at hz2
  have B2 : Below w.heap.size w w2 := Below.trans (by (go_light; repeat (first | with_reducible assumption | with_reducible exact Below.refl _ _ | (with_reducible refine Below.setCell ?_ ?_ _; rotate_left; (focus first | (simp; done) | (simp; omega) | omega)) | (with_reducible refine Below.alloc ?_ ?_ _; rotate_left; (focus first | (simp; done) | (simp; omega) | omega)) | with_reducible refine Below.drew ?_))) (hb2.mono (by first | omega | (simp; done) | (simp; omega)))
  have hx2 : w.heap.size + 1 < w2.heap.size := by omega
  have Z2 : Z7 w2 (w.heap.size + 1) := (Z1.alloc hx1 _).below hb2 (by first | omega | (simp; omega))
  clear hb2 Z1
  obtain ⟨c0, f0, c1, f1, c2, f2, c3, f3, c4, f4, c5, f5, c6, f6⟩ := Z2
  go_wp2
  refine bodyPost_ret (v := formV ⟨0, 0, 0, 1, 0, 0, [(262142, 1, 1), (setI [27], 1, 1)]⟩ (.slice (some ⟨w2.heap.size, 0, none⟩) 2 2)) (by simp [results, formV, Tryd.results70, go_sem, hx2, c0, f0, c1, f1, c2, f2, c3, f3, c4, f4, c5, f5, c6, f6]) rfl ⟨_, rfl, ?_, ?_⟩
  · refine RPB.rpx (B := w.heap.size) ?_
    exact rp2 _ _ _ _ _ _ _ _ _ _  (by simp) (by first | omega | (simp; done) | (simp; omega))
  · exact (by (go_light; repeat (first | with_reducible assumption | with_reducible exact Below.refl _ _ | (with_reducible refine Below.setCell ?_ ?_ _; rotate_left; (focus first | (simp; done) | (simp; omega) | omega)) | (with_reducible refine Below.alloc ?_ ?_ _; rotate_left; (focus first | (simp; done) | (simp; omega) | omega)) | with_reducible refine Below.drew ?_)))
set_option maxHeartbeats 8000000 in
theorem f70_10 (t : Nd) (ka : Option Addr) (kl kc : Nat) (w : World) (hop : t.op = 10) :
    Calls Tryd.prog 70 #[ndV t (.slice ka kl kc)] w fun e w' => TabP ⟨0, 0, 0, 1, 0, 0, [(262142, 3, 3)]⟩ w e w' := by
  obtain ⟨op, name, qual, n, m, vk, vn, vs, kids, pos⟩ := t
  simp only [ndV] at *
  subst hop
  go_enter Tryd.func70, Tryd.ntmps70
  go_wp2_with (go_at_call 93; fail)
  refine (expressions_any 3 3 _).mono ?_
  rintro e w1 ⟨rfl, hb1⟩
  have hz1 := hb1.size
  try simp at hz1
  have B1 : Below w.heap.size w w1 := Below.trans (by (go_light; repeat (first | with_reducible assumption | with_reducible exact Below.refl _ _ | (with_reducible refine Below.setCell ?_ ?_ _; rotate_left; (focus first | (simp; done) | (simp; omega) | omega)) | (with_reducible refine Below.alloc ?_ ?_ _; rotate_left; (focus first | (simp; done) | (simp; omega) | omega)) | with_reducible refine Below.drew ?_))) (hb1.mono (by first | omega | (simp; done) | (simp; omega)))
  have hx1 : w.heap.size + 1 < w1.heap.size := by omega
  have Z1 : Z7 w1 (w.heap.size + 1) := (Z7.start _ _ (w.heap.size + 1) (by simp)).below hb1 (by simp)
  clear hb1
  obtain ⟨c0, f0, c1, f1, c2, f2, c3, f3, c4, f4, c5, f5, c6, f6⟩ := Z1
  go_wp2
  refine bodyPost_ret (v := formV ⟨0, 0, 0, 1, 0, 0, [(262142, 3, 3)]⟩ (.slice (some ⟨w1.heap.size, 0, none⟩) 1 1)) (by simp [results, formV, Tryd.results70, go_sem, hx1, c0, f0, c1, f1, c2, f2, c3, f3, c4, f4, c5, f5, c6, f6]) rfl ⟨_, rfl, ?_, ?_⟩
  · refine RPB.rpx (B := w.heap.size) ?_
    exact rp1 _ _ _ _ _ _ _  (by simp) (by first | omega | (simp; done) | (simp; omega))
  · exact (by (go_light; repeat (first | with_reducible assumption | with_reducible exact Below.refl _ _ | (with_reducible refine Below.setCell ?_ ?_ _; rotate_left; (focus first | (simp; done) | (simp; omega) | omega)) | (with_reducible refine Below.alloc ?_ ?_ _; rotate_left; (focus first | (simp; done) | (simp; omega) | omega)) | with_reducible refine Below.drew ?_)))
set_option maxHeartbeats 8000000 in
theorem f70_12 (t : Nd) (ka : Option Addr) (kl kc : Nat) (w : World) (hop : t.op = 12) :
    Calls Tryd.prog 70 #[ndV t (.slice ka kl kc)] w fun e w' => TabP ⟨0, 0, 0, 1, 0, 1, [(262142, 2, 6000)]⟩ w e w' := by
  obtain ⟨op, name, qual, n, m, vk, vn, vs, kids, pos⟩ := t
  simp only [ndV] at *
  subst hop
  go_enter Tryd.func70, Tryd.ntmps70
  go_wp2_with (go_at_call 93; fail)
  refine (expressions_any 2 6000 _).mono ?_
  rintro e w1 ⟨rfl, hb1⟩
  have hz1 := hb1.size
  try simp at hz1
  have B1 : Below w.heap.size w w1 := Below.trans (by (go_light; repeat (first | with_reducible assumption | with_reducible exact Below.refl _ _ | (with_reducible refine Below.setCell ?_ ?_ _; rotate_left; (focus first | (simp; done) | (simp; omega) | omega)) | (with_reducible refine Below.alloc ?_ ?_ _; rotate_left; (focus first | (simp; done) | (simp; omega) | omega)) | with_reducible refine Below.drew ?_))) (hb1.mono (by first | omega | (simp; done) | (simp; omega)))
  have hx1 : w.heap.size + 1 < w1.heap.size := by omega
  have Z1 : Z7 w1 (w.heap.size + 1) := (Z7.start _ _ (w.heap.size + 1) (by simp)).below hb1 (by simp)
  clear hb1
  obtain ⟨c0, f0, c1, f1, c2, f2, c3, f3, c4, f4, c5, f5, c6, f6⟩ := Z1
  go_wp2
  refine bodyPost_ret (v := formV ⟨0, 0, 0, 1, 0, 1, [(262142, 2, 6000)]⟩ (.slice (some ⟨w1.heap.size, 0, none⟩) 1 1)) (by simp [results, formV, Tryd.results70, go_sem, hx1, c0, f0, c1, f1, c2, f2, c3, f3, c4, f4, c5, f5, c6, f6]) rfl ⟨_, rfl, ?_, ?_⟩
  · refine RPB.rpx (B := w.heap.size) ?_
    exact rp1 _ _ _ _ _ _ _  (by simp) (by first | omega | (simp; done) | (simp; omega))
  · exact (by (go_light; repeat (first | with_reducible assumption | with_reducible exact Below.refl _ _ | (with_reducible refine Below.setCell ?_ ?_ _; rotate_left; (focus first | (simp; done) | (simp; omega) | omega)) | (with_reducible refine Below.alloc ?_ ?_ _; rotate_left; (focus first | (simp; done) | (simp; omega) | omega)) | with_reducible refine Below.drew ?_)))
end Go.Proofs.YtghdjagomdgnfaaDoor
namespace Go.Proofs.YtghdjagomdgnfaaDoor
open Go.ChangeShapes Go.WideShapes Go.ChangeAt Go.RowKit
set_option linter.unusedVariables false
set_option linter.unusedSimpArgs false
set_option maxRecDepth 100000
set_option maxHeartbeats 8000000 in
theorem f70_13 (t : Nd) (ka : Option Addr) (kl kc : Nat) (w : World) (hop : t.op = 13) :
    Calls Tryd.prog 70 #[ndV t (.slice ka kl kc)] w fun e w' => TabP ⟨0, 0, 1, 5, 0, 0, [(262142, 1, 1)]⟩ w e w' := by
  obtain ⟨op, name, qual, n, m, vk, vn, vs, kids, pos⟩ := t
  simp only [ndV] at *
  subst hop
  go_enter Tryd.func70, Tryd.ntmps70
  go_wp2_with (go_at_call 93; fail)
  refine (expressions_any 1 1 _).mono ?_
  rintro e w1 ⟨rfl, hb1⟩
  have hz1 := hb1.size
  try simp at hz1
  have B1 : Below w.heap.size w w1 := Below.trans (by (go_light; repeat (first | with_reducible assumption | with_reducible exact Below.refl _ _ | (with_reducible refine Below.setCell ?_ ?_ _; rotate_left; (focus first | (simp; done) | (simp; omega) | omega)) | (with_reducible refine Below.alloc ?_ ?_ _; rotate_left; (focus first | (simp; done) | (simp; omega) | omega)) | with_reducible refine Below.drew ?_))) (hb1.mono (by first | omega | (simp; done) | (simp; omega)))
  have hx1 : w.heap.size + 1 < w1.heap.size := by omega
  have Z1 : Z7 w1 (w.heap.size + 1) := (Z7.start _ _ (w.heap.size + 1) (by simp)).below hb1 (by simp)
  clear hb1
  obtain ⟨c0, f0, c1, f1, c2, f2, c3, f3, c4, f4, c5, f5, c6, f6⟩ := Z1
  go_wp2
  refine bodyPost_ret (v := formV ⟨0, 0, 1, 5, 0, 0, [(262142, 1, 1)]⟩ (.slice (some ⟨w1.heap.size, 0, none⟩) 1 1)) (by simp [results, formV, Tryd.results70, go_sem, hx1, c0, f0, c1, f1, c2, f2, c3, f3, c4, f4, c5, f5, c6, f6]) rfl ⟨_, rfl, ?_, ?_⟩
  · refine RPB.rpx (B := w.heap.size) ?_
    exact rp1 _ _ _ _ _ _ _  (by simp) (by first | omega | (simp; done) | (simp; omega))
  · exact (by (go_light; repeat (first | with_reducible assumption | with_reducible exact Below.refl _ _ | (with_reducible refine Below.setCell ?_ ?_ _; rotate_left; (focus first | (simp; done) | (simp; omega) | omega)) | (with_reducible refine Below.alloc ?_ ?_ _; rotate_left; (focus first | (simp; done) | (simp; omega) | omega)) | with_reducible refine Below.drew ?_)))
set_option maxHeartbeats 8000000 in
theorem f70_14 (t : Nd) (ka : Option Addr) (kl kc : Nat) (w : World) (hop : t.op = 14) :
    Calls Tryd.prog 70 #[ndV t (.slice ka kl kc)] w fun e w' => TabP ⟨2, 0, 0, 0, 0, 0, [(262142, 0, 6000)]⟩ w e w' := by
  obtain ⟨op, name, qual, n, m, vk, vn, vs, kids, pos⟩ := t
  simp only [ndV] at *
  subst hop
  go_enter Tryd.func70, Tryd.ntmps70
  go_wp2_with (go_at_call 93; fail)
  refine (expressions_any 0 6000 _).mono ?_
  rintro e w1 ⟨rfl, hb1⟩
  have hz1 := hb1.size
  try simp at hz1
  have B1 : Below w.heap.size w w1 := Below.trans (by (go_light; repeat (first | with_reducible assumption | with_reducible exact Below.refl _ _ | (with_reducible refine Below.setCell ?_ ?_ _; rotate_left; (focus first | (simp; done) | (simp; omega) | omega)) | (with_reducible refine Below.alloc ?_ ?_ _; rotate_left; (focus first | (simp; done) | (simp; omega) | omega)) | with_reducible refine Below.drew ?_))) (hb1.mono (by first | omega | (simp; done) | (simp; omega)))
  have hx1 : w.heap.size + 1 < w1.heap.size := by omega
  have Z1 : Z7 w1 (w.heap.size + 1) := (Z7.start _ _ (w.heap.size + 1) (by simp)).below hb1 (by simp)
  clear hb1
  obtain ⟨c0, f0, c1, f1, c2, f2, c3, f3, c4, f4, c5, f5, c6, f6⟩ := Z1
  go_wp2
  refine bodyPost_ret (v := formV ⟨2, 0, 0, 0, 0, 0, [(262142, 0, 6000)]⟩ (.slice (some ⟨w1.heap.size, 0, none⟩) 1 1)) (by simp [results, formV, Tryd.results70, go_sem, hx1, c0, f0, c1, f1, c2, f2, c3, f3, c4, f4, c5, f5, c6, f6]) rfl ⟨_, rfl, ?_, ?_⟩
  · refine RPB.rpx (B := w.heap.size) ?_
    exact rp1 _ _ _ _ _ _ _  (by simp) (by first | omega | (simp; done) | (simp; omega))
  · exact (by (go_light; repeat (first | with_reducible assumption | with_reducible exact Below.refl _ _ | (with_reducible refine Below.setCell ?_ ?_ _; rotate_left; (focus first | (simp; done) | (simp; omega) | omega)) | (with_reducible refine Below.alloc ?_ ?_ _; rotate_left; (focus first | (simp; done) | (simp; omega) | omega)) | with_reducible refine Below.drew ?_)))
set_option maxHeartbeats 8000000 in
theorem f70_15a (t : Nd) (ka : Option Addr) (kl kc : Nat) (w : World) (hop : t.op = 15) (hn : t.n = 1) :
    Calls Tryd.prog 70 #[ndV t (.slice ka kl kc)] w fun e w' => TabP ⟨0, 0, 1, 1, 0, 0, []⟩ w e w' := by
  obtain ⟨op, name, qual, n, m, vk, vn, vs, kids, pos⟩ := t
  simp only [ndV] at *
  subst hop
  subst hn
  go_enter Tryd.func70, Tryd.ntmps70
  go_wp2
  refine bodyPost_ret (v := formV ⟨0, 0, 1, 1, 0, 0, []⟩ (.slice none 0 0)) (by simp [results, formV, Tryd.results70, go_sem]) rfl ⟨_, rfl, ?_, ?_⟩
  · exact ⟨none, 0, rfl, fun h => absurd h (by simp)⟩
  · exact (by (go_light; repeat (first | with_reducible assumption | with_reducible exact Below.refl _ _ | (with_reducible refine Below.setCell ?_ ?_ _; rotate_left; (focus first | (simp; done) | (simp; omega) | omega)) | (with_reducible refine Below.alloc ?_ ?_ _; rotate_left; (focus first | (simp; done) | (simp; omega) | omega)) | with_reducible refine Below.drew ?_)))
set_option maxHeartbeats 8000000 in
theorem f70_15b (t : Nd) (ka : Option Addr) (kl kc : Nat) (w : World) (hop : t.op = 15) (hn : t.n ≠ 1) :
    Calls Tryd.prog 70 #[ndV t (.slice ka kl kc)] w fun e w' => TabP ⟨0, 0, 2, 6, 0, 1, [(262142, 1, 1)]⟩ w e w' := by
  obtain ⟨op, name, qual, n, m, vk, vn, vs, kids, pos⟩ := t
  simp only [ndV] at *
  subst hop
  go_enter Tryd.func70, Tryd.ntmps70
  go_wp2_with (go_at_call 93; fail)
  refine (expressions_any 1 1 _).mono ?_
  rintro e w1 ⟨rfl, hb1⟩
  have hz1 := hb1.size
  try simp at hz1
  have B1 : Below w.heap.size w w1 := Below.trans (by (go_light; repeat (first | with_reducible assumption | with_reducible exact Below.refl _ _ | (with_reducible refine Below.setCell ?_ ?_ _; rotate_left; (focus first | (simp; done) | (simp; omega) | omega)) | (with_reducible refine Below.alloc ?_ ?_ _; rotate_left; (focus first | (simp; done) | (simp; omega) | omega)) | with_reducible refine Below.drew ?_))) (hb1.mono (by first | omega | (simp; done) | (simp; omega)))
  have hx1 : w.heap.size + 1 < w1.heap.size := by omega
  have Z1 : Z7 w1 (w.heap.size + 1) := (Z7.start _ _ (w.heap.size + 1) (by simp)).below hb1 (by simp)
  clear hb1
  obtain ⟨c0, f0, c1, f1, c2, f2, c3, f3, c4, f4, c5, f5, c6, f6⟩ := Z1
  go_wp2
  refine bodyPost_ret (v := formV ⟨0, 0, 2, 6, 0, 1, [(262142, 1, 1)]⟩ (.slice (some ⟨w1.heap.size, 0, none⟩) 1 1)) (by simp [results, formV, Tryd.results70, go_sem, hx1, c0, f0, c1, f1, c2, f2, c3, f3, c4, f4, c5, f5, c6, f6]) rfl ⟨_, rfl, ?_, ?_⟩
  · refine RPB.rpx (B := w.heap.size) ?_
    exact rp1 _ _ _ _ _ _ _  (by simp) (by first | omega | (simp; done) | (simp; omega))
  · exact (by (go_light; repeat (first | with_reducible assumption | with_reducible exact Below.refl _ _ | (with_reducible refine Below.setCell ?_ ?_ _; rotate_left; (focus first | (simp; done) | (simp; omega) | omega)) | (with_reducible refine Below.alloc ?_ ?_ _; rotate_left; (focus first | (simp; done) | (simp; omega) | omega)) | with_reducible refine Below.drew ?_)))
end Go.Proofs.YtghdjagomdgnfaaDoor
namespace Go.Proofs.YtghdjagomdgnfaaDoor
open Go.ChangeShapes Go.WideShapes Go.ChangeAt Go.RowKit
set_option linter.unusedVariables false
set_option linter.unusedSimpArgs false
set_option maxRecDepth 100000
set_option maxHeartbeats 8000000 in
theorem f70_16 (t : Nd) (ka : Option Addr) (kl kc : Nat) (w : World) (hop : t.op = 16) :
    Calls Tryd.prog 70 #[ndV t (.slice ka kl kc)] w fun e w' => TabP ⟨0, 0, 0, 0, 0, 0, [(setI [27], 1, 1)]⟩ w e w' := by
  obtain ⟨op, name, qual, n, m, vk, vn, vs, kids, pos⟩ := t
  simp only [ndV] at *
  subst hop
  go_enter Tryd.func70, Tryd.ntmps70
  go_wp2_with (go_at_call 94; fail)
  refine (oneOf_any [27] _ _ (by decide) (by decide) ?_).mono ?_
  · exact ri1 _ _ _ _  (by simp)
  rintro e w1 ⟨rfl, hb1⟩
  have hz1 := hb1.size
  try simp at hz1
  have B1 : Below w.heap.size w w1 := Below.trans (by (go_light; repeat (first | with_reducible assumption | with_reducible exact Below.refl _ _ | (with_reducible refine Below.setCell ?_ ?_ _; rotate_left; (focus first | (simp; done) | (simp; omega) | omega)) | (with_reducible refine Below.alloc ?_ ?_ _; rotate_left; (focus first | (simp; done) | (simp; omega) | omega)) | with_reducible refine Below.drew ?_))) (hb1.mono (by first | omega | (simp; done) | (simp; omega)))
  have hx1 : w.heap.size + 1 < w1.heap.size := by omega
  have Z1 : Z7 w1 (w.heap.size + 1) := ((Z7.start _ _ (w.heap.size + 1) (by simp)).alloc (by simp) _).below hb1 (by first | omega | (simp; done) | (simp; omega))
  clear hb1
  obtain ⟨c0, f0, c1, f1, c2, f2, c3, f3, c4, f4, c5, f5, c6, f6⟩ := Z1
  go_wp2
  refine bodyPost_ret (v := formV ⟨0, 0, 0, 0, 0, 0, [(setI [27], 1, 1)]⟩ (.slice (some ⟨w1.heap.size, 0, none⟩) 1 1)) (by simp [results, formV, Tryd.results70, go_sem, hx1, c0, f0, c1, f1, c2, f2, c3, f3, c4, f4, c5, f5, c6, f6]) rfl ⟨_, rfl, ?_, ?_⟩
  · refine RPB.rpx (B := w.heap.size) ?_
    exact rp1 _ _ _ _ _ _ _  (by simp) (by first | omega | (simp; done) | (simp; omega))
  · exact (by (go_light; repeat (first | with_reducible assumption | with_reducible exact Below.refl _ _ | (with_reducible refine Below.setCell ?_ ?_ _; rotate_left; (focus first | (simp; done) | (simp; omega) | omega)) | (with_reducible refine Below.alloc ?_ ?_ _; rotate_left; (focus first | (simp; done) | (simp; omega) | omega)) | with_reducible refine Below.drew ?_)))
set_option maxHeartbeats 8000000 in
theorem f70_17 (t : Nd) (ka : Option Addr) (kl kc : Nat) (w : World) (hop : t.op = 17) :
    Calls Tryd.prog 70 #[ndV t (.slice ka kl kc)] w fun e w' => TabP ⟨0, 0, 0, 0, 0, 0, [(setI [27], 1, 1)]⟩ w e w' := by
  obtain ⟨op, name, qual, n, m, vk, vn, vs, kids, pos⟩ := t
  simp only [ndV] at *
  subst hop
  go_enter Tryd.func70, Tryd.ntmps70
  go_wp2_with (go_at_call 94; fail)
  refine (oneOf_any [27] _ _ (by decide) (by decide) ?_).mono ?_
  · exact ri1 _ _ _ _  (by simp)
  rintro e w1 ⟨rfl, hb1⟩
  have hz1 := hb1.size
  try simp at hz1
  have B1 : Below w.heap.size w w1 := Below.trans (by (go_light; repeat (first | with_reducible assumption | with_reducible exact Below.refl _ _ | (with_reducible refine Below.setCell ?_ ?_ _; rotate_left; (focus first | (simp; done) | (simp; omega) | omega)) | (with_reducible refine Below.alloc ?_ ?_ _; rotate_left; (focus first | (simp; done) | (simp; omega) | omega)) | with_reducible refine Below.drew ?_))) (hb1.mono (by first | omega | (simp; done) | (simp; omega)))
  have hx1 : w.heap.size + 1 < w1.heap.size := by omega
  have Z1 : Z7 w1 (w.heap.size + 1) := ((Z7.start _ _ (w.heap.size + 1) (by simp)).alloc (by simp) _).below hb1 (by first | omega | (simp; done) | (simp; omega))
  clear hb1
  obtain ⟨c0, f0, c1, f1, c2, f2, c3, f3, c4, f4, c5, f5, c6, f6⟩ := Z1
  go_wp2
  refine bodyPost_ret (v := formV ⟨0, 0, 0, 0, 0, 0, [(setI [27], 1, 1)]⟩ (.slice (some ⟨w1.heap.size, 0, none⟩) 1 1)) (by simp [results, formV, Tryd.results70, go_sem, hx1, c0, f0, c1, f1, c2, f2, c3, f3, c4, f4, c5, f5, c6, f6]) rfl ⟨_, rfl, ?_, ?_⟩
  · refine RPB.rpx (B := w.heap.size) ?_
    exact rp1 _ _ _ _ _ _ _  (by simp) (by first | omega | (simp; done) | (simp; omega))
  · exact (by (go_light; repeat (first | with_reducible assumption | with_reducible exact Below.refl _ _ | (with_reducible refine Below.setCell ?_ ?_ _; rotate_left; (focus first | (simp; done) | (simp; omega) | omega)) | (with_reducible refine Below.alloc ?_ ?_ _; rotate_left; (focus first | (simp; done) | (simp; omega) | omega)) | with_reducible refine Below.drew ?_)))
end Go.Proofs.YtghdjagomdgnfaaDoor
