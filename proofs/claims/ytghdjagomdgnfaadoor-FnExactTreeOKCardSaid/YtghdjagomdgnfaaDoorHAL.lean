import Derived.Test.YtghdjagomdgnfaaDoorHAG
namespace Go.Proofs.YtghdjagomdgnfaaDoor
open Go.ChangeShapes Go.WideShapes Go.ChangeAt Go.RowKit
set_option linter.unusedVariables false
set_option linter.unusedSimpArgs false
set_option maxRecDepth 100000
set_option maxHeartbeats 8000000 in
theorem f72_40 (w : World) :
    Calls Tryd.prog 72 #[.int .i64 40] w fun e w' => TabP ⟨2, 0, 0, 0, 0, 0, [(setI [41], 0, 1), (setI [43, 27], 1, 1)]⟩ w e w' := by
  go_enter Tryd.func72, Tryd.ntmps72
  go_wp2_with (go_at_call 96; fail)
  refine (perhapsOne_any 41 _ (by decide) (by decide)).mono ?_
  rintro e w1 ⟨rfl, hb1⟩
  have hz1 := hb1.size
  try simp at hz1
  have B1 : Below w.heap.size w w1 := Below.trans (by (go_light; repeat (first | with_reducible assumption | with_reducible exact Below.refl _ _ | (with_reducible refine Below.setCell ?_ ?_ _; rotate_left; (focus first | (simp; done) | (simp; omega) | omega)) | (with_reducible refine Below.alloc ?_ ?_ _; rotate_left; (focus first | (simp; done) | (simp; omega) | omega)) | with_reducible refine Below.drew ?_))) (hb1.mono (by first | omega | (simp; done) | (simp; omega)))
  have hx1 : w.heap.size < w1.heap.size := by omega
  have Z1 : Z7 w1 (w.heap.size) := (Z7.start _ _ (w.heap.size) (by simp)).below hb1 (by simp)
  clear hb1
  go_wp2_with (go_at_call 94; fail)
  refine (oneOf_any [43, 27] _ _ (by decide) (by decide) ?_).mono ?_
  · exact ri2 _ _ _ _ _  (by simp)
  rintro e w2 ⟨rfl, hb2⟩
  have hz2 := hb2.size
  try simp at hz2
  have B2 : Below w.heap.size w w2 := Below.trans (by (go_light; repeat (first | with_reducible assumption | with_reducible exact Below.refl _ _ | (with_reducible refine Below.setCell ?_ ?_ _; rotate_left; (focus first | (simp; done) | (simp; omega) | omega)) | (with_reducible refine Below.alloc ?_ ?_ _; rotate_left; (focus first | (simp; done) | (simp; omega) | omega)) | with_reducible refine Below.drew ?_))) (hb2.mono (by first | omega | (simp; done) | (simp; omega)))
  have hx2 : w.heap.size < w2.heap.size := by omega
  have Z2 : Z7 w2 (w.heap.size) := (Z1.alloc hx1 _).below hb2 (by first | omega | (simp; omega))
  clear hb2 Z1
  obtain ⟨c0, f0, c1, f1, c2, f2, c3, f3, c4, f4, c5, f5, c6, f6⟩ := Z2
  go_wp2
  refine bodyPost_ret (v := formV ⟨2, 0, 0, 0, 0, 0, [(setI [41], 0, 1), (setI [43, 27], 1, 1)]⟩ (.slice (some ⟨w2.heap.size, 0, none⟩) 2 2)) (by simp [results, formV, Tryd.results72, go_sem, hx2, c0, f0, c1, f1, c2, f2, c3, f3, c4, f4, c5, f5, c6, f6]) rfl ⟨_, rfl, ?_, ?_⟩
  · refine RPB.rpx (B := w.heap.size) ?_
    exact rp2 _ _ _ _ _ _ _ _ _ _  (by simp) (by first | omega | (simp; done) | (simp; omega))
  · exact (by (go_light; repeat (first | with_reducible assumption | with_reducible exact Below.refl _ _ | (with_reducible refine Below.setCell ?_ ?_ _; rotate_left; (focus first | (simp; done) | (simp; omega) | omega)) | (with_reducible refine Below.alloc ?_ ?_ _; rotate_left; (focus first | (simp; done) | (simp; omega) | omega)) | with_reducible refine Below.drew ?_)))
set_option maxHeartbeats 8000000 in
theorem f72_41 (w : World) :
    Calls Tryd.prog 72 #[.int .i64 41] w fun e w' => TabP ⟨0, 0, 0, 0, 0, 0, [(setI [42], 1, 6000)]⟩ w e w' := by
  go_enter Tryd.func72, Tryd.ntmps72
  go_wp2_with (go_at_call 95; fail)
  refine (manyOf_any [42] _ _ (by decide) (by decide) ?_).mono ?_
  · exact ri1 _ _ _ _  (by simp)
  rintro e w1 ⟨rfl, hb1⟩
  have hz1 := hb1.size
  try simp at hz1
  have B1 : Below w.heap.size w w1 := Below.trans (by (go_light; repeat (first | with_reducible assumption | with_reducible exact Below.refl _ _ | (with_reducible refine Below.setCell ?_ ?_ _; rotate_left; (focus first | (simp; done) | (simp; omega) | omega)) | (with_reducible refine Below.alloc ?_ ?_ _; rotate_left; (focus first | (simp; done) | (simp; omega) | omega)) | with_reducible refine Below.drew ?_))) (hb1.mono (by first | omega | (simp; done) | (simp; omega)))
  have hx1 : w.heap.size < w1.heap.size := by omega
  have Z1 : Z7 w1 (w.heap.size) := ((Z7.start _ _ (w.heap.size) (by simp)).alloc (by simp) _).below hb1 (by first | omega | (simp; done) | (simp; omega))
  clear hb1
  obtain ⟨c0, f0, c1, f1, c2, f2, c3, f3, c4, f4, c5, f5, c6, f6⟩ := Z1
  go_wp2
  refine bodyPost_ret (v := formV ⟨0, 0, 0, 0, 0, 0, [(setI [42], 1, 6000)]⟩ (.slice (some ⟨w1.heap.size, 0, none⟩) 1 1)) (by simp [results, formV, Tryd.results72, go_sem, hx1, c0, f0, c1, f1, c2, f2, c3, f3, c4, f4, c5, f5, c6, f6]) rfl ⟨_, rfl, ?_, ?_⟩
  · refine RPB.rpx (B := w.heap.size) ?_
    exact rp1 _ _ _ _ _ _ _  (by simp) (by first | omega | (simp; done) | (simp; omega))
  · exact (by (go_light; repeat (first | with_reducible assumption | with_reducible exact Below.refl _ _ | (with_reducible refine Below.setCell ?_ ?_ _; rotate_left; (focus first | (simp; done) | (simp; omega) | omega)) | (with_reducible refine Below.alloc ?_ ?_ _; rotate_left; (focus first | (simp; done) | (simp; omega) | omega)) | with_reducible refine Below.drew ?_)))
set_option maxHeartbeats 8000000 in
theorem f72_42 (w : World) :
    Calls Tryd.prog 72 #[.int .i64 42] w fun e w' => TabP ⟨2, 0, 0, 0, 0, 0, []⟩ w e w' := by
  go_enter Tryd.func72, Tryd.ntmps72
  go_wp2
  refine bodyPost_ret (v := formV ⟨2, 0, 0, 0, 0, 0, []⟩ (.slice none 0 0)) (by simp [results, formV, Tryd.results72, go_sem]) rfl ⟨_, rfl, ?_, ?_⟩
  · exact ⟨none, 0, rfl, fun h => absurd h (by simp)⟩
  · exact (by (go_light; repeat (first | with_reducible assumption | with_reducible exact Below.refl _ _ | (with_reducible refine Below.setCell ?_ ?_ _; rotate_left; (focus first | (simp; done) | (simp; omega) | omega)) | (with_reducible refine Below.alloc ?_ ?_ _; rotate_left; (focus first | (simp; done) | (simp; omega) | omega)) | with_reducible refine Below.drew ?_)))
set_option maxHeartbeats 8000000 in
theorem f72_43 (w : World) :
    Calls Tryd.prog 72 #[.int .i64 43] w fun e w' => TabP ⟨0, 0, 0, 0, 0, 0, [(setI [44], 1, 6000)]⟩ w e w' := by
  go_enter Tryd.func72, Tryd.ntmps72
  go_wp2_with (go_at_call 95; fail)
  refine (manyOf_any [44] _ _ (by decide) (by decide) ?_).mono ?_
  · exact ri1 _ _ _ _  (by simp)
  rintro e w1 ⟨rfl, hb1⟩
  have hz1 := hb1.size
  try simp at hz1
  have B1 : Below w.heap.size w w1 := Below.trans (by (go_light; repeat (first | with_reducible assumption | with_reducible exact Below.refl _ _ | (with_reducible refine Below.setCell ?_ ?_ _; rotate_left; (focus first | (simp; done) | (simp; omega) | omega)) | (with_reducible refine Below.alloc ?_ ?_ _; rotate_left; (focus first | (simp; done) | (simp; omega) | omega)) | with_reducible refine Below.drew ?_))) (hb1.mono (by first | omega | (simp; done) | (simp; omega)))
  have hx1 : w.heap.size < w1.heap.size := by omega
  have Z1 : Z7 w1 (w.heap.size) := ((Z7.start _ _ (w.heap.size) (by simp)).alloc (by simp) _).below hb1 (by first | omega | (simp; done) | (simp; omega))
  clear hb1
  obtain ⟨c0, f0, c1, f1, c2, f2, c3, f3, c4, f4, c5, f5, c6, f6⟩ := Z1
  go_wp2
  refine bodyPost_ret (v := formV ⟨0, 0, 0, 0, 0, 0, [(setI [44], 1, 6000)]⟩ (.slice (some ⟨w1.heap.size, 0, none⟩) 1 1)) (by simp [results, formV, Tryd.results72, go_sem, hx1, c0, f0, c1, f1, c2, f2, c3, f3, c4, f4, c5, f5, c6, f6]) rfl ⟨_, rfl, ?_, ?_⟩
  · refine RPB.rpx (B := w.heap.size) ?_
    exact rp1 _ _ _ _ _ _ _  (by simp) (by first | omega | (simp; done) | (simp; omega))
  · exact (by (go_light; repeat (first | with_reducible assumption | with_reducible exact Below.refl _ _ | (with_reducible refine Below.setCell ?_ ?_ _; rotate_left; (focus first | (simp; done) | (simp; omega) | omega)) | (with_reducible refine Below.alloc ?_ ?_ _; rotate_left; (focus first | (simp; done) | (simp; omega) | omega)) | with_reducible refine Below.drew ?_)))
end Go.Proofs.YtghdjagomdgnfaaDoor
namespace Go.Proofs.YtghdjagomdgnfaaDoor
open Go.ChangeShapes Go.WideShapes Go.ChangeAt Go.RowKit
set_option linter.unusedVariables false
set_option linter.unusedSimpArgs false
set_option maxRecDepth 100000
set_option maxHeartbeats 8000000 in
theorem f72_44 (w : World) :
    Calls Tryd.prog 72 #[.int .i64 44] w fun e w' => TabP ⟨0, 0, 0, 0, 0, 0, [(bits .or .u64 262142 (setI [45]), 1, 6000)]⟩ w e w' := by
  go_enter Tryd.func72, Tryd.ntmps72
  go_wp2_with (go_at_call 76; fail)
  refine (setOf_any [45] _ _ (by decide) (by decide) ?_).mono ?_
  · exact ri1 _ _ _ _  (by simp)
  rintro e w1 ⟨rfl, rfl⟩
  go_wp2
  refine bodyPost_ret (v := formV ⟨0, 0, 0, 0, 0, 0, [(bits .or .u64 262142 (setI [45]), 1, 6000)]⟩ (.slice (some ⟨w.heap.size + 1 + 1, 0, none⟩) 1 1)) (by simp [results, formV, Tryd.results72, go_sem]) rfl ⟨_, rfl, ?_, ?_⟩
  · refine RPB.rpx (B := w.heap.size) ?_
    exact rp1 _ _ _ _ _ _ _ (by simp) (by first | omega | (simp; done) | (simp; omega))
  · exact (by (go_light; repeat (first | with_reducible assumption | with_reducible exact Below.refl _ _ | (with_reducible refine Below.setCell ?_ ?_ _; rotate_left; (focus first | (simp; done) | (simp; omega) | omega)) | (with_reducible refine Below.alloc ?_ ?_ _; rotate_left; (focus first | (simp; done) | (simp; omega) | omega)) | with_reducible refine Below.drew ?_)))
set_option maxHeartbeats 8000000 in
theorem f72_45 (w : World) :
    Calls Tryd.prog 72 #[.int .i64 45] w fun e w' => TabP ⟨0, 0, 0, 0, 0, 0, []⟩ w e w' := by
  go_enter Tryd.func72, Tryd.ntmps72
  go_wp2
  refine bodyPost_ret (v := formV ⟨0, 0, 0, 0, 0, 0, []⟩ (.slice none 0 0)) (by simp [results, formV, Tryd.results72, go_sem]) rfl ⟨_, rfl, ?_, ?_⟩
  · exact ⟨none, 0, rfl, fun h => absurd h (by simp)⟩
  · exact (by (go_light; repeat (first | with_reducible assumption | with_reducible exact Below.refl _ _ | (with_reducible refine Below.setCell ?_ ?_ _; rotate_left; (focus first | (simp; done) | (simp; omega) | omega)) | (with_reducible refine Below.alloc ?_ ?_ _; rotate_left; (focus first | (simp; done) | (simp; omega) | omega)) | with_reducible refine Below.drew ?_)))
set_option maxHeartbeats 8000000 in
theorem f72_46 (w : World) :
    Calls Tryd.prog 72 #[.int .i64 46] w fun e w' => TabP ⟨2, 0, 0, 0, 0, 0, [(setI [47], 1, 6000), (setI [22], 0, 1)]⟩ w e w' := by
  go_enter Tryd.func72, Tryd.ntmps72
  go_wp2_with (go_at_call 95; fail)
  refine (manyOf_any [47] _ _ (by decide) (by decide) ?_).mono ?_
  · exact ri1 _ _ _ _  (by simp)
  rintro e w1 ⟨rfl, hb1⟩
  have hz1 := hb1.size
  try simp at hz1
  have B1 : Below w.heap.size w w1 := Below.trans (by (go_light; repeat (first | with_reducible assumption | with_reducible exact Below.refl _ _ | (with_reducible refine Below.setCell ?_ ?_ _; rotate_left; (focus first | (simp; done) | (simp; omega) | omega)) | (with_reducible refine Below.alloc ?_ ?_ _; rotate_left; (focus first | (simp; done) | (simp; omega) | omega)) | with_reducible refine Below.drew ?_))) (hb1.mono (by first | omega | (simp; done) | (simp; omega)))
  have hx1 : w.heap.size < w1.heap.size := by omega
  have Z1 : Z7 w1 (w.heap.size) := ((Z7.start _ _ (w.heap.size) (by simp)).alloc (by simp) _).below hb1 (by first | omega | (simp; done) | (simp; omega))
  clear hb1
  go_wp2_with (go_at_call 96; fail)
  refine (perhapsOne_any 22 _ (by decide) (by decide)).mono ?_
  rintro e w2 ⟨rfl, hb2⟩
  have hz2 := hb2.size
  try simp at hz2
  have B2 : Below w.heap.size w w2 := Below.trans (by (go_light; repeat (first | with_reducible assumption | with_reducible exact Below.refl _ _ | (with_reducible refine Below.setCell ?_ ?_ _; rotate_left; (focus first | (simp; done) | (simp; omega) | omega)) | (with_reducible refine Below.alloc ?_ ?_ _; rotate_left; (focus first | (simp; done) | (simp; omega) | omega)) | with_reducible refine Below.drew ?_))) (hb2.mono (by first | omega | (simp; done) | (simp; omega)))
  have hx2 : w.heap.size < w2.heap.size := by omega
  have Z2 : Z7 w2 (w.heap.size) := Z1.below hb2 (by omega)
  clear hb2 Z1
  obtain ⟨c0, f0, c1, f1, c2, f2, c3, f3, c4, f4, c5, f5, c6, f6⟩ := Z2
  go_wp2
  refine bodyPost_ret (v := formV ⟨2, 0, 0, 0, 0, 0, [(setI [47], 1, 6000), (setI [22], 0, 1)]⟩ (.slice (some ⟨w2.heap.size, 0, none⟩) 2 2)) (by simp [results, formV, Tryd.results72, go_sem, hx2, c0, f0, c1, f1, c2, f2, c3, f3, c4, f4, c5, f5, c6, f6]) rfl ⟨_, rfl, ?_, ?_⟩
  · refine RPB.rpx (B := w.heap.size) ?_
    exact rp2 _ _ _ _ _ _ _ _ _ _  (by simp) (by first | omega | (simp; done) | (simp; omega))
  · exact (by (go_light; repeat (first | with_reducible assumption | with_reducible exact Below.refl _ _ | (with_reducible refine Below.setCell ?_ ?_ _; rotate_left; (focus first | (simp; done) | (simp; omega) | omega)) | (with_reducible refine Below.alloc ?_ ?_ _; rotate_left; (focus first | (simp; done) | (simp; omega) | omega)) | with_reducible refine Below.drew ?_)))
set_option maxHeartbeats 8000000 in
theorem f72_47 (w : World) :
    Calls Tryd.prog 72 #[.int .i64 47] w fun e w' => TabP ⟨2, 0, 0, 0, 0, 0, [(bits .or .u64 262142 (setI [45]), 1, 1)]⟩ w e w' := by
  go_enter Tryd.func72, Tryd.ntmps72
  go_wp2_with (go_at_call 76; fail)
  refine (setOf_any [45] _ _ (by decide) (by decide) ?_).mono ?_
  · exact ri1 _ _ _ _  (by simp)
  rintro e w1 ⟨rfl, rfl⟩
  go_wp2
  refine bodyPost_ret (v := formV ⟨2, 0, 0, 0, 0, 0, [(bits .or .u64 262142 (setI [45]), 1, 1)]⟩ (.slice (some ⟨w.heap.size + 1 + 1, 0, none⟩) 1 1)) (by simp [results, formV, Tryd.results72, go_sem]) rfl ⟨_, rfl, ?_, ?_⟩
  · refine RPB.rpx (B := w.heap.size) ?_
    exact rp1 _ _ _ _ _ _ _ (by simp) (by first | omega | (simp; done) | (simp; omega))
  · exact (by (go_light; repeat (first | with_reducible assumption | with_reducible exact Below.refl _ _ | (with_reducible refine Below.setCell ?_ ?_ _; rotate_left; (focus first | (simp; done) | (simp; omega) | omega)) | (with_reducible refine Below.alloc ?_ ?_ _; rotate_left; (focus first | (simp; done) | (simp; omega) | omega)) | with_reducible refine Below.drew ?_)))
end Go.Proofs.YtghdjagomdgnfaaDoor
namespace Go.Proofs.YtghdjagomdgnfaaDoor
open Go.ChangeShapes Go.WideShapes Go.ChangeAt Go.RowKit
set_option linter.unusedVariables false
set_option linter.unusedSimpArgs false
set_option maxRecDepth 100000
set_option maxHeartbeats 8000000 in
theorem f72_48 (w : World) :
    Calls Tryd.prog 72 #[.int .i64 48] w fun e w' => TabP ⟨2, 0, 0, 0, 0, 0, [(setI [22], 0, 1)]⟩ w e w' := by
  go_enter Tryd.func72, Tryd.ntmps72
  go_wp2_with (go_at_call 96; fail)
  refine (perhapsOne_any 22 _ (by decide) (by decide)).mono ?_
  rintro e w1 ⟨rfl, hb1⟩
  have hz1 := hb1.size
  try simp at hz1
  have B1 : Below w.heap.size w w1 := Below.trans (by (go_light; repeat (first | with_reducible assumption | with_reducible exact Below.refl _ _ | (with_reducible refine Below.setCell ?_ ?_ _; rotate_left; (focus first | (simp; done) | (simp; omega) | omega)) | (with_reducible refine Below.alloc ?_ ?_ _; rotate_left; (focus first | (simp; done) | (simp; omega) | omega)) | with_reducible refine Below.drew ?_))) (hb1.mono (by first | omega | (simp; done) | (simp; omega)))
  have hx1 : w.heap.size < w1.heap.size := by omega
  have Z1 : Z7 w1 (w.heap.size) := (Z7.start _ _ (w.heap.size) (by simp)).below hb1 (by simp)
  clear hb1
  obtain ⟨c0, f0, c1, f1, c2, f2, c3, f3, c4, f4, c5, f5, c6, f6⟩ := Z1
  go_wp2
  refine bodyPost_ret (v := formV ⟨2, 0, 0, 0, 0, 0, [(setI [22], 0, 1)]⟩ (.slice (some ⟨w1.heap.size, 0, none⟩) 1 1)) (by simp [results, formV, Tryd.results72, go_sem, hx1, c0, f0, c1, f1, c2, f2, c3, f3, c4, f4, c5, f5, c6, f6]) rfl ⟨_, rfl, ?_, ?_⟩
  · refine RPB.rpx (B := w.heap.size) ?_
    exact rp1 _ _ _ _ _ _ _  (by simp) (by first | omega | (simp; done) | (simp; omega))
  · exact (by (go_light; repeat (first | with_reducible assumption | with_reducible exact Below.refl _ _ | (with_reducible refine Below.setCell ?_ ?_ _; rotate_left; (focus first | (simp; done) | (simp; omega) | omega)) | (with_reducible refine Below.alloc ?_ ?_ _; rotate_left; (focus first | (simp; done) | (simp; omega) | omega)) | with_reducible refine Below.drew ?_)))
set_option maxHeartbeats 8000000 in
theorem f72_49 (w : World) :
    Calls Tryd.prog 72 #[.int .i64 49] w fun e w' => TabP ⟨2, 0, 0, 0, 0, 0, [(setI [50, 52, 53, 54], 1, 6000)]⟩ w e w' := by
  go_enter Tryd.func72, Tryd.ntmps72
  go_wp2_with (go_at_call 95; fail)
  refine (manyOf_any [50, 52, 53, 54] _ _ (by decide) (by decide) ?_).mono ?_
  · exact ri4 _ _ _ _ _ _ _  (by simp)
  rintro e w1 ⟨rfl, hb1⟩
  have hz1 := hb1.size
  try simp at hz1
  have B1 : Below w.heap.size w w1 := Below.trans (by (go_light; repeat (first | with_reducible assumption | with_reducible exact Below.refl _ _ | (with_reducible refine Below.setCell ?_ ?_ _; rotate_left; (focus first | (simp; done) | (simp; omega) | omega)) | (with_reducible refine Below.alloc ?_ ?_ _; rotate_left; (focus first | (simp; done) | (simp; omega) | omega)) | with_reducible refine Below.drew ?_))) (hb1.mono (by first | omega | (simp; done) | (simp; omega)))
  have hx1 : w.heap.size < w1.heap.size := by omega
  have Z1 : Z7 w1 (w.heap.size) := ((Z7.start _ _ (w.heap.size) (by simp)).alloc (by simp) _).below hb1 (by first | omega | (simp; done) | (simp; omega))
  clear hb1
  obtain ⟨c0, f0, c1, f1, c2, f2, c3, f3, c4, f4, c5, f5, c6, f6⟩ := Z1
  go_wp2
  refine bodyPost_ret (v := formV ⟨2, 0, 0, 0, 0, 0, [(setI [50, 52, 53, 54], 1, 6000)]⟩ (.slice (some ⟨w1.heap.size, 0, none⟩) 1 1)) (by simp [results, formV, Tryd.results72, go_sem, hx1, c0, f0, c1, f1, c2, f2, c3, f3, c4, f4, c5, f5, c6, f6]) rfl ⟨_, rfl, ?_, ?_⟩
  · refine RPB.rpx (B := w.heap.size) ?_
    exact rp1 _ _ _ _ _ _ _  (by simp) (by first | omega | (simp; done) | (simp; omega))
  · exact (by (go_light; repeat (first | with_reducible assumption | with_reducible exact Below.refl _ _ | (with_reducible refine Below.setCell ?_ ?_ _; rotate_left; (focus first | (simp; done) | (simp; omega) | omega)) | (with_reducible refine Below.alloc ?_ ?_ _; rotate_left; (focus first | (simp; done) | (simp; omega) | omega)) | with_reducible refine Below.drew ?_)))
set_option maxHeartbeats 8000000 in
theorem f72_50 (w : World) :
    Calls Tryd.prog 72 #[.int .i64 50] w fun e w' => TabP ⟨2, 0, 1, 5, 0, 7, [(setI [51, 52], 0, 6000)]⟩ w e w' := by
  go_enter Tryd.func72, Tryd.ntmps72
  go_wp2_with (go_at_call 76; fail)
  refine (setOf_any [51, 52] _ _ (by decide) (by decide) ?_).mono ?_
  · exact ri2 _ _ _ _ _  (by simp)
  rintro e w1 ⟨rfl, rfl⟩
  go_wp2
  refine bodyPost_ret (v := formV ⟨2, 0, 1, 5, 0, 7, [(setI [51, 52], 0, 6000)]⟩ (.slice (some ⟨w.heap.size + 1 + 1, 0, none⟩) 1 1)) (by simp [results, formV, Tryd.results72, go_sem]) rfl ⟨_, rfl, ?_, ?_⟩
  · refine RPB.rpx (B := w.heap.size) ?_
    exact rp1 _ _ _ _ _ _ _ (by simp) (by first | omega | (simp; done) | (simp; omega))
  · exact (by (go_light; repeat (first | with_reducible assumption | with_reducible exact Below.refl _ _ | (with_reducible refine Below.setCell ?_ ?_ _; rotate_left; (focus first | (simp; done) | (simp; omega) | omega)) | (with_reducible refine Below.alloc ?_ ?_ _; rotate_left; (focus first | (simp; done) | (simp; omega) | omega)) | with_reducible refine Below.drew ?_)))
set_option maxHeartbeats 8000000 in
theorem f72_51 (w : World) :
    Calls Tryd.prog 72 #[.int .i64 51] w fun e w' => TabP ⟨0, 0, 0, 0, 0, 0, [(262142, 1, 1)]⟩ w e w' := by
  go_enter Tryd.func72, Tryd.ntmps72
  go_wp2_with (go_at_call 93; fail)
  refine (expressions_any 1 1 _).mono ?_
  rintro e w1 ⟨rfl, hb1⟩
  have hz1 := hb1.size
  try simp at hz1
  have B1 : Below w.heap.size w w1 := Below.trans (by (go_light; repeat (first | with_reducible assumption | with_reducible exact Below.refl _ _ | (with_reducible refine Below.setCell ?_ ?_ _; rotate_left; (focus first | (simp; done) | (simp; omega) | omega)) | (with_reducible refine Below.alloc ?_ ?_ _; rotate_left; (focus first | (simp; done) | (simp; omega) | omega)) | with_reducible refine Below.drew ?_))) (hb1.mono (by first | omega | (simp; done) | (simp; omega)))
  have hx1 : w.heap.size < w1.heap.size := by omega
  have Z1 : Z7 w1 (w.heap.size) := (Z7.start _ _ (w.heap.size) (by simp)).below hb1 (by simp)
  clear hb1
  obtain ⟨c0, f0, c1, f1, c2, f2, c3, f3, c4, f4, c5, f5, c6, f6⟩ := Z1
  go_wp2
  refine bodyPost_ret (v := formV ⟨0, 0, 0, 0, 0, 0, [(262142, 1, 1)]⟩ (.slice (some ⟨w1.heap.size, 0, none⟩) 1 1)) (by simp [results, formV, Tryd.results72, go_sem, hx1, c0, f0, c1, f1, c2, f2, c3, f3, c4, f4, c5, f5, c6, f6]) rfl ⟨_, rfl, ?_, ?_⟩
  · refine RPB.rpx (B := w.heap.size) ?_
    exact rp1 _ _ _ _ _ _ _  (by simp) (by first | omega | (simp; done) | (simp; omega))
  · exact (by (go_light; repeat (first | with_reducible assumption | with_reducible exact Below.refl _ _ | (with_reducible refine Below.setCell ?_ ?_ _; rotate_left; (focus first | (simp; done) | (simp; omega) | omega)) | (with_reducible refine Below.alloc ?_ ?_ _; rotate_left; (focus first | (simp; done) | (simp; omega) | omega)) | with_reducible refine Below.drew ?_)))
end Go.Proofs.YtghdjagomdgnfaaDoor
namespace Go.Proofs.YtghdjagomdgnfaaDoor
open Go.ChangeShapes Go.WideShapes Go.ChangeAt Go.RowKit
set_option linter.unusedVariables false
set_option linter.unusedSimpArgs false
set_option maxRecDepth 100000
set_option maxHeartbeats 8000000 in
theorem f72_53 (w : World) :
    Calls Tryd.prog 72 #[.int .i64 53] w fun e w' => TabP ⟨0, 0, 0, 0, 0, 0, [(setI [42], 1, 6000)]⟩ w e w' := by
  go_enter Tryd.func72, Tryd.ntmps72
  go_wp2_with (go_at_call 95; fail)
  refine (manyOf_any [42] _ _ (by decide) (by decide) ?_).mono ?_
  · exact ri1 _ _ _ _  (by simp)
  rintro e w1 ⟨rfl, hb1⟩
  have hz1 := hb1.size
  try simp at hz1
  have B1 : Below w.heap.size w w1 := Below.trans (by (go_light; repeat (first | with_reducible assumption | with_reducible exact Below.refl _ _ | (with_reducible refine Below.setCell ?_ ?_ _; rotate_left; (focus first | (simp; done) | (simp; omega) | omega)) | (with_reducible refine Below.alloc ?_ ?_ _; rotate_left; (focus first | (simp; done) | (simp; omega) | omega)) | with_reducible refine Below.drew ?_))) (hb1.mono (by first | omega | (simp; done) | (simp; omega)))
  have hx1 : w.heap.size < w1.heap.size := by omega
  have Z1 : Z7 w1 (w.heap.size) := ((Z7.start _ _ (w.heap.size) (by simp)).alloc (by simp) _).below hb1 (by first | omega | (simp; done) | (simp; omega))
  clear hb1
  obtain ⟨c0, f0, c1, f1, c2, f2, c3, f3, c4, f4, c5, f5, c6, f6⟩ := Z1
  go_wp2
  refine bodyPost_ret (v := formV ⟨0, 0, 0, 0, 0, 0, [(setI [42], 1, 6000)]⟩ (.slice (some ⟨w1.heap.size, 0, none⟩) 1 1)) (by simp [results, formV, Tryd.results72, go_sem, hx1, c0, f0, c1, f1, c2, f2, c3, f3, c4, f4, c5, f5, c6, f6]) rfl ⟨_, rfl, ?_, ?_⟩
  · refine RPB.rpx (B := w.heap.size) ?_
    exact rp1 _ _ _ _ _ _ _  (by simp) (by first | omega | (simp; done) | (simp; omega))
  · exact (by (go_light; repeat (first | with_reducible assumption | with_reducible exact Below.refl _ _ | (with_reducible refine Below.setCell ?_ ?_ _; rotate_left; (focus first | (simp; done) | (simp; omega) | omega)) | (with_reducible refine Below.alloc ?_ ?_ _; rotate_left; (focus first | (simp; done) | (simp; omega) | omega)) | with_reducible refine Below.drew ?_)))
set_option maxHeartbeats 8000000 in
theorem f72_54 (w : World) :
    Calls Tryd.prog 72 #[.int .i64 54] w fun e w' => TabP ⟨0, 0, 0, 0, 0, 0, [(setI [42], 1, 6000)]⟩ w e w' := by
  go_enter Tryd.func72, Tryd.ntmps72
  go_wp2_with (go_at_call 95; fail)
  refine (manyOf_any [42] _ _ (by decide) (by decide) ?_).mono ?_
  · exact ri1 _ _ _ _  (by simp)
  rintro e w1 ⟨rfl, hb1⟩
  have hz1 := hb1.size
  try simp at hz1
  have B1 : Below w.heap.size w w1 := Below.trans (by (go_light; repeat (first | with_reducible assumption | with_reducible exact Below.refl _ _ | (with_reducible refine Below.setCell ?_ ?_ _; rotate_left; (focus first | (simp; done) | (simp; omega) | omega)) | (with_reducible refine Below.alloc ?_ ?_ _; rotate_left; (focus first | (simp; done) | (simp; omega) | omega)) | with_reducible refine Below.drew ?_))) (hb1.mono (by first | omega | (simp; done) | (simp; omega)))
  have hx1 : w.heap.size < w1.heap.size := by omega
  have Z1 : Z7 w1 (w.heap.size) := ((Z7.start _ _ (w.heap.size) (by simp)).alloc (by simp) _).below hb1 (by first | omega | (simp; done) | (simp; omega))
  clear hb1
  obtain ⟨c0, f0, c1, f1, c2, f2, c3, f3, c4, f4, c5, f5, c6, f6⟩ := Z1
  go_wp2
  refine bodyPost_ret (v := formV ⟨0, 0, 0, 0, 0, 0, [(setI [42], 1, 6000)]⟩ (.slice (some ⟨w1.heap.size, 0, none⟩) 1 1)) (by simp [results, formV, Tryd.results72, go_sem, hx1, c0, f0, c1, f1, c2, f2, c3, f3, c4, f4, c5, f5, c6, f6]) rfl ⟨_, rfl, ?_, ?_⟩
  · refine RPB.rpx (B := w.heap.size) ?_
    exact rp1 _ _ _ _ _ _ _  (by simp) (by first | omega | (simp; done) | (simp; omega))
  · exact (by (go_light; repeat (first | with_reducible assumption | with_reducible exact Below.refl _ _ | (with_reducible refine Below.setCell ?_ ?_ _; rotate_left; (focus first | (simp; done) | (simp; omega) | omega)) | (with_reducible refine Below.alloc ?_ ?_ _; rotate_left; (focus first | (simp; done) | (simp; omega) | omega)) | with_reducible refine Below.drew ?_)))
set_option maxHeartbeats 8000000 in
theorem f72_52 (w : World) :
    Calls Tryd.prog 72 #[.int .i64 52] w fun e w' => TabP ⟨0, 0, 0, 0, 0, 0, [(262142, 1, 1)]⟩ w e w' := by
  go_enter Tryd.func72, Tryd.ntmps72
  go_wp2_with (go_at_call 93; fail)
  refine (expressions_any 1 1 _).mono ?_
  rintro e w1 ⟨rfl, hb1⟩
  have hz1 := hb1.size
  try simp at hz1
  have B1 : Below w.heap.size w w1 := Below.trans (by (go_light; repeat (first | with_reducible assumption | with_reducible exact Below.refl _ _ | (with_reducible refine Below.setCell ?_ ?_ _; rotate_left; (focus first | (simp; done) | (simp; omega) | omega)) | (with_reducible refine Below.alloc ?_ ?_ _; rotate_left; (focus first | (simp; done) | (simp; omega) | omega)) | with_reducible refine Below.drew ?_))) (hb1.mono (by first | omega | (simp; done) | (simp; omega)))
  have hx1 : w.heap.size < w1.heap.size := by omega
  have Z1 : Z7 w1 (w.heap.size) := (Z7.start _ _ (w.heap.size) (by simp)).below hb1 (by simp)
  clear hb1
  obtain ⟨c0, f0, c1, f1, c2, f2, c3, f3, c4, f4, c5, f5, c6, f6⟩ := Z1
  go_wp2
  refine bodyPost_ret (v := formV ⟨0, 0, 0, 0, 0, 0, [(262142, 1, 1)]⟩ (.slice (some ⟨w1.heap.size, 0, none⟩) 1 1)) (by simp [results, formV, Tryd.results72, go_sem, hx1, c0, f0, c1, f1, c2, f2, c3, f3, c4, f4, c5, f5, c6, f6]) rfl ⟨_, rfl, ?_, ?_⟩
  · refine RPB.rpx (B := w.heap.size) ?_
    exact rp1 _ _ _ _ _ _ _  (by simp) (by first | omega | (simp; done) | (simp; omega))
  · exact (by (go_light; repeat (first | with_reducible assumption | with_reducible exact Below.refl _ _ | (with_reducible refine Below.setCell ?_ ?_ _; rotate_left; (focus first | (simp; done) | (simp; omega) | omega)) | (with_reducible refine Below.alloc ?_ ?_ _; rotate_left; (focus first | (simp; done) | (simp; omega) | omega)) | with_reducible refine Below.drew ?_)))
end Go.Proofs.YtghdjagomdgnfaaDoor
namespace Go.Proofs.YtghdjagomdgnfaaDoor
open Go.ChangeShapes Go.WideShapes Go.ChangeAt Go.RowKit
set_option linter.unusedVariables false
set_option linter.unusedSimpArgs false
set_option maxRecDepth 100000
set_option maxHeartbeats 8000000 in
theorem f73_55 (w : World) :
    Calls Tryd.prog 73 #[.int .i64 55] w fun e w' => TabP ⟨2, 2, 0, 1, 0, 0, [(setI [42], 1, 6000)]⟩ w e w' := by
  go_enter Tryd.func73, Tryd.ntmps73
  go_wp2_with (go_at_call 95; fail)
  refine (manyOf_any [42] _ _ (by decide) (by decide) ?_).mono ?_
  · exact ri1 _ _ _ _  (by simp)
  rintro e w1 ⟨rfl, hb1⟩
  have hz1 := hb1.size
  try simp at hz1
  have B1 : Below w.heap.size w w1 := Below.trans (by (go_light; repeat (first | with_reducible assumption | with_reducible exact Below.refl _ _ | (with_reducible refine Below.setCell ?_ ?_ _; rotate_left; (focus first | (simp; done) | (simp; omega) | omega)) | (with_reducible refine Below.alloc ?_ ?_ _; rotate_left; (focus first | (simp; done) | (simp; omega) | omega)) | with_reducible refine Below.drew ?_))) (hb1.mono (by first | omega | (simp; done) | (simp; omega)))
  have hx1 : w.heap.size < w1.heap.size := by omega
  have Z1 : Z7 w1 (w.heap.size) := ((Z7.start _ _ (w.heap.size) (by simp)).alloc (by simp) _).below hb1 (by first | omega | (simp; done) | (simp; omega))
  clear hb1
  obtain ⟨c0, f0, c1, f1, c2, f2, c3, f3, c4, f4, c5, f5, c6, f6⟩ := Z1
  go_wp2
  refine bodyPost_ret (v := formV ⟨2, 2, 0, 1, 0, 0, [(setI [42], 1, 6000)]⟩ (.slice (some ⟨w1.heap.size, 0, none⟩) 1 1)) (by simp [results, formV, Tryd.results73, go_sem, hx1, c0, f0, c1, f1, c2, f2, c3, f3, c4, f4, c5, f5, c6, f6]) rfl ⟨_, rfl, ?_, ?_⟩
  · refine RPB.rpx (B := w.heap.size) ?_
    exact rp1 _ _ _ _ _ _ _  (by simp) (by first | omega | (simp; done) | (simp; omega))
  · exact (by (go_light; repeat (first | with_reducible assumption | with_reducible exact Below.refl _ _ | (with_reducible refine Below.setCell ?_ ?_ _; rotate_left; (focus first | (simp; done) | (simp; omega) | omega)) | (with_reducible refine Below.alloc ?_ ?_ _; rotate_left; (focus first | (simp; done) | (simp; omega) | omega)) | with_reducible refine Below.drew ?_)))
set_option maxHeartbeats 8000000 in
theorem f73_56 (w : World) :
    Calls Tryd.prog 73 #[.int .i64 56] w fun e w' => TabP ⟨2, 0, 0, 0, 0, 0, []⟩ w e w' := by
  go_enter Tryd.func73, Tryd.ntmps73
  go_wp2
  refine bodyPost_ret (v := formV ⟨2, 0, 0, 0, 0, 0, []⟩ (.slice none 0 0)) (by simp [results, formV, Tryd.results73, go_sem]) rfl ⟨_, rfl, ?_, ?_⟩
  · exact ⟨none, 0, rfl, fun h => absurd h (by simp)⟩
  · exact (by (go_light; repeat (first | with_reducible assumption | with_reducible exact Below.refl _ _ | (with_reducible refine Below.setCell ?_ ?_ _; rotate_left; (focus first | (simp; done) | (simp; omega) | omega)) | (with_reducible refine Below.alloc ?_ ?_ _; rotate_left; (focus first | (simp; done) | (simp; omega) | omega)) | with_reducible refine Below.drew ?_)))
set_option maxHeartbeats 8000000 in
theorem f73_57 (w : World) :
    Calls Tryd.prog 73 #[.int .i64 57] w fun e w' => TabP ⟨2, 0, 0, 0, 0, 0, []⟩ w e w' := by
  go_enter Tryd.func73, Tryd.ntmps73
  go_wp2
  refine bodyPost_ret (v := formV ⟨2, 0, 0, 0, 0, 0, []⟩ (.slice none 0 0)) (by simp [results, formV, Tryd.results73, go_sem]) rfl ⟨_, rfl, ?_, ?_⟩
  · exact ⟨none, 0, rfl, fun h => absurd h (by simp)⟩
  · exact (by (go_light; repeat (first | with_reducible assumption | with_reducible exact Below.refl _ _ | (with_reducible refine Below.setCell ?_ ?_ _; rotate_left; (focus first | (simp; done) | (simp; omega) | omega)) | (with_reducible refine Below.alloc ?_ ?_ _; rotate_left; (focus first | (simp; done) | (simp; omega) | omega)) | with_reducible refine Below.drew ?_)))
set_option maxHeartbeats 8000000 in
theorem f73_58 (w : World) :
    Calls Tryd.prog 73 #[.int .i64 58] w fun e w' => TabP ⟨0, 0, 0, 2, 0, 0, []⟩ w e w' := by
  go_enter Tryd.func73, Tryd.ntmps73
  go_wp2
  refine bodyPost_ret (v := formV ⟨0, 0, 0, 2, 0, 0, []⟩ (.slice none 0 0)) (by simp [results, formV, Tryd.results73, go_sem]) rfl ⟨_, rfl, ?_, ?_⟩
  · exact ⟨none, 0, rfl, fun h => absurd h (by simp)⟩
  · exact (by (go_light; repeat (first | with_reducible assumption | with_reducible exact Below.refl _ _ | (with_reducible refine Below.setCell ?_ ?_ _; rotate_left; (focus first | (simp; done) | (simp; omega) | omega)) | (with_reducible refine Below.alloc ?_ ?_ _; rotate_left; (focus first | (simp; done) | (simp; omega) | omega)) | with_reducible refine Below.drew ?_)))
end Go.Proofs.YtghdjagomdgnfaaDoor
namespace Go.Proofs.YtghdjagomdgnfaaDoor
open Go.ChangeShapes Go.WideShapes Go.ChangeAt Go.RowKit
set_option linter.unusedVariables false
set_option linter.unusedSimpArgs false
set_option maxRecDepth 100000
set_option maxHeartbeats 8000000 in
theorem f73_61 (w : World) :
    Calls Tryd.prog 73 #[.int .i64 61] w fun e w' => TabP ⟨2, 0, 0, 0, 0, 0, []⟩ w e w' := by
  go_enter Tryd.func73, Tryd.ntmps73
  go_wp2
  refine bodyPost_ret (v := formV ⟨2, 0, 0, 0, 0, 0, []⟩ (.slice none 0 0)) (by simp [results, formV, Tryd.results73, go_sem]) rfl ⟨_, rfl, ?_, ?_⟩
  · exact ⟨none, 0, rfl, fun h => absurd h (by simp)⟩
  · exact (by (go_light; repeat (first | with_reducible assumption | with_reducible exact Below.refl _ _ | (with_reducible refine Below.setCell ?_ ?_ _; rotate_left; (focus first | (simp; done) | (simp; omega) | omega)) | (with_reducible refine Below.alloc ?_ ?_ _; rotate_left; (focus first | (simp; done) | (simp; omega) | omega)) | with_reducible refine Below.drew ?_)))
set_option maxHeartbeats 8000000 in
theorem f73_62 (w : World) :
    Calls Tryd.prog 73 #[.int .i64 62] w fun e w' => TabP ⟨2, 0, 0, 0, 0, 0, []⟩ w e w' := by
  go_enter Tryd.func73, Tryd.ntmps73
  go_wp2
  refine bodyPost_ret (v := formV ⟨2, 0, 0, 0, 0, 0, []⟩ (.slice none 0 0)) (by simp [results, formV, Tryd.results73, go_sem]) rfl ⟨_, rfl, ?_, ?_⟩
  · exact ⟨none, 0, rfl, fun h => absurd h (by simp)⟩
  · exact (by (go_light; repeat (first | with_reducible assumption | with_reducible exact Below.refl _ _ | (with_reducible refine Below.setCell ?_ ?_ _; rotate_left; (focus first | (simp; done) | (simp; omega) | omega)) | (with_reducible refine Below.alloc ?_ ?_ _; rotate_left; (focus first | (simp; done) | (simp; omega) | omega)) | with_reducible refine Below.drew ?_)))
set_option maxHeartbeats 8000000 in
theorem f73_60 (w : World) :
    Calls Tryd.prog 73 #[.int .i64 60] w fun e w' => TabP ⟨1, 0, 0, 0, 0, 0, []⟩ w e w' := by
  go_enter Tryd.func73, Tryd.ntmps73
  go_wp2
  refine bodyPost_ret (v := formV ⟨1, 0, 0, 0, 0, 0, []⟩ (.slice none 0 0)) (by simp [results, formV, Tryd.results73, go_sem]) rfl ⟨_, rfl, ?_, ?_⟩
  · exact ⟨none, 0, rfl, fun h => absurd h (by simp)⟩
  · exact (by (go_light; repeat (first | with_reducible assumption | with_reducible exact Below.refl _ _ | (with_reducible refine Below.setCell ?_ ?_ _; rotate_left; (focus first | (simp; done) | (simp; omega) | omega)) | (with_reducible refine Below.alloc ?_ ?_ _; rotate_left; (focus first | (simp; done) | (simp; omega) | omega)) | with_reducible refine Below.drew ?_)))
set_option maxHeartbeats 8000000 in
theorem f73_59 (w : World) :
    Calls Tryd.prog 73 #[.int .i64 59] w fun e w' => TabP ⟨0, 0, 0, 0, 0, 0, []⟩ w e w' := by
  go_enter Tryd.func73, Tryd.ntmps73
  go_wp2
  refine bodyPost_ret (v := formV ⟨0, 0, 0, 0, 0, 0, []⟩ (.slice none 0 0)) (by simp [results, formV, Tryd.results73, go_sem]) rfl ⟨_, rfl, ?_, ?_⟩
  · exact ⟨none, 0, rfl, fun h => absurd h (by simp)⟩
  · exact (by (go_light; repeat (first | with_reducible assumption | with_reducible exact Below.refl _ _ | (with_reducible refine Below.setCell ?_ ?_ _; rotate_left; (focus first | (simp; done) | (simp; omega) | omega)) | (with_reducible refine Below.alloc ?_ ?_ _; rotate_left; (focus first | (simp; done) | (simp; omega) | omega)) | with_reducible refine Below.drew ?_)))
end Go.Proofs.YtghdjagomdgnfaaDoor
namespace Go.Proofs.YtghdjagomdgnfaaDoor
open Go.ChangeShapes Go.WideShapes Go.ChangeAt Go.RowKit
set_option linter.unusedVariables false
set_option linter.unusedSimpArgs false
set_option maxRecDepth 100000
set_option maxHeartbeats 8000000 in
theorem f73_63 (w : World) :
    Calls Tryd.prog 73 #[.int .i64 63] w fun e w' => TabP ⟨0, 0, 0, 0, 0, 0, [(setI [27], 1, 1)]⟩ w e w' := by
  go_enter Tryd.func73, Tryd.ntmps73
  go_wp2_with (go_at_call 94; fail)
  refine (oneOf_any [27] _ _ (by decide) (by decide) ?_).mono ?_
  · exact ri1 _ _ _ _  (by simp)
  rintro e w1 ⟨rfl, hb1⟩
  have hz1 := hb1.size
  try simp at hz1
  have B1 : Below w.heap.size w w1 := Below.trans (by (go_light; repeat (first | with_reducible assumption | with_reducible exact Below.refl _ _ | (with_reducible refine Below.setCell ?_ ?_ _; rotate_left; (focus first | (simp; done) | (simp; omega) | omega)) | (with_reducible refine Below.alloc ?_ ?_ _; rotate_left; (focus first | (simp; done) | (simp; omega) | omega)) | with_reducible refine Below.drew ?_))) (hb1.mono (by first | omega | (simp; done) | (simp; omega)))
  have hx1 : w.heap.size < w1.heap.size := by omega
  have Z1 : Z7 w1 (w.heap.size) := ((Z7.start _ _ (w.heap.size) (by simp)).alloc (by simp) _).below hb1 (by first | omega | (simp; done) | (simp; omega))
  clear hb1
  obtain ⟨c0, f0, c1, f1, c2, f2, c3, f3, c4, f4, c5, f5, c6, f6⟩ := Z1
  go_wp2
  refine bodyPost_ret (v := formV ⟨0, 0, 0, 0, 0, 0, [(setI [27], 1, 1)]⟩ (.slice (some ⟨w1.heap.size, 0, none⟩) 1 1)) (by simp [results, formV, Tryd.results73, go_sem, hx1, c0, f0, c1, f1, c2, f2, c3, f3, c4, f4, c5, f5, c6, f6]) rfl ⟨_, rfl, ?_, ?_⟩
  · refine RPB.rpx (B := w.heap.size) ?_
    exact rp1 _ _ _ _ _ _ _  (by simp) (by first | omega | (simp; done) | (simp; omega))
  · exact (by (go_light; repeat (first | with_reducible assumption | with_reducible exact Below.refl _ _ | (with_reducible refine Below.setCell ?_ ?_ _; rotate_left; (focus first | (simp; done) | (simp; omega) | omega)) | (with_reducible refine Below.alloc ?_ ?_ _; rotate_left; (focus first | (simp; done) | (simp; omega) | omega)) | with_reducible refine Below.drew ?_)))
set_option maxHeartbeats 8000000 in
theorem f73_64 (w : World) :
    Calls Tryd.prog 73 #[.int .i64 64] w fun e w' => TabP ⟨0, 0, 0, 0, 0, 0, []⟩ w e w' := by
  go_enter Tryd.func73, Tryd.ntmps73
  go_wp2
  refine bodyPost_ret (v := formV ⟨0, 0, 0, 0, 0, 0, []⟩ (.slice none 0 0)) (by simp [results, formV, Tryd.results73, go_sem]) rfl ⟨_, rfl, ?_, ?_⟩
  · exact ⟨none, 0, rfl, fun h => absurd h (by simp)⟩
  · exact (by (go_light; repeat (first | with_reducible assumption | with_reducible exact Below.refl _ _ | (with_reducible refine Below.setCell ?_ ?_ _; rotate_left; (focus first | (simp; done) | (simp; omega) | omega)) | (with_reducible refine Below.alloc ?_ ?_ _; rotate_left; (focus first | (simp; done) | (simp; omega) | omega)) | with_reducible refine Below.drew ?_)))
end Go.Proofs.YtghdjagomdgnfaaDoor
