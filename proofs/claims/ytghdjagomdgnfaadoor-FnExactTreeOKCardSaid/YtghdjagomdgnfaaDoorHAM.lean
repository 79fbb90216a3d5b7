import Derived.Test.YtghdjagomdgnfaaDoorHAI
import Derived.Test.YtghdjagomdgnfaaDoorHAF
import Derived.Test.YtghdjagomdgnfaaDoorHAG
import Derived.OwnWalk
import Derived.Test.YtghdjagomdgnfaaDoorHAJ
import Derived.Test.YtghdjagomdgnfaaDoorHAK
import Derived.Test.YtghdjagomdgnfaaDoorHAL
namespace Go.Proofs.YtghdjagomdgnfaaDoor
open Go.ChangeShapes Go.WideShapes Go.ChangeAt Go.RowKit
set_option linter.unusedVariables false
set_option linter.unusedSimpArgs false
set_option maxRecDepth 100000
/-- A form for no operation. -/
def noForm : FD := ⟨0, 0, 0, 0, 0, 0, []⟩
set_option maxHeartbeats 8000000 in
theorem formOf_none (t : Nd) (ka : Option Addr) (kl kc : Nat) (w : World) (h0 : (decide (1 ≤ t.op) && decide (t.op ≤ 17)) = false) (h1 : (decide (18 ≤ t.op) && decide (t.op ≤ 33)) = false) (h2 : (decide (40 ≤ t.op) && decide (t.op ≤ 54)) = false) (h3 : (decide (55 ≤ t.op) && decide (t.op ≤ 64)) = false) :
    Calls Tryd.prog 55 #[ndV t (.slice ka kl kc)] w fun e w' => FormP noForm false w e w' := by
  obtain ⟨op, name, qual, n, m, vk, vn, vs, kids, pos⟩ := t
  simp only [ndV] at *
  go_enter Tryd.func55, Tryd.ntmps55
  go_wp2_with (go_at_call 29; refine (within_any _ _ _ _).mono ?_; rintro e w1 ⟨rfl, rfl⟩; first | rw [h0] | rw [h1] | rw [h2] | rw [h3])
  refine bodyPost_ret (v := .tuple #[formV noForm (.slice none 0 0), .bool false]) (by simp [results, formV, noForm, Tryd.results55, go_sem]) rfl ⟨_, rfl, ?_, ?_⟩
  · exact ⟨none, 0, rfl, fun h => absurd h (by simp [noForm])⟩
  · exact (by (go_light; repeat (first | with_reducible assumption | with_reducible exact Below.refl _ _ | (with_reducible refine Below.setCell ?_ ?_ _; rotate_left; (focus first | (simp; done) | (simp; omega) | omega)) | (with_reducible refine Below.alloc ?_ ?_ _; rotate_left; (focus first | (simp; done) | (simp; omega) | omega)) | with_reducible refine Below.drew ?_)))
end Go.Proofs.YtghdjagomdgnfaaDoor
namespace Go.Proofs.YtghdjagomdgnfaaDoor
open Go.ChangeShapes Go.WideShapes Go.ChangeAt Go.RowKit
set_option linter.unusedVariables false
set_option linter.unusedSimpArgs false
set_option maxRecDepth 100000
theorem RPX.mono {B C : Nat} {w : World} {v : Value} {ps : List (Int × Int × Int)} (h : RPX B w v ps) (hc : C ≤ B) : RPX C w v ps := by
  obtain ⟨a, cap, rfl, h2⟩ := h
  exact ⟨a, cap, rfl, fun hp => let ⟨g, o, ha, hb, hg, hc'⟩ := h2 hp; ⟨g, o, ha, Nat.le_trans hc hb, hg, hc'⟩⟩
theorem three_at (w : World) (m : Nat) (hm : w.heap.size = m) (x y z : Value) (t : TypeId) : ∀ j u, [x, y, z][j]? = some u → (w.alloc (.cells #[x, y, z] t)).cell? ((⟨m, 0, none⟩ : Addr).add j) = some u := by
  subst hm
  intro j u hj
  match j, hj with
  | 0, hj => simp at hj; subst hj; simp [Addr.add]
  | 1, hj => simp at hj; subst hj; simp [Addr.add]
  | 2, hj => simp at hj; subst hj; simp [Addr.add]
theorem hid_mk {p : Prop} (h : p) : Hid p := h
theorem own_some {w : World} {b e z n : Nat} {v : Value} {xs : List Value} (h : w.ownsRow b e z v n xs) (hn : n ≠ 0) : ∃ g cap, v = .slice (some ⟨g, 0, none⟩) n cap := by
  rcases h.2 with ⟨_, h0⟩ | ⟨g, cap, cur, rfl, _⟩
  · exact absurd h0 hn
  · exact ⟨g, cap, rfl⟩
theorem info102 : (Tryd.prog.info? 102).map (fun i => (i.zero, i.size, i.bytes)) = some (some (.agg #[.int .u64 0, .int .i64 0, .int .i64 0]), 3, 24) := by kernel_rfl
set_option maxHeartbeats 8000000 in
theorem f71_33a (t : Nd) (ka : Option Addr) (kl kc : Nat) (w : World) (hop : t.op = 33) (hn : t.n = 3) :
    Calls Tryd.prog 71 #[ndV t (.slice ka kl kc)] w fun e w' => TabP ⟨0, 0, 1, 3, 0, 0, [(setI [31, 32, 33], 1, 1), (setI [31, 32], 1, 1)]⟩ w e w' := by
  obtain ⟨op, name, qual, n, m, vk, vn, vs, kids, pos⟩ := t
  simp only [ndV] at *
  subst hop
  subst hn
  go_enter Tryd.func71, Tryd.ntmps71
  go_wp2_with (go_at_call 94; fail)
  refine (oneOf_any [31, 32, 33] _ _ (by decide) (by decide) ?_).mono ?_
  · exact ri3 _ _ _ _ _ _ (by simp)
  rintro e w1 ⟨rfl, hb1⟩
  have hz1 := hb1.size
  try simp at hz1
  have B1 : Below w.heap.size w w1 := Below.trans (by (go_light; repeat (first | with_reducible assumption | with_reducible exact Below.refl _ _ | (with_reducible refine Below.setCell ?_ ?_ _; rotate_left; (focus first | (simp; done) | (simp; omega) | omega)) | (with_reducible refine Below.alloc ?_ ?_ _; rotate_left; (focus first | (simp; done) | (simp; omega) | omega)) | with_reducible refine Below.drew ?_))) (hb1.mono (by first | omega | (simp; done) | (simp; omega)))
  have hx1 : w.heap.size + 1 < w1.heap.size := by omega
  have Z1 : Z7 w1 (w.heap.size + 1) := ((Z7.start _ _ (w.heap.size + 1) (by simp)).alloc (by simp) _).below hb1 (by first | omega | (simp; done) | (simp; omega))
  have NB1 : Below (w.heap.size + 1) (w.alloc (.cells #[.int .i64 33, .string name, .string qual, .int .i64 3, .int .i64 m, .int .i64 vk, .int .i64 vn, .string vs, .slice ka kl kc, .int .i64 pos] 46)) w1 := Below.trans (by (go_light; repeat (first | with_reducible assumption | with_reducible exact Below.refl _ _ | (with_reducible refine Below.setCell ?_ ?_ _; rotate_left; (focus first | (simp; done) | (simp; omega) | omega)) | (with_reducible refine Below.alloc ?_ ?_ _; rotate_left; (focus first | (simp; done) | (simp; omega) | omega)) | with_reducible refine Below.drew ?_))) (hb1.mono (by first | omega | (simp; done) | (simp; omega)))
  have n1 : w1.cell? ⟨w.heap.size, 3, none⟩ = some (.int .i64 3) := (NB1.cell (p := ⟨w.heap.size, 3, none⟩) (show w.heap.size < w.heap.size + 1 by omega)).trans (by simp)
  clear NB1
  clear hb1
  go_wp2_with (go_at_call 94; fail)
  refine (oneOf_any [31, 32] _ _ (by decide) (by decide) ?_).mono ?_
  · exact ri2 _ _ _ _ _ (by simp)
  rintro e w2 ⟨rfl, hb2⟩
  have hz2 := hb2.size
  try simp at hz2
  have B2 : Below w.heap.size w w2 := Below.trans (by (go_light; repeat (first | with_reducible assumption | with_reducible exact Below.refl _ _ | (with_reducible refine Below.setCell ?_ ?_ _; rotate_left; (focus first | (simp; done) | (simp; omega) | omega)) | (with_reducible refine Below.alloc ?_ ?_ _; rotate_left; (focus first | (simp; done) | (simp; omega) | omega)) | with_reducible refine Below.drew ?_))) (hb2.mono (by first | omega | (simp; done) | (simp; omega)))
  have hx2 : w.heap.size + 1 < w2.heap.size := by omega
  have Z2 : Z7 w2 (w.heap.size + 1) := (Z1.alloc hx1 _).below hb2 (by first | omega | (simp; omega))
  have NB2 : Below w1.heap.size w1 w2 := Below.trans (below_alloc w1 _) (hb2.mono (by first | omega | (simp; done) | (simp; omega)))
  have n2 : w2.cell? ⟨w.heap.size, 3, none⟩ = some (.int .i64 3) := (NB2.cell (p := ⟨w.heap.size, 3, none⟩) (show w.heap.size < w1.heap.size by omega)).trans n1
  clear NB2
  clear hb2 Z1 n1
  obtain ⟨c0, f0, c1, f1, c2, f2, c3, f3, c4, f4, c5, f5, c6, f6⟩ := Z2
  have hy2 : w.heap.size < w2.heap.size := by omega
  go_wp2
  refine bodyPost_ret (v := formV ⟨0, 0, 1, 3, 0, 0, [(setI [31, 32, 33], 1, 1), (setI [31, 32], 1, 1)]⟩ (.slice (some ⟨w2.heap.size, 0, none⟩) 2 2)) (by simp [results, formV, Tryd.results71, go_sem, hx2, c0, f0, c1, f1, c2, f2, c3, f3, c4, f4, c5, f5, c6, f6]) rfl ⟨_, rfl, ?_, ?_⟩
  · refine RPB.rpx (B := w.heap.size) ?_
    exact rp2 _ _ _ _ _ _ _ _ _ _ (by simp) (by first | omega | (simp; done) | (simp; omega))
  · exact (by (go_light; repeat (first | with_reducible assumption | with_reducible exact Below.refl _ _ | (with_reducible refine Below.setCell ?_ ?_ _; rotate_left; (focus first | (simp; done) | (simp; omega) | omega)) | (with_reducible refine Below.alloc ?_ ?_ _; rotate_left; (focus first | (simp; done) | (simp; omega) | omega)) | with_reducible refine Below.drew ?_)))
set_option maxHeartbeats 8000000 in
theorem f71_33b (t : Nd) (ka : Option Addr) (kl kc : Nat) (w : World) (hop : t.op = 33) (hn : (t.n != 3) = true) :
    Calls Tryd.prog 71 #[ndV t (.slice ka kl kc)] w fun e w' => TabP ⟨0, 0, 1, 3, 0, 0, [(setI [31, 32, 33], 1, 1), (setI [31, 32], 1, 1), (262142, 1, 1)]⟩ w e w' := by
  obtain ⟨op, name, qual, n, m, vk, vn, vs, kids, pos⟩ := t
  simp only [ndV] at *
  subst hop
  go_enter Tryd.func71, Tryd.ntmps71
  go_wp2_with (go_at_call 94; fail)
  refine (oneOf_any [31, 32, 33] _ _ (by decide) (by decide) ?_).mono ?_
  · exact ri3 _ _ _ _ _ _ (by simp)
  rintro e w1 ⟨rfl, hb1⟩
  have hz1 := hb1.size
  try simp at hz1
  have B1 : Below w.heap.size w w1 := Below.trans (by (go_light; repeat (first | with_reducible assumption | with_reducible exact Below.refl _ _ | (with_reducible refine Below.setCell ?_ ?_ _; rotate_left; (focus first | (simp; done) | (simp; omega) | omega)) | (with_reducible refine Below.alloc ?_ ?_ _; rotate_left; (focus first | (simp; done) | (simp; omega) | omega)) | with_reducible refine Below.drew ?_))) (hb1.mono (by first | omega | (simp; done) | (simp; omega)))
  have hx1 : w.heap.size + 1 < w1.heap.size := by omega
  have Z1 : Z7 w1 (w.heap.size + 1) := ((Z7.start _ _ (w.heap.size + 1) (by simp)).alloc (by simp) _).below hb1 (by first | omega | (simp; done) | (simp; omega))
  have NB1 : Below (w.heap.size + 1) (w.alloc (.cells #[.int .i64 33, .string name, .string qual, .int .i64 n, .int .i64 m, .int .i64 vk, .int .i64 vn, .string vs, .slice ka kl kc, .int .i64 pos] 46)) w1 := Below.trans (by (go_light; repeat (first | with_reducible assumption | with_reducible exact Below.refl _ _ | (with_reducible refine Below.setCell ?_ ?_ _; rotate_left; (focus first | (simp; done) | (simp; omega) | omega)) | (with_reducible refine Below.alloc ?_ ?_ _; rotate_left; (focus first | (simp; done) | (simp; omega) | omega)) | with_reducible refine Below.drew ?_))) (hb1.mono (by first | omega | (simp; done) | (simp; omega)))
  have n1 : w1.cell? ⟨w.heap.size, 3, none⟩ = some (.int .i64 n) := (NB1.cell (p := ⟨w.heap.size, 3, none⟩) (show w.heap.size < w.heap.size + 1 by omega)).trans (by simp)
  clear NB1
  clear hb1
  go_wp2_with (go_at_call 94; fail)
  refine (oneOf_any [31, 32] _ _ (by decide) (by decide) ?_).mono ?_
  · exact ri2 _ _ _ _ _ (by simp)
  rintro e w2 ⟨rfl, hb2⟩
  have hz2 := hb2.size
  try simp at hz2
  have B2 : Below w.heap.size w w2 := Below.trans (by (go_light; repeat (first | with_reducible assumption | with_reducible exact Below.refl _ _ | (with_reducible refine Below.setCell ?_ ?_ _; rotate_left; (focus first | (simp; done) | (simp; omega) | omega)) | (with_reducible refine Below.alloc ?_ ?_ _; rotate_left; (focus first | (simp; done) | (simp; omega) | omega)) | with_reducible refine Below.drew ?_))) (hb2.mono (by first | omega | (simp; done) | (simp; omega)))
  have hx2 : w.heap.size + 1 < w2.heap.size := by omega
  have Z2 : Z7 w2 (w.heap.size + 1) := (Z1.alloc hx1 _).below hb2 (by first | omega | (simp; omega))
  have NB2 : Below w1.heap.size w1 w2 := Below.trans (below_alloc w1 _) (hb2.mono (by first | omega | (simp; done) | (simp; omega)))
  have n2 : w2.cell? ⟨w.heap.size, 3, none⟩ = some (.int .i64 n) := (NB2.cell (p := ⟨w.heap.size, 3, none⟩) (show w.heap.size < w1.heap.size by omega)).trans n1
  clear NB2
  clear hb2 Z1 n1
  obtain ⟨i0, hi, hz0, hz1', hz2'⟩ := info_parts info102
  have hy2 : w.heap.size < w2.heap.size := by omega
  go_wp2_with (go_at_call 93; fail)
  refine (expressions_any 1 1 _).mono ?_
  rintro e w3 ⟨rfl, hb3⟩
  have hz3 := hb3.size
  try simp at hz3
  have hown : (w2.alloc (.cells #[.int .u64 (setI [31, 32, 33]), .int .i64 1, .int .i64 1, .int .u64 (setI [31, 32]), .int .i64 1, .int .i64 1] 102)).ownsRow w2.heap.size 102 3 (.slice (some ⟨w2.heap.size, 0, none⟩) 2 2) 2 [.int .u64 (setI [31, 32, 33]), .int .i64 1, .int .i64 1, .int .u64 (setI [31, 32]), .int .i64 1, .int .i64 1] :=
    ⟨by simp, .inr ⟨w2.heap.size, 2, #[.int .u64 (setI [31, 32, 33]), .int .i64 1, .int .i64 1, .int .u64 (setI [31, 32]), .int .i64 1, .int .i64 1], rfl, Nat.le_refl _, heap_alloc_new w2 _, Nat.le_refl _, by unfold maxLen; omega, by simp, by simp⟩⟩
  have ho3 := own_below hown hb3
  have B3 : Below w2.heap.size w2 w3 := (below_alloc w2 _).trans (hb3.mono (by first | omega | (simp; done) | (simp; omega)))
  have hx3 : w2.heap.size < w3.heap.size := by omega
  clear hown hb3 n2
  go_wp2_with (at_builtin; refine wpList_append_own _ rfl (.tmp 94) (.tmp 96) 77 rfl w2.heap.size 102 i0 (.agg #[.int .u64 0, .int .i64 0, .int .i64 0]) 3 24 Tryd.underlying77 hi hz0 hz1' hz2' rfl (by decide) _ _ _ rfl (ho3.alloc _) ⟨w3.heap.size, 0, none⟩ 1 1 [.int .u64 262142, .int .i64 1, .int .i64 1] rfl rfl (three_at _ _ (by simp) _ _ _ _) (by intro u hu; simp at hu; rcases hu with rfl | rfl | rfl <;> rfl) (by unfold maxLen; omega) (by omega) (by simp; omega) ?_; intro v' w4 hown' hgrow _; obtain ⟨vg, vcap, rfl⟩ := own_some hown' (by decide); have B4 : Below w2.heap.size w2 w4 := ((B3.alloc (by omega) _).grown hgrow (by simp; omega) (fun j hj => by have := (ho3.lt j hj).1; omega)); have Z4 : Z7 w4 (w.heap.size + 1) := Z2.below B4 hx2; have hx4 : w.heap.size + 1 < w4.heap.size := (by have := B4.size; omega); have B5 : Below w.heap.size w w4 := (B2.trans (B4.mono (by omega))); have HO' := hid_mk hown'; clear hown' hgrow ho3 Z2; obtain ⟨c0, f0, c1, f1, c2, f2, c3, f3, c4, f4, c5, f5, c6, f6⟩ := Z4)
  have HR : Hid (RPB w2.heap.size w4 (.slice (some ⟨vg, 0, none⟩) 3 vcap) [(setI [31, 32, 33], 1, 1), (setI [31, 32], 1, 1), (262142, 1, 1)]) := (by
    have hc := HO'.out
    have hl := hc.lt
    refine ⟨vg, vcap, rfl, (hl vg rfl).1, (hl vg rfl).2, fun i hi => ?_⟩
    match i, hi with
    | 0, _ => exact ⟨own_cell hc (by simp), own_cell hc (by simp), own_cell hc (by simp)⟩
    | 1, _ => exact ⟨own_cell hc (by simp), own_cell hc (by simp), own_cell hc (by simp)⟩
    | 2, _ => exact ⟨own_cell hc (by simp), own_cell hc (by simp), own_cell hc (by simp)⟩ : RPB w2.heap.size w4 (.slice (some ⟨vg, 0, none⟩) 3 vcap) [(setI [31, 32, 33], 1, 1), (setI [31, 32], 1, 1), (262142, 1, 1)])
  refine bodyPost_ret (v := formV ⟨0, 0, 1, 3, 0, 0, [(setI [31, 32, 33], 1, 1), (setI [31, 32], 1, 1), (262142, 1, 1)]⟩ (.slice (some ⟨vg, 0, none⟩) 3 vcap)) (by simp [results, formV, Tryd.results71, go_sem, hx4, c0, f0, c1, f1, c2, f2, c3, f3, c4, f4, c5, f5, c6, f6]) rfl ⟨_, rfl, ?_, ?_⟩
  · have h9 : w.heap.size + 1 < w2.heap.size := hx2
    refine RPX.mono (B := w2.heap.size) (RPB.rpx ?_) (by omega)
    repeat (first | with_reducible exact HR.out | (with_reducible refine RPB.set ?_ ?_; rotate_left; omega))
  · exact (by (go_light; repeat (first | with_reducible assumption | with_reducible exact Below.refl _ _ | (with_reducible refine Below.setCell ?_ ?_ _; rotate_left; (focus first | (simp; done) | (simp; omega) | omega)) | (with_reducible refine Below.alloc ?_ ?_ _; rotate_left; (focus first | (simp; done) | (simp; omega) | omega)) | with_reducible refine Below.drew ?_)))
end Go.Proofs.YtghdjagomdgnfaaDoor
namespace Go.Proofs.YtghdjagomdgnfaaDoor
open Go.ChangeShapes Go.WideShapes Go.ChangeAt Go.RowKit
set_option linter.unusedVariables false
set_option linter.unusedSimpArgs false
set_option maxRecDepth 100000
/-- The forms of the operations. -/
def formD (op n : Int) : Option FD :=
  match op with
  | 1 => some ⟨0, 0, 0, 0, 0, 0, []⟩
  | 2 => some ⟨2, 1, 0, 0, 0, 0, []⟩
  | 3 => some ⟨0, 0, 0, 0, 0, 0, [(262142, 1, 1)]⟩
  | 4 => some ⟨0, 0, 0, 0, 0, 0, [(262142, 1, 1)]⟩
  | 5 => some ⟨0, 0, 1, 15, 0, 0, [(262142, 2, 2)]⟩
  | 6 => some ⟨0, 0, 0, 1, 0, 0, [(262142, 1, 1)]⟩
  | 7 => some ⟨0, 0, 0, 1, 0, 0, [(262142, 2, 2)]⟩
  | 8 => some ⟨0, 0, 0, 1, 0, 0, [(262142, 2, 6000)]⟩
  | 9 => some ⟨0, 0, 0, 1, 0, 0, [(262142, 1, 1), (setI [27], 1, 1)]⟩
  | 10 => some ⟨0, 0, 0, 1, 0, 0, [(262142, 3, 3)]⟩
  | 11 => some ⟨0, 0, 0, 1, 0, 0, [(262142, 2, 2)]⟩
  | 12 => some ⟨0, 0, 0, 1, 0, 1, [(262142, 2, 6000)]⟩
  | 13 => some ⟨0, 0, 1, 5, 0, 0, [(262142, 1, 1)]⟩
  | 14 => some ⟨2, 0, 0, 0, 0, 0, [(262142, 0, 6000)]⟩
  | 15 => if n = 1 then some ⟨0, 0, 1, 1, 0, 0, []⟩ else some ⟨0, 0, 2, 6, 0, 1, [(262142, 1, 1)]⟩
  | 16 => some ⟨0, 0, 0, 0, 0, 0, [(setI [27], 1, 1)]⟩
  | 17 => some ⟨0, 0, 0, 0, 0, 0, [(setI [27], 1, 1)]⟩
  | 18 => some ⟨0, 1, 0, 0, 0, 0, []⟩
  | 19 => some ⟨1, 0, 0, 0, 0, 0, [(262142, 1, 1)]⟩
  | 20 => some ⟨0, 0, 0, 0, 0, 0, [(setI [18, 19], 1, 6000)]⟩
  | 21 => some ⟨0, 0, 0, 0, 0, 0, [(setI [31, 32, 33], 1, 6000)]⟩
  | 22 => some ⟨0, 0, 0, 0, 0, 0, [(262142, 1, 1)]⟩
  | 23 => some ⟨0, 0, 0, 0, 0, 0, [(262142, 1, 6000)]⟩
  | 24 => some ⟨0, 0, 0, 0, 0, 0, [(262142, 1, 1)]⟩
  | 25 => some ⟨0, 0, 0, 1, 0, 0, [(setI [20], 1, 1), (setI [21], 0, 1), (setI [22], 0, 1), (setI [23], 0, 1), (setI [24], 0, 1)]⟩
  | 26 => some ⟨0, 0, 1, 2, 0, 1, [(setI [25, 26, 27], 1, 1), (setI [25, 27], 1, 1)]⟩
  | 27 => some ⟨0, 0, 0, 0, 0, 0, [(setI [25, 26, 27], 1, 1), (setI [28], 0, 1), (setI [30], 0, 1)]⟩
  | 28 => some ⟨0, 0, 0, 0, 0, 0, [(setI [29], 1, 6000)]⟩
  | 29 => some ⟨0, 0, 0, 1, 0, 2, [(262142, 1, 1)]⟩
  | 30 => some ⟨0, 0, (-1), 9223372036854775807, (-1), 9223372036854775807, []⟩
  | 31 => some ⟨2, 1, 0, 0, 0, 0, []⟩
  | 32 => some ⟨2, 0, 0, 0, 0, 0, [(setI [27], 1, 1)]⟩
  | 33 => if n = 3 then some ⟨0, 0, 1, 3, 0, 0, [(setI [31, 32, 33], 1, 1), (setI [31, 32], 1, 1)]⟩ else some ⟨0, 0, 1, 3, 0, 0, [(setI [31, 32, 33], 1, 1), (setI [31, 32], 1, 1), (262142, 1, 1)]⟩
  | 40 => some ⟨2, 0, 0, 0, 0, 0, [(setI [41], 0, 1), (setI [43, 27], 1, 1)]⟩
  | 41 => some ⟨0, 0, 0, 0, 0, 0, [(setI [42], 1, 6000)]⟩
  | 42 => some ⟨2, 0, 0, 0, 0, 0, []⟩
  | 43 => some ⟨0, 0, 0, 0, 0, 0, [(setI [44], 1, 6000)]⟩
  | 44 => some ⟨0, 0, 0, 0, 0, 0, [(bits .or .u64 262142 (setI [45]), 1, 6000)]⟩
  | 45 => some ⟨0, 0, 0, 0, 0, 0, []⟩
  | 46 => some ⟨2, 0, 0, 0, 0, 0, [(setI [47], 1, 6000), (setI [22], 0, 1)]⟩
  | 47 => some ⟨2, 0, 0, 0, 0, 0, [(bits .or .u64 262142 (setI [45]), 1, 1)]⟩
  | 48 => some ⟨2, 0, 0, 0, 0, 0, [(setI [22], 0, 1)]⟩
  | 49 => some ⟨2, 0, 0, 0, 0, 0, [(setI [50, 52, 53, 54], 1, 6000)]⟩
  | 50 => some ⟨2, 0, 1, 5, 0, 7, [(setI [51, 52], 0, 6000)]⟩
  | 51 => some ⟨0, 0, 0, 0, 0, 0, [(262142, 1, 1)]⟩
  | 52 => some ⟨0, 0, 0, 0, 0, 0, [(262142, 1, 1)]⟩
  | 53 => some ⟨0, 0, 0, 0, 0, 0, [(setI [42], 1, 6000)]⟩
  | 54 => some ⟨0, 0, 0, 0, 0, 0, [(setI [42], 1, 6000)]⟩
  | 55 => some ⟨2, 2, 0, 1, 0, 0, [(setI [42], 1, 6000)]⟩
  | 56 => some ⟨2, 0, 0, 0, 0, 0, []⟩
  | 57 => some ⟨2, 0, 0, 0, 0, 0, []⟩
  | 58 => some ⟨0, 0, 0, 2, 0, 0, []⟩
  | 59 => some ⟨0, 0, 0, 0, 0, 0, []⟩
  | 60 => some ⟨1, 0, 0, 0, 0, 0, []⟩
  | 61 => some ⟨2, 0, 0, 0, 0, 0, []⟩
  | 62 => some ⟨2, 0, 0, 0, 0, 0, []⟩
  | 63 => some ⟨0, 0, 0, 0, 0, 0, [(setI [27], 1, 1)]⟩
  | 64 => some ⟨0, 0, 0, 0, 0, 0, []⟩
  | _ => none
theorem formD_in (op n : Int) (h : (1 ≤ op ∧ op ≤ 33) ∨ (40 ≤ op ∧ op ≤ 64)) : (formD op n).isSome = true := by
  have : op = 1 ∨ op = 2 ∨ op = 3 ∨ op = 4 ∨ op = 5 ∨ op = 6 ∨ op = 7 ∨ op = 8 ∨ op = 9 ∨ op = 10 ∨ op = 11 ∨ op = 12 ∨ op = 13 ∨ op = 14 ∨ op = 15 ∨ op = 16 ∨ op = 17 ∨ op = 18 ∨ op = 19 ∨ op = 20 ∨ op = 21 ∨ op = 22 ∨ op = 23 ∨ op = 24 ∨ op = 25 ∨ op = 26 ∨ op = 27 ∨ op = 28 ∨ op = 29 ∨ op = 30 ∨ op = 31 ∨ op = 32 ∨ op = 33 ∨ op = 40 ∨ op = 41 ∨ op = 42 ∨ op = 43 ∨ op = 44 ∨ op = 45 ∨ op = 46 ∨ op = 47 ∨ op = 48 ∨ op = 49 ∨ op = 50 ∨ op = 51 ∨ op = 52 ∨ op = 53 ∨ op = 54 ∨ op = 55 ∨ op = 56 ∨ op = 57 ∨ op = 58 ∨ op = 59 ∨ op = 60 ∨ op = 61 ∨ op = 62 ∨ op = 63 ∨ op = 64 := by omega
  rcases this with rfl | rfl | rfl | rfl | rfl | rfl | rfl | rfl | rfl | rfl | rfl | rfl | rfl | rfl | rfl | rfl | rfl | rfl | rfl | rfl | rfl | rfl | rfl | rfl | rfl | rfl | rfl | rfl | rfl | rfl | rfl | rfl | rfl | rfl | rfl | rfl | rfl | rfl | rfl | rfl | rfl | rfl | rfl | rfl | rfl | rfl | rfl | rfl | rfl | rfl | rfl | rfl | rfl | rfl | rfl | rfl | rfl | rfl
  all_goals first | rfl | (simp only [formD]; split <;> rfl)
theorem formOf_no (t : Nd) (ka : Option Addr) (kl kc : Nat) (w : World) (h : formD t.op t.n = none) :
    Calls Tryd.prog 55 #[ndV t (.slice ka kl kc)] w fun e w' => FormP noForm false w e w' := by
  have hn : ¬ ((1 ≤ t.op ∧ t.op ≤ 33) ∨ (40 ≤ t.op ∧ t.op ≤ 64)) := fun hr => by
    have := formD_in t.op t.n hr
    rw [h] at this
    simp at this
  exact formOf_none t ka kl kc w (by simp; omega) (by simp; omega) (by simp; omega) (by simp; omega)
theorem formOf_is (t : Nd) (f : FD) (ka : Option Addr) (kl kc : Nat) (w : World) (h : formD t.op t.n = some f) :
    Calls Tryd.prog 55 #[ndV t (.slice ka kl kc)] w fun e w' => FormP f true w e w' := by
  by_cases hr : (1 ≤ t.op ∧ t.op ≤ 33) ∨ (40 ≤ t.op ∧ t.op ≤ 64)
  · obtain ⟨op, name, qual, n, m, vk, vn, vs, kids, pos⟩ := t
    simp only at h hr
    have : op = 1 ∨ op = 2 ∨ op = 3 ∨ op = 4 ∨ op = 5 ∨ op = 6 ∨ op = 7 ∨ op = 8 ∨ op = 9 ∨ op = 10 ∨ op = 11 ∨ op = 12 ∨ op = 13 ∨ op = 14 ∨ op = 15 ∨ op = 16 ∨ op = 17 ∨ op = 18 ∨ op = 19 ∨ op = 20 ∨ op = 21 ∨ op = 22 ∨ op = 23 ∨ op = 24 ∨ op = 25 ∨ op = 26 ∨ op = 27 ∨ op = 28 ∨ op = 29 ∨ op = 30 ∨ op = 31 ∨ op = 32 ∨ op = 33 ∨ op = 40 ∨ op = 41 ∨ op = 42 ∨ op = 43 ∨ op = 44 ∨ op = 45 ∨ op = 46 ∨ op = 47 ∨ op = 48 ∨ op = 49 ∨ op = 50 ∨ op = 51 ∨ op = 52 ∨ op = 53 ∨ op = 54 ∨ op = 55 ∨ op = 56 ∨ op = 57 ∨ op = 58 ∨ op = 59 ∨ op = 60 ∨ op = 61 ∨ op = 62 ∨ op = 63 ∨ op = 64 := by omega
    rcases this with rfl | rfl | rfl | rfl | rfl | rfl | rfl | rfl | rfl | rfl | rfl | rfl | rfl | rfl | rfl | rfl | rfl | rfl | rfl | rfl | rfl | rfl | rfl | rfl | rfl | rfl | rfl | rfl | rfl | rfl | rfl | rfl | rfl | rfl | rfl | rfl | rfl | rfl | rfl | rfl | rfl | rfl | rfl | rfl | rfl | rfl | rfl | rfl | rfl | rfl | rfl | rfl | rfl | rfl | rfl | rfl | rfl | rfl
    · obtain rfl := Option.some.inj h
      exact formOf_70 _ _ ka kl kc w (by simp) (by simp) (fun W => f70_1 _ ka kl kc W rfl)
    · obtain rfl := Option.some.inj h
      exact formOf_70 _ _ ka kl kc w (by simp) (by simp) (fun W => f70_2 _ ka kl kc W rfl)
    · obtain rfl := Option.some.inj h
      exact formOf_70 _ _ ka kl kc w (by simp) (by simp) (fun W => f70_3 _ ka kl kc W rfl)
    · obtain rfl := Option.some.inj h
      exact formOf_70 _ _ ka kl kc w (by simp) (by simp) (fun W => f70_4 _ ka kl kc W rfl)
    · obtain rfl := Option.some.inj h
      exact formOf_70 _ _ ka kl kc w (by simp) (by simp) (fun W => f70_5 _ ka kl kc W rfl)
    · obtain rfl := Option.some.inj h
      exact formOf_70 _ _ ka kl kc w (by simp) (by simp) (fun W => f70_6 _ ka kl kc W rfl)
    · obtain rfl := Option.some.inj h
      exact formOf_70 _ _ ka kl kc w (by simp) (by simp) (fun W => f70_7 _ ka kl kc W rfl)
    · obtain rfl := Option.some.inj h
      exact formOf_70 _ _ ka kl kc w (by simp) (by simp) (fun W => f70_8 _ ka kl kc W rfl)
    · obtain rfl := Option.some.inj h
      exact formOf_70 _ _ ka kl kc w (by simp) (by simp) (fun W => f70_9 _ ka kl kc W rfl)
    · obtain rfl := Option.some.inj h
      exact formOf_70 _ _ ka kl kc w (by simp) (by simp) (fun W => f70_10 _ ka kl kc W rfl)
    · obtain rfl := Option.some.inj h
      exact formOf_70 _ _ ka kl kc w (by simp) (by simp) (fun W => f70_11 _ ka kl kc W rfl)
    · obtain rfl := Option.some.inj h
      exact formOf_70 _ _ ka kl kc w (by simp) (by simp) (fun W => f70_12 _ ka kl kc W rfl)
    · obtain rfl := Option.some.inj h
      exact formOf_70 _ _ ka kl kc w (by simp) (by simp) (fun W => f70_13 _ ka kl kc W rfl)
    · obtain rfl := Option.some.inj h
      exact formOf_70 _ _ ka kl kc w (by simp) (by simp) (fun W => f70_14 _ ka kl kc W rfl)
    · simp only [formD] at h
      split at h
      · rename_i hn
        obtain rfl := Option.some.inj h
        exact formOf_70 _ _ ka kl kc w (by simp) (by simp) (fun W => f70_15a _ ka kl kc W rfl hn)
      · rename_i hn
        obtain rfl := Option.some.inj h
        exact formOf_70 _ _ ka kl kc w (by simp) (by simp) (fun W => f70_15b _ ka kl kc W rfl hn)
    · obtain rfl := Option.some.inj h
      exact formOf_70 _ _ ka kl kc w (by simp) (by simp) (fun W => f70_16 _ ka kl kc W rfl)
    · obtain rfl := Option.some.inj h
      exact formOf_70 _ _ ka kl kc w (by simp) (by simp) (fun W => f70_17 _ ka kl kc W rfl)
    · obtain rfl := Option.some.inj h
      exact formOf_71 _ _ ka kl kc w (by simp) (by simp) (fun W => f71_18 _ ka kl kc W rfl)
    · obtain rfl := Option.some.inj h
      exact formOf_71 _ _ ka kl kc w (by simp) (by simp) (fun W => f71_19 _ ka kl kc W rfl)
    · obtain rfl := Option.some.inj h
      exact formOf_71 _ _ ka kl kc w (by simp) (by simp) (fun W => f71_20 _ ka kl kc W rfl)
    · obtain rfl := Option.some.inj h
      exact formOf_71 _ _ ka kl kc w (by simp) (by simp) (fun W => f71_21 _ ka kl kc W rfl)
    · obtain rfl := Option.some.inj h
      exact formOf_71 _ _ ka kl kc w (by simp) (by simp) (fun W => f71_22 _ ka kl kc W rfl)
    · obtain rfl := Option.some.inj h
      exact formOf_71 _ _ ka kl kc w (by simp) (by simp) (fun W => f71_23 _ ka kl kc W rfl)
    · obtain rfl := Option.some.inj h
      exact formOf_71 _ _ ka kl kc w (by simp) (by simp) (fun W => f71_24 _ ka kl kc W rfl)
    · obtain rfl := Option.some.inj h
      exact formOf_71 _ _ ka kl kc w (by simp) (by simp) (fun W => f71_25 _ ka kl kc W rfl)
    · obtain rfl := Option.some.inj h
      exact formOf_71 _ _ ka kl kc w (by simp) (by simp) (fun W => f71_26 _ ka kl kc W rfl)
    · obtain rfl := Option.some.inj h
      exact formOf_71 _ _ ka kl kc w (by simp) (by simp) (fun W => f71_27 _ ka kl kc W rfl)
    · obtain rfl := Option.some.inj h
      exact formOf_71 _ _ ka kl kc w (by simp) (by simp) (fun W => f71_28 _ ka kl kc W rfl)
    · obtain rfl := Option.some.inj h
      exact formOf_71 _ _ ka kl kc w (by simp) (by simp) (fun W => f71_29 _ ka kl kc W rfl)
    · obtain rfl := Option.some.inj h
      exact formOf_71 _ _ ka kl kc w (by simp) (by simp) (fun W => f71_30 _ ka kl kc W rfl)
    · obtain rfl := Option.some.inj h
      exact formOf_71 _ _ ka kl kc w (by simp) (by simp) (fun W => f71_31 _ ka kl kc W rfl)
    · obtain rfl := Option.some.inj h
      exact formOf_71 _ _ ka kl kc w (by simp) (by simp) (fun W => f71_32 _ ka kl kc W rfl)
    · simp only [formD] at h
      split at h
      · rename_i hn
        obtain rfl := Option.some.inj h
        exact formOf_71 _ _ ka kl kc w (by simp) (by simp) (fun W => f71_33a _ ka kl kc W rfl hn)
      · rename_i hn
        obtain rfl := Option.some.inj h
        exact formOf_71 _ _ ka kl kc w (by simp) (by simp) (fun W => f71_33b _ ka kl kc W rfl (by simpa [bne] using hn))
    · obtain rfl := Option.some.inj h
      exact formOf_72 _ _ ka kl kc w (by simp) (by simp) (fun W => f72_40 W)
    · obtain rfl := Option.some.inj h
      exact formOf_72 _ _ ka kl kc w (by simp) (by simp) (fun W => f72_41 W)
    · obtain rfl := Option.some.inj h
      exact formOf_72 _ _ ka kl kc w (by simp) (by simp) (fun W => f72_42 W)
    · obtain rfl := Option.some.inj h
      exact formOf_72 _ _ ka kl kc w (by simp) (by simp) (fun W => f72_43 W)
    · obtain rfl := Option.some.inj h
      exact formOf_72 _ _ ka kl kc w (by simp) (by simp) (fun W => f72_44 W)
    · obtain rfl := Option.some.inj h
      exact formOf_72 _ _ ka kl kc w (by simp) (by simp) (fun W => f72_45 W)
    · obtain rfl := Option.some.inj h
      exact formOf_72 _ _ ka kl kc w (by simp) (by simp) (fun W => f72_46 W)
    · obtain rfl := Option.some.inj h
      exact formOf_72 _ _ ka kl kc w (by simp) (by simp) (fun W => f72_47 W)
    · obtain rfl := Option.some.inj h
      exact formOf_72 _ _ ka kl kc w (by simp) (by simp) (fun W => f72_48 W)
    · obtain rfl := Option.some.inj h
      exact formOf_72 _ _ ka kl kc w (by simp) (by simp) (fun W => f72_49 W)
    · obtain rfl := Option.some.inj h
      exact formOf_72 _ _ ka kl kc w (by simp) (by simp) (fun W => f72_50 W)
    · obtain rfl := Option.some.inj h
      exact formOf_72 _ _ ka kl kc w (by simp) (by simp) (fun W => f72_51 W)
    · obtain rfl := Option.some.inj h
      exact formOf_72 _ _ ka kl kc w (by simp) (by simp) (fun W => f72_52 W)
    · obtain rfl := Option.some.inj h
      exact formOf_72 _ _ ka kl kc w (by simp) (by simp) (fun W => f72_53 W)
    · obtain rfl := Option.some.inj h
      exact formOf_72 _ _ ka kl kc w (by simp) (by simp) (fun W => f72_54 W)
    · obtain rfl := Option.some.inj h
      exact formOf_73 _ _ ka kl kc w (by simp) (by simp) (fun W => f73_55 W)
    · obtain rfl := Option.some.inj h
      exact formOf_73 _ _ ka kl kc w (by simp) (by simp) (fun W => f73_56 W)
    · obtain rfl := Option.some.inj h
      exact formOf_73 _ _ ka kl kc w (by simp) (by simp) (fun W => f73_57 W)
    · obtain rfl := Option.some.inj h
      exact formOf_73 _ _ ka kl kc w (by simp) (by simp) (fun W => f73_58 W)
    · obtain rfl := Option.some.inj h
      exact formOf_73 _ _ ka kl kc w (by simp) (by simp) (fun W => f73_59 W)
    · obtain rfl := Option.some.inj h
      exact formOf_73 _ _ ka kl kc w (by simp) (by simp) (fun W => f73_60 W)
    · obtain rfl := Option.some.inj h
      exact formOf_73 _ _ ka kl kc w (by simp) (by simp) (fun W => f73_61 W)
    · obtain rfl := Option.some.inj h
      exact formOf_73 _ _ ka kl kc w (by simp) (by simp) (fun W => f73_62 W)
    · obtain rfl := Option.some.inj h
      exact formOf_73 _ _ ka kl kc w (by simp) (by simp) (fun W => f73_63 W)
    · obtain rfl := Option.some.inj h
      exact formOf_73 _ _ ka kl kc w (by simp) (by simp) (fun W => f73_64 W)
  · exfalso
    have : formD t.op t.n = none := by
      generalize t.op = x at *
      unfold formD
      split <;> first | rfl | omega
    rw [this] at h
    cases h
end Go.Proofs.YtghdjagomdgnfaaDoor
