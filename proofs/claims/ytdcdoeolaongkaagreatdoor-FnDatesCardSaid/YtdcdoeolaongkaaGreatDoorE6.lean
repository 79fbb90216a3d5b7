import Derived.Test.YtdcdoeolaongkaaGreatDoorE5
namespace Go.Proofs.YtdcdoeolaongkaaGreatDoor.Dr
open Go.ChangeShapes Go.WideShapes Go.ChangeAt Go.RowKit
set_option linter.unusedVariables false
set_option linter.unusedSimpArgs false
set_option maxRecDepth 100000
def bads6 : List Int := [1000000000000000000, -1000000000000000000, 2, -1, 2932897, -719163]
/-- A block that holds a value, free to be written. -/
structure Holds (w : World) (b : Nat) (k n : Int) (s : ByteArray) : Prop where
  c0 : w.cell? ⟨b, 0, none⟩ = some (.int .i64 k)
  c1 : w.cell? ⟨b, 1, none⟩ = some (.int .i64 n)
  c2 : w.cell? ⟨b, 2, none⟩ = some (.string s)
  f0 : w.frozen? ⟨b, 0, none⟩ = false
  f1 : w.frozen? ⟨b, 1, none⟩ = false
  f2 : w.frozen? ⟨b, 2, none⟩ = false
  lt : b < w.heap.size
theorem Holds.same {w w' : World} {b : Nat} {k n : Int} {s : ByteArray} (h : Holds w b k n s) (u : w'.heap[b]? = w.heap[b]?) (hz : b < w'.heap.size) : Holds w' b k n s :=
  ⟨(World.cell?_of_block (w := w) (a := ⟨b, 0, none⟩) u).trans h.c0, (World.cell?_of_block (w := w) (a := ⟨b, 1, none⟩) u).trans h.c1, (World.cell?_of_block (w := w) (a := ⟨b, 2, none⟩) u).trans h.c2,
   (World.frozen?_of_block (w := w) (a := ⟨b, 0, none⟩) u).trans h.f0, (World.frozen?_of_block (w := w) (a := ⟨b, 1, none⟩) u).trans h.f1, (World.frozen?_of_block (w := w) (a := ⟨b, 2, none⟩) u).trans h.f2, hz⟩
theorem Holds.upd {c : Nat} {w w' : World} {b : Nat} {k n : Int} {s : ByteArray} (h : Holds w b k n s) (u : Upd c w w') (hb : b ≠ c) : Holds w' b k n s := h.same (u.block b h.lt hb) (Nat.lt_of_lt_of_le h.lt u.size)
theorem Holds.below {B : Nat} {w w' : World} {b : Nat} {k n : Int} {s : ByteArray} (h : Holds w b k n s) (u : Below B w w') (hb : b < B) : Holds w' b k n s := h.same (u.block b hb) (Nat.lt_of_lt_of_le h.lt u.size)
theorem Holds.new (w : World) (k n : Int) (s : ByteArray) : Holds (w.alloc (.cells #[.int .i64 k, .int .i64 n, .string s] 29)) w.heap.size k n s :=
  ⟨by simp [go_sem], by simp [go_sem], by simp [go_sem], by simp [go_sem], by simp [go_sem], by simp [go_sem], by simp⟩
set_option maxHeartbeats 8000000 in
theorem drawValue_any (c : Nat) (A : Int) (w : World) (h : IsCur w c A) (hA : A ≤ 100000) : Calls Tryz.prog 41 #[.pointer (some ⟨c, 0, none⟩)] w fun e w' => DrawnV 700 c (A + 30) w e w' := by
  have hlt := h.lt
  have hne : w.heap.size ≠ c := by omega
  go_enter Tryz.func41, Tryz.ntmps41
  go_wp2_with fail
  refine (pick_any c A 6 _ (cur_alloc h _) (by omega) (by omega) (by omega)).mono ?_
  rintro e w1 ⟨q, q0, q1, rfl, hc1, hu1⟩
  have hr1 := (Holds.new w 0 0 ⟨#[]⟩).upd hu1 hne
  have HU1 : Hid (Upd c w w1) := (upd_alloc c w _).trans hu1
  clear h hu1
  go_wp2_with fail
  refine (drawKind_any c _ q _ hc1 (by omega)).mono ?_
  rintro e w2 ⟨k, n, s, hs, HN, rfl, hc2, hu2⟩
  have hr2 := hr1.upd hu2 hne
  have HU2 : Hid (Upd c w w2) := HU1.out.trans hu2
  have HS : Hid (s.size ≤ 60) := hs
  have hz2 := hr2.lt
  have hv : w2.heap.size ≠ c := by omega
  have hv' : w.heap.size ≠ w2.heap.size := by omega
  have hv'' : w2.heap.size ≠ w.heap.size := by omega
  clear HU1 hu2 hs q0 q1 hr1 hc1
  go_wp2_with fail
  refine (pick_any c (A + 22) 24 _ ((hc2.below (B := w2.heap.size) (by (go_light; repeat (first | with_reducible exact Below.refl _ _ | (with_reducible refine Below.setCell ?_ ?_ _; rotate_left; (focus first | (simp; done) | (simp; omega) | omega)) | (with_reducible refine Below.alloc ?_ ?_ _; rotate_left; (focus first | (simp; done) | (simp; omega) | omega)) | with_reducible refine Below.drew ?_))) (by omega)).mono (by omega)) (by omega) (by omega) (by omega)).mono ?_
  rintro e w3 ⟨r, r0, r1, rfl, hc3, hu3⟩
  have hr3 := Holds.upd (hr2.below (B := w2.heap.size) (by (go_light; repeat (first | with_reducible exact Below.refl _ _ | (with_reducible refine Below.setCell ?_ ?_ _; rotate_left; (focus first | (simp; done) | (simp; omega) | omega)) | (with_reducible refine Below.alloc ?_ ?_ _; rotate_left; (focus first | (simp; done) | (simp; omega) | omega)) | with_reducible refine Below.drew ?_))) hz2) hu3 hne
  have hv3 : Holds w3 w2.heap.size k n s := Holds.upd ⟨by simp [go_sem], by simp [go_sem], by simp [go_sem], by simp [go_sem], by simp [go_sem], by simp [go_sem], by simp⟩ hu3 hv
  have HU3 : Hid (Upd c w w3) := (HU2.out.thenB (B := w2.heap.size) (by (go_light; repeat (first | with_reducible exact Below.refl _ _ | (with_reducible refine Below.setCell ?_ ?_ _; rotate_left; (focus first | (simp; done) | (simp; omega) | omega)) | (with_reducible refine Below.alloc ?_ ?_ _; rotate_left; (focus first | (simp; done) | (simp; omega) | omega)) | with_reducible refine Below.drew ?_))) (Nat.le_of_lt hz2)).trans hu3
  clear HU2 hu3 hr2 hc2
  obtain ⟨a0, a1, a2, b0, b1, b2, hz3⟩ := hr3
  obtain ⟨v0, v1, v2, g0, g1, g2, hy3⟩ := hv3
  by_cases t0 : r = 20
  · subst t0
    have hs := HS.out
    go_wp2
    refine bodyPost_ret (v := .agg #[.int .i64 k, .int .i64 n, .string (s ++ ⟨#[255]⟩)]) (by simp [results, Tryz.results41, go_sem, *]) rfl ?_
    refine drawnV_mk hlt (by have := HS.out; rw [ByteArray.size_append, show (ByteArray.mk #[255]).size = 1 from rfl]; omega) HN hc3 (by omega) HU3.out ?_
    (go_light; repeat (first | with_reducible exact Below.refl _ _ | (with_reducible refine Below.setCell ?_ ?_ _; rotate_left; (focus first | (simp; done) | (simp; omega) | omega)) | (with_reducible refine Below.alloc ?_ ?_ _; rotate_left; (focus first | (simp; done) | (simp; omega) | omega)) | with_reducible refine Below.drew ?_))
  have e0 : (r == 20) = false := by simpa using t0
  by_cases t1 : r = 21
  · subst t1
    clear t0
    go_wp2_with fail
    refine (pick_any c (A + 24) 6 _ ((hc3.below (B := w3.heap.size) (by (go_light; repeat (first | with_reducible exact Below.refl _ _ | (with_reducible refine Below.setCell ?_ ?_ _; rotate_left; (focus first | (simp; done) | (simp; omega) | omega)) | (with_reducible refine Below.alloc ?_ ?_ _; rotate_left; (focus first | (simp; done) | (simp; omega) | omega)) | with_reducible refine Below.drew ?_))) (by omega)).mono (by omega)) (by omega) (by omega) (by omega)).mono ?_
    rintro e w4 ⟨p, p0, p1, rfl, hc4, hu4⟩
    have hu4' : Upd c w3 w4 := Upd.trans (Upd.of_below (by (go_light; repeat (first | with_reducible exact Below.refl _ _ | (with_reducible refine Below.setCell ?_ ?_ _; rotate_left; (focus first | (simp; done) | (simp; omega) | omega)) | (with_reducible refine Below.alloc ?_ ?_ _; rotate_left; (focus first | (simp; done) | (simp; omega) | omega)) | with_reducible refine Below.drew ?_)))) hu4
    have hcell : w4.cell? ⟨w3.heap.size, p.toNat, none⟩ = some (.int .i64 (bads6.getD p.toNat 0)) := (hu4.cell (p := ⟨w3.heap.size, p.toNat, none⟩) (by simp) (by show w3.heap.size ≠ c; omega)).trans (alloc_ints _ bads6 p.toNat (by show p.toNat < 6; omega))
    have HN2 : inI (bads6.getD p.toNat 0) := getD_all (P := inI) (by unfold inI; decide) in0 _
    generalize bads6.getD p.toNat 0 = x at *
    have hr4 := Holds.upd ⟨a0, a1, a2, b0, b1, b2, hz3⟩ hu4' hne
    have hv4 := Holds.upd ⟨v0, v1, v2, g0, g1, g2, hy3⟩ hu4' hv
    clear a0 a1 a2 b0 b1 b2 hz3 v0 v1 v2 g0 g1 g2 hy3
    obtain ⟨a0, a1, a2, b0, b1, b2, hz3⟩ := hr4
    obtain ⟨v0, v1, v2, g0, g1, g2, hy3⟩ := hv4
    have HU4 : Hid (Upd c w w4) := HU3.out.trans hu4'
    clear hu4 hu4' HU3 hc3
    go_wp2
    refine bodyPost_ret (v := .agg #[.int .i64 k, .int .i64 x, .string s]) (by simp [results, Tryz.results41, go_sem, *]) rfl ?_
    refine drawnV_mk hlt (by have := HS.out; omega) HN2 hc4 (by omega) HU4.out ?_
    (go_light; repeat (first | with_reducible exact Below.refl _ _ | (with_reducible refine Below.setCell ?_ ?_ _; rotate_left; (focus first | (simp; done) | (simp; omega) | omega)) | (with_reducible refine Below.alloc ?_ ?_ _; rotate_left; (focus first | (simp; done) | (simp; omega) | omega)) | with_reducible refine Below.drew ?_))
  have e1 : (r == 21) = false := by simpa using t1
  by_cases t2 : r = 22
  · subst t2
    clear t0 t1
    go_wp2_with fail
    refine (pick_any c (A + 24) 2 _ (hc3.mono (by omega)) (by omega) (by omega) (by omega)).mono ?_
    rintro e w4 ⟨p, p0, p1, rfl, hc4, hu4⟩
    have hr4 := Holds.upd ⟨a0, a1, a2, b0, b1, b2, hz3⟩ hu4 hne
    have hv4 := Holds.upd ⟨v0, v1, v2, g0, g1, g2, hy3⟩ hu4 hv
    have HU4 : Hid (Upd c w w4) := HU3.out.trans hu4
    clear a0 a1 a2 b0 b1 b2 hz3 v0 v1 v2 g0 g1 g2 hy3 hu4 HU3 hc3
    obtain ⟨m, hm⟩ : ∃ m : Nat, 255 + p = m := ⟨(255 + p).toNat, by omega⟩
    go_wp2_with fail
    refine (times_any m w4 (by omega) (by omega)).mono ?_
    rintro e w5 ⟨t, ht, rfl, hb5⟩
    have hc5 := hc4.below hb5 hc4.lt
    have hr5 := hr4.below hb5 hr4.lt
    have hv5 := hv4.below hb5 hv4.lt
    have HU5 : Hid (Upd c w w5) := HU4.out.thenB hb5 HU4.out.size
    have HT : Hid (t.size ≤ 600) := ht
    clear hr4 hv4 HU4 hb5 hc4 ht
    obtain ⟨a0, a1, a2, b0, b1, b2, hz3⟩ := hr5
    obtain ⟨v0, v1, v2, g0, g1, g2, hy3⟩ := hv5
    go_wp2
    refine bodyPost_ret (v := .agg #[.int .i64 3, .int .i64 0, .string t]) (by simp [results, Tryz.results41, go_sem, *]) rfl ?_
    refine drawnV_mk hlt (by have := HT.out; omega) in0 hc5 (by omega) HU5.out ?_
    (go_light; repeat (first | with_reducible exact Below.refl _ _ | (with_reducible refine Below.setCell ?_ ?_ _; rotate_left; (focus first | (simp; done) | (simp; omega) | omega)) | (with_reducible refine Below.alloc ?_ ?_ _; rotate_left; (focus first | (simp; done) | (simp; omega) | omega)) | with_reducible refine Below.drew ?_))
  have e2 : (r == 22) = false := by simpa using t2
  by_cases t3 : r = 23
  · subst t3
    clear t0 t1 t2
    go_wp2_with fail
    refine (pick_any c (A + 24) 9 _ (hc3.mono (by omega)) (by omega) (by omega) (by omega)).mono ?_
    rintro e w4 ⟨p, p0, p1, rfl, hc4, hu4⟩
    have hr4 := Holds.upd ⟨a0, a1, a2, b0, b1, b2, hz3⟩ hu4 hne
    have hv4 := Holds.upd ⟨v0, v1, v2, g0, g1, g2, hy3⟩ hu4 hv
    clear a0 a1 a2 b0 b1 b2 hz3 v0 v1 v2 g0 g1 g2 hy3
    obtain ⟨a0, a1, a2, b0, b1, b2, hz3⟩ := hr4
    obtain ⟨v0, v1, v2, g0, g1, g2, hy3⟩ := hv4
    have HU4 : Hid (Upd c w w4) := HU3.out.trans hu4
    clear hu4 HU3 hc3
    go_wp2
    refine bodyPost_ret (v := .agg #[.int .i64 (p - 1), .int .i64 n, .string s]) (by simp [results, Tryz.results41, go_sem, *]) rfl ?_
    refine drawnV_mk hlt (by have := HS.out; omega) HN hc4 (by omega) HU4.out ?_
    (go_light; repeat (first | with_reducible exact Below.refl _ _ | (with_reducible refine Below.setCell ?_ ?_ _; rotate_left; (focus first | (simp; done) | (simp; omega) | omega)) | (with_reducible refine Below.alloc ?_ ?_ _; rotate_left; (focus first | (simp; done) | (simp; omega) | omega)) | with_reducible refine Below.drew ?_))
  have e3 : (r == 23) = false := by simpa using t3
  clear t0 t1 t2 t3
  go_wp2
  refine bodyPost_ret (v := .agg #[.int .i64 k, .int .i64 n, .string s]) (by simp [results, Tryz.results41, go_sem, *]) rfl ?_
  refine drawnV_mk hlt (by have := HS.out; omega) HN hc3 (by omega) HU3.out ?_
  (go_light; repeat (first | with_reducible exact Below.refl _ _ | (with_reducible refine Below.setCell ?_ ?_ _; rotate_left; (focus first | (simp; done) | (simp; omega) | omega)) | (with_reducible refine Below.alloc ?_ ?_ _; rotate_left; (focus first | (simp; done) | (simp; omega) | omega)) | with_reducible refine Below.drew ?_))
end Go.Proofs.YtdcdoeolaongkaaGreatDoor.Dr
