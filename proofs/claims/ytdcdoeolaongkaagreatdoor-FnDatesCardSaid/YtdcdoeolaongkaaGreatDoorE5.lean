import Derived.Test.YtdcdoeolaongkaaGreatDoorE4
namespace Go.Proofs.YtdcdoeolaongkaaGreatDoor.Dr
open Go.ChangeShapes Go.WideShapes Go.ChangeAt Go.RowKit
set_option linter.unusedVariables false
set_option linter.unusedSimpArgs false
set_option maxRecDepth 100000
theorem Upd.thenB {c B : Nat} {w w1 w2 : World} (h : Upd c w w1) (hb : Below B w1 w2) (hB : w.heap.size ≤ B) : Upd c w w2 :=
  ⟨hb.os.trans h.os, hb.tape.trans h.tape, hb.output.trans h.output, Nat.le_trans h.size hb.size, fun k hk hc => (hb.block k (Nat.lt_of_lt_of_le hk hB)).trans (h.block k hk hc)⟩
theorem ucell {c : Nat} {W w1 : World} (hb : Upd c W w1) : (∀ b o, b < W.heap.size → b ≠ c → w1.cell? ⟨b, o, none⟩ = W.cell? ⟨b, o, none⟩) ∧ (∀ b o, b < W.heap.size → b ≠ c → w1.frozen? ⟨b, o, none⟩ = W.frozen? ⟨b, o, none⟩) :=
  ⟨fun b o h h' => hb.cell (p := ⟨b, o, none⟩) h h', fun b o h h' => hb.frozen (p := ⟨b, o, none⟩) h h'⟩
theorem in0 : inI 0 := ⟨by omega, by omega⟩
def dates10 : List Int := [0, 1, 18321, -1, -719162, 2932896, 11016, 59, 60, -719103]
/-- A drawn value. -/
def DrawnV (L : Nat) (c : Nat) (A : Int) (w : World) (e : Ending) (w' : World) : Prop := ∃ (k n : Int) (s : ByteArray), s.size ≤ L ∧ inI n ∧ e = .returned (.agg #[.int .i64 k, .int .i64 n, .string s]) ∧ IsCur w' c A ∧ Upd c w w'
theorem drawnV_mk {L c : Nat} {A A' : Int} {w w1 w2 : World} {k n : Int} {s : ByteArray} (hlt : c < w.heap.size) (hs : s.size ≤ L) (hn : inI n) (hc : IsCur w1 c A') (hA : A' ≤ A) (hu : Upd c w w1) (hb : Below w.heap.size w1 w2) : DrawnV L c A w (.returned (.agg #[.int .i64 k, .int .i64 n, .string s])) w2 :=
  ⟨k, n, s, hs, hn, rfl, (hc.below hb hlt).mono hA, hu.thenB hb (Nat.le_refl _)⟩
set_option maxHeartbeats 4000000 in
theorem drawKind_any (c : Nat) (A k : Int) (w : World) (h : IsCur w c A) (hA : A ≤ 1000000) : Calls Tryz.prog 68 #[.pointer (some ⟨c, 0, none⟩), .int .i64 k] w fun e w' => DrawnV 60 c (A + 20) w e w' := by
  have hlt := h.lt
  have hne : w.heap.size ≠ c := by omega
  have hne' : w.heap.size + 1 ≠ c := by omega
  by_cases k1 : k = 1
  · subst k1
    go_enter Tryz.func68, Tryz.ntmps68
    go_wp2_with fail
    refine (drawInt_any c A _ (cur_alloc h _) (by omega)).mono ?_
    rintro e w1 ⟨x, hx, rfl, hc1, hu1⟩
    have HN : inI x := hx
    have hz1 : w.heap.size < w1.heap.size := by have := hu1.size; simp at this; omega
    obtain ⟨hk, hf⟩ := ucell hu1
    have HU : Hid (Upd c w w1) := (upd_alloc c w _).trans hu1
    clear h hx hu1
    go_wp2
    refine bodyPost_ret (v := .agg #[.int .i64 1, .int .i64 x, .string ⟨#[]⟩]) (by simp [results, Tryz.results68, go_sem, hk, hf, hz1, hne]) rfl ?_
    refine drawnV_mk hlt (by decide) HN hc1 (by omega) HU.out ?_
    go_light
    repeat (first | exact Below.refl _ _ | refine Below.setCell ?_ (by simp) _ | refine Below.alloc ?_ (by simp; try omega) _)
  have e1 : (k == 1) = false := by simpa using k1
  by_cases k2 : k = 2
  · subst k2
    clear k1
    go_enter Tryz.func68, Tryz.ntmps68
    go_wp2_with fail
    refine (drawDec_any c A _ (cur_alloc h _) (by omega)).mono ?_
    rintro e w1 ⟨x, hx, rfl, hc1, hu1⟩
    have HN : inI x := ⟨by omega, by omega⟩
    have hz1 : w.heap.size < w1.heap.size := by have := hu1.size; simp at this; omega
    obtain ⟨hk, hf⟩ := ucell hu1
    have HU : Hid (Upd c w w1) := (upd_alloc c w _).trans hu1
    clear h hx hu1
    go_wp2
    refine bodyPost_ret (v := .agg #[.int .i64 2, .int .i64 x, .string ⟨#[]⟩]) (by simp [results, Tryz.results68, go_sem, hk, hf, hz1, hne]) rfl ?_
    refine drawnV_mk hlt (by decide) HN hc1 (by omega) HU.out ?_
    go_light
    repeat (first | exact Below.refl _ _ | refine Below.setCell ?_ (by simp) _ | refine Below.alloc ?_ (by simp; try omega) _)
  have e2 : (k == 2) = false := by simpa using k2
  by_cases k3 : k = 3
  · subst k3
    clear k1 k2
    go_enter Tryz.func68, Tryz.ntmps68
    go_wp2_with fail
    refine (drawText_any c A _ (cur_alloc h _) (by omega)).mono ?_
    rintro e w1 ⟨x, hx, rfl, hc1, hu1⟩
    have HN : inI 0 := in0
    have hz1 : w.heap.size < w1.heap.size := by have := hu1.size; simp at this; omega
    obtain ⟨hk, hf⟩ := ucell hu1
    have HU : Hid (Upd c w w1) := (upd_alloc c w _).trans hu1
    have HX : Hid (x.size ≤ 60) := hx
    clear h hx hu1
    go_wp2
    refine bodyPost_ret (v := .agg #[.int .i64 3, .int .i64 0, .string x]) (by simp [results, Tryz.results68, go_sem, hk, hf, hz1, hne]) rfl ?_
    refine drawnV_mk hlt HX.out HN hc1 (by omega) HU.out ?_
    go_light
    repeat (first | exact Below.refl _ _ | refine Below.setCell ?_ (by simp) _ | refine Below.alloc ?_ (by simp; try omega) _)
  have e3 : (k == 3) = false := by simpa using k3
  by_cases k4 : k = 4
  · subst k4
    clear k1 k2 k3
    go_enter Tryz.func68, Tryz.ntmps68
    go_wp2_with fail
    refine (pick_any c A 2 _ (cur_alloc h _) (by omega) (by omega) (by omega)).mono ?_
    rintro e w1 ⟨x, hx, hx', rfl, hc1, hu1⟩
    have HN : inI x := ⟨by omega, by omega⟩
    have hz1 : w.heap.size < w1.heap.size := by have := hu1.size; simp at this; omega
    obtain ⟨hk, hf⟩ := ucell hu1
    have HU : Hid (Upd c w w1) := (upd_alloc c w _).trans hu1
    clear h hx hx' hu1
    go_wp2
    refine bodyPost_ret (v := .agg #[.int .i64 4, .int .i64 x, .string ⟨#[]⟩]) (by simp [results, Tryz.results68, go_sem, hk, hf, hz1, hne]) rfl ?_
    refine drawnV_mk hlt (by decide) HN hc1 (by omega) HU.out ?_
    go_light
    repeat (first | exact Below.refl _ _ | refine Below.setCell ?_ (by simp) _ | refine Below.alloc ?_ (by simp; try omega) _)
  have e4 : (k == 4) = false := by simpa using k4
  by_cases k5 : k = 5
  · subst k5
    clear k1 k2 k3 k4
    go_enter Tryz.func68, Tryz.ntmps68
    go_wp2_with fail
    refine (pick_any c A 10 _ (cur_alloc (cur_alloc h _) _) (by omega) (by omega) (by omega)).mono ?_
    rintro e w1 ⟨r, r0, r1, rfl, hc1, hu1⟩
    have hz1 : w.heap.size + 1 < w1.heap.size := by have := hu1.size; simp at this; omega
    have hy1 : w.heap.size < w1.heap.size := by omega
    have hcell : w1.cell? ⟨w.heap.size + 1, r.toNat, none⟩ = some (.int .i64 (dates10.getD r.toNat 0)) := (hu1.cell (p := ⟨w.heap.size + 1, r.toNat, none⟩) (by simp) hne').trans (by
      rw [show w.heap.size + 1 = (w.alloc (.cells #[.int .i64 0, .int .i64 0, .string ⟨#[]⟩] 29)).heap.size by simp]
      exact alloc_ints _ dates10 r.toNat (by show r.toNat < 10; omega))
    have HN : inI (dates10.getD r.toNat 0) := getD_all (P := inI) (by unfold inI; decide) in0 _
    generalize dates10.getD r.toNat 0 = x at *
    obtain ⟨hk, hf⟩ := ucell hu1
    have HU : Hid (Upd c w w1) := ((upd_alloc c w _).trans (upd_alloc c _ _)).trans hu1
    clear h hu1
    go_wp2
    refine bodyPost_ret (v := .agg #[.int .i64 5, .int .i64 x, .string ⟨#[]⟩]) (by have hy2 : w.heap.size < w.heap.size + 1 + 1 := (by omega); simp [results, Tryz.results68, go_sem, hk, hf, hz1, hy1, hy2, hne]) rfl ?_
    refine drawnV_mk hlt (by decide) HN hc1 (by omega) HU.out ?_
    go_light
    repeat (first | exact Below.refl _ _ | refine Below.setCell ?_ (by simp) _ | refine Below.alloc ?_ (by simp; try omega) _)
  have e5 : (k == 5) = false := by simpa using k5
  clear k1 k2 k3 k4 k5
  go_enter Tryz.func68, Tryz.ntmps68
  go_wp2
  refine bodyPost_ret (v := .agg #[.int .i64 0, .int .i64 0, .string ⟨#[]⟩]) (by simp [results, Tryz.results68, go_sem]) rfl ?_
  refine drawnV_mk hlt (by decide) in0 h (by omega) (Upd.refl c w) ?_
  go_light
  repeat (first | exact Below.refl _ _ | refine Below.setCell ?_ (by simp) _ | refine Below.alloc ?_ (by simp; try omega) _)
end Go.Proofs.YtdcdoeolaongkaaGreatDoor.Dr
