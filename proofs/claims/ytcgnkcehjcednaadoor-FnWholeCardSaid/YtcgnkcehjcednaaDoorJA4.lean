import Derived.Test.YtcgnkcehjcednaaDoorJA3
namespace Go.Proofs.YtcgnkcehjcednaaDoor
open Go.ChangeShapes Go.WideShapes Go.ChangeAt Go.RowKit Go.Shelf
set_option linter.unusedVariables false
set_option linter.unusedSimpArgs false
set_option maxRecDepth 100000
namespace Ar
theorem chain {w W w' : World} (h : Below w.heap.size w W) (hb : Below W.heap.size W w') : Below w.heap.size w w' := h.trans (hb.mono h.size)
def nR (k n c : Int) : Int × Int × Int := if c = 0 then (k, n, 0) else (0, 0, c)
def binV (r : Int × Int × Int) : Value := .tuple #[.agg #[.int .i64 r.1, .int .i64 r.2.1, .string ⟨#[]⟩], .int .i64 r.2.2]
theorem numbered_any (k n c : Int) (w : World) : Calls Tryd.prog 134 #[.int .i64 k, .int .i64 n, .int .i64 c] w fun e w' => e = .returned (binV (nR k n c)) ∧ Below w.heap.size w w' := by
  by_cases h : c = 0
  · subst h
    exact (numbered_ok k n w).mono (fun e w' h => by rw [show nR k n 0 = (k, n, 0) by simp [nR]]; exact h)
  · exact (numbered_bad k n c w (by simpa using h)).mono (fun e w' hx => by rw [show nR k n c = (0, 0, c) by simp [nR, h]]; exact hx)
theorem units_dec (n : Int) (w : World) : Calls Tryd.prog 135 #[.agg #[.int .i64 2, .int .i64 n, .string ⟨#[]⟩]] w fun e w' => e = .returned (.tuple #[.int .i64 n, .int .i64 0]) ∧ Below w.heap.size w w' := by
  go_enter Tryd.func135, Tryd.ntmps135
  go_wp2
  go_ret2
  exact ⟨rfl, below_alloc _ _⟩
/-- Add to Mod of two numbers of one kind. -/
def binR (k op a b : Int) : Int × Int × Int := if k = 1 then nR 1 (iR op a b).1 (iR op a b).2 else nR 2 (dR op a b).1 (dR op a b).2
def bwB (w : World) (k a b : Int) : World := ((w.alloc (.cells #[.int .i64 k, .int .i64 a, .string ⟨#[]⟩] 26)).alloc (.cells #[.int .i64 k, .int .i64 b, .string ⟨#[]⟩] 26)).alloc (.cells #[.int .i64 0, .int .i64 0, .string ⟨#[]⟩] 26)
theorem bw_bwB (w : World) (k a b : Int) : Below w.heap.size w (((w.alloc (.cells #[.int .i64 k, .int .i64 a, .string ⟨#[]⟩] 26)).alloc (.cells #[.int .i64 k, .int .i64 b, .string ⟨#[]⟩] 26)).alloc (.cells #[.int .i64 0, .int .i64 0, .string ⟨#[]⟩] 26)) := ((below_alloc w _).alloc (by simp) _).alloc (by simp; omega) _
set_option maxHeartbeats 4000000 in
theorem arith_int (op a b : Int) (w : World) (h1 : 1 ≤ op) (h5 : op ≤ 5) (ba : inI a) (bb : inI b) :
    Calls Tryd.prog 83 #[.int .i64 op, .agg #[.int .i64 1, .int .i64 a, .string ⟨#[]⟩], .agg #[.int .i64 1, .int .i64 b, .string ⟨#[]⟩]] w fun e w' => e = .returned (binV (binR 1 op a b)) ∧ Below w.heap.size w w' := by
  have bw0 := bw_bwB w 1 a b
  obtain ⟨⟨x, c⟩, hx⟩ : ∃ r, iR op a b = r := ⟨_, rfl⟩
  obtain ⟨⟨y1, y2, y3⟩, hy⟩ : ∃ r, nR 1 x c = r := ⟨_, rfl⟩
  have HX : Hid (iR op a b = (x, c)) := hx
  have HY : Hid (nR 1 x c = (y1, y2, y3)) := hy
  have HR : Hid (binR 1 op a b = (y1, y2, y3)) := (by simp only [binR, if_true, hx]; exact hy : binR 1 op a b = (y1, y2, y3))
  rw [HR.out]
  clear hx hy
  go_enter Tryd.func83, Tryd.ntmps83
  go_wp2_with (go_at_call 133; refine (intArith_any op a b _ h1 h5 ba bb).mono ?_; rw [HX.out]; rintro e w' ⟨rfl, rfl⟩)
  refine (numbered_any 1 x c _).mono ?_
  rw [HY.out]
  simp only [binV]
  rintro e w1 ⟨rfl, hb⟩
  obtain ⟨hc, hf⟩ := bcell hb
  have hx1 : w.heap.size + 1 + 1 < w1.heap.size := by have := hb.size; simp at this; omega
  have bw1 := chain bw0 hb
  go_wp2
  refine bodyPost_ret (v := binV (y1, y2, y3)) (by simp [results, Tryd.results83, go_sem, binV, hc, hf, hx1]) rfl ⟨rfl, ?_⟩
  refine bw1.trans ?_
  (go_light; repeat (first | with_reducible exact Below.refl _ _ | (with_reducible refine Below.setCell ?_ ?_ _; rotate_left; (focus first | (simp; done) | (simp; omega) | omega)) | (with_reducible refine Below.alloc ?_ ?_ _; rotate_left; (focus first | (simp; done) | (simp; omega) | omega)) | with_reducible refine Below.drew ?_))
set_option maxHeartbeats 4000000 in
theorem arith_dec (op a b : Int) (w : World) (ho : op = 1 ∨ op = 2 ∨ op = 5) (ba : inD a) (bb : inD b) :
    Calls Tryd.prog 83 #[.int .i64 op, .agg #[.int .i64 2, .int .i64 a, .string ⟨#[]⟩], .agg #[.int .i64 2, .int .i64 b, .string ⟨#[]⟩]] w fun e w' => e = .returned (binV (binR 2 op a b)) ∧ Below w.heap.size w w' := by
  have bw0 := bw_bwB w 2 a b
  obtain ⟨⟨x, c⟩, hx⟩ : ∃ r, dR op a b = r := ⟨_, rfl⟩
  obtain ⟨⟨y1, y2, y3⟩, hy⟩ : ∃ r, nR 2 x c = r := ⟨_, rfl⟩
  have HX : Hid (dR op a b = (x, c)) := hx
  have HY : Hid (nR 2 x c = (y1, y2, y3)) := hy
  have HR : Hid (binR 2 op a b = (y1, y2, y3)) := (by simp only [binR, hx]; simpa using hy : binR 2 op a b = (y1, y2, y3))
  rw [HR.out]
  clear hx hy
  go_enter Tryd.func83, Tryd.ntmps83
  go_wp2_with fail
  refine (units_dec a _).mono ?_
  rintro e w1 ⟨rfl, hb⟩
  obtain ⟨hc, hf⟩ := bcell hb
  have hx1 : w.heap.size + 1 + 1 < w1.heap.size := by have := hb.size; simp at this; omega
  have hz1 : w.heap.size + 1 < w1.heap.size := by omega
  have bw1 := chain bw0 hb
  go_wp2_with fail
  refine (units_dec b _).mono ?_
  rintro e w2 ⟨rfl, hb2⟩
  obtain ⟨hc2, hf2⟩ := bcell hb2
  have hx2 : w.heap.size + 1 + 1 < w2.heap.size := by have := hb2.size; omega
  have bw2 := chain bw1 hb2
  go_wp2_with (go_at_call 136; refine (decArith_any op a b _ ho ba bb).mono ?_; rw [HX.out]; rintro e w' ⟨rfl, rfl⟩)
  refine (numbered_any 2 x c _).mono ?_
  rw [HY.out]
  simp only [binV]
  rintro e w3 ⟨rfl, hb3⟩
  obtain ⟨hc3, hf3⟩ := bcell hb3
  have hx3 : w.heap.size + 1 + 1 < w3.heap.size := by have := hb3.size; omega
  have bw3 := chain bw2 hb3
  go_wp2
  refine bodyPost_ret (v := binV (y1, y2, y3)) (by simp [results, Tryd.results83, go_sem, binV, hc, hf, hx1, hc2, hf2, hx2, hc3, hf3, hx3]) rfl ⟨rfl, ?_⟩
  refine bw3.trans ?_
  (go_light; repeat (first | with_reducible exact Below.refl _ _ | (with_reducible refine Below.setCell ?_ ?_ _; rotate_left; (focus first | (simp; done) | (simp; omega) | omega)) | (with_reducible refine Below.alloc ?_ ?_ _; rotate_left; (focus first | (simp; done) | (simp; omega) | omega)) | with_reducible refine Below.drew ?_))
end Ar
end Go.Proofs.YtcgnkcehjcednaaDoor
