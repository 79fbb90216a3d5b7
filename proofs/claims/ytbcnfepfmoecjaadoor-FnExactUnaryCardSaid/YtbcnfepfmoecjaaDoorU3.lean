import Derived.Test.YtbcnfepfmoecjaaDoorU2
import Derived.Test.YtbcnfepfmoecjaaDoorW4
namespace Go.Proofs.YtbcnfepfmoecjaaDoor
open Go.ChangeShapes Go.WideShapes Go.ChangeAt Go.RowKit Go.Shelf
set_option linter.unusedVariables false
set_option linter.unusedSimpArgs false
set_option maxRecDepth 100000
set_option maxHeartbeats 4000000 in
theorem unary_spec (op k n : Int) (s : ByteArray) (w : World) (hs : s.size ≤ 1048576) (wn : (Lit.int .i64 n).wf = true) :
    Calls Tryd.prog 20 #[.int .i64 op, .agg #[.int .i64 k, .int .i64 n, .string s]] w fun e w' => e = .returned (unV (unR op k n (Ok.opk op k 0) (vok k n s))) ∧ Below w.heap.size w w' := by
  have bw0 : Below w.heap.size w ((w.alloc (.cells #[.int .i64 k, .int .i64 n, .string s] 26)).alloc (.cells #[.int .i64 0, .int .i64 0, .string ⟨#[]⟩] 26)) := (below_alloc w _).alloc (by simp) _
  by_cases hin : op < 16 ∨ 18 < op
  · have HR : Hid (unR op k n (Ok.opk op k 0) (vok k n s) = (0, 0, 1)) := (by unfold unR; rw [if_pos (by rcases hin with h | h; exact .inl h; exact .inr (.inl h))] : unR op k n (Ok.opk op k 0) (vok k n s) = (0, 0, 1))
    rw [HR.out]
    rcases hin with h | h
    · have d1 : decide (16 ≤ op) = false := by simpa using h
      go_enter Tryd.func20, Tryd.ntmps20
      go_wp2_with fail
      refine bodyPost_ret (v := unV (0, 0, 1)) (by simp [results, Tryd.results20, go_sem, unV]) rfl ⟨rfl, bw0⟩
    · have d1 : decide (16 ≤ op) = true := by simp; omega
      have d2 : decide (op ≤ 18) = false := by simpa using h
      have h' : ¬ op < 16 := by omega
      go_enter Tryd.func20, Tryd.ntmps20
      go_wp2_with fail
      refine bodyPost_ret (v := unV (0, 0, 1)) (by simp [results, Tryd.results20, go_sem, unV]) rfl ⟨rfl, bw0⟩
  have g1 : ¬ op < 16 := by omega
  have g2 : ¬ 18 < op := by omega
  have d1 : decide (16 ≤ op) = true := by simp; omega
  have d2 : decide (op ≤ 18) = true := by simp; omega
  clear hin
  cases hv : vok k n s with
  | false =>
    have HV : Hid (vok k n s = false) := hv
    have HR : Hid (unR op k n (Ok.opk op k 0) false = (0, 0, 1)) := (by simp [unR] : unR op k n (Ok.opk op k 0) false = (0, 0, 1))
    clear hv
    rw [HR.out]
    go_enter Tryd.func20, Tryd.ntmps20
    go_wp2_with fail
    refine (vok_spec k n s _ hs).mono ?_
    rw [HV.out]
    rintro e w1 ⟨rfl, hb⟩
    obtain ⟨hc, hf⟩ := bcell hb
    have hz : w.heap.size + 1 < w1.heap.size := by have := hb.size; simp at this; omega
    have hy : w.heap.size < w1.heap.size := by omega
    have bw1 : Below w.heap.size w w1 := bw0.trans (hb.mono (by simp; omega))
    go_wp2
    refine bodyPost_ret (v := unV (0, 0, 1)) (by simp [results, Tryd.results20, go_sem, unV, hc, hf, hz]) rfl ⟨rfl, ?_⟩
    exact ((bw1.setCell (by simp) _).setCell (by simp) _).setCell (by simp) _
  | true =>
    have HV : Hid (vok k n s = true) := hv
    clear hv
    by_cases hk : Ok.opk op k 0 = -1
    · have HR : Hid (unR op k n (Ok.opk op k 0) true = (0, 0, 10)) := (by unfold unR; rw [if_neg (by simp; omega), if_pos hk] : unR op k n (Ok.opk op k 0) true = (0, 0, 10))
      have kb : (Ok.opk op k 0 == -1) = true := by rw [hk]; rfl
      have kl : Ok.opk op k 0 < 0 := by omega
      clear hk
      rw [HR.out]
      go_enter Tryd.func20, Tryd.ntmps20
      go_wp2_with fail
      refine (vok_spec k n s _ hs).mono ?_
      rw [HV.out]
      rintro e w1 ⟨rfl, hb⟩
      obtain ⟨hc, hf⟩ := bcell hb
      have hz : w.heap.size + 1 < w1.heap.size := by have := hb.size; simp at this; omega
      have hy : w.heap.size < w1.heap.size := by omega
      have bw1 : Below w.heap.size w w1 := bw0.trans (hb.mono (by simp; omega))
      go_wp2_with fail
      refine (Ok.opKind_spec _ _ _ _).mono ?_
      rintro e w2 ⟨rfl, rfl⟩
      have bw2 := bw1
      have hz2 := hz
      go_wp2
      refine bodyPost_ret (v := unV (0, 0, 10)) (by simp [results, Tryd.results20, go_sem, unV, hc, hf, hz]) rfl ⟨rfl, ?_⟩
      exact ((bw2.setCell (by simp) _).setCell (by simp) _).setCell (by simp) _
    have kb : (Ok.opk op k 0 == -1) = false := by simpa using hk
    have kl : ¬ Ok.opk op k 0 < 0 := by have := opk_un (op := op) (k := k) (by omega) (by omega); omega
    have HU : Hid (unR op k n (Ok.opk op k 0) true = if op = 18 then (4, zB (k == 0), 0) else if k = 0 then (0, 0, 0) else if op = 16 then (4, zB (n == 0), 0) else if n = -9223372036854775808 then (0, 0, 13) else (k, -n, 0)) := (by unfold unR; rw [if_neg (by simp; omega), if_neg hk] : unR op k n (Ok.opk op k 0) true = _)
    clear hk
    by_cases c1 : op = 18
    · have HR : Hid (unR op k n (Ok.opk op k 0) true = (4, zB (k == 0), 0)) := (by rw [HU.out]; simp [*] : unR op k n (Ok.opk op k 0) true = (4, zB (k == 0), 0))
      clear HU
      rw [HR.out]
      have e1 : (op == 18) = true := by simpa using c1
      clear c1
      go_enter Tryd.func20, Tryd.ntmps20
      go_wp2_with fail
      refine (vok_spec k n s _ hs).mono ?_
      rw [HV.out]
      rintro e w1 ⟨rfl, hb⟩
      obtain ⟨hc, hf⟩ := bcell hb
      have hz : w.heap.size + 1 < w1.heap.size := by have := hb.size; simp at this; omega
      have hy : w.heap.size < w1.heap.size := by omega
      have bw1 : Below w.heap.size w w1 := bw0.trans (hb.mono (by simp; omega))
      go_wp2_with fail
      refine (Ok.opKind_spec _ _ _ _).mono ?_
      rintro e w2 ⟨rfl, rfl⟩
      have bw2 := bw1
      have hz2 := hz
      go_wp2_with fail
      refine (truth_any _ _).mono ?_
      rintro e w3 ⟨rfl, hb3⟩
      obtain ⟨hc3, hf3⟩ := bcell hb3
      have hz3 : w.heap.size + 1 < w3.heap.size := by have := hb3.size; omega
      have hy3 : w.heap.size < w3.heap.size := by omega
      have bw3 : Below w.heap.size w w3 := bw2.trans (hb3.mono (by have := bw2.size; omega))
      go_wp2
      refine bodyPost_ret (v := unV (4, zB (k == 0), 0)) (by simp [results, Tryd.results20, go_sem, unV, hc, hf, hz, hc3, hf3, hz3]) rfl ⟨rfl, ?_⟩
      exact ((bw3.setCell (by simp) _).setCell (by simp) _).setCell (by simp) _
    have e1 : (op == 18) = false := by simpa using c1
    by_cases c2 : k = 0
    · have HR : Hid (unR op k n (Ok.opk op k 0) true = (0, 0, 0)) := (by rw [HU.out]; simp [*] : unR op k n (Ok.opk op k 0) true = (0, 0, 0))
      clear HU
      rw [HR.out]
      have e2 : (k == 0) = true := by simpa using c2
      clear c2
      go_enter Tryd.func20, Tryd.ntmps20
      go_wp2_with fail
      refine (vok_spec k n s _ hs).mono ?_
      rw [HV.out]
      rintro e w1 ⟨rfl, hb⟩
      obtain ⟨hc, hf⟩ := bcell hb
      have hz : w.heap.size + 1 < w1.heap.size := by have := hb.size; simp at this; omega
      have hy : w.heap.size < w1.heap.size := by omega
      have bw1 : Below w.heap.size w w1 := bw0.trans (hb.mono (by simp; omega))
      go_wp2_with fail
      refine (Ok.opKind_spec _ _ _ _).mono ?_
      rintro e w2 ⟨rfl, rfl⟩
      have bw2 := bw1
      have hz2 := hz
      go_wp2
      refine bodyPost_ret (v := unV (0, 0, 0)) (by simp [results, Tryd.results20, go_sem, unV, hc, hf, hz]) rfl ⟨rfl, ?_⟩
      exact ((bw2.setCell (by simp) _).setCell (by simp) _).setCell (by simp) _
    have e2 : (k == 0) = false := by simpa using c2
    by_cases c3 : op = 16
    · have HR : Hid (unR op k n (Ok.opk op k 0) true = (4, zB (n == 0), 0)) := (by rw [HU.out]; simp [*] : unR op k n (Ok.opk op k 0) true = (4, zB (n == 0), 0))
      clear HU
      rw [HR.out]
      have e3 : (op == 16) = true := by simpa using c3
      clear c3
      go_enter Tryd.func20, Tryd.ntmps20
      go_wp2_with fail
      refine (vok_spec k n s _ hs).mono ?_
      rw [HV.out]
      rintro e w1 ⟨rfl, hb⟩
      obtain ⟨hc, hf⟩ := bcell hb
      have hz : w.heap.size + 1 < w1.heap.size := by have := hb.size; simp at this; omega
      have hy : w.heap.size < w1.heap.size := by omega
      have bw1 : Below w.heap.size w w1 := bw0.trans (hb.mono (by simp; omega))
      go_wp2_with fail
      refine (Ok.opKind_spec _ _ _ _).mono ?_
      rintro e w2 ⟨rfl, rfl⟩
      have bw2 := bw1
      have hz2 := hz
      go_wp2_with fail
      refine (truth_any _ _).mono ?_
      rintro e w3 ⟨rfl, hb3⟩
      obtain ⟨hc3, hf3⟩ := bcell hb3
      have hz3 : w.heap.size + 1 < w3.heap.size := by have := hb3.size; omega
      have hy3 : w.heap.size < w3.heap.size := by omega
      have bw3 : Below w.heap.size w w3 := bw2.trans (hb3.mono (by have := bw2.size; omega))
      go_wp2
      refine bodyPost_ret (v := unV (4, zB (n == 0), 0)) (by simp [results, Tryd.results20, go_sem, unV, hc, hf, hz, hc3, hf3, hz3]) rfl ⟨rfl, ?_⟩
      exact ((bw3.setCell (by simp) _).setCell (by simp) _).setCell (by simp) _
    have e3 : (op == 16) = false := by simpa using c3
    have bn := wf_in wn
    by_cases c4 : n = -9223372036854775808
    · have HR : Hid (unR op k n (Ok.opk op k 0) true = (0, 0, 13)) := (by rw [HU.out]; simp [*] : unR op k n (Ok.opk op k 0) true = (0, 0, 13))
      have e4 : (n == -9223372036854775808) = true := by simpa using c4
      have HW : Hid (wrap64 (-n) = if n = -9223372036854775808 then n else -n) := (by unfold wrap64; unfold inI at bn; split <;> omega : wrap64 (-n) = if n = -9223372036854775808 then n else -n)
      have HX : Hid (n = -9223372036854775808 ∨ wrap64 (-n) = -n) := (by have := HW.out; by_cases h : n = -9223372036854775808; exact .inl h; exact .inr (by rw [this, if_neg h]))
      have HN : Hid (True) := (by exact trivial)
      clear HU c4 HW HX
      rw [HR.out]
      go_enter Tryd.func20, Tryd.ntmps20
      go_wp2_with fail
      refine (vok_spec k n s _ hs).mono ?_
      rw [HV.out]
      rintro e w1 ⟨rfl, hb⟩
      obtain ⟨hc, hf⟩ := bcell hb
      have hz : w.heap.size + 1 < w1.heap.size := by have := hb.size; simp at this; omega
      have hy : w.heap.size < w1.heap.size := by omega
      have bw1 : Below w.heap.size w w1 := bw0.trans (hb.mono (by simp; omega))
      go_wp2_with fail
      refine (Ok.opKind_spec _ _ _ _).mono ?_
      rintro e w2 ⟨rfl, rfl⟩
      have bw2 := bw1
      have hz2 := hz
      go_wp2
      refine bodyPost_ret (v := unV (0, 0, 13)) (by simp [results, Tryd.results20, go_sem, unV, hc, hf, hz, HN.out]) rfl ⟨rfl, ?_⟩
      exact ((bw2.setCell (by simp) _).setCell (by simp) _).setCell (by simp) _
    · have HR : Hid (unR op k n (Ok.opk op k 0) true = (k, -n, 0)) := (by rw [HU.out]; simp [*] : unR op k n (Ok.opk op k 0) true = (k, -n, 0))
      have e4 : (n == -9223372036854775808) = false := by simpa using c4
      have HW : Hid (wrap64 (-n) = if n = -9223372036854775808 then n else -n) := (by unfold wrap64; unfold inI at bn; split <;> omega : wrap64 (-n) = if n = -9223372036854775808 then n else -n)
      have HX : Hid (n = -9223372036854775808 ∨ wrap64 (-n) = -n) := (by have := HW.out; by_cases h : n = -9223372036854775808; exact .inl h; exact .inr (by rw [this, if_neg h]))
      have HN : Hid (wrap64 (-n) = -n) := (by exact HX.out.resolve_left c4)
      clear HU c4 HW HX
      rw [HR.out]
      go_enter Tryd.func20, Tryd.ntmps20
      go_wp2_with fail
      refine (vok_spec k n s _ hs).mono ?_
      rw [HV.out]
      rintro e w1 ⟨rfl, hb⟩
      obtain ⟨hc, hf⟩ := bcell hb
      have hz : w.heap.size + 1 < w1.heap.size := by have := hb.size; simp at this; omega
      have hy : w.heap.size < w1.heap.size := by omega
      have bw1 : Below w.heap.size w w1 := bw0.trans (hb.mono (by simp; omega))
      go_wp2_with fail
      refine (Ok.opKind_spec _ _ _ _).mono ?_
      rintro e w2 ⟨rfl, rfl⟩
      have bw2 := bw1
      have hz2 := hz
      go_wp2
      refine bodyPost_ret (v := unV (k, -n, 0)) (by simp [results, Tryd.results20, go_sem, unV, hc, hf, hz, HN.out]) rfl ⟨rfl, ?_⟩
      exact ((bw2.setCell (by simp) _).setCell (by simp) _).setCell (by simp) _
end Go.Proofs.YtbcnfepfmoecjaaDoor
