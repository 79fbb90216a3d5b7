import Derived.Test.YtdcdoeolaongkaaGreatDoorU1
import Derived.Test.YtdcdoeolaongkaaGreatDoorK4
namespace Go.Proofs.YtdcdoeolaongkaaGreatDoor
open Go.ChangeShapes Go.WideShapes Go.ChangeAt Go.RowKit Go.Shelf
set_option linter.unusedVariables false
set_option linter.unusedSimpArgs false
set_option maxRecDepth 100000
theorem opk_un {op k : Int} (h1 : 16 ≤ op) (h2 : op ≤ 18) : Ok.opk op k 0 = -1 ∨ 0 ≤ Ok.opk op k 0 := by
  simp only [Ok.opk, Ok.unK]; grind
/-- What Unary answers, as a Go value. -/
def unV (r : Int × Int × Int) : Value := .tuple #[.agg #[.int .i64 r.1, .int .i64 r.2.1, .string ⟨#[]⟩], .int .i64 r.2.2]
set_option maxHeartbeats 4000000 in
theorem unary_impl (op k n : Int) (s : ByteArray) (w : World) (hs : s.size ≤ 1048576) (wn : (Lit.int .i64 n).wf = true) (hT : Tabs w) :
    Calls Tryz.prog 148 #[.int .i64 op, .agg #[.int .i64 k, .int .i64 n, .string s]] w fun e w' => e = .returned (unV (unR op k n (Ok.opk op k 0) (vok k n s))) ∧ Below w.heap.size w w' := by
  have bw0 : Below w.heap.size w ((w.alloc (.cells #[.int .i64 k, .int .i64 n, .string s] 29)).alloc (.cells #[.int .i64 0, .int .i64 0, .string ⟨#[]⟩] 29)) := (below_alloc w _).alloc (by simp) _
  by_cases hin : op < 16 ∨ 18 < op
  · have HR : Hid (unR op k n (Ok.opk op k 0) (vok k n s) = (0, 0, 1)) := (by unfold unR; rw [if_pos (by rcases hin with h | h; exact .inl h; exact .inr (.inl h))] : unR op k n (Ok.opk op k 0) (vok k n s) = (0, 0, 1))
    rw [HR.out]
    rcases hin with h | h
    · have d1 : decide (16 ≤ op) = false := by simpa using h
      go_enter Tryz.func148, Tryz.ntmps148
      go_wp2_with (first | (go_at_call 52; refine (within_any _ _ _ _).mono ?_; rintro e w' ⟨rfl, rfl⟩))
      refine bodyPost_ret (v := unV (0, 0, 1)) (by simp [results, Tryz.results148, go_sem, unV]) rfl ⟨rfl, bw0⟩
    · have d1 : decide (16 ≤ op) = true := by simp; omega
      have d2 : decide (op ≤ 18) = false := by simpa using h
      have h' : ¬ op < 16 := by omega
      go_enter Tryz.func148, Tryz.ntmps148
      go_wp2_with (first | (go_at_call 52; refine (within_any _ _ _ _).mono ?_; rintro e w' ⟨rfl, rfl⟩))
      refine bodyPost_ret (v := unV (0, 0, 1)) (by simp [results, Tryz.results148, go_sem, unV]) rfl ⟨rfl, bw0⟩
  have g1 : ¬ op < 16 := by omega
  have g2 : ¬ 18 < op := by omega
  have d1 : decide (16 ≤ op) = true := by simp; omega
  have d2 : decide (op ≤ 18) = true := by simp; omega
  clear hin
  cases hv : vok k n s with
  | false =>
    have HV : Hid (vok k n s = false) := hv
    have HR : Hid (unR op k n (Ok.opk op k 0) false = (0, 0, 1)) := (by simp [unR] : unR op k n (Ok.opk op k 0) false = (0, 0, 1))
    clear hv
    rw [HR.out]
    go_enter Tryz.func148, Tryz.ntmps148
    go_wp2_with (first | (go_at_call 52; refine (within_any _ _ _ _).mono ?_; rintro e w' ⟨rfl, rfl⟩))
    refine (vok_impl k n s _ hs (tabs_below hT bw0)).mono ?_
    rw [HV.out]
    rintro e w1 ⟨rfl, hb⟩
    obtain ⟨hc, hf⟩ := bcell hb
    have hz : w.heap.size + 1 < w1.heap.size := by have := hb.size; simp at this; omega
    have hy : w.heap.size < w1.heap.size := by omega
    have bw1 : Below w.heap.size w w1 := bw0.trans (hb.mono (by simp; omega))
    go_wp2
    refine bodyPost_ret (v := unV (0, 0, 1)) (by simp [results, Tryz.results148, go_sem, unV, hc, hf, hz]) rfl ⟨rfl, ?_⟩
    exact ((bw1.setCell (by simp) _).setCell (by simp) _).setCell (by simp) _
  | true =>
    have HV : Hid (vok k n s = true) := hv
    clear hv
    by_cases hk : Ok.opk op k 0 = -1
    · have HR : Hid (unR op k n (Ok.opk op k 0) true = (0, 0, 10)) := (by unfold unR; rw [if_neg (by simp; omega), if_pos hk] : unR op k n (Ok.opk op k 0) true = (0, 0, 10))
      have kb : (Ok.opk op k 0 == -1) = true := by rw [hk]; rfl
      have kl : Ok.opk op k 0 < 0 := by omega
      clear hk
      rw [HR.out]
      go_enter Tryz.func148, Tryz.ntmps148
      go_wp2_with (first | (go_at_call 52; refine (within_any _ _ _ _).mono ?_; rintro e w' ⟨rfl, rfl⟩))
      refine (vok_impl k n s _ hs (tabs_below hT bw0)).mono ?_
      rw [HV.out]
      rintro e w1 ⟨rfl, hb⟩
      obtain ⟨hc, hf⟩ := bcell hb
      have hz : w.heap.size + 1 < w1.heap.size := by have := hb.size; simp at this; omega
      have hy : w.heap.size < w1.heap.size := by omega
      have bw1 : Below w.heap.size w w1 := bw0.trans (hb.mono (by simp; omega))
      go_wp2_with fail
      refine (Ok.opKind_impl _ _ _ _).mono ?_
      rintro e w2 ⟨rfl, hb2⟩
      obtain ⟨hc2, hf2⟩ := bcell hb2
      have hz2 : w.heap.size + 1 < w2.heap.size := by have := hb2.size; omega
      have hy2 : w.heap.size < w2.heap.size := by omega
      have bw2 : Below w.heap.size w w2 := bw1.trans (hb2.mono (by have := bw1.size; omega))
      go_wp2
      refine bodyPost_ret (v := unV (0, 0, 10)) (by simp [results, Tryz.results148, go_sem, unV, hc, hf, hz, hc2, hf2, hz2]) rfl ⟨rfl, ?_⟩
      exact ((bw2.setCell (by simp) _).setCell (by simp) _).setCell (by simp) _
    have kb : (Ok.opk op k 0 == -1) = false := by simpa using hk
    have kl : ¬ Ok.opk op k 0 < 0 := by have := opk_un (op := op) (k := k) (by omega) (by omega); omega
    have HU : Hid (unR op k n (Ok.opk op k 0) true = if op = 18 then (4, zB (k == 0), 0) else if k = 0 then (0, 0, 0) else if op = 16 then (4, zB (n == 0), 0) else if n = -9223372036854775808 then (0, 0, 13) else (k, -n, 0)) := (by unfold unR; rw [if_neg (by simp; omega), if_neg hk] : unR op k n (Ok.opk op k 0) true = _)
    clear hk
    by_cases c1 : op = 18
    · have HR : Hid (unR op k n (Ok.opk op k 0) true = (4, zB (k == 0), 0)) := (by rw [HU.out]; simp [*] : unR op k n (Ok.opk op k 0) true = (4, zB (k == 0), 0))
      clear HU
      rw [HR.out]
      have e1 : (op == 18) = true := by simpa using c1
      clear c1
      go_enter Tryz.func148, Tryz.ntmps148
      go_wp2_with (first | (go_at_call 52; refine (within_any _ _ _ _).mono ?_; rintro e w' ⟨rfl, rfl⟩))
      refine (vok_impl k n s _ hs (tabs_below hT bw0)).mono ?_
      rw [HV.out]
      rintro e w1 ⟨rfl, hb⟩
      obtain ⟨hc, hf⟩ := bcell hb
      have hz : w.heap.size + 1 < w1.heap.size := by have := hb.size; simp at this; omega
      have hy : w.heap.size < w1.heap.size := by omega
      have bw1 : Below w.heap.size w w1 := bw0.trans (hb.mono (by simp; omega))
      go_wp2_with fail
      refine (Ok.opKind_impl _ _ _ _).mono ?_
      rintro e w2 ⟨rfl, hb2⟩
      obtain ⟨hc2, hf2⟩ := bcell hb2
      have hz2 : w.heap.size + 1 < w2.heap.size := by have := hb2.size; omega
      have hy2 : w.heap.size < w2.heap.size := by omega
      have bw2 : Below w.heap.size w w2 := bw1.trans (hb2.mono (by have := bw1.size; omega))
      go_wp2_with fail
      refine (boolValue_any _ _).mono ?_
      rintro e w3 ⟨rfl, hb3⟩
      obtain ⟨hc3, hf3⟩ := bcell hb3
      have hz3 : w.heap.size + 1 < w3.heap.size := by have := hb3.size; omega
      have hy3 : w.heap.size < w3.heap.size := by omega
      have bw3 : Below w.heap.size w w3 := bw2.trans (hb3.mono (by have := bw2.size; omega))
      go_wp2
      refine bodyPost_ret (v := unV (4, zB (k == 0), 0)) (by simp [results, Tryz.results148, go_sem, unV, hc, hf, hz, hc2, hf2, hz2, hc3, hf3, hz3]) rfl ⟨rfl, ?_⟩
      exact ((bw3.setCell (by simp) _).setCell (by simp) _).setCell (by simp) _
    have e1 : (op == 18) = false := by simpa using c1
    by_cases c2 : k = 0
    · have HR : Hid (unR op k n (Ok.opk op k 0) true = (0, 0, 0)) := (by rw [HU.out]; simp [*] : unR op k n (Ok.opk op k 0) true = (0, 0, 0))
      clear HU
      rw [HR.out]
      have e2 : (k == 0) = true := by simpa using c2
      clear c2
      go_enter Tryz.func148, Tryz.ntmps148
      go_wp2_with (first | (go_at_call 52; refine (within_any _ _ _ _).mono ?_; rintro e w' ⟨rfl, rfl⟩))
      refine (vok_impl k n s _ hs (tabs_below hT bw0)).mono ?_
      rw [HV.out]
      rintro e w1 ⟨rfl, hb⟩
      obtain ⟨hc, hf⟩ := bcell hb
      have hz : w.heap.size + 1 < w1.heap.size := by have := hb.size; simp at this; omega
      have hy : w.heap.size < w1.heap.size := by omega
      have bw1 : Below w.heap.size w w1 := bw0.trans (hb.mono (by simp; omega))
      go_wp2_with fail
      refine (Ok.opKind_impl _ _ _ _).mono ?_
      rintro e w2 ⟨rfl, hb2⟩
      obtain ⟨hc2, hf2⟩ := bcell hb2
      have hz2 : w.heap.size + 1 < w2.heap.size := by have := hb2.size; omega
      have hy2 : w.heap.size < w2.heap.size := by omega
      have bw2 : Below w.heap.size w w2 := bw1.trans (hb2.mono (by have := bw1.size; omega))
      go_wp2
      refine bodyPost_ret (v := unV (0, 0, 0)) (by simp [results, Tryz.results148, go_sem, unV, hc, hf, hz, hc2, hf2, hz2]) rfl ⟨rfl, ?_⟩
      exact ((bw2.setCell (by simp) _).setCell (by simp) _).setCell (by simp) _
    have e2 : (k == 0) = false := by simpa using c2
    by_cases c3 : op = 16
    · have HR : Hid (unR op k n (Ok.opk op k 0) true = (4, zB (n == 0), 0)) := (by rw [HU.out]; simp [*] : unR op k n (Ok.opk op k 0) true = (4, zB (n == 0), 0))
      clear HU
      rw [HR.out]
      have e3 : (op == 16) = true := by simpa using c3
      clear c3
      go_enter Tryz.func148, Tryz.ntmps148
      go_wp2_with (first | (go_at_call 52; refine (within_any _ _ _ _).mono ?_; rintro e w' ⟨rfl, rfl⟩))
      refine (vok_impl k n s _ hs (tabs_below hT bw0)).mono ?_
      rw [HV.out]
      rintro e w1 ⟨rfl, hb⟩
      obtain ⟨hc, hf⟩ := bcell hb
      have hz : w.heap.size + 1 < w1.heap.size := by have := hb.size; simp at this; omega
      have hy : w.heap.size < w1.heap.size := by omega
      have bw1 : Below w.heap.size w w1 := bw0.trans (hb.mono (by simp; omega))
      go_wp2_with fail
      refine (Ok.opKind_impl _ _ _ _).mono ?_
      rintro e w2 ⟨rfl, hb2⟩
      obtain ⟨hc2, hf2⟩ := bcell hb2
      have hz2 : w.heap.size + 1 < w2.heap.size := by have := hb2.size; omega
      have hy2 : w.heap.size < w2.heap.size := by omega
      have bw2 : Below w.heap.size w w2 := bw1.trans (hb2.mono (by have := bw1.size; omega))
      go_wp2_with fail
      refine (boolValue_any _ _).mono ?_
      rintro e w3 ⟨rfl, hb3⟩
      obtain ⟨hc3, hf3⟩ := bcell hb3
      have hz3 : w.heap.size + 1 < w3.heap.size := by have := hb3.size; omega
      have hy3 : w.heap.size < w3.heap.size := by omega
      have bw3 : Below w.heap.size w w3 := bw2.trans (hb3.mono (by have := bw2.size; omega))
      go_wp2
      refine bodyPost_ret (v := unV (4, zB (n == 0), 0)) (by simp [results, Tryz.results148, go_sem, unV, hc, hf, hz, hc2, hf2, hz2, hc3, hf3, hz3]) rfl ⟨rfl, ?_⟩
      exact ((bw3.setCell (by simp) _).setCell (by simp) _).setCell (by simp) _
    have e3 : (op == 16) = false := by simpa using c3
    have bn := wf_in wn
    by_cases c4 : n = -9223372036854775808
    · have HR : Hid (unR op k n (Ok.opk op k 0) true = (0, 0, 13)) := (by rw [HU.out]; simp [*] : unR op k n (Ok.opk op k 0) true = (0, 0, 13))
      have HS : Hid (sub64 0 n = (0, 13)) := (by unfold sub64; unfold inI at bn; split <;> simp <;> omega : sub64 0 n = (0, 13))
      clear HU c4
      rw [HR.out]
      go_enter Tryz.func148, Tryz.ntmps148
      go_wp2_with (first | (go_at_call 52; refine (within_any _ _ _ _).mono ?_; rintro e w' ⟨rfl, rfl⟩))
      refine (vok_impl k n s _ hs (tabs_below hT bw0)).mono ?_
      rw [HV.out]
      rintro e w1 ⟨rfl, hb⟩
      obtain ⟨hc, hf⟩ := bcell hb
      have hz : w.heap.size + 1 < w1.heap.size := by have := hb.size; simp at this; omega
      have hy : w.heap.size < w1.heap.size := by omega
      have bw1 : Below w.heap.size w w1 := bw0.trans (hb.mono (by simp; omega))
      go_wp2_with fail
      refine (Ok.opKind_impl _ _ _ _).mono ?_
      rintro e w2 ⟨rfl, hb2⟩
      obtain ⟨hc2, hf2⟩ := bcell hb2
      have hz2 : w.heap.size + 1 < w2.heap.size := by have := hb2.size; omega
      have hy2 : w.heap.size < w2.heap.size := by omega
      have bw2 : Below w.heap.size w w2 := bw1.trans (hb2.mono (by have := bw1.size; omega))
      go_wp2_with fail
      refine (subInts_any 0 n _ (by decide) wn).mono ?_
      rw [HS.out]
      rintro e w' ⟨rfl, rfl⟩
      go_wp2_with fail
      refine (numbered_bad _ _ _ _ rfl).mono ?_
      rintro e w3 ⟨rfl, hb3⟩
      obtain ⟨hc3, hf3⟩ := bcell hb3
      have hz3 : w.heap.size + 1 < w3.heap.size := by have := hb3.size; omega
      have hy3 : w.heap.size < w3.heap.size := by omega
      have bw3 : Below w.heap.size w w3 := bw2.trans (hb3.mono (by have := bw2.size; omega))
      go_wp2
      refine bodyPost_ret (v := unV (0, 0, 13)) (by simp [results, Tryz.results148, go_sem, unV, hc, hf, hz, hc2, hf2, hz2, hc3, hf3, hz3]) rfl ⟨rfl, ?_⟩
      exact ((bw3.setCell (by simp) _).setCell (by simp) _).setCell (by simp) _
    · have HR : Hid (unR op k n (Ok.opk op k 0) true = (k, -n, 0)) := (by rw [HU.out]; simp [*] : unR op k n (Ok.opk op k 0) true = (k, -n, 0))
      have HS : Hid (sub64 0 n = (-n, 0)) := (by unfold sub64; unfold inI at bn; split <;> simp <;> omega : sub64 0 n = (-n, 0))
      clear HU c4
      rw [HR.out]
      go_enter Tryz.func148, Tryz.ntmps148
      go_wp2_with (first | (go_at_call 52; refine (within_any _ _ _ _).mono ?_; rintro e w' ⟨rfl, rfl⟩))
      refine (vok_impl k n s _ hs (tabs_below hT bw0)).mono ?_
      rw [HV.out]
      rintro e w1 ⟨rfl, hb⟩
      obtain ⟨hc, hf⟩ := bcell hb
      have hz : w.heap.size + 1 < w1.heap.size := by have := hb.size; simp at this; omega
      have hy : w.heap.size < w1.heap.size := by omega
      have bw1 : Below w.heap.size w w1 := bw0.trans (hb.mono (by simp; omega))
      go_wp2_with fail
      refine (Ok.opKind_impl _ _ _ _).mono ?_
      rintro e w2 ⟨rfl, hb2⟩
      obtain ⟨hc2, hf2⟩ := bcell hb2
      have hz2 : w.heap.size + 1 < w2.heap.size := by have := hb2.size; omega
      have hy2 : w.heap.size < w2.heap.size := by omega
      have bw2 : Below w.heap.size w w2 := bw1.trans (hb2.mono (by have := bw1.size; omega))
      go_wp2_with fail
      refine (subInts_any 0 n _ (by decide) wn).mono ?_
      rw [HS.out]
      rintro e w' ⟨rfl, rfl⟩
      go_wp2_with fail
      refine (numbered_ok _ _ _).mono ?_
      rintro e w3 ⟨rfl, hb3⟩
      obtain ⟨hc3, hf3⟩ := bcell hb3
      have hz3 : w.heap.size + 1 < w3.heap.size := by have := hb3.size; omega
      have hy3 : w.heap.size < w3.heap.size := by omega
      have bw3 : Below w.heap.size w w3 := bw2.trans (hb3.mono (by have := bw2.size; omega))
      go_wp2
      refine bodyPost_ret (v := unV (k, -n, 0)) (by simp [results, Tryz.results148, go_sem, unV, hc, hf, hz, hc2, hf2, hz2, hc3, hf3, hz3]) rfl ⟨rfl, ?_⟩
      exact ((bw3.setCell (by simp) _).setCell (by simp) _).setCell (by simp) _
end Go.Proofs.YtdcdoeolaongkaaGreatDoor
