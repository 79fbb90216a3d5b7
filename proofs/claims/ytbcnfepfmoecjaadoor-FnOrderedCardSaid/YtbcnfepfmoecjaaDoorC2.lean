import Derived.Test.YtbcnfepfmoecjaaDoorC1
namespace Go.Proofs.YtbcnfepfmoecjaaDoor
open Go.ChangeShapes Go.WideShapes Go.ChangeAt Go.RowKit Go.Shelf
set_option linter.unusedVariables false
set_option linter.unusedSimpArgs false
set_option maxRecDepth 100000
/-- What the order of two valid values leans on. -/
structure Fit (k1 n1 k2 n2 : Int) : Prop where
  tog : together k1 k2 = true
  d1 : k1 = 2 → -999999999999999999 ≤ n1 ∧ n1 ≤ 999999999999999999
  d2 : k2 = 2 → -999999999999999999 ≤ n2 ∧ n2 ≤ 999999999999999999
  z1 : k1 = 0 → n1 = 0
  z2 : k2 = 0 → n2 = 0
set_option maxHeartbeats 2000000 in
theorem orderOf_any (k1 n1 : Int) (s1 : ByteArray) (k2 n2 : Int) (s2 : ByteArray) (w : World) (hF : Fit k1 n1 k2 n2) :
    Calls Tryd.prog 45 #[.agg #[.int .i64 k1, .int .i64 n1, .string s1], .agg #[.int .i64 k2, .int .i64 n2, .string s2]] w fun e w' => e = .returned (.int .i64 (ordV k1 n1 s1 k2 n2 s2)) ∧ Below w.heap.size w w' := by
  obtain ⟨ht, d1, d2, z1, z2⟩ := hF
  clear z1 z2
  have bw0 : Below w.heap.size w ((w.alloc (.cells #[.int .i64 k1, .int .i64 n1, .string s1] 26)).alloc (.cells #[.int .i64 k2, .int .i64 n2, .string s2] 26)) := (below_alloc w _).alloc (by simp) _
  have cs : (k1 = 3 ∧ k2 = 3) ∨ (¬ k1 = 3 ∧ k1 = k2) ∨ (¬ k1 = k2 ∧ k1 = 0) ∨ (¬ k1 = k2 ∧ ¬ k1 = 0 ∧ k2 = 0) ∨ (k1 = 1 ∧ k2 = 2) ∨ (k1 = 2 ∧ k2 = 1) := by
    simp [together] at ht; omega
  clear ht
  rcases cs with ⟨h, h'⟩ | ⟨h, h'⟩ | ⟨h, h'⟩ | ⟨h, h', h''⟩ | ⟨h, h'⟩ | ⟨h, h'⟩
  · subst h h'
    have HO : Hid (ordV 3 n1 s1 3 n2 s2 = Lib.compareBytes s1.data.toList s2.data.toList) := (by simp [ordV] : ordV 3 n1 s1 3 n2 s2 = Lib.compareBytes s1.data.toList s2.data.toList)
    rw [HO.out]
    go_enter Tryd.func45, Tryd.ntmps45
    go_wp2_with (go_at_call 71; refine (Tryd.strings_Compare _ _ _).mono ?_; rintro e w' ⟨rfl, rfl⟩)
    go_ret
    exact ⟨rfl, bw0⟩
  · subst h'
    have e1 : (k1 == 3) = false := by simpa using h
    have HO : Hid (ordV k1 n1 s1 k1 n2 s2 = sgn n1 n2) := (by simp [ordV, h] : ordV k1 n1 s1 k1 n2 s2 = sgn n1 n2)
    rw [HO.out]
    clear h
    go_enter Tryd.func45, Tryd.ntmps45
    go_wp2_with (go_at_call 72; refine (cmpInt_any _ _ _).mono ?_; rintro e w' ⟨rfl, rfl⟩)
    go_ret
    exact ⟨rfl, bw0⟩
  · subst h'
    have e1 : ((0 : Int) == k2) = false := by simpa using h
    have HO : Hid (ordV 0 n1 s1 k2 n2 s2 = -1) := (by simp [ordV, h] : ordV 0 n1 s1 k2 n2 s2 = -1)
    rw [HO.out]
    clear h
    go_enter Tryd.func45, Tryd.ntmps45
    go_wp2
    go_ret
    exact ⟨rfl, bw0⟩
  · subst h''
    have e1 : (k1 == 0) = false := by simpa using h'
    have HO : Hid (ordV k1 n1 s1 0 n2 s2 = 1) := (by simp [ordV, h'] : ordV k1 n1 s1 0 n2 s2 = 1)
    rw [HO.out]
    clear h h'
    by_cases h3 : k1 = 3
    · subst h3
      go_enter Tryd.func45, Tryd.ntmps45
      go_wp2
      go_ret
      exact ⟨rfl, bw0⟩
    · have e3 : (k1 == 3) = false := by simpa using h3
      clear h3
      go_enter Tryd.func45, Tryd.ntmps45
      go_wp2
      go_ret
      exact ⟨rfl, bw0⟩
  · subst h h'
    have b2 := d2 rfl
    have HO : Hid (ordV 1 n1 s1 2 n2 s2 = cmpID n1 n2) := (by simp [ordV] : ordV 1 n1 s1 2 n2 s2 = cmpID n1 n2)
    rw [HO.out]
    clear d1 d2
    go_enter Tryd.func45, Tryd.ntmps45
    go_wp2_with (go_at_call 73; refine (intDec_impl _ _ _ b2).mono ?_; rintro e w' ⟨rfl, rfl⟩)
    go_ret
    exact ⟨rfl, bw0⟩
  · subst h h'
    have b1 := d1 rfl
    have HO : Hid (ordV 2 n1 s1 1 n2 s2 = - cmpID n2 n1) := (by simp [ordV] : ordV 2 n1 s1 1 n2 s2 = - cmpID n2 n1)
    have hs := sgn_bd (n2 * 10000) n1
    have hs' : -1 ≤ cmpID n2 n1 ∧ cmpID n2 n1 ≤ 1 := hs
    rw [HO.out]
    clear d1 d2 hs
    go_enter Tryd.func45, Tryd.ntmps45
    go_wp2_with (go_at_call 73; refine (intDec_impl _ _ _ b1).mono ?_; rintro e w' ⟨rfl, rfl⟩)
    go_ret
    exact ⟨ret_int (by first | rfl | omega), bw0⟩
theorem vok_kind {k n : Int} {s : ByteArray} (h : vok k n s = true) : (0 ≤ k ∧ k ≤ 5) ∧ (k = 2 → -999999999999999999 ≤ n ∧ n ≤ 999999999999999999) ∧ (k = 0 → n = 0) := by
  unfold vok at h
  refine ⟨?_, ?_, ?_⟩
  · by_cases e : k = 0 ∨ k = 1 ∨ k = 2 ∨ k = 3 ∨ k = 4 ∨ k = 5
    · omega
    · rw [if_neg (by omega), if_neg (by omega), if_neg (by omega), if_neg (by omega), if_neg (by omega), if_neg (by omega)] at h; cases h
  · intro e; subst e; simp at h; omega
  · intro e; subst e; simp at h; omega
theorem fit_of {k1 n1 k2 n2 : Int} {s1 s2 : ByteArray} (h1 : vok k1 n1 s1 = true) (h2 : vok k2 n2 s2 = true) (ht : together k1 k2 = true) : Fit k1 n1 k2 n2 :=
  ⟨ht, (vok_kind h1).2.1, (vok_kind h2).2.1, (vok_kind h1).2.2, (vok_kind h2).2.2⟩
def cmpR (k1 n1 : Int) (s1 : ByteArray) (k2 n2 : Int) (s2 : ByteArray) : Int × Int :=
  if vok k1 n1 s1 = false ∨ vok k2 n2 s2 = false then (0, 1) else if together k1 k2 = false then (0, 10) else (ordV k1 n1 s1 k2 n2 s2, 0)
set_option maxHeartbeats 4000000 in
theorem compare_impl (k1 n1 : Int) (s1 : ByteArray) (k2 n2 : Int) (s2 : ByteArray) (w : World) (hs1 : s1.size ≤ 1048576) (hs2 : s2.size ≤ 1048576) (hT : Tabs w) :
    Calls Tryd.prog 19 #[.agg #[.int .i64 k1, .int .i64 n1, .string s1], .agg #[.int .i64 k2, .int .i64 n2, .string s2]] w fun e w' => e = .returned (.tuple #[.int .i64 (cmpR k1 n1 s1 k2 n2 s2).1, .int .i64 (cmpR k1 n1 s1 k2 n2 s2).2]) ∧ Below w.heap.size w w' := by
  have bw0 : Below w.heap.size w ((w.alloc (.cells #[.int .i64 k1, .int .i64 n1, .string s1] 26)).alloc (.cells #[.int .i64 k2, .int .i64 n2, .string s2] 26)) := (below_alloc w _).alloc (by simp) _
  cases hv1 : vok k1 n1 s1 with
  | false =>
    have HV : Hid (vok k1 n1 s1 = false) := hv1
    have HR : Hid (cmpR k1 n1 s1 k2 n2 s2 = (0, 1)) := (by unfold cmpR; rw [if_pos (.inl hv1)] : cmpR k1 n1 s1 k2 n2 s2 = (0, 1))
    rw [HR.out]
    clear hv1
    go_enter Tryd.func19, Tryd.ntmps19
    go_wp2_with fail
    refine (vok_impl k1 n1 s1 _ hs1 (tabs_below hT bw0)).mono ?_
    rw [HV.out]
    rintro e w1 ⟨rfl, hb⟩
    obtain ⟨hc, hf⟩ := bcell hb
    have bw1 : Below w.heap.size w w1 := bw0.trans (hb.mono (by simp; omega))
    go_wp2
    go_ret2
    exact ⟨rfl, bw1⟩
  | true =>
  cases hv2 : vok k2 n2 s2 with
  | false =>
    have HV1 : Hid (vok k1 n1 s1 = true) := hv1
    have HV2 : Hid (vok k2 n2 s2 = false) := hv2
    have HR : Hid (cmpR k1 n1 s1 k2 n2 s2 = (0, 1)) := (by unfold cmpR; rw [if_pos (.inr hv2)] : cmpR k1 n1 s1 k2 n2 s2 = (0, 1))
    rw [HR.out]
    clear hv1 hv2
    go_enter Tryd.func19, Tryd.ntmps19
    go_wp2_with fail
    refine (vok_impl k1 n1 s1 _ hs1 (tabs_below hT bw0)).mono ?_
    rw [HV1.out]
    rintro e w1 ⟨rfl, hb⟩
    obtain ⟨hc, hf⟩ := bcell hb
    have bw1 : Below w.heap.size w w1 := bw0.trans (hb.mono (by simp; omega))
    go_wp2_with fail
    refine (vok_impl k2 n2 s2 _ hs2 (tabs_below hT bw1)).mono ?_
    rw [HV2.out]
    rintro e w2 ⟨rfl, hb2⟩
    have bw2 : Below w.heap.size w w2 := bw1.trans (hb2.mono bw1.size)
    go_wp2
    go_ret2
    exact ⟨rfl, bw2⟩
  | true =>
    have HV1 : Hid (vok k1 n1 s1 = true) := hv1
    have HV2 : Hid (vok k2 n2 s2 = true) := hv2
    have HK : Hid (Ok.opk 7 k1 k2 = if together k1 k2 then 4 else -1) := opk_eq k1 k2 (vok_kind hv1).1 (vok_kind hv2).1
    cases ht : together k1 k2 with
    | false =>
      have HT : Hid (together k1 k2 = false) := ht
      have HR : Hid (cmpR k1 n1 s1 k2 n2 s2 = (0, 10)) := (by unfold cmpR; rw [if_neg (by rw [hv1, hv2]; simp), if_pos ht] : cmpR k1 n1 s1 k2 n2 s2 = (0, 10))
      rw [HR.out]
      clear hv1 hv2 ht
      go_enter Tryd.func19, Tryd.ntmps19
      go_wp2_with fail
      refine (vok_impl k1 n1 s1 _ hs1 (tabs_below hT bw0)).mono ?_
      rw [HV1.out]
      rintro e w1 ⟨rfl, hb⟩
      obtain ⟨hc, hf⟩ := bcell hb
      have bw1 : Below w.heap.size w w1 := bw0.trans (hb.mono (by simp; omega))
      have hz1 : w.heap.size + 1 < w1.heap.size := by have := hb.size; simp at this; omega
      have hy1 : w.heap.size < w1.heap.size := by omega
      go_wp2_with fail
      refine (vok_impl k2 n2 s2 _ hs2 (tabs_below hT bw1)).mono ?_
      rw [HV2.out]
      rintro e w2 ⟨rfl, hb2⟩
      obtain ⟨hc2, hf2⟩ := bcell hb2
      have bw2 : Below w.heap.size w w2 := bw1.trans (hb2.mono bw1.size)
      go_wp2_with fail
      refine (Ok.opKind_impl _ _ _ _).mono ?_
      rw [HK.out, HT.out]
      rintro e w3 ⟨rfl, hb3⟩
      have bw3 : Below w.heap.size w w3 := bw2.trans (hb3.mono bw2.size)
      go_wp2
      go_ret2
      exact ⟨rfl, bw3⟩
    | true =>
      have HT : Hid (together k1 k2 = true) := ht
      have hF := fit_of hv1 hv2 ht
      have HR : Hid (cmpR k1 n1 s1 k2 n2 s2 = (ordV k1 n1 s1 k2 n2 s2, 0)) := (by unfold cmpR; rw [if_neg (by rw [hv1, hv2]; simp), if_neg (by rw [ht]; simp)] : cmpR k1 n1 s1 k2 n2 s2 = (ordV k1 n1 s1 k2 n2 s2, 0))
      rw [HR.out]
      clear hv1 hv2 ht
      go_enter Tryd.func19, Tryd.ntmps19
      go_wp2_with fail
      refine (vok_impl k1 n1 s1 _ hs1 (tabs_below hT bw0)).mono ?_
      rw [HV1.out]
      rintro e w1 ⟨rfl, hb⟩
      obtain ⟨hc, hf⟩ := bcell hb
      have bw1 : Below w.heap.size w w1 := bw0.trans (hb.mono (by simp; omega))
      have hz1 : w.heap.size + 1 < w1.heap.size := by have := hb.size; simp at this; omega
      have hy1 : w.heap.size < w1.heap.size := by omega
      go_wp2_with fail
      refine (vok_impl k2 n2 s2 _ hs2 (tabs_below hT bw1)).mono ?_
      rw [HV2.out]
      rintro e w2 ⟨rfl, hb2⟩
      obtain ⟨hc2, hf2⟩ := bcell hb2
      have bw2 : Below w.heap.size w w2 := bw1.trans (hb2.mono bw1.size)
      have hz2 : w.heap.size + 1 < w2.heap.size := by have := hb2.size; omega
      have hy2 : w.heap.size < w2.heap.size := by omega
      go_wp2_with fail
      refine (Ok.opKind_impl _ _ _ _).mono ?_
      rw [HK.out, HT.out]
      rintro e w3 ⟨rfl, hb3⟩
      obtain ⟨hc3, hf3⟩ := bcell hb3
      have bw3 : Below w.heap.size w w3 := bw2.trans (hb3.mono bw2.size)
      go_wp2_with fail
      refine (orderOf_any k1 n1 s1 k2 n2 s2 _ hF).mono ?_
      rintro e w4 ⟨rfl, hb4⟩
      have bw4 : Below w.heap.size w w4 := bw3.trans (hb4.mono bw3.size)
      go_wp2
      go_ret2
      exact ⟨rfl, bw4⟩
end Go.Proofs.YtbcnfepfmoecjaaDoor
