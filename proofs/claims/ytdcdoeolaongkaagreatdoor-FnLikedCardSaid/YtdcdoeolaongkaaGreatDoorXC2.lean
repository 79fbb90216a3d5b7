import Derived.Test.YtdcdoeolaongkaaGreatDoorXC1
namespace Go.Proofs.YtdcdoeolaongkaaGreatDoor
open Go.ChangeShapes Go.WideShapes Go.ChangeAt Go.RowKit Go.Shelf
set_option linter.unusedVariables false
set_option linter.unusedSimpArgs false
set_option maxRecDepth 100000
/-- What the order of two valid values leans on. -/
structure Fit (k1 n1 k2 n2 : Int) : Prop where
  tog : together k1 k2 = true
  d1 : k1 = 2 → -999999999999999999 ≤ n1 ∧ n1 ≤ 999999999999999999
  d2 : k2 = 2 → -999999999999999999 ≤ n2 ∧ n2 ≤ 999999999999999999
  z1 : k1 = 0 → n1 = 0
  z2 : k2 = 0 → n2 = 0
set_option maxHeartbeats 2000000 in
theorem orderOf_any (k1 n1 : Int) (s1 : ByteArray) (k2 n2 : Int) (s2 : ByteArray) (w : World) (hF : Fit k1 n1 k2 n2) :
    Calls Tryz.prog 59 #[.agg #[.int .i64 k1, .int .i64 n1, .string s1], .agg #[.int .i64 k2, .int .i64 n2, .string s2]] w fun e w' => e = .returned (.int .i64 (ordV k1 n1 s1 k2 n2 s2)) ∧ Below w.heap.size w w' := by
  obtain ⟨ht, d1, d2, z1, z2⟩ := hF
  clear z1 z2
  have bw0 : Below w.heap.size w ((w.alloc (.cells #[.int .i64 k1, .int .i64 n1, .string s1] 29)).alloc (.cells #[.int .i64 k2, .int .i64 n2, .string s2] 29)) := (below_alloc w _).alloc (by simp) _
  have cs : (k1 = 3 ∧ k2 = 3) ∨ (¬ k1 = 3 ∧ k1 = k2) ∨ (¬ k1 = k2 ∧ k1 = 0) ∨ (¬ k1 = k2 ∧ ¬ k1 = 0 ∧ k2 = 0) ∨ (k1 = 1 ∧ k2 = 2) ∨ (k1 = 2 ∧ k2 = 1) := by
    simp [together] at ht; omega
  clear ht
  rcases cs with ⟨h, h'⟩ | ⟨h, h'⟩ | ⟨h, h'⟩ | ⟨h, h', h''⟩ | ⟨h, h'⟩ | ⟨h, h'⟩
  · subst h h'
    have HO : Hid (ordV 3 n1 s1 3 n2 s2 = Lib.compareBytes s1.data.toList s2.data.toList) := (by simp [ordV] : ordV 3 n1 s1 3 n2 s2 = Lib.compareBytes s1.data.toList s2.data.toList)
    rw [HO.out]
    go_enter Tryz.func59, Tryz.ntmps59
    go_wp2_with (go_at_call 119; refine (Tryz.strings_Compare _ _ _).mono ?_; rintro e w' ⟨rfl, rfl⟩)
    go_ret
    exact ⟨rfl, bw0⟩
  · subst h'
    have e1 : (k1 == 3) = false := by simpa using h
    have HO : Hid (ordV k1 n1 s1 k1 n2 s2 = sgn n1 n2) := (by simp [ordV, h] : ordV k1 n1 s1 k1 n2 s2 = sgn n1 n2)
    rw [HO.out]
    clear h
    go_enter Tryz.func59, Tryz.ntmps59
    go_wp2_with (go_at_call 120; refine (cmpInt_any _ _ _).mono ?_; rintro e w' ⟨rfl, rfl⟩)
    go_ret
    exact ⟨rfl, bw0⟩
  · subst h'
    have e1 : ((0 : Int) == k2) = false := by simpa using h
    have HO : Hid (ordV 0 n1 s1 k2 n2 s2 = -1) := (by simp [ordV, h] : ordV 0 n1 s1 k2 n2 s2 = -1)
    rw [HO.out]
    clear h
    go_enter Tryz.func59, Tryz.ntmps59
    go_wp2
    go_ret
    exact ⟨rfl, bw0⟩
  · subst h''
    have e1 : (k1 == 0) = false := by simpa using h'
    have HO : Hid (ordV k1 n1 s1 0 n2 s2 = 1) := (by simp [ordV, h'] : ordV k1 n1 s1 0 n2 s2 = 1)
    rw [HO.out]
    clear h h'
    by_cases h3 : k1 = 3
    · subst h3
      go_enter Tryz.func59, Tryz.ntmps59
      go_wp2
      go_ret
      exact ⟨rfl, bw0⟩
    · have e3 : (k1 == 3) = false := by simpa using h3
      clear h3
      go_enter Tryz.func59, Tryz.ntmps59
      go_wp2
      go_ret
      exact ⟨rfl, bw0⟩
  · subst h h'
    have b2 := d2 rfl
    have HO : Hid (ordV 1 n1 s1 2 n2 s2 = cmpID n1 n2) := (by simp [ordV] : ordV 1 n1 s1 2 n2 s2 = cmpID n1 n2)
    rw [HO.out]
    clear d1 d2
    go_enter Tryz.func59, Tryz.ntmps59
    go_wp2_with (go_at_call 121; refine (intDec_impl _ _ _ b2).mono ?_; rintro e w' ⟨rfl, rfl⟩)
    go_ret
    exact ⟨rfl, bw0⟩
  · subst h h'
    have b1 := d1 rfl
    have HO : Hid (ordV 2 n1 s1 1 n2 s2 = - cmpID n2 n1) := (by simp [ordV] : ordV 2 n1 s1 1 n2 s2 = - cmpID n2 n1)
    have hs := sgn_bd (n2 * 10000) n1
    have hs' : -1 ≤ cmpID n2 n1 ∧ cmpID n2 n1 ≤ 1 := hs
    rw [HO.out]
    clear d1 d2 hs
    go_enter Tryz.func59, Tryz.ntmps59
    go_wp2_with (go_at_call 121; refine (intDec_impl _ _ _ b1).mono ?_; rintro e w' ⟨rfl, rfl⟩)
    go_ret
    exact ⟨ret_int (by first | rfl | omega), bw0⟩
theorem vok_kind {k n : Int} {s : ByteArray} (h : vok k n s = true) : (0 ≤ k ∧ k ≤ 5) ∧ (k = 2 → -999999999999999999 ≤ n ∧ n ≤ 999999999999999999) ∧ (k = 0 → n = 0) := by
  unfold vok at h
  refine ⟨?_, ?_, ?_⟩
  · by_cases e : k = 0 ∨ k = 1 ∨ k = 2 ∨ k = 3 ∨ k = 4 ∨ k = 5
    · omega
    · rw [if_neg (by omega), if_neg (by omega), if_neg (by omega), if_neg (by omega), if_neg (by omega), if_neg (by omega)] at h; cases h
  · intro e; subst e; simp at h; omega
  · intro e; subst e; simp at h; omega
theorem fit_of {k1 n1 k2 n2 : Int} {s1 s2 : ByteArray} (h1 : vok k1 n1 s1 = true) (h2 : vok k2 n2 s2 = true) (ht : together k1 k2 = true) : Fit k1 n1 k2 n2 :=
  ⟨ht, (vok_kind h1).2.1, (vok_kind h2).2.1, (vok_kind h1).2.2, (vok_kind h2).2.2⟩
def cmpR (k1 n1 : Int) (s1 : ByteArray) (k2 n2 : Int) (s2 : ByteArray) : Int × Int :=
  if vok k1 n1 s1 = false ∨ vok k2 n2 s2 = false then (0, 1) else if together k1 k2 = false then (0, 10) else (ordV k1 n1 s1 k2 n2 s2, 0)
end Go.Proofs.YtdcdoeolaongkaaGreatDoor
