import Derived.Test.YtjpcgnkgdaphoaaDoorV4
namespace Go.Proofs.YtjpcgnkgdaphoaaDoor
open Go.ChangeShapes Go.WideShapes Go.ChangeAt Go.RowKit Go.Shelf
set_option linter.unusedVariables false
set_option linter.unusedSimpArgs false
set_option maxRecDepth 100000
set_option maxHeartbeats 4000000 in
theorem cutNumber_B (s t : ByteArray) (n : Nat) (r : Cut) (w : World) (hs : s.size ≤ 1048576) (hn1 : 1 ≤ n) (hn2 : n ≤ s.size) (ht1 : 1 ≤ t.size) (ht2 : t.size ≤ n)
    (hcnt : ∀ w, Calls Tryd.prog 40 #[.string s, .func (.func 29) #[] #[]] w fun e w' => e = .returned (.int .i64 n) ∧ w' = w)
    (hwn : ∀ w, Calls Tryd.prog 43 #[.string (s.extract 0 n)] w fun e w' => e = .returned (.string t) ∧ w' = w)
    (hdt : digs t.data.toList) (HR : Hid (r = if bigI t.data.toList then .err 5 0 else if nextW s n then .err 2 n else .tok 3 t.data.toList n))
    (hn : n < s.size) (hA : n + 1 < s.size) (hB : ((s[n]'hn).toNat : Int) ≠ 46) :
    Calls Tryd.prog 30 #[.string s] w fun e w' => e = .returned (cutV r) ∧ Below w.heap.size w w' := by
  have htl : t.data.toList.length = t.size := by simp
  have hAi : (n : Int) + 1 < s.size := by omega
  obtain ⟨c, hcc⟩ : ∃ c : Int, ((s[n]'hn).toNat : Int) = c := ⟨_, rfl⟩
  rw [hcc] at hB
  have hB' : (c == 46) = false := by rw [beq_eq_false_iff_ne]; exact hB
  have hdg := fun w => isDigit_any 0 w
  rcases Nat.lt_trichotomy t.size 19 with h19 | h19 | h19
  · have HB : Hid (bigI t.data.toList = false) := bigI_lt _ hdt (by rw [htl]; exact h19)
    have h19a : ¬ (19 : Int) < t.size := by omega
    have h19b : ((t.size : Int) == 19) = false := by rw [beq_eq_false_iff_ne]; omega
    have hbw := fun w => beginsWord_any c w
    have hX := nextW_in s n hn
    rw [hcc] at hX
    cases hw : wdI c
    · rw [hw] at hbw hX
      have HX : Hid (nextW s n = false) := hX
      clear hX hw
      go_enter Tryd.func30, Tryd.ntmps30
      go_wp2_with (first | (go_at_call 40; refine (hcnt _).mono ?_; rintro e w' ⟨rfl, rfl⟩) | (go_at_call 43; refine (hwn _).mono ?_; rintro e w' ⟨rfl, rfl⟩) | (go_at_call 29; refine (hdg _).mono ?_; rintro e w' ⟨rfl, rfl⟩) | (go_at_call 27; refine (hbw _).mono ?_; rintro e w' ⟨rfl, rfl⟩))
      refine bodyPost_ret (v := .agg #[.int .i64 3, .string t, .int .i64 n, .int .i64 0, .int .i64 0]) (by simp [results, Tryd.results30, go_sem]) rfl ⟨?_, ((Below.refl _ _).alloc (Nat.le_refl _) _).alloc (by simp) _⟩
      rw [HR.out]; rw [if_neg (by rw [HB.out]; decide)]; rw [if_neg (by rw [HX.out]; decide)]; simp only [cutV, ba_mk]
    · rw [hw] at hbw hX
      have HX : Hid (nextW s n = true) := hX
      clear hX hw
      go_enter Tryd.func30, Tryd.ntmps30
      go_wp2_with (first | (go_at_call 40; refine (hcnt _).mono ?_; rintro e w' ⟨rfl, rfl⟩) | (go_at_call 43; refine (hwn _).mono ?_; rintro e w' ⟨rfl, rfl⟩) | (go_at_call 29; refine (hdg _).mono ?_; rintro e w' ⟨rfl, rfl⟩) | (go_at_call 27; refine (hbw _).mono ?_; rintro e w' ⟨rfl, rfl⟩))
      refine bodyPost_ret (v := .agg #[.int .i64 0, .string ⟨#[]⟩, .int .i64 0, .int .i64 2, .int .i64 n]) (by simp [results, Tryd.results30, go_sem]) rfl ⟨?_, ((Below.refl _ _).alloc (Nat.le_refl _) _).alloc (by simp) _⟩
      rw [HR.out]; rw [if_neg (by rw [HB.out]; decide)]; rw [if_pos HX.out]; rfl

  · have hgb := bigI_eq _ hdt (htl.trans h19)
    have h19b : (t.size : Int) = 19 := by omega
    have htt : t.toList = t.data.toList := Lib.toList_data t
    cases hg : (!(Op.bytesLess t.data.toList maxL || t.data.toList == maxL))
    · rw [hg] at hgb
      have HB : Hid (bigI t.data.toList = false) := hgb
      have hg2 : (Op.bytesLess t.toList [57, 50, 50, 51, 51, 55, 50, 48, 51, 54, 56, 53, 52, 55, 55, 53, 56, 48, 55] || t.toList == [57, 50, 50, 51, 51, 55, 50, 48, 51, 54, 56, 53, 52, 55, 55, 53, 56, 48, 55]) = true := by
        rw [htt]
        show (Op.bytesLess t.data.toList maxL || t.data.toList == maxL) = true
        rw [Bool.not_eq_false'] at hg; exact hg
      clear hgb hg htt
      have hbw := fun w => beginsWord_any c w
      have hX := nextW_in s n hn
      rw [hcc] at hX
      cases hw : wdI c
      · rw [hw] at hbw hX
        have HX : Hid (nextW s n = false) := hX
        clear hX hw
        go_enter Tryd.func30, Tryd.ntmps30
        go_wp2_with (first | (go_at_call 40; refine (hcnt _).mono ?_; rintro e w' ⟨rfl, rfl⟩) | (go_at_call 43; refine (hwn _).mono ?_; rintro e w' ⟨rfl, rfl⟩) | (go_at_call 29; refine (hdg _).mono ?_; rintro e w' ⟨rfl, rfl⟩) | (go_at_call 27; refine (hbw _).mono ?_; rintro e w' ⟨rfl, rfl⟩))
        refine bodyPost_ret (v := .agg #[.int .i64 3, .string t, .int .i64 n, .int .i64 0, .int .i64 0]) (by simp [results, Tryd.results30, go_sem]) rfl ⟨?_, ((Below.refl _ _).alloc (Nat.le_refl _) _).alloc (by simp) _⟩
        rw [HR.out]; rw [if_neg (by rw [HB.out]; decide)]; rw [if_neg (by rw [HX.out]; decide)]; simp only [cutV, ba_mk]
      · rw [hw] at hbw hX
        have HX : Hid (nextW s n = true) := hX
        clear hX hw
        go_enter Tryd.func30, Tryd.ntmps30
        go_wp2_with (first | (go_at_call 40; refine (hcnt _).mono ?_; rintro e w' ⟨rfl, rfl⟩) | (go_at_call 43; refine (hwn _).mono ?_; rintro e w' ⟨rfl, rfl⟩) | (go_at_call 29; refine (hdg _).mono ?_; rintro e w' ⟨rfl, rfl⟩) | (go_at_call 27; refine (hbw _).mono ?_; rintro e w' ⟨rfl, rfl⟩))
        refine bodyPost_ret (v := .agg #[.int .i64 0, .string ⟨#[]⟩, .int .i64 0, .int .i64 2, .int .i64 n]) (by simp [results, Tryd.results30, go_sem]) rfl ⟨?_, ((Below.refl _ _).alloc (Nat.le_refl _) _).alloc (by simp) _⟩
        rw [HR.out]; rw [if_neg (by rw [HB.out]; decide)]; rw [if_pos HX.out]; rfl

    · rw [hg] at hgb
      have HB : Hid (bigI t.data.toList = true) := hgb
      have hg2 : (Op.bytesLess t.toList [57, 50, 50, 51, 51, 55, 50, 48, 51, 54, 56, 53, 52, 55, 55, 53, 56, 48, 55] || t.toList == [57, 50, 50, 51, 51, 55, 50, 48, 51, 54, 56, 53, 52, 55, 55, 53, 56, 48, 55]) = false := by
        rw [htt]
        show (Op.bytesLess t.data.toList maxL || t.data.toList == maxL) = false
        rw [Bool.not_eq_true'] at hg; exact hg
      clear hgb hg htt
      have hbw := fun w => beginsWord_any 0 w
      go_enter Tryd.func30, Tryd.ntmps30
      go_wp2_with (first | (go_at_call 40; refine (hcnt _).mono ?_; rintro e w' ⟨rfl, rfl⟩) | (go_at_call 43; refine (hwn _).mono ?_; rintro e w' ⟨rfl, rfl⟩) | (go_at_call 29; refine (hdg _).mono ?_; rintro e w' ⟨rfl, rfl⟩) | (go_at_call 27; refine (hbw _).mono ?_; rintro e w' ⟨rfl, rfl⟩))
      refine bodyPost_ret (v := .agg #[.int .i64 0, .string ⟨#[]⟩, .int .i64 0, .int .i64 5, .int .i64 0]) (by simp [results, Tryd.results30, go_sem]) rfl ⟨?_, ((Below.refl _ _).alloc (Nat.le_refl _) _).alloc (by simp) _⟩
      rw [HR.out]; rw [if_pos HB.out]; rfl

  · have HB : Hid (bigI t.data.toList = true) := bigI_gt _ (by rw [htl]; exact h19)
    have h19a : (19 : Int) < t.size := by omega
    have hbw := fun w => beginsWord_any 0 w
    go_enter Tryd.func30, Tryd.ntmps30
    go_wp2_with (first | (go_at_call 40; refine (hcnt _).mono ?_; rintro e w' ⟨rfl, rfl⟩) | (go_at_call 43; refine (hwn _).mono ?_; rintro e w' ⟨rfl, rfl⟩) | (go_at_call 29; refine (hdg _).mono ?_; rintro e w' ⟨rfl, rfl⟩) | (go_at_call 27; refine (hbw _).mono ?_; rintro e w' ⟨rfl, rfl⟩))
    refine bodyPost_ret (v := .agg #[.int .i64 0, .string ⟨#[]⟩, .int .i64 0, .int .i64 5, .int .i64 0]) (by simp [results, Tryd.results30, go_sem]) rfl ⟨?_, ((Below.refl _ _).alloc (Nat.le_refl _) _).alloc (by simp) _⟩
    rw [HR.out]; rw [if_pos HB.out]; rfl

end Go.Proofs.YtjpcgnkgdaphoaaDoor
