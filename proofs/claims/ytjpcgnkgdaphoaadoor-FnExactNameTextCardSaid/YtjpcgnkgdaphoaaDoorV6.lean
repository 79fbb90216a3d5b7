import Derived.Test.YtjpcgnkgdaphoaaDoorV4
namespace Go.Proofs.YtjpcgnkgdaphoaaDoor
open Go.ChangeShapes Go.WideShapes Go.ChangeAt Go.RowKit Go.Shelf
set_option linter.unusedVariables false
set_option linter.unusedSimpArgs false
set_option maxRecDepth 100000
theorem dec_val (s t : ByteArray) (n m : Nat) : (.agg #[.int .i64 4, .string (t ++ s.extract n (n + 1 + m)), .int .i64 ((n : Int) + (1 + (m : Int))), .int .i64 0, .int .i64 0] : Value) = cutV (.tok 4 (t.data.toList ++ (s.data.toList.drop n).take (1 + m)) (n + 1 + m)) := by
  have h1 : t ++ s.extract n (n + 1 + m) = ⟨(t.data.toList ++ (s.data.toList.drop n).take (1 + m)).toArray⟩ := by
    apply ba_ext
    rw [ByteArray.data_append, Array.toList_append, ba_mid, show n + 1 + m - n = 1 + m by omega]
  have h2 : (n : Int) + (1 + (m : Int)) = ((n + 1 + m : Nat) : Int) := by omega
  rw [h1, h2]; rfl
set_option maxHeartbeats 2000000 in
theorem cutNumber_D (s t : ByteArray) (n m : Nat) (r : Cut) (w : World) (hs : s.size ≤ 1048576) (hn1 : 1 ≤ n) (ht1 : 1 ≤ t.size) (ht2 : t.size ≤ n)
    (hcnt : ∀ w, Calls Tryd.prog 40 #[.string s, .func (.func 29) #[] #[]] w fun e w' => e = .returned (.int .i64 n) ∧ w' = w)
    (hwn : ∀ w, Calls Tryd.prog 43 #[.string (s.extract 0 n)] w fun e w' => e = .returned (.string t) ∧ w' = w)
    (hcm : ∀ w, Calls Tryd.prog 40 #[.string (s.extract (n + 1) s.size), .func (.func 29) #[] #[]] w fun e w' => e = .returned (.int .i64 m) ∧ w' = w)
    (hm1 : 1 ≤ m) (hm2 : n + 1 + m ≤ s.size)
    (HR : Hid (r = if 14 < t.size ∨ 4 < m then .err 5 0 else if nextW s (n + 1 + m) then .err 2 (n + 1 + m) else .tok 4 (t.data.toList ++ (s.data.toList.drop n).take (1 + m)) (n + 1 + m)))
    (hn : n < s.size) (hA : n + 1 < s.size) (hB : ((s[n]'hn).toNat : Int) = 46) (hC : digI ((s[n + 1]'hA).toNat : Int) = true) :
    Calls Tryd.prog 30 #[.string s] w fun e w' => e = .returned (cutV r) ∧ Below w.heap.size w w' := by
  have hAi : (n : Int) + 1 < s.size := by omega
  have hdg := fun w => isDigit_any ((s[n + 1]'hA).toNat : Int) w
  rw [hC] at hdg
  clear hC
  by_cases h14 : 14 < t.size
  · have h14' : (14 : Int) < t.size := by omega
    go_enter Tryd.func30, Tryd.ntmps30
    go_wp2_with (first | (go_at_call 40; (first | with_reducible refine (hcnt _).mono ?_ | with_reducible refine (hcm _).mono ?_); rintro e w' ⟨rfl, rfl⟩) | (go_at_call 43; refine (hwn _).mono ?_; rintro e w' ⟨rfl, rfl⟩) | (go_at_call 29; refine (hdg _).mono ?_; rintro e w' ⟨rfl, rfl⟩))
    refine bodyPost_ret (v := .agg #[.int .i64 0, .string ⟨#[]⟩, .int .i64 0, .int .i64 5, .int .i64 0]) (by simp [results, Tryd.results30, go_sem]) rfl ⟨?_, ((Below.refl _ _).alloc (Nat.le_refl _) _).alloc (by simp) _⟩
    rw [HR.out, if_pos (.inl h14)]; rfl
  · have h14' : ¬ (14 : Int) < t.size := by omega
    by_cases h4 : 4 < m
    · have h4' : (4 : Int) < m := by omega
      go_enter Tryd.func30, Tryd.ntmps30
      go_wp2_with (first | (go_at_call 40; (first | with_reducible refine (hcnt _).mono ?_ | with_reducible refine (hcm _).mono ?_); rintro e w' ⟨rfl, rfl⟩) | (go_at_call 43; refine (hwn _).mono ?_; rintro e w' ⟨rfl, rfl⟩) | (go_at_call 29; refine (hdg _).mono ?_; rintro e w' ⟨rfl, rfl⟩))
      refine bodyPost_ret (v := .agg #[.int .i64 0, .string ⟨#[]⟩, .int .i64 0, .int .i64 5, .int .i64 0]) (by simp [results, Tryd.results30, go_sem]) rfl ⟨?_, ((Below.refl _ _).alloc (Nat.le_refl _) _).alloc (by simp) _⟩
      rw [HR.out, if_pos (.inr h4)]; rfl
    · have h4' : ¬ (4 : Int) < m := by omega
      have HR2 : Hid (r = if nextW s (n + 1 + m) then .err 2 (n + 1 + m) else .tok 4 (t.data.toList ++ (s.data.toList.drop n).take (1 + m)) (n + 1 + m)) := by
        have := HR.out; rw [if_neg (fun z => z.elim h14 h4)] at this; exact this
      clear HR
      by_cases he : n + (1 + m) < s.size
      · have he' : (n : Int) + (1 + m) < s.size := by omega
        have hbw := fun w => beginsWord_any ((s[n + (1 + m)]'he).toNat : Int) w
        have hX := nextW_in s (n + (1 + m)) he
        cases hw : wdI ((s[n + (1 + m)]'he).toNat : Int)
        · rw [hw] at hbw hX
          have HX : Hid (nextW s (n + (1 + m)) = false) := hX
          clear hX hw
          go_enter Tryd.func30, Tryd.ntmps30
          go_wp2_with (first | (go_at_call 40; (first | with_reducible refine (hcnt _).mono ?_ | with_reducible refine (hcm _).mono ?_); rintro e w' ⟨rfl, rfl⟩) | (go_at_call 43; refine (hwn _).mono ?_; rintro e w' ⟨rfl, rfl⟩) | (go_at_call 29; refine (hdg _).mono ?_; rintro e w' ⟨rfl, rfl⟩))
          go_region
          go_wp2_with (go_at_call 27; refine (hbw _).mono ?_; rintro e w' ⟨rfl, rfl⟩)
          refine bodyPost_ret (v := .agg #[.int .i64 4, .string (t ++ s.extract n (n + 1 + m)), .int .i64 ((n : Int) + (1 + (m : Int))), .int .i64 0, .int .i64 0]) (by simp [results, Tryd.results30, go_sem]) rfl ⟨?_, (((Below.refl _ _).alloc (Nat.le_refl _) _).alloc (by simp) _).drew⟩
          rw [HR2.out, if_neg (by rw [Nat.add_assoc, HX.out]; decide)]
          exact retV (dec_val s t n m)
        · rw [hw] at hbw hX
          have HX : Hid (nextW s (n + (1 + m)) = true) := hX
          clear hX hw
          go_enter Tryd.func30, Tryd.ntmps30
          go_wp2_with (first | (go_at_call 40; (first | with_reducible refine (hcnt _).mono ?_ | with_reducible refine (hcm _).mono ?_); rintro e w' ⟨rfl, rfl⟩) | (go_at_call 43; refine (hwn _).mono ?_; rintro e w' ⟨rfl, rfl⟩) | (go_at_call 29; refine (hdg _).mono ?_; rintro e w' ⟨rfl, rfl⟩))
          go_region
          go_wp2_with (go_at_call 27; refine (hbw _).mono ?_; rintro e w' ⟨rfl, rfl⟩)
          refine bodyPost_ret (v := .agg #[.int .i64 0, .string ⟨#[]⟩, .int .i64 0, .int .i64 2, .int .i64 ((n : Int) + (1 + (m : Int)))]) (by simp [results, Tryd.results30, go_sem]) rfl ⟨?_, (((Below.refl _ _).alloc (Nat.le_refl _) _).alloc (by simp) _).drew⟩
          rw [HR2.out, if_pos (by rw [Nat.add_assoc]; exact HX.out)]
          refine retV ?_
          have h2 : (n : Int) + (1 + (m : Int)) = ((n + 1 + m : Nat) : Int) := by omega
          rw [h2]; rfl
      · have he' : ¬ (n : Int) + (1 + m) < s.size := by omega
        have HX : Hid (nextW s (n + (1 + m)) = false) := nextW_out s _ he
        go_enter Tryd.func30, Tryd.ntmps30
        go_wp2_with (first | (go_at_call 40; (first | with_reducible refine (hcnt _).mono ?_ | with_reducible refine (hcm _).mono ?_); rintro e w' ⟨rfl, rfl⟩) | (go_at_call 43; refine (hwn _).mono ?_; rintro e w' ⟨rfl, rfl⟩) | (go_at_call 29; refine (hdg _).mono ?_; rintro e w' ⟨rfl, rfl⟩))
        go_region
        go_wp2
        refine bodyPost_ret (v := .agg #[.int .i64 4, .string (t ++ s.extract n (n + 1 + m)), .int .i64 ((n : Int) + (1 + (m : Int))), .int .i64 0, .int .i64 0]) (by simp [results, Tryd.results30, go_sem]) rfl ⟨?_, (((Below.refl _ _).alloc (Nat.le_refl _) _).alloc (by simp) _).drew⟩
        rw [HR2.out, if_neg (by rw [Nat.add_assoc, HX.out]; decide)]
        exact retV (dec_val s t n m)
end Go.Proofs.YtjpcgnkgdaphoaaDoor
