import Derived.Test.YtcgnkcehjcednaaDoorY2
namespace Go.Proofs.YtcgnkcehjcednaaDoor
open Go.ChangeShapes Go.WideShapes Go.ChangeAt Go.RowKit Go.Shelf
set_option linter.unusedVariables false
set_option linter.unusedSimpArgs false
set_option maxRecDepth 100000
theorem dec_valT (s t : ByteArray) (a n m : Nat) : (.tuple #[.agg #[.int .i64 4, .string (t ++ s.extract (a + n) (a + n + 1 + m)), .int .i64 (a : Int)], .int .i64 ((a : Int) + n + (1 + (m : Int))), .int .i64 0, .int .i64 0] : Value) = cutT a (.tok 4 (t.data.toList ++ ((s.data.toList.drop a).drop n).take (1 + m)) (n + 1 + m)) := by
  have h1 : t ++ s.extract (a + n) (a + n + 1 + m) = ⟨(t.data.toList ++ ((s.data.toList.drop a).drop n).take (1 + m)).toArray⟩ := by
    apply ba_ext
    rw [ByteArray.data_append, Array.toList_append, ba_mid, show a + n + 1 + m - (a + n) = 1 + m by omega, List.drop_drop]
  have h2 : (a : Int) + n + (1 + (m : Int)) = ((a + (n + 1 + m) : Nat) : Int) := by omega
  rw [h1, h2]; rfl
set_option maxHeartbeats 4000000 in
theorem number_D (s t : ByteArray) (a n : Nat) (r : Cut) (w : World) (hs : s.size ≤ 8000) (hn1 : 1 ≤ n) (hn2 : a + n ≤ s.size) (ht1 : 1 ≤ t.size) (ht2 : t.size ≤ n)
    (hrun : ∀ w, Calls Tryd.prog 93 #[.string s, .int .i64 a, .int .i64 1] w fun e w' => e = .returned (.int .i64 n) ∧ w' = w)
    (hno : ∀ w, Calls Tryd.prog 143 #[.string (s.extract a (a + n))] w fun e w' => e = .returned (.string t) ∧ w' = w)
    (hdt : digs t.data.toList) (m : Nat)
    (hrm : ∀ w, Calls Tryd.prog 93 #[.string s, .int .i64 ((a : Int) + n + 1), .int .i64 1] w fun e w' => e = .returned (.int .i64 m) ∧ w' = w)
    (hm1 : 1 ≤ m) (hm2 : a + n + 1 + m ≤ s.size)
    (HR : Hid (r = if 14 < t.size ∨ 4 < m then .err 5 0 else if nextW s (a + (n + 1 + m)) then .err 2 (n + 1 + m) else .tok 4 (t.data.toList ++ ((s.data.toList.drop a).drop n).take (1 + m)) (n + 1 + m)))
    (hn : a + n < s.size) (hA : a + n + 1 < s.size) (hB : ((s[a + n]'hn).toNat : Int) = 46) (hC : digI ((s[a + n + 1]'hA).toNat : Int) = true) :
    Calls Tryd.prog 95 #[.string s, .int .i64 a] w fun e w' => e = .returned (cutT a r) ∧ Below w.heap.size w w' := by
  have htl : t.data.toList.length = t.size := by simp
  have hAi : (a : Int) + n + 1 < s.size := by omega
  have hdg := fun w => digit_any ((s[a + n + 1]'hA).toNat : Int) w
  rw [hC] at hdg
  clear hC
  by_cases h19 : 19 < t.size
  · have h19i : (19 : Int) < t.size := by omega
    have h19c : decide ((19 : Int) < t.size) = true := by simp; omega
    have h14i : (14 : Int) < t.size := by omega
    have h14c : decide ((14 : Int) < t.size) = true := by simp; omega
    have hbw := fun w => letter_any 0 w
    have hdv := fun w => letter_any 0 w
    go_enter Tryd.func95, Tryd.ntmps95
    go_wp2_with (first | (go_at_call 93; (first | with_reducible refine (hrun _).mono ?_ | with_reducible refine (hrm _).mono ?_); rintro e w' ⟨rfl, rfl⟩) | (go_at_call 143; refine (hno _).mono ?_; rintro e w' ⟨rfl, rfl⟩) | (go_at_call 144; refine (hdv _).mono ?_; rintro e w' ⟨rfl, rfl⟩) | (go_at_call 91; refine (hdg _).mono ?_; rintro e w' ⟨rfl, rfl⟩) | (go_at_call 90; refine (hbw _).mono ?_; rintro e w' ⟨rfl, rfl⟩))
    refine bodyPost_ret (v := .tuple #[.agg #[.int .i64 0, .string ⟨#[]⟩, .int .i64 0], .int .i64 0, .int .i64 5, .int .i64 (a : Int)]) (by simp [results, Tryd.results95, go_sem]) rfl ⟨?_, ((Below.refl _ _).alloc (Nat.le_refl _) _).alloc (by simp) _⟩
    rw [HR.out, if_pos (.inl (by omega))]; exact retV (cutT_err a 5 0 _ (by omega))
  · have h19i : ¬ (19 : Int) < t.size := by omega
    have h19c : decide ((19 : Int) < t.size) = false := by simp; omega
    have hdv := fun w => digits_any t w ht1 (by omega) hdt
    have hvl := val_lt _ hdt
    rw [htl] at hvl
    have hvp : (10 : Nat) ^ t.size ≤ 10 ^ 19 := Nat.pow_le_pow_right (by omega) (by omega)
    have hvb : val t.data.toList < 10000000000000000000 := by omega
    clear hvl hvp
    generalize val t.data.toList = vv at *
    by_cases h14 : 14 < t.size
    · have h14i : (14 : Int) < t.size := by omega
      have h14c : decide ((14 : Int) < t.size) = true := by simp; omega
      have hbw := fun w => letter_any 0 w
      go_enter Tryd.func95, Tryd.ntmps95
      go_wp2_with (first | (go_at_call 93; (first | with_reducible refine (hrun _).mono ?_ | with_reducible refine (hrm _).mono ?_); rintro e w' ⟨rfl, rfl⟩) | (go_at_call 143; refine (hno _).mono ?_; rintro e w' ⟨rfl, rfl⟩) | (go_at_call 144; refine (hdv _).mono ?_; rintro e w' ⟨rfl, rfl⟩) | (go_at_call 91; refine (hdg _).mono ?_; rintro e w' ⟨rfl, rfl⟩) | (go_at_call 90; refine (hbw _).mono ?_; rintro e w' ⟨rfl, rfl⟩))
      refine bodyPost_ret (v := .tuple #[.agg #[.int .i64 0, .string ⟨#[]⟩, .int .i64 0], .int .i64 0, .int .i64 5, .int .i64 (a : Int)]) (by simp [results, Tryd.results95, go_sem]) rfl ⟨?_, ((Below.refl _ _).alloc (Nat.le_refl _) _).alloc (by simp) _⟩
      rw [HR.out, if_pos (.inl h14)]; exact retV (cutT_err a 5 0 _ (by omega))
    · have h14i : ¬ (14 : Int) < t.size := by omega
      have h14c : decide ((14 : Int) < t.size) = false := by simp; omega
      by_cases h4 : 4 < m
      · have h4i : (4 : Int) < m := by omega
        have h4c : decide ((4 : Int) < m) = true := by simp; omega
        have hbw := fun w => letter_any 0 w
        go_enter Tryd.func95, Tryd.ntmps95
        go_wp2_with (first | (go_at_call 93; (first | with_reducible refine (hrun _).mono ?_ | with_reducible refine (hrm _).mono ?_); rintro e w' ⟨rfl, rfl⟩) | (go_at_call 143; refine (hno _).mono ?_; rintro e w' ⟨rfl, rfl⟩) | (go_at_call 144; refine (hdv _).mono ?_; rintro e w' ⟨rfl, rfl⟩) | (go_at_call 91; refine (hdg _).mono ?_; rintro e w' ⟨rfl, rfl⟩) | (go_at_call 90; refine (hbw _).mono ?_; rintro e w' ⟨rfl, rfl⟩))
        refine bodyPost_ret (v := .tuple #[.agg #[.int .i64 0, .string ⟨#[]⟩, .int .i64 0], .int .i64 0, .int .i64 5, .int .i64 (a : Int)]) (by simp [results, Tryd.results95, go_sem]) rfl ⟨?_, ((Below.refl _ _).alloc (Nat.le_refl _) _).alloc (by simp) _⟩
        rw [HR.out, if_pos (.inr h4)]; exact retV (cutT_err a 5 0 _ (by omega))
      · have h4i : ¬ (4 : Int) < m := by omega
        have h4c : decide ((4 : Int) < m) = false := by simp; omega
        by_cases he : a + n + (1 + m) < s.size
        · have he' : (a : Int) + n + (1 + m) < s.size := by omega
          have hbw := fun w => letter_any ((s[a + n + (1 + m)]'he).toNat : Int) w
          have hX := nextW_in s (a + n + (1 + m)) he
          cases hw : wdI ((s[a + n + (1 + m)]'he).toNat : Int)
          · rw [hw] at hbw hX
            have HX : Hid (nextW s (a + n + (1 + m)) = false) := hX
            clear hX hw
            go_enter Tryd.func95, Tryd.ntmps95
            go_wp2_with (first | (go_at_call 93; (first | with_reducible refine (hrun _).mono ?_ | with_reducible refine (hrm _).mono ?_); rintro e w' ⟨rfl, rfl⟩) | (go_at_call 143; refine (hno _).mono ?_; rintro e w' ⟨rfl, rfl⟩) | (go_at_call 144; refine (hdv _).mono ?_; rintro e w' ⟨rfl, rfl⟩) | (go_at_call 91; refine (hdg _).mono ?_; rintro e w' ⟨rfl, rfl⟩) | (go_at_call 90; refine (hbw _).mono ?_; rintro e w' ⟨rfl, rfl⟩))
            refine bodyPost_ret (v := .tuple #[.agg #[.int .i64 4, .string (t ++ s.extract (a + n) (a + n + 1 + m)), .int .i64 (a : Int)], .int .i64 ((a : Int) + n + (1 + (m : Int))), .int .i64 0, .int .i64 0]) (by simp [results, Tryd.results95, go_sem]) rfl ⟨?_, ((Below.refl _ _).alloc (Nat.le_refl _) _).alloc (by simp) _⟩
            rw [HR.out, if_neg (fun z => z.elim h14 h4), if_neg (by rw [Nat.add_assoc n, ← Nat.add_assoc a, HX.out]; decide)]
            exact retV (dec_valT s t a n m)
          · rw [hw] at hbw hX
            have HX : Hid (nextW s (a + n + (1 + m)) = true) := hX
            clear hX hw
            go_enter Tryd.func95, Tryd.ntmps95
            go_wp2_with (first | (go_at_call 93; (first | with_reducible refine (hrun _).mono ?_ | with_reducible refine (hrm _).mono ?_); rintro e w' ⟨rfl, rfl⟩) | (go_at_call 143; refine (hno _).mono ?_; rintro e w' ⟨rfl, rfl⟩) | (go_at_call 144; refine (hdv _).mono ?_; rintro e w' ⟨rfl, rfl⟩) | (go_at_call 91; refine (hdg _).mono ?_; rintro e w' ⟨rfl, rfl⟩) | (go_at_call 90; refine (hbw _).mono ?_; rintro e w' ⟨rfl, rfl⟩))
            refine bodyPost_ret (v := .tuple #[.agg #[.int .i64 0, .string ⟨#[]⟩, .int .i64 0], .int .i64 0, .int .i64 2, .int .i64 ((a : Int) + n + (1 + (m : Int)))]) (by simp [results, Tryd.results95, go_sem]) rfl ⟨?_, ((Below.refl _ _).alloc (Nat.le_refl _) _).alloc (by simp) _⟩
            rw [HR.out, if_neg (fun z => z.elim h14 h4), if_pos (by rw [Nat.add_assoc n, ← Nat.add_assoc a]; exact HX.out)]
            exact retV (cutT_err a 2 (n + 1 + m) _ (by omega))
        · have HX : Hid (nextW s (a + n + (1 + m)) = false) := nextW_out s _ he
          have he' : ¬ (a : Int) + n + (1 + m) < s.size := by omega
          have hbw := fun w => letter_any 0 w
          go_enter Tryd.func95, Tryd.ntmps95
          go_wp2_with (first | (go_at_call 93; (first | with_reducible refine (hrun _).mono ?_ | with_reducible refine (hrm _).mono ?_); rintro e w' ⟨rfl, rfl⟩) | (go_at_call 143; refine (hno _).mono ?_; rintro e w' ⟨rfl, rfl⟩) | (go_at_call 144; refine (hdv _).mono ?_; rintro e w' ⟨rfl, rfl⟩) | (go_at_call 91; refine (hdg _).mono ?_; rintro e w' ⟨rfl, rfl⟩) | (go_at_call 90; refine (hbw _).mono ?_; rintro e w' ⟨rfl, rfl⟩))
          refine bodyPost_ret (v := .tuple #[.agg #[.int .i64 4, .string (t ++ s.extract (a + n) (a + n + 1 + m)), .int .i64 (a : Int)], .int .i64 ((a : Int) + n + (1 + (m : Int))), .int .i64 0, .int .i64 0]) (by simp [results, Tryd.results95, go_sem]) rfl ⟨?_, ((Below.refl _ _).alloc (Nat.le_refl _) _).alloc (by simp) _⟩
          rw [HR.out, if_neg (fun z => z.elim h14 h4), if_neg (by rw [Nat.add_assoc n, ← Nat.add_assoc a, HX.out]; decide)]
          exact retV (dec_valT s t a n m)
end Go.Proofs.YtcgnkcehjcednaaDoor
