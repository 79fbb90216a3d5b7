import Derived.Test.YtcgnkcehjcednaaDoorY2
namespace Go.Proofs.YtcgnkcehjcednaaDoor
open Go.ChangeShapes Go.WideShapes Go.ChangeAt Go.RowKit Go.Shelf
set_option linter.unusedVariables false
set_option linter.unusedSimpArgs false
set_option maxRecDepth 100000
set_option maxHeartbeats 4000000 in
theorem number_C (s t : ByteArray) (a n : Nat) (r : Cut) (w : World) (hs : s.size ≤ 8000) (hn1 : 1 ≤ n) (hn2 : a + n ≤ s.size) (ht1 : 1 ≤ t.size) (ht2 : t.size ≤ n)
    (hrun : ∀ w, Calls Tryd.prog 93 #[.string s, .int .i64 a, .int .i64 1] w fun e w' => e = .returned (.int .i64 n) ∧ w' = w)
    (hno : ∀ w, Calls Tryd.prog 143 #[.string (s.extract a (a + n))] w fun e w' => e = .returned (.string t) ∧ w' = w)
    (hdt : digs t.data.toList) (HR : Hid (r = if bigI t.data.toList then .err 5 0 else if nextW s (a + n) then .err 2 n else .tok 3 t.data.toList n))
    (hn : a + n < s.size) (hA : a + n + 1 < s.size) (hB : ((s[a + n]'hn).toNat : Int) = 46) (hC : digI ((s[a + n + 1]'hA).toNat : Int) = false) :
    Calls Tryd.prog 95 #[.string s, .int .i64 a] w fun e w' => e = .returned (cutT a r) ∧ Below w.heap.size w w' := by
  have htl : t.data.toList.length = t.size := by simp
  have hAi : (a : Int) + n + 1 < s.size := by omega
  have hdg := fun w => digit_any ((s[a + n + 1]'hA).toNat : Int) w
  rw [hC] at hdg
  clear hC
  have hrm := hrun
  by_cases h19 : 19 < t.size
  · have h19i : (19 : Int) < t.size := by omega
    have h19c : decide ((19 : Int) < t.size) = true := by simp; omega
    have HB : Hid (bigI t.data.toList = true) := bigI_gt _ (by rw [htl]; exact h19)
    have hbw := fun w => letter_any 0 w
    have hdv := fun w => letter_any 0 w
    go_enter Tryd.func95, Tryd.ntmps95
    go_wp2_with (first | (go_at_call 93; (first | with_reducible refine (hrun _).mono ?_ | with_reducible refine (hrm _).mono ?_); rintro e w' ⟨rfl, rfl⟩) | (go_at_call 143; refine (hno _).mono ?_; rintro e w' ⟨rfl, rfl⟩) | (go_at_call 144; refine (hdv _).mono ?_; rintro e w' ⟨rfl, rfl⟩) | (go_at_call 91; refine (hdg _).mono ?_; rintro e w' ⟨rfl, rfl⟩) | (go_at_call 90; refine (hbw _).mono ?_; rintro e w' ⟨rfl, rfl⟩))
    refine bodyPost_ret (v := .tuple #[.agg #[.int .i64 0, .string ⟨#[]⟩, .int .i64 0], .int .i64 0, .int .i64 5, .int .i64 (a : Int)]) (by simp [results, Tryd.results95, go_sem]) rfl ⟨?_, ((Below.refl _ _).alloc (Nat.le_refl _) _).alloc (by simp) _⟩
    rw [HR.out]
    rw [if_pos HB.out]; exact retV (cutT_err a 5 0 _ (by omega))
  · have h19i : ¬ (19 : Int) < t.size := by omega
    have h19c : decide ((19 : Int) < t.size) = false := by simp; omega
    have hdv := fun w => digits_any t w ht1 (by omega) hdt
    have hvl := val_lt _ hdt
    rw [htl] at hvl
    have hvp : (10 : Nat) ^ t.size ≤ 10 ^ 19 := Nat.pow_le_pow_right (by omega) (by omega)
    have hbig : bigI t.data.toList = decide (9223372036854775807 < val t.data.toList) := by unfold bigI; rw [htl]; simp [h19]
    have hvb : val t.data.toList < 10000000000000000000 := by omega
    clear hvl hvp
    generalize val t.data.toList = vv at *
    by_cases hmx : 9223372036854775807 < vv
    · have hmxi : (9223372036854775807 : Int) < vv := by omega
      have hmxc : decide ((9223372036854775807 : Int) < vv) = true := by simp; omega
      have HB : Hid (bigI t.data.toList = true) := by show bigI t.data.toList = true; rw [hbig]; simp [hmx]
      clear hbig
      have hbw := fun w => letter_any 0 w
      go_enter Tryd.func95, Tryd.ntmps95
      go_wp2_with (first | (go_at_call 93; (first | with_reducible refine (hrun _).mono ?_ | with_reducible refine (hrm _).mono ?_); rintro e w' ⟨rfl, rfl⟩) | (go_at_call 143; refine (hno _).mono ?_; rintro e w' ⟨rfl, rfl⟩) | (go_at_call 144; refine (hdv _).mono ?_; rintro e w' ⟨rfl, rfl⟩) | (go_at_call 91; refine (hdg _).mono ?_; rintro e w' ⟨rfl, rfl⟩) | (go_at_call 90; refine (hbw _).mono ?_; rintro e w' ⟨rfl, rfl⟩))
      refine bodyPost_ret (v := .tuple #[.agg #[.int .i64 0, .string ⟨#[]⟩, .int .i64 0], .int .i64 0, .int .i64 5, .int .i64 (a : Int)]) (by simp [results, Tryd.results95, go_sem]) rfl ⟨?_, ((Below.refl _ _).alloc (Nat.le_refl _) _).alloc (by simp) _⟩
      rw [HR.out]
      rw [if_pos HB.out]; exact retV (cutT_err a 5 0 _ (by omega))
    · have hmxi : ¬ (9223372036854775807 : Int) < vv := by omega
      have hmxc : decide ((9223372036854775807 : Int) < vv) = false := by simp; omega
      have HB : Hid (bigI t.data.toList = false) := by show bigI t.data.toList = false; rw [hbig]; simp; omega
      clear hbig
      have hbw := fun w => letter_any 46 w
      have hX := nextW_in s (a + n) hn
      rw [hB] at hX
      have hw : wdI 46 = false := by decide
      rw [hw] at hbw hX
      have HX : Hid (nextW s (a + n) = false) := hX
      clear hX hw
      go_enter Tryd.func95, Tryd.ntmps95
      go_wp2_with (first | (go_at_call 93; (first | with_reducible refine (hrun _).mono ?_ | with_reducible refine (hrm _).mono ?_); rintro e w' ⟨rfl, rfl⟩) | (go_at_call 143; refine (hno _).mono ?_; rintro e w' ⟨rfl, rfl⟩) | (go_at_call 144; refine (hdv _).mono ?_; rintro e w' ⟨rfl, rfl⟩) | (go_at_call 91; refine (hdg _).mono ?_; rintro e w' ⟨rfl, rfl⟩) | (go_at_call 90; refine (hbw _).mono ?_; rintro e w' ⟨rfl, rfl⟩))
      refine bodyPost_ret (v := .tuple #[.agg #[.int .i64 3, .string t, .int .i64 (a : Int)], .int .i64 ((a : Int) + n), .int .i64 0, .int .i64 0]) (by simp [results, Tryd.results95, go_sem]) rfl ⟨?_, ((Below.refl _ _).alloc (Nat.le_refl _) _).alloc (by simp) _⟩
      rw [HR.out]
      rw [if_neg (by rw [HB.out]; decide), if_neg (by rw [HX.out]; decide)]; exact retV (cutT_tok a 3 t n _ (by omega))
end Go.Proofs.YtcgnkcehjcednaaDoor
