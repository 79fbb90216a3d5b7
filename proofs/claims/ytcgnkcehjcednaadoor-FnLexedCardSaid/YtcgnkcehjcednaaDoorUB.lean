import Derived.Test.YtcgnkcehjcednaaDoorY1
namespace Go.Proofs.YtcgnkcehjcednaaDoor
open Go.ChangeShapes Go.WideShapes Go.ChangeAt Go.RowKit Go.Shelf
set_option linter.unusedVariables false
set_option linter.unusedSimpArgs false
set_option maxRecDepth 100000
/-- A cut at a place, as the specification's functions tell it. -/
def cutT (a : Nat) : Cut → Value
  | .tok k x n => .tuple #[.agg #[.int .i64 k, .string ⟨x.toArray⟩, .int .i64 (a : Int)], .int .i64 ((a + n : Nat) : Int), .int .i64 0, .int .i64 0]
  | .err c f => .tuple #[.agg #[.int .i64 0, .string ⟨#[]⟩, .int .i64 0], .int .i64 0, .int .i64 c, .int .i64 ((a + f : Nat) : Int)]
theorem cutT_tok (a : Nat) (k : Int) (t : ByteArray) (n : Nat) (e : Int) (he : e = ((a + n : Nat) : Int)) : (.tuple #[.agg #[.int .i64 k, .string t, .int .i64 (a : Int)], .int .i64 e, .int .i64 0, .int .i64 0] : Value) = cutT a (.tok k t.data.toList n) := by
  rw [he]; simp only [cutT, ba_mk]
theorem cutT_err (a : Nat) (c : Int) (f : Nat) (e : Int) (he : e = ((a + f : Nat) : Int)) : (.tuple #[.agg #[.int .i64 0, .string ⟨#[]⟩, .int .i64 0], .int .i64 0, .int .i64 c, .int .i64 e] : Value) = cutT a (.err c f) := by
  rw [he]; rfl
end Go.Proofs.YtcgnkcehjcednaaDoor
namespace Go.Proofs.YtcgnkcehjcednaaDoor
open Go.ChangeShapes Go.WideShapes Go.ChangeAt Go.RowKit Go.Shelf
set_option linter.unusedVariables false
set_option linter.unusedSimpArgs false
set_option maxRecDepth 100000
set_option maxHeartbeats 4000000 in
theorem number_A (s t : ByteArray) (a n : Nat) (r : Cut) (w : World) (hs : s.size ≤ 8000) (hn1 : 1 ≤ n) (hn2 : a + n ≤ s.size) (ht1 : 1 ≤ t.size) (ht2 : t.size ≤ n)
    (hrun : ∀ w, Calls Tryd.prog 93 #[.string s, .int .i64 a, .int .i64 1] w fun e w' => e = .returned (.int .i64 n) ∧ w' = w)
    (hno : ∀ w, Calls Tryd.prog 143 #[.string (s.extract a (a + n))] w fun e w' => e = .returned (.string t) ∧ w' = w)
    (hdt : digs t.data.toList) (HR : Hid (r = if bigI t.data.toList then .err 5 0 else if nextW s (a + n) then .err 2 n else .tok 3 t.data.toList n))
    (hA : ¬ a + n + 1 < s.size) :
    Calls Tryd.prog 95 #[.string s, .int .i64 a] w fun e w' => e = .returned (cutT a r) ∧ Below w.heap.size w w' := by
  have htl : t.data.toList.length = t.size := by simp
  have hA' : ¬ (a : Int) + n + 1 < s.size := by omega
  have hdg := fun w => digit_any 0 w
  have hrm := hrun
  by_cases h19 : 19 < t.size
  · have h19i : (19 : Int) < t.size := by omega
    have h19c : decide ((19 : Int) < t.size) = true := by simp; omega
    have HB : Hid (bigI t.data.toList = true) := bigI_gt _ (by rw [htl]; exact h19)
    have hbw := fun w => letter_any 0 w
    have hdv := fun w => letter_any 0 w
    go_enter Tryd.func95, Tryd.ntmps95
    go_wp2_with (first | (go_at_call 93; (first | with_reducible refine (hrun _).mono ?_ | with_reducible refine (hrm _).mono ?_); rintro e w' ⟨rfl, rfl⟩) | (go_at_call 143; refine (hno _).mono ?_; rintro e w' ⟨rfl, rfl⟩) | (go_at_call 144; refine (hdv _).mono ?_; rintro e w' ⟨rfl, rfl⟩) | (go_at_call 91; refine (hdg _).mono ?_; rintro e w' ⟨rfl, rfl⟩) | (go_at_call 90; refine (hbw _).mono ?_; rintro e w' ⟨rfl, rfl⟩))
    refine bodyPost_ret (v := .tuple #[.agg #[.int .i64 0, .string ⟨#[]⟩, .int .i64 0], .int .i64 0, .int .i64 5, .int .i64 (a : Int)]) (by simp [results, Tryd.results95, go_sem]) rfl ⟨?_, ((Below.refl _ _).alloc (Nat.le_refl _) _).alloc (by simp) _⟩
    rw [HR.out]
    rw [if_pos HB.out]; exact retV (cutT_err a 5 0 _ (by omega))
  · have h19i : ¬ (19 : Int) < t.size := by omega
    have h19c : decide ((19 : Int) < t.size) = false := by simp; omega
    have hdv := fun w => digits_any t w ht1 (by omega) hdt
    have hvl := val_lt _ hdt
    rw [htl] at hvl
    have hvp : (10 : Nat) ^ t.size ≤ 10 ^ 19 := Nat.pow_le_pow_right (by omega) (by omega)
    have hbig : bigI t.data.toList = decide (9223372036854775807 < val t.data.toList) := by unfold bigI; rw [htl]; simp [h19]
    have hvb : val t.data.toList < 10000000000000000000 := by omega
    clear hvl hvp
    generalize val t.data.toList = vv at *
    by_cases hmx : 9223372036854775807 < vv
    · have hmxi : (9223372036854775807 : Int) < vv := by omega
      have hmxc : decide ((9223372036854775807 : Int) < vv) = true := by simp; omega
      have HB : Hid (bigI t.data.toList = true) := by show bigI t.data.toList = true; rw [hbig]; simp [hmx]
      clear hbig
      have hbw := fun w => letter_any 0 w
      go_enter Tryd.func95, Tryd.ntmps95
      go_wp2_with (first | (go_at_call 93; (first | with_reducible refine (hrun _).mono ?_ | with_reducible refine (hrm _).mono ?_); rintro e w' ⟨rfl, rfl⟩) | (go_at_call 143; refine (hno _).mono ?_; rintro e w' ⟨rfl, rfl⟩) | (go_at_call 144; refine (hdv _).mono ?_; rintro e w' ⟨rfl, rfl⟩) | (go_at_call 91; refine (hdg _).mono ?_; rintro e w' ⟨rfl, rfl⟩) | (go_at_call 90; refine (hbw _).mono ?_; rintro e w' ⟨rfl, rfl⟩))
      refine bodyPost_ret (v := .tuple #[.agg #[.int .i64 0, .string ⟨#[]⟩, .int .i64 0], .int .i64 0, .int .i64 5, .int .i64 (a : Int)]) (by simp [results, Tryd.results95, go_sem]) rfl ⟨?_, ((Below.refl _ _).alloc (Nat.le_refl _) _).alloc (by simp) _⟩
      rw [HR.out]
      rw [if_pos HB.out]; exact retV (cutT_err a 5 0 _ (by omega))
    · have hmxi : ¬ (9223372036854775807 : Int) < vv := by omega
      have hmxc : decide ((9223372036854775807 : Int) < vv) = false := by simp; omega
      have HB : Hid (bigI t.data.toList = false) := by show bigI t.data.toList = false; rw [hbig]; simp; omega
      clear hbig
      by_cases he : a + n < s.size
      · have he' : (a : Int) + n < s.size := by omega
        have hbw := fun w => letter_any ((s[a + n]'he).toNat : Int) w
        have hX := nextW_in s (a + n) he
        cases hw : wdI ((s[a + n]'he).toNat : Int)
        · rw [hw] at hbw hX
          have HX : Hid (nextW s (a + n) = false) := hX
          clear hX hw
          go_enter Tryd.func95, Tryd.ntmps95
          go_wp2_with (first | (go_at_call 93; (first | with_reducible refine (hrun _).mono ?_ | with_reducible refine (hrm _).mono ?_); rintro e w' ⟨rfl, rfl⟩) | (go_at_call 143; refine (hno _).mono ?_; rintro e w' ⟨rfl, rfl⟩) | (go_at_call 144; refine (hdv _).mono ?_; rintro e w' ⟨rfl, rfl⟩) | (go_at_call 91; refine (hdg _).mono ?_; rintro e w' ⟨rfl, rfl⟩) | (go_at_call 90; refine (hbw _).mono ?_; rintro e w' ⟨rfl, rfl⟩))
          refine bodyPost_ret (v := .tuple #[.agg #[.int .i64 3, .string t, .int .i64 (a : Int)], .int .i64 ((a : Int) + n), .int .i64 0, .int .i64 0]) (by simp [results, Tryd.results95, go_sem]) rfl ⟨?_, ((Below.refl _ _).alloc (Nat.le_refl _) _).alloc (by simp) _⟩
          rw [HR.out]
          rw [if_neg (by rw [HB.out]; decide), if_neg (by rw [HX.out]; decide)]; exact retV (cutT_tok a 3 t n _ (by omega))
        · rw [hw] at hbw hX
          have HX : Hid (nextW s (a + n) = true) := hX
          clear hX hw
          go_enter Tryd.func95, Tryd.ntmps95
          go_wp2_with (first | (go_at_call 93; (first | with_reducible refine (hrun _).mono ?_ | with_reducible refine (hrm _).mono ?_); rintro e w' ⟨rfl, rfl⟩) | (go_at_call 143; refine (hno _).mono ?_; rintro e w' ⟨rfl, rfl⟩) | (go_at_call 144; refine (hdv _).mono ?_; rintro e w' ⟨rfl, rfl⟩) | (go_at_call 91; refine (hdg _).mono ?_; rintro e w' ⟨rfl, rfl⟩) | (go_at_call 90; refine (hbw _).mono ?_; rintro e w' ⟨rfl, rfl⟩))
          refine bodyPost_ret (v := .tuple #[.agg #[.int .i64 0, .string ⟨#[]⟩, .int .i64 0], .int .i64 0, .int .i64 2, .int .i64 ((a : Int) + n)]) (by simp [results, Tryd.results95, go_sem]) rfl ⟨?_, ((Below.refl _ _).alloc (Nat.le_refl _) _).alloc (by simp) _⟩
          rw [HR.out]
          rw [if_neg (by rw [HB.out]; decide), if_pos HX.out]; exact retV (cutT_err a 2 n _ (by omega))
      · have HX : Hid (nextW s (a + n) = false) := nextW_out s _ he
        have he' : ¬ (a : Int) + n < s.size := by omega
        have hbw := fun w => letter_any 0 w
        go_enter Tryd.func95, Tryd.ntmps95
        go_wp2_with (first | (go_at_call 93; (first | with_reducible refine (hrun _).mono ?_ | with_reducible refine (hrm _).mono ?_); rintro e w' ⟨rfl, rfl⟩) | (go_at_call 143; refine (hno _).mono ?_; rintro e w' ⟨rfl, rfl⟩) | (go_at_call 144; refine (hdv _).mono ?_; rintro e w' ⟨rfl, rfl⟩) | (go_at_call 91; refine (hdg _).mono ?_; rintro e w' ⟨rfl, rfl⟩) | (go_at_call 90; refine (hbw _).mono ?_; rintro e w' ⟨rfl, rfl⟩))
        refine bodyPost_ret (v := .tuple #[.agg #[.int .i64 3, .string t, .int .i64 (a : Int)], .int .i64 ((a : Int) + n), .int .i64 0, .int .i64 0]) (by simp [results, Tryd.results95, go_sem]) rfl ⟨?_, ((Below.refl _ _).alloc (Nat.le_refl _) _).alloc (by simp) _⟩
        rw [HR.out]
        rw [if_neg (by rw [HB.out]; decide), if_neg (by rw [HX.out]; decide)]; exact retV (cutT_tok a 3 t n _ (by omega))
end Go.Proofs.YtcgnkcehjcednaaDoor
namespace Go.Proofs.YtcgnkcehjcednaaDoor
open Go.ChangeShapes Go.WideShapes Go.ChangeAt Go.RowKit Go.Shelf
set_option linter.unusedVariables false
set_option linter.unusedSimpArgs false
set_option maxRecDepth 100000
set_option maxHeartbeats 4000000 in
theorem number_B (s t : ByteArray) (a n : Nat) (r : Cut) (w : World) (hs : s.size ≤ 8000) (hn1 : 1 ≤ n) (hn2 : a + n ≤ s.size) (ht1 : 1 ≤ t.size) (ht2 : t.size ≤ n)
    (hrun : ∀ w, Calls Tryd.prog 93 #[.string s, .int .i64 a, .int .i64 1] w fun e w' => e = .returned (.int .i64 n) ∧ w' = w)
    (hno : ∀ w, Calls Tryd.prog 143 #[.string (s.extract a (a + n))] w fun e w' => e = .returned (.string t) ∧ w' = w)
    (hdt : digs t.data.toList) (HR : Hid (r = if bigI t.data.toList then .err 5 0 else if nextW s (a + n) then .err 2 n else .tok 3 t.data.toList n))
    (hn : a + n < s.size) (hA : a + n + 1 < s.size) (hB : ((s[a + n]'hn).toNat : Int) ≠ 46) :
    Calls Tryd.prog 95 #[.string s, .int .i64 a] w fun e w' => e = .returned (cutT a r) ∧ Below w.heap.size w w' := by
  have htl : t.data.toList.length = t.size := by simp
  have hAi : (a : Int) + n + 1 < s.size := by omega
  obtain ⟨c, hcc⟩ : ∃ c : Int, ((s[a + n]'hn).toNat : Int) = c := ⟨_, rfl⟩
  rw [hcc] at hB
  have hB' : (c == 46) = false := by rw [beq_eq_false_iff_ne]; exact hB
  have hdg := fun w => digit_any 0 w
  have hrm := hrun
  by_cases h19 : 19 < t.size
  · have h19i : (19 : Int) < t.size := by omega
    have h19c : decide ((19 : Int) < t.size) = true := by simp; omega
    have HB : Hid (bigI t.data.toList = true) := bigI_gt _ (by rw [htl]; exact h19)
    have hbw := fun w => letter_any 0 w
    have hdv := fun w => letter_any 0 w
    go_enter Tryd.func95, Tryd.ntmps95
    go_wp2_with (first | (go_at_call 93; (first | with_reducible refine (hrun _).mono ?_ | with_reducible refine (hrm _).mono ?_); rintro e w' ⟨rfl, rfl⟩) | (go_at_call 143; refine (hno _).mono ?_; rintro e w' ⟨rfl, rfl⟩) | (go_at_call 144; refine (hdv _).mono ?_; rintro e w' ⟨rfl, rfl⟩) | (go_at_call 91; refine (hdg _).mono ?_; rintro e w' ⟨rfl, rfl⟩) | (go_at_call 90; refine (hbw _).mono ?_; rintro e w' ⟨rfl, rfl⟩))
    refine bodyPost_ret (v := .tuple #[.agg #[.int .i64 0, .string ⟨#[]⟩, .int .i64 0], .int .i64 0, .int .i64 5, .int .i64 (a : Int)]) (by simp [results, Tryd.results95, go_sem]) rfl ⟨?_, ((Below.refl _ _).alloc (Nat.le_refl _) _).alloc (by simp) _⟩
    rw [HR.out]
    rw [if_pos HB.out]; exact retV (cutT_err a 5 0 _ (by omega))
  · have h19i : ¬ (19 : Int) < t.size := by omega
    have h19c : decide ((19 : Int) < t.size) = false := by simp; omega
    have hdv := fun w => digits_any t w ht1 (by omega) hdt
    have hvl := val_lt _ hdt
    rw [htl] at hvl
    have hvp : (10 : Nat) ^ t.size ≤ 10 ^ 19 := Nat.pow_le_pow_right (by omega) (by omega)
    have hbig : bigI t.data.toList = decide (9223372036854775807 < val t.data.toList) := by unfold bigI; rw [htl]; simp [h19]
    have hvb : val t.data.toList < 10000000000000000000 := by omega
    clear hvl hvp
    generalize val t.data.toList = vv at *
    by_cases hmx : 9223372036854775807 < vv
    · have hmxi : (9223372036854775807 : Int) < vv := by omega
      have hmxc : decide ((9223372036854775807 : Int) < vv) = true := by simp; omega
      have HB : Hid (bigI t.data.toList = true) := by show bigI t.data.toList = true; rw [hbig]; simp [hmx]
      clear hbig
      have hbw := fun w => letter_any 0 w
      go_enter Tryd.func95, Tryd.ntmps95
      go_wp2_with (first | (go_at_call 93; (first | with_reducible refine (hrun _).mono ?_ | with_reducible refine (hrm _).mono ?_); rintro e w' ⟨rfl, rfl⟩) | (go_at_call 143; refine (hno _).mono ?_; rintro e w' ⟨rfl, rfl⟩) | (go_at_call 144; refine (hdv _).mono ?_; rintro e w' ⟨rfl, rfl⟩) | (go_at_call 91; refine (hdg _).mono ?_; rintro e w' ⟨rfl, rfl⟩) | (go_at_call 90; refine (hbw _).mono ?_; rintro e w' ⟨rfl, rfl⟩))
      refine bodyPost_ret (v := .tuple #[.agg #[.int .i64 0, .string ⟨#[]⟩, .int .i64 0], .int .i64 0, .int .i64 5, .int .i64 (a : Int)]) (by simp [results, Tryd.results95, go_sem]) rfl ⟨?_, ((Below.refl _ _).alloc (Nat.le_refl _) _).alloc (by simp) _⟩
      rw [HR.out]
      rw [if_pos HB.out]; exact retV (cutT_err a 5 0 _ (by omega))
    · have hmxi : ¬ (9223372036854775807 : Int) < vv := by omega
      have hmxc : decide ((9223372036854775807 : Int) < vv) = false := by simp; omega
      have HB : Hid (bigI t.data.toList = false) := by show bigI t.data.toList = false; rw [hbig]; simp; omega
      clear hbig
      have hbw := fun w => letter_any c w
      have hX := nextW_in s (a + n) hn
      rw [hcc] at hX
      cases hw : wdI c
      · rw [hw] at hbw hX
        have HX : Hid (nextW s (a + n) = false) := hX
        clear hX hw
        go_enter Tryd.func95, Tryd.ntmps95
        go_wp2_with (first | (go_at_call 93; (first | with_reducible refine (hrun _).mono ?_ | with_reducible refine (hrm _).mono ?_); rintro e w' ⟨rfl, rfl⟩) | (go_at_call 143; refine (hno _).mono ?_; rintro e w' ⟨rfl, rfl⟩) | (go_at_call 144; refine (hdv _).mono ?_; rintro e w' ⟨rfl, rfl⟩) | (go_at_call 91; refine (hdg _).mono ?_; rintro e w' ⟨rfl, rfl⟩) | (go_at_call 90; refine (hbw _).mono ?_; rintro e w' ⟨rfl, rfl⟩))
        refine bodyPost_ret (v := .tuple #[.agg #[.int .i64 3, .string t, .int .i64 (a : Int)], .int .i64 ((a : Int) + n), .int .i64 0, .int .i64 0]) (by simp [results, Tryd.results95, go_sem]) rfl ⟨?_, ((Below.refl _ _).alloc (Nat.le_refl _) _).alloc (by simp) _⟩
        rw [HR.out]
        rw [if_neg (by rw [HB.out]; decide), if_neg (by rw [HX.out]; decide)]; exact retV (cutT_tok a 3 t n _ (by omega))
      · rw [hw] at hbw hX
        have HX : Hid (nextW s (a + n) = true) := hX
        clear hX hw
        go_enter Tryd.func95, Tryd.ntmps95
        go_wp2_with (first | (go_at_call 93; (first | with_reducible refine (hrun _).mono ?_ | with_reducible refine (hrm _).mono ?_); rintro e w' ⟨rfl, rfl⟩) | (go_at_call 143; refine (hno _).mono ?_; rintro e w' ⟨rfl, rfl⟩) | (go_at_call 144; refine (hdv _).mono ?_; rintro e w' ⟨rfl, rfl⟩) | (go_at_call 91; refine (hdg _).mono ?_; rintro e w' ⟨rfl, rfl⟩) | (go_at_call 90; refine (hbw _).mono ?_; rintro e w' ⟨rfl, rfl⟩))
        refine bodyPost_ret (v := .tuple #[.agg #[.int .i64 0, .string ⟨#[]⟩, .int .i64 0], .int .i64 0, .int .i64 2, .int .i64 ((a : Int) + n)]) (by simp [results, Tryd.results95, go_sem]) rfl ⟨?_, ((Below.refl _ _).alloc (Nat.le_refl _) _).alloc (by simp) _⟩
        rw [HR.out]
        rw [if_neg (by rw [HB.out]; decide), if_pos HX.out]; exact retV (cutT_err a 2 n _ (by omega))
end Go.Proofs.YtcgnkcehjcednaaDoor
namespace Go.Proofs.YtcgnkcehjcednaaDoor
open Go.ChangeShapes Go.WideShapes Go.ChangeAt Go.RowKit Go.Shelf
set_option linter.unusedVariables false
set_option linter.unusedSimpArgs false
set_option maxRecDepth 100000
set_option maxHeartbeats 4000000 in
theorem number_C (s t : ByteArray) (a n : Nat) (r : Cut) (w : World) (hs : s.size ≤ 8000) (hn1 : 1 ≤ n) (hn2 : a + n ≤ s.size) (ht1 : 1 ≤ t.size) (ht2 : t.size ≤ n)
    (hrun : ∀ w, Calls Tryd.prog 93 #[.string s, .int .i64 a, .int .i64 1] w fun e w' => e = .returned (.int .i64 n) ∧ w' = w)
    (hno : ∀ w, Calls Tryd.prog 143 #[.string (s.extract a (a + n))] w fun e w' => e = .returned (.string t) ∧ w' = w)
    (hdt : digs t.data.toList) (HR : Hid (r = if bigI t.data.toList then .err 5 0 else if nextW s (a + n) then .err 2 n else .tok 3 t.data.toList n))
    (hn : a + n < s.size) (hA : a + n + 1 < s.size) (hB : ((s[a + n]'hn).toNat : Int) = 46) (hC : digI ((s[a + n + 1]'hA).toNat : Int) = false) :
    Calls Tryd.prog 95 #[.string s, .int .i64 a] w fun e w' => e = .returned (cutT a r) ∧ Below w.heap.size w w' := by
  have htl : t.data.toList.length = t.size := by simp
  have hAi : (a : Int) + n + 1 < s.size := by omega
  have hdg := fun w => digit_any ((s[a + n + 1]'hA).toNat : Int) w
  rw [hC] at hdg
  clear hC
  have hrm := hrun
  by_cases h19 : 19 < t.size
  · have h19i : (19 : Int) < t.size := by omega
    have h19c : decide ((19 : Int) < t.size) = true := by simp; omega
    have HB : Hid (bigI t.data.toList = true) := bigI_gt _ (by rw [htl]; exact h19)
    have hbw := fun w => letter_any 0 w
    have hdv := fun w => letter_any 0 w
    go_enter Tryd.func95, Tryd.ntmps95
    go_wp2_with (first | (go_at_call 93; (first | with_reducible refine (hrun _).mono ?_ | with_reducible refine (hrm _).mono ?_); rintro e w' ⟨rfl, rfl⟩) | (go_at_call 143; refine (hno _).mono ?_; rintro e w' ⟨rfl, rfl⟩) | (go_at_call 144; refine (hdv _).mono ?_; rintro e w' ⟨rfl, rfl⟩) | (go_at_call 91; refine (hdg _).mono ?_; rintro e w' ⟨rfl, rfl⟩) | (go_at_call 90; refine (hbw _).mono ?_; rintro e w' ⟨rfl, rfl⟩))
    refine bodyPost_ret (v := .tuple #[.agg #[.int .i64 0, .string ⟨#[]⟩, .int .i64 0], .int .i64 0, .int .i64 5, .int .i64 (a : Int)]) (by simp [results, Tryd.results95, go_sem]) rfl ⟨?_, ((Below.refl _ _).alloc (Nat.le_refl _) _).alloc (by simp) _⟩
    rw [HR.out]
    rw [if_pos HB.out]; exact retV (cutT_err a 5 0 _ (by omega))
  · have h19i : ¬ (19 : Int) < t.size := by omega
    have h19c : decide ((19 : Int) < t.size) = false := by simp; omega
    have hdv := fun w => digits_any t w ht1 (by omega) hdt
    have hvl := val_lt _ hdt
    rw [htl] at hvl
    have hvp : (10 : Nat) ^ t.size ≤ 10 ^ 19 := Nat.pow_le_pow_right (by omega) (by omega)
    have hbig : bigI t.data.toList = decide (9223372036854775807 < val t.data.toList) := by unfold bigI; rw [htl]; simp [h19]
    have hvb : val t.data.toList < 10000000000000000000 := by omega
    clear hvl hvp
    generalize val t.data.toList = vv at *
    by_cases hmx : 9223372036854775807 < vv
    · have hmxi : (9223372036854775807 : Int) < vv := by omega
      have hmxc : decide ((9223372036854775807 : Int) < vv) = true := by simp; omega
      have HB : Hid (bigI t.data.toList = true) := by show bigI t.data.toList = true; rw [hbig]; simp [hmx]
      clear hbig
      have hbw := fun w => letter_any 0 w
      go_enter Tryd.func95, Tryd.ntmps95
      go_wp2_with (first | (go_at_call 93; (first | with_reducible refine (hrun _).mono ?_ | with_reducible refine (hrm _).mono ?_); rintro e w' ⟨rfl, rfl⟩) | (go_at_call 143; refine (hno _).mono ?_; rintro e w' ⟨rfl, rfl⟩) | (go_at_call 144; refine (hdv _).mono ?_; rintro e w' ⟨rfl, rfl⟩) | (go_at_call 91; refine (hdg _).mono ?_; rintro e w' ⟨rfl, rfl⟩) | (go_at_call 90; refine (hbw _).mono ?_; rintro e w' ⟨rfl, rfl⟩))
      refine bodyPost_ret (v := .tuple #[.agg #[.int .i64 0, .string ⟨#[]⟩, .int .i64 0], .int .i64 0, .int .i64 5, .int .i64 (a : Int)]) (by simp [results, Tryd.results95, go_sem]) rfl ⟨?_, ((Below.refl _ _).alloc (Nat.le_refl _) _).alloc (by simp) _⟩
      rw [HR.out]
      rw [if_pos HB.out]; exact retV (cutT_err a 5 0 _ (by omega))
    · have hmxi : ¬ (9223372036854775807 : Int) < vv := by omega
      have hmxc : decide ((9223372036854775807 : Int) < vv) = false := by simp; omega
      have HB : Hid (bigI t.data.toList = false) := by show bigI t.data.toList = false; rw [hbig]; simp; omega
      clear hbig
      have hbw := fun w => letter_any 46 w
      have hX := nextW_in s (a + n) hn
      rw [hB] at hX
      have hw : wdI 46 = false := by decide
      rw [hw] at hbw hX
      have HX : Hid (nextW s (a + n) = false) := hX
      clear hX hw
      go_enter Tryd.func95, Tryd.ntmps95
      go_wp2_with (first | (go_at_call 93; (first | with_reducible refine (hrun _).mono ?_ | with_reducible refine (hrm _).mono ?_); rintro e w' ⟨rfl, rfl⟩) | (go_at_call 143; refine (hno _).mono ?_; rintro e w' ⟨rfl, rfl⟩) | (go_at_call 144; refine (hdv _).mono ?_; rintro e w' ⟨rfl, rfl⟩) | (go_at_call 91; refine (hdg _).mono ?_; rintro e w' ⟨rfl, rfl⟩) | (go_at_call 90; refine (hbw _).mono ?_; rintro e w' ⟨rfl, rfl⟩))
      refine bodyPost_ret (v := .tuple #[.agg #[.int .i64 3, .string t, .int .i64 (a : Int)], .int .i64 ((a : Int) + n), .int .i64 0, .int .i64 0]) (by simp [results, Tryd.results95, go_sem]) rfl ⟨?_, ((Below.refl _ _).alloc (Nat.le_refl _) _).alloc (by simp) _⟩
      rw [HR.out]
      rw [if_neg (by rw [HB.out]; decide), if_neg (by rw [HX.out]; decide)]; exact retV (cutT_tok a 3 t n _ (by omega))
end Go.Proofs.YtcgnkcehjcednaaDoor
namespace Go.Proofs.YtcgnkcehjcednaaDoor
open Go.ChangeShapes Go.WideShapes Go.ChangeAt Go.RowKit Go.Shelf
set_option linter.unusedVariables false
set_option linter.unusedSimpArgs false
set_option maxRecDepth 100000
theorem dec_valT (s t : ByteArray) (a n m : Nat) : (.tuple #[.agg #[.int .i64 4, .string (t ++ s.extract (a + n) (a + n + 1 + m)), .int .i64 (a : Int)], .int .i64 ((a : Int) + n + (1 + (m : Int))), .int .i64 0, .int .i64 0] : Value) = cutT a (.tok 4 (t.data.toList ++ ((s.data.toList.drop a).drop n).take (1 + m)) (n + 1 + m)) := by
  have h1 : t ++ s.extract (a + n) (a + n + 1 + m) = ⟨(t.data.toList ++ ((s.data.toList.drop a).drop n).take (1 + m)).toArray⟩ := by
    apply ba_ext
    rw [ByteArray.data_append, Array.toList_append, ba_mid, show a + n + 1 + m - (a + n) = 1 + m by omega, List.drop_drop]
  have h2 : (a : Int) + n + (1 + (m : Int)) = ((a + (n + 1 + m) : Nat) : Int) := by omega
  rw [h1, h2]; rfl
set_option maxHeartbeats 4000000 in
theorem number_D (s t : ByteArray) (a n : Nat) (r : Cut) (w : World) (hs : s.size ≤ 8000) (hn1 : 1 ≤ n) (hn2 : a + n ≤ s.size) (ht1 : 1 ≤ t.size) (ht2 : t.size ≤ n)
    (hrun : ∀ w, Calls Tryd.prog 93 #[.string s, .int .i64 a, .int .i64 1] w fun e w' => e = .returned (.int .i64 n) ∧ w' = w)
    (hno : ∀ w, Calls Tryd.prog 143 #[.string (s.extract a (a + n))] w fun e w' => e = .returned (.string t) ∧ w' = w)
    (hdt : digs t.data.toList) (m : Nat)
    (hrm : ∀ w, Calls Tryd.prog 93 #[.string s, .int .i64 ((a : Int) + n + 1), .int .i64 1] w fun e w' => e = .returned (.int .i64 m) ∧ w' = w)
    (hm1 : 1 ≤ m) (hm2 : a + n + 1 + m ≤ s.size)
    (HR : Hid (r = if 14 < t.size ∨ 4 < m then .err 5 0 else if nextW s (a + (n + 1 + m)) then .err 2 (n + 1 + m) else .tok 4 (t.data.toList ++ ((s.data.toList.drop a).drop n).take (1 + m)) (n + 1 + m)))
    (hn : a + n < s.size) (hA : a + n + 1 < s.size) (hB : ((s[a + n]'hn).toNat : Int) = 46) (hC : digI ((s[a + n + 1]'hA).toNat : Int) = true) :
    Calls Tryd.prog 95 #[.string s, .int .i64 a] w fun e w' => e = .returned (cutT a r) ∧ Below w.heap.size w w' := by
  have htl : t.data.toList.length = t.size := by simp
  have hAi : (a : Int) + n + 1 < s.size := by omega
  have hdg := fun w => digit_any ((s[a + n + 1]'hA).toNat : Int) w
  rw [hC] at hdg
  clear hC
  by_cases h19 : 19 < t.size
  · have h19i : (19 : Int) < t.size := by omega
    have h19c : decide ((19 : Int) < t.size) = true := by simp; omega
    have h14i : (14 : Int) < t.size := by omega
    have h14c : decide ((14 : Int) < t.size) = true := by simp; omega
    have hbw := fun w => letter_any 0 w
    have hdv := fun w => letter_any 0 w
    go_enter Tryd.func95, Tryd.ntmps95
    go_wp2_with (first | (go_at_call 93; (first | with_reducible refine (hrun _).mono ?_ | with_reducible refine (hrm _).mono ?_); rintro e w' ⟨rfl, rfl⟩) | (go_at_call 143; refine (hno _).mono ?_; rintro e w' ⟨rfl, rfl⟩) | (go_at_call 144; refine (hdv _).mono ?_; rintro e w' ⟨rfl, rfl⟩) | (go_at_call 91; refine (hdg _).mono ?_; rintro e w' ⟨rfl, rfl⟩) | (go_at_call 90; refine (hbw _).mono ?_; rintro e w' ⟨rfl, rfl⟩))
    refine bodyPost_ret (v := .tuple #[.agg #[.int .i64 0, .string ⟨#[]⟩, .int .i64 0], .int .i64 0, .int .i64 5, .int .i64 (a : Int)]) (by simp [results, Tryd.results95, go_sem]) rfl ⟨?_, ((Below.refl _ _).alloc (Nat.le_refl _) _).alloc (by simp) _⟩
    rw [HR.out, if_pos (.inl (by omega))]; exact retV (cutT_err a 5 0 _ (by omega))
  · have h19i : ¬ (19 : Int) < t.size := by omega
    have h19c : decide ((19 : Int) < t.size) = false := by simp; omega
    have hdv := fun w => digits_any t w ht1 (by omega) hdt
    have hvl := val_lt _ hdt
    rw [htl] at hvl
    have hvp : (10 : Nat) ^ t.size ≤ 10 ^ 19 := Nat.pow_le_pow_right (by omega) (by omega)
    have hvb : val t.data.toList < 10000000000000000000 := by omega
    clear hvl hvp
    generalize val t.data.toList = vv at *
    by_cases h14 : 14 < t.size
    · have h14i : (14 : Int) < t.size := by omega
      have h14c : decide ((14 : Int) < t.size) = true := by simp; omega
      have hbw := fun w => letter_any 0 w
      go_enter Tryd.func95, Tryd.ntmps95
      go_wp2_with (first | (go_at_call 93; (first | with_reducible refine (hrun _).mono ?_ | with_reducible refine (hrm _).mono ?_); rintro e w' ⟨rfl, rfl⟩) | (go_at_call 143; refine (hno _).mono ?_; rintro e w' ⟨rfl, rfl⟩) | (go_at_call 144; refine (hdv _).mono ?_; rintro e w' ⟨rfl, rfl⟩) | (go_at_call 91; refine (hdg _).mono ?_; rintro e w' ⟨rfl, rfl⟩) | (go_at_call 90; refine (hbw _).mono ?_; rintro e w' ⟨rfl, rfl⟩))
      refine bodyPost_ret (v := .tuple #[.agg #[.int .i64 0, .string ⟨#[]⟩, .int .i64 0], .int .i64 0, .int .i64 5, .int .i64 (a : Int)]) (by simp [results, Tryd.results95, go_sem]) rfl ⟨?_, ((Below.refl _ _).alloc (Nat.le_refl _) _).alloc (by simp) _⟩
      rw [HR.out, if_pos (.inl h14)]; exact retV (cutT_err a 5 0 _ (by omega))
    · have h14i : ¬ (14 : Int) < t.size := by omega
      have h14c : decide ((14 : Int) < t.size) = false := by simp; omega
      by_cases h4 : 4 < m
      · have h4i : (4 : Int) < m := by omega
        have h4c : decide ((4 : Int) < m) = true := by simp; omega
        have hbw := fun w => letter_any 0 w
        go_enter Tryd.func95, Tryd.ntmps95
        go_wp2_with (first | (go_at_call 93; (first | with_reducible refine (hrun _).mono ?_ | with_reducible refine (hrm _).mono ?_); rintro e w' ⟨rfl, rfl⟩) | (go_at_call 143; refine (hno _).mono ?_; rintro e w' ⟨rfl, rfl⟩) | (go_at_call 144; refine (hdv _).mono ?_; rintro e w' ⟨rfl, rfl⟩) | (go_at_call 91; refine (hdg _).mono ?_; rintro e w' ⟨rfl, rfl⟩) | (go_at_call 90; refine (hbw _).mono ?_; rintro e w' ⟨rfl, rfl⟩))
        refine bodyPost_ret (v := .tuple #[.agg #[.int .i64 0, .string ⟨#[]⟩, .int .i64 0], .int .i64 0, .int .i64 5, .int .i64 (a : Int)]) (by simp [results, Tryd.results95, go_sem]) rfl ⟨?_, ((Below.refl _ _).alloc (Nat.le_refl _) _).alloc (by simp) _⟩
        rw [HR.out, if_pos (.inr h4)]; exact retV (cutT_err a 5 0 _ (by omega))
      · have h4i : ¬ (4 : Int) < m := by omega
        have h4c : decide ((4 : Int) < m) = false := by simp; omega
        by_cases he : a + n + (1 + m) < s.size
        · have he' : (a : Int) + n + (1 + m) < s.size := by omega
          have hbw := fun w => letter_any ((s[a + n + (1 + m)]'he).toNat : Int) w
          have hX := nextW_in s (a + n + (1 + m)) he
          cases hw : wdI ((s[a + n + (1 + m)]'he).toNat : Int)
          · rw [hw] at hbw hX
            have HX : Hid (nextW s (a + n + (1 + m)) = false) := hX
            clear hX hw
            go_enter Tryd.func95, Tryd.ntmps95
            go_wp2_with (first | (go_at_call 93; (first | with_reducible refine (hrun _).mono ?_ | with_reducible refine (hrm _).mono ?_); rintro e w' ⟨rfl, rfl⟩) | (go_at_call 143; refine (hno _).mono ?_; rintro e w' ⟨rfl, rfl⟩) | (go_at_call 144; refine (hdv _).mono ?_; rintro e w' ⟨rfl, rfl⟩) | (go_at_call 91; refine (hdg _).mono ?_; rintro e w' ⟨rfl, rfl⟩) | (go_at_call 90; refine (hbw _).mono ?_; rintro e w' ⟨rfl, rfl⟩))
            refine bodyPost_ret (v := .tuple #[.agg #[.int .i64 4, .string (t ++ s.extract (a + n) (a + n + 1 + m)), .int .i64 (a : Int)], .int .i64 ((a : Int) + n + (1 + (m : Int))), .int .i64 0, .int .i64 0]) (by simp [results, Tryd.results95, go_sem]) rfl ⟨?_, ((Below.refl _ _).alloc (Nat.le_refl _) _).alloc (by simp) _⟩
            rw [HR.out, if_neg (fun z => z.elim h14 h4), if_neg (by rw [Nat.add_assoc n, ← Nat.add_assoc a, HX.out]; decide)]
            exact retV (dec_valT s t a n m)
          · rw [hw] at hbw hX
            have HX : Hid (nextW s (a + n + (1 + m)) = true) := hX
            clear hX hw
            go_enter Tryd.func95, Tryd.ntmps95
            go_wp2_with (first | (go_at_call 93; (first | with_reducible refine (hrun _).mono ?_ | with_reducible refine (hrm _).mono ?_); rintro e w' ⟨rfl, rfl⟩) | (go_at_call 143; refine (hno _).mono ?_; rintro e w' ⟨rfl, rfl⟩) | (go_at_call 144; refine (hdv _).mono ?_; rintro e w' ⟨rfl, rfl⟩) | (go_at_call 91; refine (hdg _).mono ?_; rintro e w' ⟨rfl, rfl⟩) | (go_at_call 90; refine (hbw _).mono ?_; rintro e w' ⟨rfl, rfl⟩))
            refine bodyPost_ret (v := .tuple #[.agg #[.int .i64 0, .string ⟨#[]⟩, .int .i64 0], .int .i64 0, .int .i64 2, .int .i64 ((a : Int) + n + (1 + (m : Int)))]) (by simp [results, Tryd.results95, go_sem]) rfl ⟨?_, ((Below.refl _ _).alloc (Nat.le_refl _) _).alloc (by simp) _⟩
            rw [HR.out, if_neg (fun z => z.elim h14 h4), if_pos (by rw [Nat.add_assoc n, ← Nat.add_assoc a]; exact HX.out)]
            exact retV (cutT_err a 2 (n + 1 + m) _ (by omega))
        · have HX : Hid (nextW s (a + n + (1 + m)) = false) := nextW_out s _ he
          have he' : ¬ (a : Int) + n + (1 + m) < s.size := by omega
          have hbw := fun w => letter_any 0 w
          go_enter Tryd.func95, Tryd.ntmps95
          go_wp2_with (first | (go_at_call 93; (first | with_reducible refine (hrun _).mono ?_ | with_reducible refine (hrm _).mono ?_); rintro e w' ⟨rfl, rfl⟩) | (go_at_call 143; refine (hno _).mono ?_; rintro e w' ⟨rfl, rfl⟩) | (go_at_call 144; refine (hdv _).mono ?_; rintro e w' ⟨rfl, rfl⟩) | (go_at_call 91; refine (hdg _).mono ?_; rintro e w' ⟨rfl, rfl⟩) | (go_at_call 90; refine (hbw _).mono ?_; rintro e w' ⟨rfl, rfl⟩))
          refine bodyPost_ret (v := .tuple #[.agg #[.int .i64 4, .string (t ++ s.extract (a + n) (a + n + 1 + m)), .int .i64 (a : Int)], .int .i64 ((a : Int) + n + (1 + (m : Int))), .int .i64 0, .int .i64 0]) (by simp [results, Tryd.results95, go_sem]) rfl ⟨?_, ((Below.refl _ _).alloc (Nat.le_refl _) _).alloc (by simp) _⟩
          rw [HR.out, if_neg (fun z => z.elim h14 h4), if_neg (by rw [Nat.add_assoc n, ← Nat.add_assoc a, HX.out]; decide)]
          exact retV (dec_valT s t a n m)
end Go.Proofs.YtcgnkcehjcednaaDoor
