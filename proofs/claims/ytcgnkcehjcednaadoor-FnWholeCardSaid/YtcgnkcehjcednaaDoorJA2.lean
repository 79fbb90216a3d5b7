import Derived.Test.YtcgnkcehjcednaaDoorJA1
namespace Go.Proofs.YtcgnkcehjcednaaDoor
open Go.ChangeShapes Go.WideShapes Go.ChangeAt Go.RowKit Go.Shelf
set_option linter.unusedVariables false
set_option linter.unusedSimpArgs false
set_option maxRecDepth 100000
namespace Ar
theorem wf_of {a : Int} (h : inI a) : (Lit.int .i64 a).wf = true := WalkArith.wf_i64 (by unfold inI at h; omega)
/-- Add to Mod of Ints. -/
def iR (op a b : Int) : Int × Int :=
  if op = 1 then add64 a b else if op = 2 then sub64 a b else if op = 3 then mul64 a b
  else if b = 0 then (0, 14) else if op = 5 then (a.tmod b, 0) else if b = -1 then sub64 0 a else (a.tdiv b, 0)
theorem mul_high {a b : Int} : (a.natAbs * b.natAbs / 18446744073709551616 : Nat) ≠ 0 → mul64 a b = (0, 13) := by
  intro h
  have e : a.natAbs * b.natAbs = (a * b).natAbs := (Int.natAbs_mul a b).symm
  have hk : 18446744073709551616 ≤ (a * b).natAbs := by
    rw [← e]; exact Nat.le_of_not_lt (fun hl => h (Nat.div_eq_of_lt hl))
  unfold mul64
  rw [if_neg (by omega)]
theorem mul_low {a b : Int} (h : (a.natAbs * b.natAbs / 18446744073709551616 : Nat) = 0) : sgR (a.natAbs * b.natAbs % 18446744073709551616) ((decide (a < 0)) != (decide (b < 0))) = mul64 a b := by
  have hl : a.natAbs * b.natAbs < 18446744073709551616 := by
    apply Decidable.byContradiction; intro hn
    have := Nat.div_pos (Nat.le_of_not_lt hn) (by decide : 0 < 18446744073709551616)
    omega
  rw [Nat.mod_eq_of_lt hl]
  have e : a.natAbs * b.natAbs = (a * b).natAbs := (Int.natAbs_mul a b).symm
  rw [e]
  have hsg : ((decide (a < 0)) != (decide (b < 0))) = true → a * b ≤ 0 := by
    intro hx
    by_cases h1 : a < 0
    · by_cases h2 : b < 0
      · simp [h1, h2] at hx
      · exact Int.mul_nonpos_of_nonpos_of_nonneg (by omega) (by omega)
    · by_cases h2 : b < 0
      · exact Int.mul_nonpos_of_nonneg_of_nonpos (by omega) (by omega)
      · simp [h1, h2] at hx
  have hsg2 : ((decide (a < 0)) != (decide (b < 0))) = false → 0 ≤ a * b := by
    intro hx
    by_cases h1 : a < 0
    · by_cases h2 : b < 0
      · exact Int.mul_nonneg_of_nonpos_of_nonpos (by omega) (by omega)
      · simp [h1, h2] at hx
    · by_cases h2 : b < 0
      · simp [h1, h2] at hx
      · exact Int.mul_nonneg (by omega) (by omega)
  unfold mul64
  cases hb : ((decide (a < 0)) != (decide (b < 0))) with
  | true =>
    have := hsg hb
    simp only [sgR, if_true]
    generalize a * b = p at *
    split <;> split <;> first | (exfalso; omega) | (apply Prod.ext <;> simp only [] <;> omega)
  | false =>
    have := hsg2 hb
    simp only [sgR, Bool.false_eq_true, if_false]
    generalize a * b = p at *
    split <;> split <;> first | (exfalso; omega) | (apply Prod.ext <;> simp only [] <;> omega)
theorem tdiv_bd {a b : Int} (ba : inI a) (h0 : b ≠ 0) (h1 : b ≠ -1) : inI (a.tdiv b) := by
  unfold inI at *
  have e : (a.tdiv b).natAbs = a.natAbs / b.natAbs := Int.natAbs_tdiv a b
  by_cases hb : b = 1
  · subst hb; rw [Int.tdiv_one]; exact ba
  · have h2 : 2 ≤ b.natAbs := by omega
    have : a.natAbs / b.natAbs ≤ a.natAbs / 2 := Nat.div_le_div_left h2 (by decide)
    omega
theorem tmod_bd {a b : Int} (ba : inI a) : inI (a.tmod b) := by
  unfold inI at *
  have e : (a.tmod b).natAbs = a.natAbs % b.natAbs := Int.natAbs_tmod a b
  have h1 : a.natAbs % b.natAbs ≤ a.natAbs := Nat.mod_le _ _
  by_cases h : 0 ≤ a
  · have := Int.tmod_nonneg b h
    omega
  · have e2 := Int.neg_tmod (-a) b
    rw [Int.neg_neg] at e2
    have := Int.tmod_nonneg b (show 0 ≤ -a by omega)
    omega
set_option maxHeartbeats 4000000 in
theorem intArith_any (op a b : Int) (w : World) (h1 : 1 ≤ op) (h5 : op ≤ 5) (ba : inI a) (bb : inI b) : Calls Tryd.prog 133 #[.int .i64 op, .int .i64 a, .int .i64 b] w fun e w' => e = .returned (.tuple #[.int .i64 (iR op a b).1, .int .i64 (iR op a b).2]) ∧ w' = w := by
  have ho : op = 1 ∨ op = 2 ∨ op = 3 ∨ op = 4 ∨ op = 5 := by omega
  clear h1 h5
  rcases ho with rfl | rfl | rfl | rfl | rfl
  · have HR : Hid (iR 1 a b = add64 a b) := (by simp [iR] : iR 1 a b = add64 a b)
    rw [HR.out]
    go_enter Tryd.func133, Tryd.ntmps133
    go_wp2_with (go_at_call 159; refine (addInts_any a b _ ba bb).mono ?_; rintro e w' ⟨rfl, rfl⟩)
    go_ret2
    exact ⟨rfl, rfl⟩
  · have HR : Hid (iR 2 a b = sub64 a b) := (by simp [iR] : iR 2 a b = sub64 a b)
    rw [HR.out]
    go_enter Tryd.func133, Tryd.ntmps133
    go_wp2_with (go_at_call 160; refine (subInts_any a b _ (wf_of ba) (wf_of bb)).mono ?_; rintro e w' ⟨rfl, rfl⟩)
    go_ret2
    exact ⟨rfl, rfl⟩
  · have HR : Hid (iR 3 a b = mul64 a b) := (by simp [iR] : iR 3 a b = mul64 a b)
    rw [HR.out]
    obtain ⟨m, hm⟩ : ∃ m, mul64 a b = m := ⟨_, rfl⟩
    have HL : Hid ((a.natAbs * b.natAbs / 18446744073709551616 : Nat) = 0 → sgR (a.natAbs * b.natAbs % 18446744073709551616) (!(decide (a < 0) == decide (b < 0))) = m) := (fun hh => (mul_low hh).trans hm)
    have HH : Hid ((a.natAbs * b.natAbs / 18446744073709551616 : Nat) ≠ 0 → m = (0, 13)) := (fun hh => hm.symm.trans (mul_high hh))
    have ha64 : a.natAbs < 18446744073709551616 := by unfold inI at ba; omega
    have hb64 : b.natAbs < 18446744073709551616 := by unfold inI at bb; omega
    have hlo : a.natAbs * b.natAbs % 18446744073709551616 < 18446744073709551616 := Nat.mod_lt _ (by decide)
    have CA : Hid (∀ w, Calls Tryd.prog 162 #[.int .i64 a] w fun e w' => e = .returned (.int .u64 (a.natAbs : Nat)) ∧ w' = w) := fun w => magnitude_any a w ba
    have CB : Hid (∀ w, Calls Tryd.prog 162 #[.int .i64 b] w fun e w' => e = .returned (.int .u64 (b.natAbs : Nat)) ∧ w' = w) := fun w => magnitude_any b w bb
    have CM : Hid (∀ w, Calls Tryd.prog 161 #[.int .u64 (a.natAbs : Nat), .int .u64 (b.natAbs : Nat)] w fun e w' => e = .returned (.tuple #[.int .u64 ((a.natAbs * b.natAbs / 18446744073709551616 : Nat) : Int), .int .u64 ((a.natAbs * b.natAbs % 18446744073709551616 : Nat) : Int)]) ∧ w' = w) := fun w => Tryd.bits_Mul64 a.natAbs b.natAbs ha64 hb64 w
    rw [hm]
    clear hm ha64 hb64
    generalize a.natAbs * b.natAbs / 18446744073709551616 = hi at *
    generalize a.natAbs * b.natAbs % 18446744073709551616 = lo at *
    generalize a.natAbs = ma at *
    generalize b.natAbs = mb at *
    by_cases hh : hi = 0
    · subst hh
      have HS : Hid (sgR lo (!(decide (a < 0) == decide (b < 0))) = m) := HL.out rfl
      clear HL HH
      go_enter Tryd.func133, Tryd.ntmps133
      go_wp2_with (first | (go_at_call 162; first | (refine (CA.out _).mono ?_; rintro e w' ⟨rfl, rfl⟩) | (refine (CB.out _).mono ?_; rintro e w' ⟨rfl, rfl⟩)) | (go_at_call 161; refine (CM.out _).mono ?_; rintro e w' ⟨rfl, rfl⟩) | (go_at_call 163; refine (signed_any lo _ _ hlo).mono ?_; rw [HS.out]; rintro e w' ⟨rfl, rfl⟩))
      go_ret2
      exact ⟨rfl, rfl⟩
    · have HS := HH.out hh
      subst HS
      have h0 : (((hi : Nat) : Int) != 0) = true := by simp only [bne_iff_ne, ne_eq]; omega
      clear hh HL HH
      go_enter Tryd.func133, Tryd.ntmps133
      go_wp2_with (first | (go_at_call 162; first | (refine (CA.out _).mono ?_; rintro e w' ⟨rfl, rfl⟩) | (refine (CB.out _).mono ?_; rintro e w' ⟨rfl, rfl⟩)) | (go_at_call 161; refine (CM.out _).mono ?_; rintro e w' ⟨rfl, rfl⟩))
      go_ret2
      exact ⟨rfl, rfl⟩
  · by_cases b0 : b = 0
    · subst b0
      have HR : Hid (iR 4 a 0 = (0, 14)) := (by simp [iR] : iR 4 a 0 = (0, 14))
      rw [HR.out]
      go_enter Tryd.func133, Tryd.ntmps133
      go_wp2
      go_ret2
      exact ⟨rfl, rfl⟩
    · have e0 : (b == 0) = false := by simpa using b0
      by_cases b1 : b = -1
      · subst b1
        have HR : Hid (iR 4 a (-1) = sub64 0 a) := (by simp [iR] : iR 4 a (-1) = sub64 0 a)
        rw [HR.out]
        go_enter Tryd.func133, Tryd.ntmps133
        go_wp2_with (go_at_call 160; refine (subInts_any 0 a _ (wf_of ⟨by decide, by decide⟩) (wf_of ba)).mono ?_; rintro e w' ⟨rfl, rfl⟩)
        go_ret2
        exact ⟨rfl, rfl⟩
      · have e1 : (b == -1) = false := by simpa using b1
        have HR : Hid (iR 4 a b = (a.tdiv b, 0)) := (by simp [iR, b0, b1] : iR 4 a b = (a.tdiv b, 0))
        have HB : Hid (inI (a.tdiv b)) := tdiv_bd ba b0 b1
        rw [HR.out]
        go_enter Tryd.func133, Tryd.ntmps133
        go_wp2
        go_ret2
        refine ⟨ret_two ?_ rfl, rfl⟩
        go_light
        have := HB.out
        unfold inI at this
        first | rfl | (simp only [IntKind.wrap_i64, wrap64]; omega)
  · by_cases b0 : b = 0
    · subst b0
      have HR : Hid (iR 5 a 0 = (0, 14)) := (by simp [iR] : iR 5 a 0 = (0, 14))
      rw [HR.out]
      go_enter Tryd.func133, Tryd.ntmps133
      go_wp2
      go_ret2
      exact ⟨rfl, rfl⟩
    · have e0 : (b == 0) = false := by simpa using b0
      have HR : Hid (iR 5 a b = (a.tmod b, 0)) := (by simp [iR, b0] : iR 5 a b = (a.tmod b, 0))
      have HB : Hid (inI (a.tmod b)) := tmod_bd ba
      rw [HR.out]
      go_enter Tryd.func133, Tryd.ntmps133
      go_wp2
      go_ret2
      refine ⟨ret_two ?_ rfl, rfl⟩
      go_light
      have := HB.out
      unfold inI at this
      first | rfl | (simp only [IntKind.wrap_i64, wrap64]; omega)
end Ar
end Go.Proofs.YtcgnkcehjcednaaDoor
