import Derived.Test.YtbndliedcanmgaaRQR
namespace Go.Proofs.YtbndliedcanmgaaR
open Go.ChangeShapes Go.WideShapes Go.ChangeAt Go.RowKit
set_option linter.unusedVariables false
set_option linter.unusedSimpArgs false
set_option maxRecDepth 100000
theorem within_any (x a b : Int) (w : World) :
    Calls Try.prog 30 #[.int .i64 x, .int .i64 a, .int .i64 b] w fun e w' => e = .returned (.bool (decide (a ≤ x) && decide (x ≤ b))) ∧ w' = w := by
  by_cases h1 : a ≤ x
  · by_cases h2 : x ≤ b
    · have HE : (decide (a ≤ x) && decide (x ≤ b)) = true := by simp [h1, h2]
      rw [HE]
      clear HE
      go_enter Try.func30, Try.ntmps30
      go_wp2
      go_ret
      exact ⟨rfl, rfl⟩
    · have HE : (decide (a ≤ x) && decide (x ≤ b)) = false := by simp [h2]
      rw [HE]
      clear HE
      go_enter Try.func30, Try.ntmps30
      go_wp2
      go_ret
      exact ⟨rfl, rfl⟩
  · have HE : (decide (a ≤ x) && decide (x ≤ b)) = false := by simp [h1]
    rw [HE]
    clear HE
    go_enter Try.func30, Try.ntmps30
    go_wp2
    go_ret
    exact ⟨rfl, rfl⟩
theorem wrong_any (o : POp) (w : World) :
    Calls Try.prog 21 #[.agg #[.int .i64 o.kd, .int .i64 o.pg]] w fun e w' => e = .returned (.bool (!opOK o)) ∧ Below w.heap.size w w' := by
  obtain ⟨kd, pg⟩ := o
  simp only
  by_cases h4 : kd = 4
  · have hk : (kd != 4) = false := by simpa using h4
    have HE : Hid ((!opOK ⟨kd, pg⟩) = false) := (by subst h4; rfl : (!opOK ⟨kd, pg⟩) = false)
    clear h4
    go_enter Try.func21, Try.ntmps21
    go_wp2
    go_ret
    rw [HE.out]
    exact ⟨rfl, below_alloc _ _⟩
  · have hk : (kd != 4) = true := by simpa using h4
    cases hA : (decide (1 ≤ kd) && decide (kd ≤ 3)) with
    | false =>
      have HE : Hid ((!opOK ⟨kd, pg⟩) = true) := (by unfold opOK; simp at hA ⊢; omega : (!opOK ⟨kd, pg⟩) = true)
      go_enter Try.func21, Try.ntmps21
      go_wp2_with (go_at_call 30; refine (within_any _ _ _ _).mono ?_; rintro e w' ⟨rfl, rfl⟩; rw [hA])
      go_ret
      rw [HE.out]
      exact ⟨rfl, below_alloc _ _⟩
    | true =>
      cases hB : (decide (0 ≤ pg) && decide (pg ≤ 299)) with
      | false =>
        have HE : Hid ((!opOK ⟨kd, pg⟩) = true) := (by unfold opOK; simp at hA hB ⊢; omega : (!opOK ⟨kd, pg⟩) = true)
        go_enter Try.func21, Try.ntmps21
        go_wp2_with (go_at_call 30; refine (within_any _ _ _ _).mono ?_; rintro e w' ⟨rfl, rfl⟩; first | rw [hA] | rw [hB])
        go_ret
        rw [HE.out]
        exact ⟨rfl, below_alloc _ _⟩
      | true =>
        have HE : Hid ((!opOK ⟨kd, pg⟩) = false) := (by unfold opOK; simp at hA hB ⊢; omega : (!opOK ⟨kd, pg⟩) = false)
        go_enter Try.func21, Try.ntmps21
        go_wp2_with (go_at_call 30; refine (within_any _ _ _ _).mono ?_; rintro e w' ⟨rfl, rfl⟩; first | rw [hA] | rw [hB])
        go_ret
        rw [HE.out]
        exact ⟨rfl, below_alloc _ _⟩
end Go.Proofs.YtbndliedcanmgaaR
