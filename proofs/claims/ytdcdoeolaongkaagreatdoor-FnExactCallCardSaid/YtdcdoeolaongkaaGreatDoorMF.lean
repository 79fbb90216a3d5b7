import Derived.Test.YtdcdoeolaongkaaGreatDoorME
namespace Go.Proofs.YtdcdoeolaongkaaGreatDoor.Mp
open Go.MapKept Go.ChangeMaps
open Go.ChangeShapes Go.WideShapes Go.ChangeAt Go.RowKit
open Go.Proofs.YtdcdoeolaongkaaGreatDoor.Ok
set_option linter.unusedVariables false
set_option linter.unusedSimpArgs false
set_option maxRecDepth 100000
def mx (x y : Int) : Int := if x ≤ y then y else x
set_option maxHeartbeats 2000000 in
theorem two_any (ks : List Int) (a : Option Addr) (cap : Nat) (w : World) (hn : ks.length ≤ 1048576) (hk : RIO w (.slice a ks.length cap) ks) :
    Calls Tryz.prog 96 #[.slice a ks.length cap] w fun e w' => e = .returned (.int .i64 (twoK ks)) ∧ Below w.heap.size w w' := by
  obtain ⟨a', cap', hsl, hcells⟩ := hk
  simp only [Value.slice.injEq] at hsl
  obtain ⟨rfl, _, rfl⟩ := hsl
  by_cases h1 : ks.length = 2
  · obtain ⟨x, y, rfl⟩ := len_two h1
    obtain ⟨g, o, rfl, hg, hgc⟩ := hcells (by simp)
    have d0 : w.cell? ⟨g, o, none⟩ = some (.int .i64 x) := by simpa using hgc 0 (by simp)
    have d1 : w.cell? ⟨g, o + 1, none⟩ = some (.int .i64 y) := by simpa using hgc 1 (by simp)
    clear hgc hcells h1
    have hcon := fun w => fits_impl x y w
    have cs : (fitB x y = false ∧ (y != 0) = true ∧ twoK [x, y] = -1) ∨ (fitB x y = false ∧ (y != 0) = false ∧ twoK [x, y] = mx x y) ∨ (fitB x y = true ∧ twoK [x, y] = mx x y) := by
      simp only [twoK, mx]
      by_cases c1 : fitB x y = false <;> by_cases c2 : y = 0 <;> simp_all
    simp only [List.length_cons, List.length_nil, Nat.zero_add, Nat.reduceAdd]
    have e0 : ∀ n, (w.drewN n).cell? ⟨g, o, none⟩ = some (.int .i64 x) := fun n => d0
    have e1 : ∀ n, (w.drewN n).cell? ⟨g, o + 1, none⟩ = some (.int .i64 y) := fun n => d1
    rcases cs with ⟨f1, f2, f3⟩ | ⟨f1, f2, f3⟩ | ⟨f1, f3⟩
    · rw [f3]
      rw [f1] at hcon
      clear e0 e1 f3
      go_enter Tryz.func96, Tryz.ntmps96
      go_wp2
      go_quiet ((go_at_call 70; refine (hcon _).mono ?_; rintro e w1 ⟨rfl, rfl⟩; exact ⟨rfl, _, rfl⟩))
      go_wp2
      go_ret
      exact ⟨rfl, below_drewN _ _⟩
    · rw [f3]
      rw [f1] at hcon
      clear f3
      go_enter Tryz.func96, Tryz.ntmps96
      go_wp2
      go_quiet ((go_at_call 70; refine (hcon _).mono ?_; rintro e w1 ⟨rfl, rfl⟩; exact ⟨rfl, _, rfl⟩))
      go_wp2
      go_quiet (fail)
      go_wp2
      all_goals
        go_ret
        refine ⟨ret_int ?_, below_drewN _ _⟩
        unfold mx
        split <;> omega
    · rw [f3]
      rw [f1] at hcon
      clear f3
      go_enter Tryz.func96, Tryz.ntmps96
      go_wp2
      go_quiet ((go_at_call 70; refine (hcon _).mono ?_; rintro e w1 ⟨rfl, rfl⟩; exact ⟨rfl, _, rfl⟩))
      go_wp2
      go_quiet (fail)
      go_wp2
      all_goals
        go_ret
        refine ⟨ret_int ?_, below_drewN _ _⟩
        unfold mx
        split <;> omega
  · have hne : ((ks.length : Int) != 2) = true := by simp; omega
    rw [twoK_no h1]
    go_enter Tryz.func96, Tryz.ntmps96
    go_wp2
    go_quiet (fail)
    go_wp2
    go_ret
    exact ⟨rfl, below_drewN _ _⟩
end Go.Proofs.YtdcdoeolaongkaaGreatDoor.Mp
