import Derived.Test.YtbndliedcanmgaaRQM
import Derived.Test.YtbndliedcanmgaaRSH
import Derived.Sort.OwnSortedInts
namespace Go.Proofs.YtbndliedcanmgaaR
open Go.ChangeShapes Go.WideShapes Go.ChangeAt Go.RowKit
set_option linter.unusedVariables false
set_option linter.unusedSimpArgs false
set_option maxRecDepth 100000
theorem grownBy_refl (w : World) (r : Option Nat) : w.grownBy w r := ⟨rfl, rfl, rfl, Nat.le_refl _, fun _ _ _ => rfl⟩
/-- slices.Sort on a list that is owned. -/
theorem sort_any (b : Nat) (w : World) (v : Value) (xs : List Int) (h : IOut b w v xs) (hl : xs.length ≤ 8) :
    Calls Try.prog 36 #[v] w fun e w' => e = .returned (.tuple #[]) ∧ IOut b w' v (xs.mergeSort fun x y => decide (x ≤ y)) ∧ w.grownBy w' v.ownBlock := by
  have hm : (xs.mergeSort fun x y => decide (x ≤ y)).length = xs.length := List.length_mergeSort _
  rcases h.2 with ⟨rfl, h0⟩ | ⟨g, cap, cur, rfl, hbase, hb, h1, h2, h3, h4⟩
  · refine (Try.slices_Sort_int_none none 0 w).mono ?_
    rintro e w' ⟨rfl, rfl⟩
    have : xs = [] := by
      cases xs with
      | nil => rfl
      | cons a r => simp at h0
    subst this
    refine ⟨rfl, ?_, grownBy_refl _ _⟩
    simpa using h
  · have hH : Go.Sort.Holds (Value.int .i64) w g 0 xs.toArray := holds_of_blockI hb (by simpa using h4)
    refine (Try.slices_Sort_int g 0 cap xs w hH (Array.getElem?_eq_some_iff.1 hb).1 (by omega)).mono ?_
    rintro e w' ⟨rfl, nn, os, rfl⟩
    refine ⟨rfl, ?_, grownBy_sortedI _⟩
    unfold IOut
    rw [hm]
    exact ownsRow_sortedI hm hbase hb h1 h2 h3
end Go.Proofs.YtbndliedcanmgaaR
