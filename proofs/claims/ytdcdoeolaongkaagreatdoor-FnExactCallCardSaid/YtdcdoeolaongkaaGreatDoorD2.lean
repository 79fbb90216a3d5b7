import Derived.Test.YtdcdoeolaongkaaGreatDoorD1
namespace Go.Proofs.YtdcdoeolaongkaaGreatDoor.Days
open Go.ChangeShapes Go.WideShapes Go.ChangeAt Go.RowKit
def vld (y m d : Int) : Prop := (1 ≤ y ∧ y ≤ 9999) ∧ (1 ≤ m ∧ m ≤ 12) ∧ 1 ≤ d ∧ d ≤ mdays y m
def num (y m d : Int) : Int := -719162 + dbef y + d - 1 + cumTo y (m - 1).toNat
theorem ret_two {k l : IntKind} {a b c d : Int} (h : a = c) (g : b = d) : Ending.returned (.tuple #[.int k a, .int l b]) = .returned (.tuple #[.int k c, .int l d]) := by rw [h, g]
theorem dbef_bd (y : Int) (h1 : 1 ≤ y) (h2 : y ≤ 10000) : 0 ≤ dbef y ∧ dbef y ≤ 3652059 := by unfold dbef; omega
theorem cum_step (y : Int) (k : Nat) (h : 1 ≤ k) : cumTo y k = cumTo y (k - 1) + mdays y k := by
  obtain ⟨j, rfl⟩ : ∃ j, k = j + 1 := ⟨k - 1, by omega⟩
  simp [cumTo]
end Go.Proofs.YtdcdoeolaongkaaGreatDoor.Days
