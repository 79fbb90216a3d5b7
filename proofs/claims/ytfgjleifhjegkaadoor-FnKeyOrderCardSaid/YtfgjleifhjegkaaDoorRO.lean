import Derived.Test.YtfgjleifhjegkaaDoorDFV
import Derived.OneCell
namespace Go.Proofs.YtfgjleifhjegkaaDoor
open Go.ChangeShapes Go.WideShapes Go.ChangeAt Go.RowKit
set_option linter.unusedVariables false
set_option linter.unusedSimpArgs false
set_option maxRecDepth 100000
/-- A row that was made: a cell for each. -/
def RowOf {α : Type} (f : α → Value) (ty b : Nat) (w : World) (g : Nat) (xs : List α) : Prop := w.ownsRow b ty 1 (.slice (some ⟨g, 0, none⟩) xs.length xs.length) xs.length (xs.map f)
theorem RowOf.cell {α : Type} {f : α → Value} {ty b g j : Nat} {w : World} {xs : List α} (h : RowOf f ty b w g xs) (hj : j < xs.length) : w.cell? ⟨g, j, none⟩ = some (f xs[j]) := own_cell h (by rw [List.getElem?_map, List.getElem?_eq_getElem hj]; rfl)
theorem RowOf.frozen {α : Type} {f : α → Value} {ty b g : Nat} {w : World} {xs : List α} (h : RowOf f ty b w g xs) (j : Nat) : w.frozen? ⟨g, j, none⟩ = false := World.ownsRow.frozenAt h j
theorem RowOf.set {α : Type} {f : α → Value} {ty b g : Nat} {w : World} {xs : List α} (h : RowOf f ty b w g xs) (j : Nat) (x : α) : RowOf f ty b (w.setCell ⟨g, j, none⟩ (f x)) g (xs.set j x) := by
  have := (World.ownsRow.stored h j (f x)).1
  unfold RowOf
  rw [List.length_set, List.map_set]
  exact this
theorem RowOf.below {α : Type} {f : α → Value} {ty b g : Nat} {w w' : World} {xs : List α} (h : RowOf f ty b w g xs) (hb : Below w.heap.size w w') : RowOf f ty b w' g xs := own_below h hb
theorem RowOf.lt {α : Type} {f : α → Value} {ty b g : Nat} {w : World} {xs : List α} (h : RowOf f ty b w g xs) : b ≤ g ∧ g < w.heap.size := World.ownsRow.lt h g rfl
theorem RowOf.other {α : Type} {f : α → Value} {ty b g c j : Nat} {w : World} {xs : List α} {u : Value} (h : RowOf f ty b w g xs) (hc : c ≠ g) : RowOf f ty b (w.setCell ⟨c, j, none⟩ u) g xs :=
  ownsRow_setCell_other h (by simp [Value.ownBlock]; omega) u
theorem RowOf.grown {α : Type} {f : α → Value} {ty b g : Nat} {w w' : World} {xs : List α} {row : Option Nat} (h : RowOf f ty b w g xs) (hg : w.grownBy w' row) (hr : row ≠ some g) : RowOf f ty b w' g xs :=
  World.ownsRow.kept h hg (.inr (by simpa [Value.ownBlock] using fun e => hr e.symm))
abbrev YRow := @RowOf Int (Value.int .u8)
theorem rowY {b ty : Nat} {w : World} {g n : Nat} {xs : List Value} (h : w.ownsRow b ty 1 (.slice (some ⟨g, 0, none⟩) n n) n xs) (hx : xs = (List.replicate n (0 : Int)).map (Value.int .u8)) : YRow ty b w g (List.replicate n 0) := by
  subst hx
  unfold YRow RowOf
  rw [List.length_replicate]
  exact h
/-- Bytes that were told one behind the other. -/
def YOut (ty b : Nat) (w : World) (v : Value) (xs : List Int) : Prop := w.ownsRow b ty 1 v xs.length (xs.map (Value.int .u8))
theorem YOut.below {ty b : Nat} {w w' : World} {v : Value} {xs : List Int} (h : YOut ty b w v xs) (hb : Below w.heap.size w w') : YOut ty b w' v xs := own_below h hb
theorem YOut.form {ty b : Nat} {w : World} {v : Value} {xs : List Int} (h : YOut ty b w v xs) : ∃ oa oc, v = .slice oa xs.length oc := by
  obtain ⟨_, h2⟩ := h
  rcases h2 with ⟨rfl, h0⟩ | ⟨q, cap, cur, rfl, _⟩
  · exact ⟨none, 0, by rw [h0]⟩
  · exact ⟨_, _, rfl⟩
theorem YOut.rsw {ty b : Nat} {w : World} {v : Value} {xs : List Int} (h : YOut ty b w v xs) : RSW 1 CY b w v xs := by
  obtain ⟨hl, h2⟩ := h
  rcases h2 with ⟨rfl, h0⟩ | ⟨g, cap, cur, rfl, hg1, hg2, hg3⟩
  · exact ⟨none, 0, by rw [h0], fun hp => by omega⟩
  · have ho : w.ownsRow b ty 1 (.slice (some ⟨g, 0, none⟩) xs.length cap) xs.length (xs.map (Value.int .u8)) := ⟨hl, .inr ⟨g, cap, cur, rfl, hg1, hg2, hg3⟩⟩
    refine ⟨_, _, rfl, fun _ => ⟨g, 0, rfl, hg1, (ho.lt _ rfl).2, fun i hi => ⟨[.int .u8 xs[i]], rfl, fun j hj => ?_⟩⟩⟩
    have : j = 0 := by omega
    subst this
    rw [Nat.mul_one, Nat.add_zero, Nat.zero_add]
    exact ⟨own_cell ho (by rw [List.getElem?_map, List.getElem?_eq_getElem hi]; rfl), ho.frozenAt _⟩
/-- A number in m bytes, the highest first. -/
def beL : Nat → Nat → List Int
  | 0, _ => []
  | m + 1, n => beL m (n / 256) ++ [((n % 256 : Nat) : Int)]
theorem beL_len : ∀ m n, (beL m n).length = m
  | 0, _ => rfl
  | m + 1, n => by unfold beL; rw [List.length_append, beL_len m]; rfl
end Go.Proofs.YtfgjleifhjegkaaDoor
