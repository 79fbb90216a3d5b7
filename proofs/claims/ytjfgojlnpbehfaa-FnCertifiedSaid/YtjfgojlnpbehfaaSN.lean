import Derived.Test.YtjfgojlnpbehfaaSM
import Derived.Test.YtjfgojlnpbehfaaDF
import Derived.OneCell
namespace Go.Proofs.Ytjfgojlnpbehfaa
open Go.ChangeShapes Go.WideShapes Go.ChangeAt Go.RowKit
set_option linter.unusedVariables false
set_option linter.unusedSimpArgs false
set_option maxRecDepth 100000
/-- A row that was made: a cell for each. -/
def RowOf {α : Type} (f : α → Value) (ty b : Nat) (w : World) (g : Nat) (xs : List α) : Prop := w.ownsRow b ty 1 (.slice (some ⟨g, 0, none⟩) xs.length xs.length) xs.length (xs.map f)
theorem RowOf.cell {α : Type} {f : α → Value} {ty b g j : Nat} {w : World} {xs : List α} (h : RowOf f ty b w g xs) (hj : j < xs.length) : w.cell? ⟨g, j, none⟩ = some (f xs[j]) := own_cell h (by rw [List.getElem?_map, List.getElem?_eq_getElem hj]; rfl)
theorem RowOf.frozen {α : Type} {f : α → Value} {ty b g : Nat} {w : World} {xs : List α} (h : RowOf f ty b w g xs) (j : Nat) : w.frozen? ⟨g, j, none⟩ = false := World.ownsRow.frozenAt h j
theorem RowOf.set {α : Type} {f : α → Value} {ty b g : Nat} {w : World} {xs : List α} (h : RowOf f ty b w g xs) (j : Nat) (x : α) : RowOf f ty b (w.setCell ⟨g, j, none⟩ (f x)) g (xs.set j x) := by
  have := (World.ownsRow.stored h j (f x)).1
  unfold RowOf
  rw [List.length_set, List.map_set]
  exact this
theorem RowOf.below {α : Type} {f : α → Value} {ty b g : Nat} {w w' : World} {xs : List α} (h : RowOf f ty b w g xs) (hb : Below w.heap.size w w') : RowOf f ty b w' g xs := own_below h hb
theorem RowOf.lt {α : Type} {f : α → Value} {ty b g : Nat} {w : World} {xs : List α} (h : RowOf f ty b w g xs) : b ≤ g ∧ g < w.heap.size := World.ownsRow.lt h g rfl
theorem RowOf.other {α : Type} {f : α → Value} {ty b g c j : Nat} {w : World} {xs : List α} {u : Value} (h : RowOf f ty b w g xs) (hc : c ≠ g) : RowOf f ty b (w.setCell ⟨c, j, none⟩ u) g xs :=
  ownsRow_setCell_other h (by simp [Value.ownBlock]; omega) u
theorem RowOf.grown {α : Type} {f : α → Value} {ty b g : Nat} {w w' : World} {xs : List α} {row : Option Nat} (h : RowOf f ty b w g xs) (hg : w.grownBy w' row) (hr : row ≠ some g) : RowOf f ty b w' g xs :=
  World.ownsRow.kept h hg (.inr (by simpa [Value.ownBlock] using fun e => hr e.symm))
abbrev IRow := @RowOf Int (Value.int .i64)
abbrev BRow := @RowOf Bool Value.bool
theorem rowI {b : Nat} {ty : Nat} {w : World} {g n : Nat} {xs : List Value} (h : w.ownsRow b ty 1 (.slice (some ⟨g, 0, none⟩) n n) n xs) (hx : xs = (List.replicate n (0 : Int)).map (Value.int .i64)) : IRow ty b w g (List.replicate n 0) := by
  subst hx
  unfold IRow RowOf
  rw [List.length_replicate]
  exact h
theorem rowB {b : Nat} {ty : Nat} {w : World} {g n : Nat} {xs : List Value} (h : w.ownsRow b ty 1 (.slice (some ⟨g, 0, none⟩) n n) n xs) (hx : xs = (List.replicate n false).map Value.bool) : BRow ty b w g (List.replicate n false) := by
  subst hx
  unfold BRow RowOf
  rw [List.length_replicate]
  exact h
/-- What the row of those that are still to wait for holds: of those below j the greater list of sources has been counted. -/
def Waits (us : List TI) (ws : List Int) (S T : List Nat) (j : Nat) : Prop := ws.length = us.length ∧ ∀ l (h : l < ws.length), ws[l] = (cntL us (if l < j then T else S) l : Nat)
theorem waits_start (us : List TI) (T : List Nat) : Waits us (List.replicate us.length 0) (List.range 0) T 0 := ⟨by simp, fun l h => by simp [cntL]⟩
theorem Waits.next {us : List TI} {ws : List Int} {S T : List Nat} (U : List Nat) (h : Waits us ws S T us.length) : Waits us ws T U 0 := ⟨h.1, fun l hl => by
  have := h.2 l hl
  rw [if_pos (by rw [← h.1]; exact hl)] at this
  rw [this, if_neg (Nat.not_lt_zero _)]⟩
theorem Waits.keep {us : List TI} {ws : List Int} {S T : List Nat} {j : Nat} (h : Waits us ws S T j) (e : cntL us T j = cntL us S j) : Waits us ws S T (j + 1) := ⟨h.1, fun l hl => by
  have := h.2 l hl
  by_cases hlj : l < j
  · rw [if_pos hlj] at this; rw [if_pos (by omega)]; exact this
  · by_cases e' : l = j
    · subst e'; rw [if_neg hlj] at this; rw [if_pos (by omega), e]; exact this
    · rw [if_neg hlj] at this; rw [if_neg (by omega)]; exact this⟩
theorem Waits.step {us : List TI} {ws : List Int} {S T : List Nat} {j : Nat} {x : Int} (h : Waits us ws S T j) (hx : x = (cntL us T j : Nat)) : Waits us (ws.set j x) S T (j + 1) := ⟨by rw [List.length_set]; exact h.1, fun l hl => by
  rw [List.length_set] at hl
  have := h.2 l hl
  by_cases e' : l = j
  · subst e'; rw [List.getElem_set_self, if_pos (by omega)]; exact hx
  · rw [List.getElem_set_ne (by omega)]
    by_cases hlj : l < j
    · rw [if_pos hlj] at this; rw [if_pos (by omega)]; exact this
    · rw [if_neg hlj] at this; rw [if_neg (by omega)]; exact this⟩
theorem Waits.at {us : List TI} {ws : List Int} {S T : List Nat} {j : Nat} (h : Waits us ws S T j) (hj : j < ws.length) : ws[j] = (cntL us S j : Nat) := by
  have := h.2 j hj
  rw [if_neg (by omega)] at this
  exact this
end Go.Proofs.Ytjfgojlnpbehfaa
