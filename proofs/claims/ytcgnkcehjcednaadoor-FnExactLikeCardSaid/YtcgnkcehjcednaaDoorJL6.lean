import Derived.Test.YtcgnkcehjcednaaDoorJL5
import Derived.Test.YtcgnkcehjcednaaDoorJL4
import Derived.Test.YtcgnkcehjcednaaDoorJW4
namespace Go.Proofs.YtcgnkcehjcednaaDoor
open Go.ChangeShapes Go.WideShapes Go.ChangeAt Go.RowKit Go.Shelf
namespace Lk
set_option linter.unusedVariables false
set_option linter.unusedSimpArgs false
set_option maxRecDepth 100000
theorem info4 : (Tryd.prog.info? 4).map (fun i => (i.zero, i.size, i.bytes)) = some (some (.bool false), 1, 1) := by kernel_rfl
/-- Truths that lie readable, from a block's head on. -/
def RdB (w : World) (v : Value) (bs : List Bool) : Prop :=
  ∃ g, v = .slice (some ⟨g, 0, none⟩) bs.length bs.length ∧ g < w.heap.size ∧ ∀ i (h : i < bs.length), w.cell? ⟨g, i, none⟩ = some (.bool bs[i])
def bools (bs : List Bool) : List Value := bs.map Value.bool
theorem RdB.of_own {w : World} {b g n : Nat} {bs : List Bool} (hn : bs.length = n) (h : w.ownsRow b 4 1 (.slice (some ⟨g, 0, none⟩) n n) n (bools bs)) : RdB w (.slice (some ⟨g, 0, none⟩) n n) bs := by
  subst hn
  refine ⟨g, rfl, (h.lt g rfl).2, fun i hi => row_cell h ?_⟩
  simp [bools, hi]
theorem RdB.below {w w' : World} {v : Value} {t : List Bool} {B : Nat} (h : RdB w v t) (hb : Below B w w') (hB : w.heap.size ≤ B) : RdB w' v t := by
  obtain ⟨g, rfl, hg, hc⟩ := h
  exact ⟨g, rfl, Nat.lt_of_lt_of_le hg hb.size, fun i hi => (hb.cell (p := ⟨g, i, none⟩) (Nat.lt_of_lt_of_le hg hB)).trans (hc i hi)⟩
open Classical in
/-- The row of the table behind some parts (the last one first). -/
def Tab (t r : List Int) (bs : List Bool) : Prop := bs.length = t.length + 1 ∧ ∀ i, i ≤ t.length → bs[i]? = some (decide (D t r i))
open Classical in
/-- A row of the table that is filled up to j. -/
def Fil (t r : List Int) (j : Nat) (ys : List Bool) : Prop := ys.length = t.length + 1 ∧ (∀ i, i < j → i ≤ t.length → ys[i]? = some (decide (D t r i))) ∧ ∀ i, j ≤ i → i ≤ t.length → ys[i]? = some false
theorem Tab.start (t : List Int) : Tab t [] ((List.replicate (t.length + 1) false).set 0 true) := by
  refine ⟨by simp, fun i hi => ?_⟩
  rw [List.getElem?_set]
  by_cases h : 0 = i
  · subst h; simp [D]
  · rw [if_neg h]
    have : ¬ D t [] i := fun e => h (show i = 0 from e).symm
    simp [this, List.getElem?_replicate]; omega
theorem Fil.start (t r : List Int) : Fil t r 0 (List.replicate (t.length + 1) false) :=
  ⟨by simp, fun i h => absurd h (Nat.not_lt_zero _), fun i _ hi => by simp [List.getElem?_replicate]; omega⟩
open Classical in
theorem Fil.put {t r : List Int} {j : Nat} {ys : List Bool} (h : Fil t r j ys) (hj : j ≤ t.length) (b : Bool) (hb : b = decide (D t r j)) : Fil t r (j + 1) (ys.set j b) := by
  obtain ⟨h1, h2, h3⟩ := h
  refine ⟨by simpa using h1, fun i hi hl => ?_, fun i hi hl => ?_⟩
  · rw [List.getElem?_set]
    by_cases e : j = i
    · subst e; rw [if_pos rfl, if_pos (by omega), hb]
    · rw [if_neg e]; exact h2 i (by omega) hl
  · rw [List.getElem?_set, if_neg (by omega)]; exact h3 i (by omega) hl
open Classical in
theorem Fil.skip {t r : List Int} {j : Nat} {ys : List Bool} (h : Fil t r j ys) (hj : j ≤ t.length) (hd : ¬ D t r j) : Fil t r (j + 1) ys := by
  obtain ⟨h1, h2, h3⟩ := h
  refine ⟨h1, fun i hi hl => ?_, fun i hi hl => h3 i (by omega) hl⟩
  by_cases e : i = j
  · subst e; rw [h3 i (Nat.le_refl _) hl, decide_eq_false hd]
  · exact h2 i (by omega) hl
theorem Fil.full {t r : List Int} {ys : List Bool} (h : Fil t r (t.length + 1) ys) : Tab t r ys := ⟨h.1, fun i hi => h.2.1 i (by omega) hi⟩
theorem made_bools (n : Nat) : (madeCells (Value.bool false).cells (n * 1)).toList = bools (List.replicate n false) := by
  rw [Nat.mul_one]
  have := toList_madeCells_one (.bool false) n
  simpa [bools, Value.cells] using this
theorem bools_set (bs : List Bool) (i : Nat) (b : Bool) : (bools bs).set i (.bool b) = bools (bs.set i b) := by simp [bools, List.map_set]
theorem take_rev {ps : List Int} {k : Nat} (h : k < ps.length) : (ps.take (k + 1)).reverse = ps[k] :: (ps.take k).reverse := by
  rw [List.take_add_one, List.getElem?_eq_getElem h]; simp
end Lk
end Go.Proofs.YtcgnkcehjcednaaDoor
