import Derived.Test.YtjpcgnkgdaphoaaDoorL6
namespace Go.Proofs.YtjpcgnkgdaphoaaDoor
open Go.ChangeShapes Go.WideShapes Go.ChangeAt Go.RowKit Go.Shelf
set_option linter.unusedVariables false
set_option linter.unusedSimpArgs false
set_option maxRecDepth 100000
def sgB (i : Nat) : ByteArray := ⟨(signs.getD i []).toArray⟩
def Sg (w : World) (B : Nat) : Prop := ∀ i, i < 18 → w.cell? ⟨B, i, none⟩ = some (.string (sgB i))
theorem sg_new (w : World) : Sg (w.alloc (.cells #[.string ⟨#[60, 61]⟩, .string ⟨#[62, 61]⟩, .string ⟨#[60, 62]⟩, .string ⟨#[33, 61]⟩, .string ⟨#[124, 124]⟩, .string ⟨#[40]⟩, .string ⟨#[41]⟩, .string ⟨#[44]⟩, .string ⟨#[46]⟩, .string ⟨#[59]⟩, .string ⟨#[43]⟩, .string ⟨#[45]⟩, .string ⟨#[42]⟩, .string ⟨#[47]⟩, .string ⟨#[37]⟩, .string ⟨#[61]⟩, .string ⟨#[60]⟩, .string ⟨#[62]⟩] 9)) w.heap.size := by
  intro i hi
  have h : i = 0 ∨ i = 1 ∨ i = 2 ∨ i = 3 ∨ i = 4 ∨ i = 5 ∨ i = 6 ∨ i = 7 ∨ i = 8 ∨ i = 9 ∨ i = 10 ∨ i = 11 ∨ i = 12 ∨ i = 13 ∨ i = 14 ∨ i = 15 ∨ i = 16 ∨ i = 17 := by omega
  rcases h with h | h | h | h | h | h | h | h | h | h | h | h | h | h | h | h | h | h <;> (subst h; simp only [World.cell?]; rw [heap_alloc_new]; rfl)
theorem Sg.below {w w' : World} {b B : Nat} (h : Sg w B) (hb : Below b w w') (hB : B < b) : Sg w' B := fun i hi => by
  have := hb.cell (p := ⟨B, i, none⟩) hB
  rw [this]; exact h i hi
def SigI (l : List UInt8) (k : Nat) : Prop := sigAt l = (signs.drop k).find? (fun g => g.isPrefixOf l)
theorem SigI.zero (l : List UInt8) : SigI l 0 := rfl
theorem sig_drop (k : Nat) (h : k < 18) : signs.drop k = (sgB k).data.toList :: signs.drop (k + 1) := by
  have hl : k < signs.length := h
  rw [List.drop_eq_getElem_cons hl]
  congr 1
  unfold sgB
  simp [List.getD, List.getElem?_eq_getElem hl]
theorem SigI.next {l : List UInt8} {k : Nat} (h : SigI l k) (hk : k < 18) (hp : (sgB k).data.toList.isPrefixOf l = false) : SigI l (k + 1) := by
  unfold SigI at h ⊢
  rw [h, sig_drop k hk, List.find?_cons_of_neg (by rw [hp]; decide)]
theorem SigI.hit {l : List UInt8} {k : Nat} (h : SigI l k) (hk : k < 18) (hp : (sgB k).data.toList.isPrefixOf l = true) : sigAt l = some (sgB k).data.toList := by
  unfold SigI at h
  rw [h, sig_drop k hk]; simp [List.find?_cons, hp]
theorem SigI.end {l : List UInt8} (h : SigI l 18) : sigAt l = none := h
theorem sgB_size (k : Nat) (h : k < 18) : 1 ≤ (sgB k).size ∧ (sgB k).size ≤ 2 := by
  have h' : k = 0 ∨ k = 1 ∨ k = 2 ∨ k = 3 ∨ k = 4 ∨ k = 5 ∨ k = 6 ∨ k = 7 ∨ k = 8 ∨ k = 9 ∨ k = 10 ∨ k = 11 ∨ k = 12 ∨ k = 13 ∨ k = 14 ∨ k = 15 ∨ k = 16 ∨ k = 17 := by omega
  rcases h' with h | h | h | h | h | h | h | h | h | h | h | h | h | h | h | h | h | h <;> (subst h; decide)
theorem ba_mid (s : ByteArray) (a b : Nat) : (s.extract a b).data.toList = (s.data.toList.drop a).take (b - a) := by
  rw [ByteArray.data_extract, Array.toList_extract, List.extract_eq_take_drop]
theorem pre_eq (s g : ByteArray) (a : Nat) (h : a + g.size ≤ s.size) : ((s.extract a (a + g.size)).toList == g.toList) = g.data.toList.isPrefixOf (s.data.toList.drop a) := by
  rw [Lib.toList_data, Lib.toList_data, ba_mid, Nat.add_sub_cancel_left]
  rw [Bool.eq_iff_iff, beq_iff_eq, List.isPrefixOf_iff_prefix]
  have hl : g.data.toList.length = g.size := by simp
  constructor
  · intro e; rw [← e]; exact List.take_prefix _ _
  · intro e
    obtain ⟨t, e⟩ := e
    rw [← e, ← hl, List.take_left]
theorem pre_long (s g : ByteArray) (a : Nat) (h : s.size < a + g.size) (ha : a ≤ s.size) : g.data.toList.isPrefixOf (s.data.toList.drop a) = false := by
  rw [Bool.eq_false_iff]
  intro e
  obtain ⟨t, e⟩ := List.isPrefixOf_iff_prefix.1 e
  have := congrArg List.length e
  simp at this
  omega
end Go.Proofs.YtjpcgnkgdaphoaaDoor
