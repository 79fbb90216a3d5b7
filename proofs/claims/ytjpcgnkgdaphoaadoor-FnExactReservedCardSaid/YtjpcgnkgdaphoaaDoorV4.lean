import Derived.Test.YtjpcgnkgdaphoaaDoorV3
import Derived.RegionTactic
import Derived.ChangeAlike
namespace Go.Proofs.YtjpcgnkgdaphoaaDoor
open Go.ChangeShapes Go.WideShapes Go.ChangeAt Go.RowKit Go.Shelf
set_option linter.unusedVariables false
set_option linter.unusedSimpArgs false
set_option maxRecDepth 100000
theorem less_tri : ∀ a b : List UInt8, Op.bytesLess a b = false → Op.bytesLess b a = false → a = b
  | [], [], _, _ => rfl
  | [], y :: b, h, _ => by simp [Op.bytesLess] at h
  | x :: a, [], _, h => by simp [Op.bytesLess] at h
  | x :: a, y :: b, h1, h2 => by
    unfold Op.bytesLess at h1 h2
    simp only [Bool.or_eq_false_iff, decide_eq_false_iff_not, Bool.and_eq_false_iff, beq_eq_false_iff_ne] at h1 h2
    have e : x = y := by
      apply UInt8.toNat.inj
      have a1 : ¬ x.toNat < y.toNat := fun z => h1.1 (UInt8.lt_iff_toNat_lt.2 z)
      have a2 : ¬ y.toNat < x.toNat := fun z => h2.1 (UInt8.lt_iff_toNat_lt.2 z)
      omega
    subst e
    have b1 : Op.bytesLess a b = false := by rcases h1.2 with z | z; exact absurd rfl z; exact z
    have b2 : Op.bytesLess b a = false := by rcases h2.2 with z | z; exact absurd rfl z; exact z
    rw [less_tri a b b1 b2]
def maxL : List UInt8 := [57, 50, 50, 51, 51, 55, 50, 48, 51, 54, 56, 53, 52, 55, 55, 53, 56, 48, 55]
theorem maxL_val : val maxL = 9223372036854775807 := by decide
theorem maxL_digs : digs maxL := by intro c hc; unfold maxL at hc; simp only [List.mem_cons, List.not_mem_nil, or_false] at hc; rcases hc with h | h | h | h | h | h | h | h | h | h | h | h | h | h | h | h | h | h | h <;> (subst h; decide)
theorem gt_big (x : List UInt8) (hd : digs x) (hl : x.length = 19) : (!(Op.bytesLess x maxL || x == maxL)) = decide (9223372036854775807 < val x) := by
  have h1 := less_val x maxL hd maxL_digs (by rw [hl]; rfl)
  have h2 := less_val maxL x maxL_digs hd (by rw [hl]; rfl)
  rw [maxL_val] at h1 h2
  rw [Bool.eq_iff_iff, Bool.not_eq_true', Bool.or_eq_false_iff, beq_eq_false_iff_ne, decide_eq_true_eq]
  constructor
  · rintro ⟨a, b⟩
    rw [← h2]
    cases c : Op.bytesLess maxL x
    · exact absurd (less_tri _ _ a c) b
    · rfl
  · intro h
    refine ⟨?_, ?_⟩
    · cases c : Op.bytesLess x maxL
      · rfl
      · have := h1.1 c; omega
    · rintro rfl; rw [maxL_val] at h; omega
theorem digs_noughts (l : List UInt8) (h : digs l) : digs (noughts l) := fun c hc => h c (List.mem_of_mem_drop hc)
theorem digs_run (l : List UInt8) : digs (l.take (runN digI l)) := fun c hc => mem_take_run digI l c hc
theorem bigI_lt (x : List UInt8) (hd : digs x) (hl : x.length < 19) : bigI x = false := by
  have h := val_lt x hd
  have : 10 ^ x.length ≤ 10 ^ 18 := Nat.pow_le_pow_right (by omega) (by omega)
  unfold bigI
  simp; omega
theorem bigI_gt (x : List UInt8) (hl : 19 < x.length) : bigI x = true := by unfold bigI; simp [hl]
theorem bigI_eq (x : List UInt8) (hd : digs x) (hl : x.length = 19) : bigI x = (!(Op.bytesLess x maxL || x == maxL)) := by
  rw [gt_big x hd hl]; unfold bigI; simp [hl]
/-- The place behind a number, tested. -/
def nextW (s : ByteArray) (e : Nat) : Bool := isLet s.data.toList[e]?
theorem nextW_in (s : ByteArray) (e : Nat) (h : e < s.size) : nextW s e = wdI ((s[e]'h).toNat : Int) := by unfold nextW; rw [bl_get s e h]; rfl
theorem nextW_out (s : ByteArray) (e : Nat) (h : ¬ e < s.size) : nextW s e = false := by unfold nextW; rw [List.getElem?_eq_none (by simp; omega)]; rfl
end Go.Proofs.YtjpcgnkgdaphoaaDoor
