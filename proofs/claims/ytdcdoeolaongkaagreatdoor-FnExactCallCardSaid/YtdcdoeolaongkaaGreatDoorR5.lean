import Derived.Test.YtdcdoeolaongkaaGreatDoorR4
import Derived.Test.YtdcdoeolaongkaaGreatDoorD4
namespace Go.Proofs.YtdcdoeolaongkaaGreatDoor.Rd
open Go.ChangeShapes Go.WideShapes Go.ChangeAt Go.RowKit Go.Shelf
set_option linter.unusedVariables false
set_option linter.unusedSimpArgs false
set_option maxRecDepth 100000
def shB (l : List UInt8) : Bool := decide (l.length = 10) && (l[4]? == some 45 && l[7]? == some 45)
def vB (y m d : Int) : Bool := decide (1 ≤ y) && (decide (y ≤ 9999) && (decide (1 ≤ m) && (decide (m ≤ 12) && (decide (1 ≤ d) && decide (d ≤ Days.mdays y m)))))
theorem vB_yes {y m d : Int} (h : vB y m d = true) : Days.vld y m d := by
  simp only [vB, Bool.and_eq_true, decide_eq_true_eq] at h
  exact ⟨⟨h.1, h.2.1⟩, ⟨h.2.2.1, h.2.2.2.1⟩, h.2.2.2.2.1, h.2.2.2.2.2⟩
theorem vB_no {y m d : Int} (h : vB y m d = false) : ¬ Days.vld y m d := by
  rintro ⟨⟨a, b⟩, ⟨c, e⟩, f, g⟩
  have : vB y m d = true := by simp only [vB, Bool.and_eq_true, decide_eq_true_eq]; exact ⟨a, b, c, e, f, g⟩
  rw [this] at h; cases h
def dY (l : List UInt8) : List UInt8 := l.take 4
def dM (l : List UInt8) : List UInt8 := (l.drop 5).take 2
def dD (l : List UInt8) : List UInt8 := l.drop 8
def dOk (l : List UInt8) : Bool := allD (dY l) && (allD (dM l) && allD (dD l))
/-- A day that is read, and whether there is one. -/
def rdT (l : List UInt8) : Int × Bool := if shB l = true ∧ dOk l = true ∧ vB (numL (dY l)) (numL (dM l)) (numL (dD l)) = true then (Days.num (numL (dY l)) (numL (dM l)) (numL (dD l)), true) else (0, false)
theorem rdT_no1 {l : List UInt8} (h : shB l = false) : rdT l = (0, false) := by unfold rdT; rw [if_neg (by rw [h]; simp)]
theorem rdT_no2 {l : List UInt8} (h : dOk l = false) : rdT l = (0, false) := by unfold rdT; rw [if_neg (by rw [h]; simp)]
theorem rdT_no3 {l : List UInt8} (h : vB (numL (dY l)) (numL (dM l)) (numL (dD l)) = false) : rdT l = (0, false) := by unfold rdT; rw [if_neg (by rw [h]; simp)]
theorem rdT_yes {l : List UInt8} (h1 : shB l = true) (h2 : dOk l = true) (h3 : vB (numL (dY l)) (numL (dM l)) (numL (dD l)) = true) : rdT l = (Days.num (numL (dY l)) (numL (dM l)) (numL (dD l)), true) := by unfold rdT; rw [if_pos ⟨h1, h2, h3⟩]
theorem at_get {s : ByteArray} {k : Nat} (h : k < s.size) : s.data.toList[k]? = some s[k] := by
  rw [List.getElem?_eq_getElem (by rw [len_eq]; exact h)]; rfl
theorem byte_ne {b : UInt8} (h : ((b.toNat : Int) != 45) = true) : (some b == some (45 : UInt8)) = false := by
  rw [beq_eq_false_iff_ne]
  intro e
  cases e
  simp at h
theorem byte_eq {b : UInt8} (h : ((b.toNat : Int) != 45) = false) : (some b == some (45 : UInt8)) = true := by
  rw [beq_iff_eq]
  have : (b.toNat : Int) = 45 := by simpa using h
  exact congrArg some (UInt8.toNat_inj.1 (by have : (45 : UInt8).toNat = 45 := rfl; omega))
theorem ext_Y (s : ByteArray) : (s.extract 0 4).data.toList = dY s.data.toList := by rw [Lib.extract_data]; rfl
theorem ext_M (s : ByteArray) : (s.extract 5 7).data.toList = dM s.data.toList := by rw [Lib.extract_data]; rfl
theorem ext_D (s : ByteArray) : (s.extract 8 s.size).data.toList = dD s.data.toList := by
  rw [Lib.extract_data, List.take_of_length_le (by rw [List.length_drop, len_eq]; exact Nat.le_refl _)]; rfl
theorem len_Y {s : ByteArray} (h : s.size = 10) : (dY s.data.toList).length = 4 := by unfold dY; rw [List.length_take, len_eq]; omega
theorem len_M {s : ByteArray} (h : s.size = 10) : (dM s.data.toList).length = 2 := by unfold dM; rw [List.length_take, List.length_drop, len_eq]; omega
theorem len_D {s : ByteArray} (h : s.size = 10) : (dD s.data.toList).length = 2 := by unfold dD; rw [List.length_drop, len_eq]; omega
theorem arD_all {l : List UInt8} {k : Nat} (h1 : 1 ≤ l.length) (h2 : l.length ≤ k) : arD l k = allD l := by unfold arD; simp [h1, h2]
theorem join_bytes (s : ByteArray) : ((s.extract 0 4 ++ s.extract 5 7) ++ s.extract 8 s.size).data.toList = dY s.data.toList ++ dM s.data.toList ++ dD s.data.toList := by
  rw [cat_bytes, cat_bytes, ext_Y, ext_M, ext_D]
theorem num_lt4 {l : List UInt8} (h : allD l = true) (hl : l.length = 4) : numL l < 10000 := by have := numL_lt h; rw [hl] at this; exact this
theorem num_lt2 {l : List UInt8} (h : allD l = true) (hl : l.length = 2) : numL l < 100 := by have := numL_lt h; rw [hl] at this; exact this
theorem dg_pos {l : List UInt8} {k : Nat} (h : 1 ≤ dgN l k) : arD l k = true := by
  cases e : arD l k
  · unfold dgN at h; rw [e] at h; simp at h
  · rfl
theorem dg_eq {l : List UInt8} {k : Nat} (h : arD l k = true) : dgN l k = numL l := by unfold dgN; rw [if_pos h]
theorem dg_lt {l : List UInt8} {k : Nat} : dgN l k < 10 ^ k := by
  unfold dgN
  split
  · exact pow_le ‹_›
  · exact Nat.pow_pos (by omega)
theorem rdT_cases {s : ByteArray} (hz : s.size = 10) (hsh : shB s.data.toList = true) :
    dgN (dY s.data.toList) 4 < 10000 ∧ dgN (dM s.data.toList) 2 < 100 ∧ dgN (dD s.data.toList) 2 < 100 ∧
    ((vB (dgN (dY s.data.toList) 4) (dgN (dM s.data.toList) 2) (dgN (dD s.data.toList) 2) = false ∧ rdT s.data.toList = (0, false)) ∨
     (vB (dgN (dY s.data.toList) 4) (dgN (dM s.data.toList) 2) (dgN (dD s.data.toList) 2) = true ∧ arD (dY s.data.toList) 4 = true ∧ arD (dM s.data.toList) 2 = true ∧ arD (dD s.data.toList) 2 = true ∧ rdT s.data.toList = (Days.num (dgN (dY s.data.toList) 4) (dgN (dM s.data.toList) 2) (dgN (dD s.data.toList) 2), true))) := by
  refine ⟨dg_lt, dg_lt, dg_lt, ?_⟩
  have l4 := len_Y hz
  have l2 := len_M hz
  have l1 := len_D hz
  have a4 : arD (dY s.data.toList) 4 = allD (dY s.data.toList) := arD_all (by omega) (by omega)
  have a2 : arD (dM s.data.toList) 2 = allD (dM s.data.toList) := arD_all (by omega) (by omega)
  have a1 : arD (dD s.data.toList) 2 = allD (dD s.data.toList) := arD_all (by omega) (by omega)
  cases hv : vB (dgN (dY s.data.toList) 4) (dgN (dM s.data.toList) 2) (dgN (dD s.data.toList) 2)
  · left
    refine ⟨rfl, ?_⟩
    cases hok : dOk s.data.toList
    · exact rdT_no2 hok
    · have hall : allD (dY s.data.toList) = true ∧ allD (dM s.data.toList) = true ∧ allD (dD s.data.toList) = true := by simpa [dOk] using hok
      rw [dg_eq (a4.trans hall.1), dg_eq (a2.trans hall.2.1), dg_eq (a1.trans hall.2.2)] at hv
      exact rdT_no3 hv
  · right
    have ⟨⟨v1, _⟩, ⟨v2, _⟩, v3, _⟩ := vB_yes hv
    have o1 := dg_pos (l := dY s.data.toList) (k := 4) (by omega)
    have o2 := dg_pos (l := dM s.data.toList) (k := 2) (by omega)
    have o3 := dg_pos (l := dD s.data.toList) (k := 2) (by omega)
    refine ⟨rfl, o1, o2, o3, ?_⟩
    rw [dg_eq o1, dg_eq o2, dg_eq o3] at hv ⊢
    refine rdT_yes hsh ?_ hv
    unfold dOk
    rw [← a4, ← a2, ← a1, o1, o2, o3]; rfl
end Go.Proofs.YtdcdoeolaongkaaGreatDoor.Rd
