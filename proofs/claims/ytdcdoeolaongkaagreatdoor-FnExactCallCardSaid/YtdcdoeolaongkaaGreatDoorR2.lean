import Derived.Test.YtdcdoeolaongkaaGreatDoorR1
namespace Go.Proofs.YtdcdoeolaongkaaGreatDoor.Rd
open Go.ChangeShapes Go.WideShapes Go.ChangeAt Go.RowKit Go.Shelf
set_option linter.unusedVariables false
set_option linter.unusedSimpArgs false
set_option maxRecDepth 100000
def negL (l : List UInt8) : Bool := match l with | b :: _ => b == 45 | [] => false
def bodyL (l : List UInt8) : List UInt8 := if negL l = true then l.tail else l
theorem hasP (l : List UInt8) : Lib.hasPrefix l [45] = negL l := by
  unfold Lib.hasPrefix negL
  cases l with
  | nil => rfl
  | cons b l =>
    rw [Bool.eq_iff_iff]
    simp [List.isPrefixOf]
    constructor <;> intro h <;> exact h.symm
theorem trimP (l : List UInt8) : Lib.trimPrefix l [45] = bodyL l := by
  unfold Lib.trimPrefix bodyL
  rw [hasP]
  cases negL l <;> simp
theorem body_len (l : List UInt8) : (bodyL l).length = if negL l = true then l.length - 1 else l.length := by
  unfold bodyL; split <;> simp
theorem neg_pos {l : List UInt8} (h : negL l = true) : 1 ≤ l.length := by
  cases l with
  | nil => simp [negL] at h
  | cons b l => simp
theorem body_lt (l : List UInt8) : decide ((bodyL l).length < l.length) = negL l := by
  rw [body_len]
  cases h : negL l
  · simp
  · have := neg_pos h
    simp; omega
/-- An Int that is read, and whether there is one. -/
def rdI (l : List UInt8) : Int × Bool := if arD (bodyL l) 19 = true then ((sgR (numL (bodyL l)) (negL l)).1, (sgR (numL (bodyL l)) (negL l)).2 == 0) else (0, false)
theorem num19 {l : List UInt8} (h : arD l 19 = true) : numL l < 10000000000000000000 := by
  obtain ⟨h1, h2, h3⟩ := arD_is h
  have h4 := numL_lt h1
  have h5 : (10 : Nat) ^ l.length ≤ 10 ^ 19 := Nat.pow_le_pow_right (by omega) h3
  have h6 : (10 : Nat) ^ 19 = 10000000000000000000 := by decide
  omega
theorem mk_list (l : List UInt8) : (⟨l.toArray⟩ : ByteArray).data.toList = l := by simp
theorem mk_size (l : List UInt8) : (⟨l.toArray⟩ : ByteArray).size = l.length := by simp [ByteArray.size]
set_option maxHeartbeats 2000000 in
theorem readInt_impl (s : ByteArray) (w : World) (hs : s.size ≤ 1048576) :
    Calls Tryz.prog 102 #[.string s] w fun e w' => e = .returned (.tuple #[.int .i64 (rdI s.data.toList).1, .bool (rdI s.data.toList).2]) ∧ Below w.heap.size w w' := by
  have htp := fun w => Tryz.strings_TrimPrefix s ⟨#[45]⟩ w
  have e45 : (⟨#[45]⟩ : ByteArray).data.toList = [45] := rfl
  rw [e45, trimP] at htp
  have hln := len_eq s
  have hbl := body_len s.data.toList
  have hlt := body_lt s.data.toList
  have hle : (bodyL s.data.toList).length ≤ s.size := by rw [hbl, hln]; split <;> omega
  have har := fun w => areDigits_any ⟨(bodyL s.data.toList).toArray⟩ 19 w (by rw [mk_size]; omega) (by omega)
  have hwo := fun w h1 h2 => wordOf_any ⟨(bodyL s.data.toList).toArray⟩ w h1 h2
  rw [mk_list] at har
  rw [mk_list, mk_size] at hwo
  have HN19 : Hid (arD (bodyL s.data.toList) 19 = true → numL (bodyL s.data.toList) < 10000000000000000000) := num19
  have HIS : Hid (arD (bodyL s.data.toList) 19 = true → allD (bodyL s.data.toList) = true ∧ 1 ≤ (bodyL s.data.toList).length ∧ (bodyL s.data.toList).length ≤ 19) := arD_is
  have HRD : Hid (rdI s.data.toList = if arD (bodyL s.data.toList) 19 = true then ((sgR (numL (bodyL s.data.toList)) (negL s.data.toList)).1, (sgR (numL (bodyL s.data.toList)) (negL s.data.toList)).2 == 0) else (0, false)) := rfl
  rw [hln] at hlt
  generalize bodyL s.data.toList = d at *
  generalize negL s.data.toList = ng at *
  clear hbl hln e45
  cases hd : arD d 19
  · rw [hd] at har
    have HV : Hid (rdI s.data.toList = (0, false)) := by have := HRD.out; rw [hd] at this; exact this
    clear hwo HN19 HIS hlt HRD hle
    go_enter Tryz.func102, Tryz.ntmps102
    go_wp2_with (first | (go_at_call 156; refine (htp _).mono ?_; rintro e w1 ⟨rfl, rfl⟩) | (go_at_call 157; refine (har _).mono ?_; rintro e w2 ⟨rfl, b1⟩))
    go_ret2
    exact ⟨ret_nb (by rw [HV.out]) (by rw [HV.out]), b1⟩
  · rw [hd] at har
    have hn := HN19.out hd
    obtain ⟨q1, q2, q3⟩ := HIS.out hd
    have hw := fun w => hwo w q3 q1
    have HV : Hid (rdI s.data.toList = ((sgR (numL d) ng).1, (sgR (numL d) ng).2 == 0)) := by have := HRD.out; rw [hd] at this; exact this
    have hsg := fun w => signed_any (numL d) ng w (by omega)
    have HLT : Hid (decide (d.length < s.size) = ng) := hlt
    generalize numL d = x at *
    generalize (sgR x ng) = r at *
    obtain ⟨r1, r2⟩ := r
    simp only at hsg HV
    clear hwo HN19 HIS hlt HRD hd q1
    go_enter Tryz.func102, Tryz.ntmps102
    go_wp2_with (first | (go_at_call 156; refine (htp _).mono ?_; rintro e w1 ⟨rfl, rfl⟩) | (go_at_call 157; refine (har _).mono ?_; rintro e w2 ⟨rfl, b1⟩) | (go_at_call 159; refine (hw _).mono ?_; rintro e w3 ⟨rfl, b2⟩) | (go_at_call 158; rw [HLT.out]; refine (hsg _).mono ?_; rintro e w4 ⟨rfl, rfl⟩))
    go_ret2
    exact ⟨ret_nb (by rw [HV.out]) (by rw [HV.out]), b1.trans (b2.mono b1.size)⟩
end Go.Proofs.YtdcdoeolaongkaaGreatDoor.Rd
