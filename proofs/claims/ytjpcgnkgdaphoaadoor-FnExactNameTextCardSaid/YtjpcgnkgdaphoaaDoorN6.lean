import Derived.Test.YtjpcgnkgdaphoaaDoorN3
import Derived.Test.YtjpcgnkgdaphoaaDoorN4
import Derived.Test.YtjpcgnkgdaphoaaDoorN5
namespace Go.Proofs.YtjpcgnkgdaphoaaDoor
open Go.ChangeShapes Go.WideShapes Go.ChangeAt Go.RowKit Go.Shelf
set_option linter.unusedVariables false
set_option linter.unusedSimpArgs false
set_option maxRecDepth 100000
set_option maxHeartbeats 800000 in
theorem specName_any (x : ByteArray) (w : World) (hs : x.size ≤ 1048576) :
    Calls Tryd.prog 7 #[.string x] w fun e w' => e = .returned (.string ⟨(nameL x.data.toList).toArray⟩) ∧ Below w.heap.size w w' := by
  have h1 := fun w => isName_any x w (by unfold maxLen; omega)
  have h2 := fun w => isWord_any x w (by unfold maxLen; omega)
  have h3 := fun w => spec_reserved x w
  have h4 := fun w => mark46_any x 34 w hs
  have h34 : ((34 : UInt8).toNat : Int) = 34 := rfl
  rw [h34] at h4
  clear h34
  obtain ⟨R, hR⟩ : ∃ R, R = nameL x.data.toList := ⟨_, rfl⟩
  rw [← hR]
  unfold nameL isRes at hR
  cases hn : isNameL x.data.toList <;> cases hw : isWordL x.data.toList <;> cases hv : resWords.contains x.data.toList
  all_goals
    rw [hn, hw, hv] at hR
    rw [hn] at h1
    rw [hw] at h2
    rw [hv] at h3
    simp only [Bool.false_eq_true, if_false, if_true, and_true, and_false, false_and, true_and, and_self, reduceCtorEq] at hR
    have HR := (show Hid (R = _) from hR)
    clear hR hn hw hv
    go_enter Tryd.func7, Tryd.ntmps7
    go_wp2_with (first | (go_at_call 10; refine (h1 _).mono ?_; rintro e w' ⟨rfl, rfl⟩) | (go_at_call 11; refine (h2 _).mono ?_; rintro e w' ⟨rfl, rfl⟩) | (go_at_call 5; refine (h3 _).mono ?_; rintro e w' ⟨rfl, rfl⟩) | (go_at_call 12; refine (h4 _).mono ?_; rintro e w1 ⟨rfl, hb1⟩))
    go_ret
    first
      | exact ⟨ret_str (by rw [HR.out]), by assumption⟩
      | exact ⟨ret_str (by rw [HR.out]), Below.refl _ _⟩
      | exact ⟨ret_str (ba_ext (by rw [HR.out])), Below.refl _ _⟩
set_option maxHeartbeats 800000 in
theorem name_walk (s : ByteArray) (w : World) (hs : s.size ≤ maxLen) (hT : Tabs w) (hM : ML w) :
    Calls Tryd.prog 4 #[.string s] w fun e w' => e = .returned (.bool true) ∧ Below w.heap.size w w' := by
  by_cases hz : s.size ≤ 1048576
  · have hz' : ¬ (1048576 : Int) < s.size := by omega
    have h1 := fun w => specName_any s w hz
    have h2 := fun w hT hM => nameText_any s w hz hT hM
    generalize (⟨(nameL s.data.toList).toArray⟩ : ByteArray) = R at *
    go_enter Tryd.func4, Tryd.ntmps4
    go_wp2_with (go_at_call 7; refine (h1 _).mono ?_; rintro e w1 ⟨rfl, hb1⟩)
    refine (h2 _ (tabs_below hT hb1) (hM.below hb1)).mono ?_
    rintro e w2 ⟨rfl, hb2⟩
    go_wp2
    go_ret
    exact ⟨rfl, hb1.trans (hb2.mono hb1.size)⟩
  · have hz' : (1048576 : Int) < s.size := by omega
    unfold maxLen at hs
    go_enter Tryd.func4, Tryd.ntmps4
    go_wp2
    go_ret
    exact ⟨rfl, Below.refl _ _⟩
end Go.Proofs.YtjpcgnkgdaphoaaDoor
