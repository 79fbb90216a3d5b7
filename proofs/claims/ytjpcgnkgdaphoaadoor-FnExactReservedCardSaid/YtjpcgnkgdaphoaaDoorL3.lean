import Derived.Test.YtjpcgnkgdaphoaaDoorL2
import Derived.Lib.AppendStr
import Derived.Laws.BytesArg
namespace Go.Proofs.YtjpcgnkgdaphoaaDoor
open Go.ChangeShapes Go.WideShapes Go.ChangeAt Go.RowKit Go.Shelf
set_option linter.unusedVariables false
set_option linter.unusedSimpArgs false
theorem ba_drop (s : ByteArray) (a : Nat) : (s.extract a s.size).data.toList = s.data.toList.drop a := by
  rw [ByteArray.data_extract, Array.toList_extract, List.extract_eq_take_drop]
  rw [List.take_of_length_le]
  rw [List.length_drop]
  exact Nat.le_refl _
theorem ba_take (s : ByteArray) (a : Nat) : (s.extract 0 a).data.toList = s.data.toList.take a := by
  simp [ByteArray.data_extract]
theorem ba_ext {s t : ByteArray} (h : s.data.toList = t.data.toList) : s = t := by
  cases s; cases t; congr; exact Array.toList_inj.1 h
theorem ba_mk (s : ByteArray) : (⟨s.data.toList.toArray⟩ : ByteArray) = s := by cases s; simp
theorem wit0 (s : ByteArray) (h : 0 < s.size) : s.data.toList = s[0] :: s.data.toList.drop 1 := by
  have := drop_cons s.data.toList 0 (s[0]'h) (bl_get s 0 h)
  simpa using this
set_option maxHeartbeats 400000 in
theorem withoutNoughts_any (s : ByteArray) (w : World) (hs : s.size ≤ maxLen) (h1 : 1 ≤ s.size) :
    Calls Tryd.prog 43 #[.string s] w fun e w' => e = .returned (.string ⟨(noughts s.data.toList).toArray⟩) ∧ w' = w := by
  have hc := fun w => countAhead_any 57 nulI Sorts.nought s w hs
  unfold maxLen at hs
  have hle : runN nulI s.data.toList ≤ s.size := by have := runN_le nulI s.data.toList; simpa using this
  by_cases hm : runN nulI s.data.toList ≤ s.size - 1
  · have hm' : (runN nulI s.data.toList : Int) ≤ (s.size : Int) - 1 := by omega
    have he : noughts s.data.toList = s.data.toList.drop (runN nulI s.data.toList) := by unfold noughts; rw [Nat.min_eq_left (by simpa using hm)]
    have HE : Hid (noughts s.data.toList = s.data.toList.drop (runN nulI s.data.toList)) := he
    clear he
    generalize runN nulI s.data.toList = n at *
    go_enter Tryd.func43, Tryd.ntmps43
    go_wp2_with (go_at_call 40; refine (hc _).mono ?_; rintro e w' ⟨rfl, rfl⟩)
    go_ret
    refine ⟨ret_str (ba_ext ?_), rfl⟩
    rw [HE.out, ba_drop]
  · have hm' : (s.size : Int) - 1 < (runN nulI s.data.toList : Int) := by omega
    have he : noughts s.data.toList = s.data.toList.drop (s.size - 1) := by unfold noughts; rw [Nat.min_eq_right (by simp; omega)]; simp
    have HE : Hid (noughts s.data.toList = s.data.toList.drop (s.size - 1)) := he
    clear he
    generalize runN nulI s.data.toList = n at *
    go_enter Tryd.func43, Tryd.ntmps43
    go_wp2_with (go_at_call 40; refine (hc _).mono ?_; rintro e w' ⟨rfl, rfl⟩)
    go_ret
    refine ⟨ret_str (ba_ext ?_), rfl⟩
    rw [HE.out]
    rw [ba_drop]
end Go.Proofs.YtjpcgnkgdaphoaaDoor
