import Derived.Test.YtcgnkcehjcednaaDoorL2
import Derived.Lib.AppendStr
import Derived.Laws.BytesArg
namespace Go.Proofs.YtcgnkcehjcednaaDoor
open Go.ChangeShapes Go.WideShapes Go.ChangeAt Go.RowKit Go.Shelf
set_option linter.unusedVariables false
set_option linter.unusedSimpArgs false
theorem ba_drop (s : ByteArray) (a : Nat) : (s.extract a s.size).data.toList = s.data.toList.drop a := by
  rw [ByteArray.data_extract, Array.toList_extract, List.extract_eq_take_drop]
  rw [List.take_of_length_le]
  rw [List.length_drop]
  exact Nat.le_refl _
theorem ba_take (s : ByteArray) (a : Nat) : (s.extract 0 a).data.toList = s.data.toList.take a := by
  simp [ByteArray.data_extract]
theorem ba_ext {s t : ByteArray} (h : s.data.toList = t.data.toList) : s = t := by
  cases s; cases t; congr; exact Array.toList_inj.1 h
theorem ba_mk (s : ByteArray) : (⟨s.data.toList.toArray⟩ : ByteArray) = s := by cases s; simp
theorem wit0 (s : ByteArray) (h : 0 < s.size) : s.data.toList = s[0] :: s.data.toList.drop 1 := by
  have := drop_cons s.data.toList 0 (s[0]'h) (bl_get s 0 h)
  simpa using this
set_option maxHeartbeats 400000 in
theorem noughts_any (s : ByteArray) (w : World) (hs : s.size ≤ maxLen) :
    Calls Tryd.prog 143 #[.string s] w fun e w' => e = .returned (.string ⟨(noughts s.data.toList).toArray⟩) ∧ w' = w := by
  unfold maxLen at hs
  go_enter Tryd.func143, Tryd.ntmps143
  go_wp2
  go_loop [0] (fun v => ∃ t : ByteArray, v = .string t ∧ t.size ≤ s.size ∧ noughts t.data.toList = noughts s.data.toList) (fun v => match v with | .string t => t.size | _ => 0)
  case atStart => exact ⟨s, rfl, Nat.le_refl _, rfl⟩
  case round =>
    obtain ⟨t, rfl, ht, hn⟩ := hrel
    have HN : Hid (noughts t.data.toList = noughts s.data.toList) := hn
    clear hn
    by_cases h1 : 1 < t.size
    · have h0 : 0 < t.size := by omega
      have hc := wit0 t h0
      by_cases h48 : (t[0]'h0).toNat = 48
      · have h48' : ((t[0]'h0).toNat : Int) = 48 := by omega
        have HC : Hid (t.data.toList = t[0] :: t.data.toList.drop 1) := hc
        clear hc
        go_wp2
        go_round
        case rel =>
          refine ⟨_, rfl, ?_, ?_⟩
          · simp; omega
          · rw [ba_drop, ← HN.out]
            have e1 := HC.out
            have : t[0] = 48 := UInt8.toNat.inj h48
            rw [this] at e1
            have hl : 1 < t.data.toList.length := by simpa using h1
            cases h2 : t.data.toList.drop 1 with
            | nil => have := congrArg List.length h2; simp at this; omega
            | cons d r => rw [h2] at e1; rw [e1, noughts_step]
        case measure => simp; omega
      · have h48' : ¬ ((t[0]'h0).toNat : Int) = 48 := by omega
        have HC : Hid (t.data.toList = t[0] :: t.data.toList.drop 1) := hc
        clear hc
        go_wp2
        go_ret
        refine ⟨ret_str ?_, rfl⟩
        rw [← HN.out, HC.out, noughts_stop _ _ (fun e => h48 (by rw [e]; rfl)), ← HC.out, ba_mk]
    · go_wp2
      go_ret
      refine ⟨ret_str ?_, rfl⟩
      rw [← HN.out]
      have hl : t.data.toList.length ≤ 1 := by simp; omega
      cases h2 : t.data.toList with
      | nil => rw [noughts_nil, ← h2, ba_mk]
      | cons c r =>
        rw [h2] at hl
        have : r = [] := by cases r with
          | nil => rfl
          | cons => simp at hl
        rw [this, noughts_one, ← this, ← h2, ba_mk]
set_option maxHeartbeats 400000 in
theorem withoutNoughts_any (s : ByteArray) (w : World) (hs : s.size ≤ maxLen) (h1 : 1 ≤ s.size) :
    Calls Tryd.prog 102 #[.string s] w fun e w' => e = .returned (.string ⟨(noughts s.data.toList).toArray⟩) ∧ w' = w := by
  have hc := fun w => countAhead_any 147 nulI Sorts.nought s w hs
  unfold maxLen at hs
  have hle : runN nulI s.data.toList ≤ s.size := by have := runN_le nulI s.data.toList; simpa using this
  by_cases hm : runN nulI s.data.toList ≤ s.size - 1
  · have hm' : (runN nulI s.data.toList : Int) ≤ (s.size : Int) - 1 := by omega
    have he : noughts s.data.toList = s.data.toList.drop (runN nulI s.data.toList) := by unfold noughts; rw [Nat.min_eq_left (by simpa using hm)]
    have HE : Hid (noughts s.data.toList = s.data.toList.drop (runN nulI s.data.toList)) := he
    clear he
    generalize runN nulI s.data.toList = n at *
    go_enter Tryd.func102, Tryd.ntmps102
    go_wp2_with (go_at_call 99; refine (hc _).mono ?_; rintro e w' ⟨rfl, rfl⟩)
    go_ret
    refine ⟨ret_str (ba_ext ?_), rfl⟩
    rw [HE.out, ba_drop]
  · have hm' : (s.size : Int) - 1 < (runN nulI s.data.toList : Int) := by omega
    have he : noughts s.data.toList = s.data.toList.drop (s.size - 1) := by unfold noughts; rw [Nat.min_eq_right (by simp; omega)]; simp
    have HE : Hid (noughts s.data.toList = s.data.toList.drop (s.size - 1)) := he
    clear he
    generalize runN nulI s.data.toList = n at *
    go_enter Tryd.func102, Tryd.ntmps102
    go_wp2_with (go_at_call 99; refine (hc _).mono ?_; rintro e w' ⟨rfl, rfl⟩)
    go_ret
    refine ⟨ret_str (ba_ext ?_), rfl⟩
    rw [HE.out]
    rw [ba_drop]
end Go.Proofs.YtcgnkcehjcednaaDoor
