import Derived.Test.YtdcdoeolaongkaaGreatDoorR5
namespace Go.Proofs.YtdcdoeolaongkaaGreatDoor.Rd
open Go.ChangeShapes Go.WideShapes Go.ChangeAt Go.RowKit Go.Shelf
set_option linter.unusedVariables false
set_option linter.unusedSimpArgs false
set_option maxRecDepth 100000
set_option maxHeartbeats 4000000 in
theorem readDate_spec (s : ByteArray) (w : World) (hs : s.size ≤ 1048576) :
    Calls Tryz.prog 132 #[.string s] w fun e w' => e = .returned (.tuple #[.int .i64 (rdT s.data.toList).1, .bool (rdT s.data.toList).2]) ∧ Below w.heap.size w w' := by
  by_cases hz : s.size = 10
  · have hzi : ((s.size : Int) != 10) = false := by simp; omega
    have h4 : 4 < s.size := by omega
    have h7 : 7 < s.size := by omega
    cases hb4 : (((s[4]'h4).toNat : Int) != 45)
    · cases hb7 : (((s[7]'h7).toNat : Int) != 45)
      · have HSH : Hid (shB s.data.toList = true) := (by unfold shB; rw [len_eq, at_get h4, at_get h7, byte_eq hb4, byte_eq hb7]; simp [hz] : shB s.data.toList = true)
        have l4 := len_Y hz
        have l2 := len_M hz
        have l1 := len_D hz
        have zy : (s.extract 0 4).size = 4 := by rw [← len_eq, ext_Y]; exact l4
        have zm : (s.extract 5 7).size = 2 := by rw [← len_eq, ext_M]; exact l2
        have zd : (s.extract 8 s.size).size = 2 := by rw [← len_eq, ext_D]; exact l1
        have cy := fun w => digits_spec (s.extract 0 4) 4 w (by omega) (by omega)
        have cm := fun w => digits_spec (s.extract 5 7) 2 w (by omega) (by omega)
        have cd := fun w => digits_spec (s.extract 8 s.size) 2 w (by omega) (by omega)
        rw [ext_Y] at cy
        rw [ext_M] at cm
        rw [ext_D] at cd
        have hb1 : 4 ≤ s.size := by omega
        have hb2 : 7 ≤ s.size := by omega
        have hb3 : 8 ≤ s.size := by omega
        have HR := rdT_cases (s := s) hz HSH.out
        generalize dgN (dY s.data.toList) 4 = y at *
        generalize dgN (dM s.data.toList) 2 = m at *
        generalize dgN (dD s.data.toList) 2 = d at *
        generalize arD (dY s.data.toList) 4 = o1 at *
        generalize arD (dM s.data.toList) 2 = o2 at *
        generalize arD (dD s.data.toList) 2 = o3 at *
        clear HSH l4 l2 l1 zy zm zd hz
        obtain ⟨yl, ml, dl, cs⟩ := HR
        have yi : (y : Int) < 10000 := by omega
        have mi : (m : Int) < 100 := by omega
        have di : (d : Int) < 100 := by omega
        rcases cs with ⟨hv, hr⟩ | ⟨hv, rfl, rfl, rfl, hr⟩
        · have HV : Hid (rdT s.data.toList = (0, false)) := hr
          have hdo := fun w => Days.dateOf_spec_no y m d w (vB_no hv)
          clear hr hv
          go_enter Tryz.func132, Tryz.ntmps132
          go_wp2_with (go_at_call 177; fail)
          refine (cy _).mono ?_
          rintro e w1 ⟨rfl, rfl⟩
          go_wp2_with (go_at_call 177; fail)
          refine (cm _).mono ?_
          rintro e w2 ⟨rfl, rfl⟩
          go_wp2_with (go_at_call 177; fail)
          refine (cd _).mono ?_
          rintro e w3 ⟨rfl, rfl⟩
          cases o1 <;> cases o2 <;> cases o3
          all_goals
            go_wp2_with (go_at_call 178; refine (hdo _).mono ?_; rintro e w4 ⟨rfl, rfl⟩)
            go_ret2
            exact ⟨ret_nb (by rw [HV.out]) (by rw [HV.out]; try rfl), Below.refl _ _⟩
        · have HV : Hid (rdT s.data.toList = (Days.num y m d, true)) := hr
          have hdo := fun w => Days.dateOf_spec_yes y m d w (vB_yes hv)
          clear hr hv
          go_enter Tryz.func132, Tryz.ntmps132
          go_wp2_with (go_at_call 177; fail)
          refine (cy _).mono ?_
          rintro e w1 ⟨rfl, rfl⟩
          go_wp2_with (go_at_call 177; fail)
          refine (cm _).mono ?_
          rintro e w2 ⟨rfl, rfl⟩
          go_wp2_with (go_at_call 177; fail)
          refine (cd _).mono ?_
          rintro e w3 ⟨rfl, rfl⟩
          go_wp2_with (go_at_call 178; refine (hdo _).mono ?_; rintro e w4 ⟨rfl, rfl⟩)
          go_ret2
          exact ⟨ret_nb (by rw [HV.out]) (by rw [HV.out]; try rfl), Below.refl _ _⟩
      · have HV : Hid (rdT s.data.toList = (0, false)) := rdT_no1 (by unfold shB; rw [len_eq, at_get h4, at_get h7, byte_eq hb4, byte_ne hb7]; simp)
        clear hz
        go_enter Tryz.func132, Tryz.ntmps132
        go_wp2
        go_ret2
        exact ⟨ret_nb (by rw [HV.out]) (by rw [HV.out]), Below.refl _ _⟩
    · have HV : Hid (rdT s.data.toList = (0, false)) := rdT_no1 (by unfold shB; rw [len_eq, at_get h4, byte_ne hb4]; simp)
      clear hz
      go_enter Tryz.func132, Tryz.ntmps132
      go_wp2
      go_ret2
      exact ⟨ret_nb (by rw [HV.out]) (by rw [HV.out]), Below.refl _ _⟩
  · have hzi : ((s.size : Int) != 10) = true := by simp; omega
    have HV : Hid (rdT s.data.toList = (0, false)) := rdT_no1 (by unfold shB; rw [len_eq]; simp [hz])
    go_enter Tryz.func132, Tryz.ntmps132
    go_wp2
    go_ret2
    exact ⟨ret_nb (by rw [HV.out]) (by rw [HV.out]), Below.refl _ _⟩
end Go.Proofs.YtdcdoeolaongkaaGreatDoor.Rd
