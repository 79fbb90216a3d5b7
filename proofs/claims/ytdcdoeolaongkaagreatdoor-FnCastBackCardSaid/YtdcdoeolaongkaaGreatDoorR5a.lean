import Derived.Test.YtdcdoeolaongkaaGreatDoorR5
namespace Go.Proofs.YtdcdoeolaongkaaGreatDoor.Rd
open Go.ChangeShapes Go.WideShapes Go.ChangeAt Go.RowKit Go.Shelf
set_option linter.unusedVariables false
set_option linter.unusedSimpArgs false
set_option maxRecDepth 100000
set_option maxHeartbeats 4000000 in
theorem readDate_impl (s : ByteArray) (w : World) (hs : s.size ≤ 1048576) :
    Calls Tryz.prog 104 #[.string s] w fun e w' => e = .returned (.tuple #[.int .i64 (rdT s.data.toList).1, .bool (rdT s.data.toList).2]) ∧ Below w.heap.size w w' := by
  by_cases hz : s.size = 10
  · have hzi : ((s.size : Int) != 10) = false := by simp; omega
    have h4 : 4 < s.size := by omega
    have h7 : 7 < s.size := by omega
    cases hb4 : (((s[4]'h4).toNat : Int) != 45)
    · cases hb7 : (((s[7]'h7).toNat : Int) != 45)
      · have HSH : Hid (shB s.data.toList = true) := (by unfold shB; rw [len_eq, at_get h4, at_get h7, byte_eq hb4, byte_eq hb7]; simp [hz] : shB s.data.toList = true)
        have l4 := len_Y hz
        have l2 := len_M hz
        have l1 := len_D hz
        have hsz8 : ((s.extract 0 4 ++ s.extract 5 7) ++ s.extract 8 s.size).size = 8 := by rw [← len_eq, join_bytes]; simp [l4, l2, l1]
        have zy : (s.extract 0 4).size = 4 := by rw [← len_eq, ext_Y]; exact l4
        have zm : (s.extract 5 7).size = 2 := by rw [← len_eq, ext_M]; exact l2
        have zd : (s.extract 8 s.size).size = 2 := by rw [← len_eq, ext_D]; exact l1
        have har := fun w => areDigits_any ((s.extract 0 4 ++ s.extract 5 7) ++ s.extract 8 s.size) 8 w (by omega) (by omega)
        have haa : arD ((s.extract 0 4 ++ s.extract 5 7) ++ s.extract 8 s.size).data.toList 8 = dOk s.data.toList := by
          rw [arD_all (by rw [len_eq]; omega) (by rw [len_eq]; omega), join_bytes, allD_app, allD_app, Bool.and_assoc]; rfl
        rw [haa] at har
        have HY : Hid (allD (dY s.data.toList) = true → ∀ w, Calls Tryz.prog 159 #[.string (s.extract 0 4)] w fun e w' => e = .returned (.int .u64 (numL (dY s.data.toList) : Nat)) ∧ Below w.heap.size w w') := fun h w => by
          have := wordOf_any (s.extract 0 4) w (by omega) (by rw [ext_Y]; exact h)
          rwa [ext_Y] at this
        have HM : Hid (allD (dM s.data.toList) = true → ∀ w, Calls Tryz.prog 159 #[.string (s.extract 5 7)] w fun e w' => e = .returned (.int .u64 (numL (dM s.data.toList) : Nat)) ∧ Below w.heap.size w w') := fun h w => by
          have := wordOf_any (s.extract 5 7) w (by omega) (by rw [ext_M]; exact h)
          rwa [ext_M] at this
        have HD : Hid (allD (dD s.data.toList) = true → ∀ w, Calls Tryz.prog 159 #[.string (s.extract 8 s.size)] w fun e w' => e = .returned (.int .u64 (numL (dD s.data.toList) : Nat)) ∧ Below w.heap.size w w') := fun h w => by
          have := wordOf_any (s.extract 8 s.size) w (by omega) (by rw [ext_D]; exact h)
          rwa [ext_D] at this
        have hb1 : 4 ≤ s.size := by omega
        have hb2 : 7 ≤ s.size := by omega
        have hb3 : 8 ≤ s.size := by omega
        cases hok : dOk s.data.toList
        · have HV : Hid (rdT s.data.toList = (0, false)) := rdT_no2 hok
          rw [hok] at har
          clear HSH HY HM HD haa l4 l2 l1 zy zm zd hsz8 hok hz
          go_enter Tryz.func104, Tryz.ntmps104
          go_wp2
          go_quiet (fail)
          go_wp2_with (go_at_call 157; refine (har _).mono ?_; rintro e w1 ⟨rfl, b1⟩)
          go_ret2
          exact ⟨ret_nb (by rw [HV.out]) (by rw [HV.out]), (drew_below _ _).trans (b1.mono (drew_below _ _).size)⟩
        · have hall : allD (dY s.data.toList) = true ∧ allD (dM s.data.toList) = true ∧ allD (dD s.data.toList) = true := by simpa [dOk] using hok
          have by4 := num_lt4 hall.1 l4
          have by2 := num_lt2 hall.2.1 l2
          have by1 := num_lt2 hall.2.2 l1
          have cy := HY.out hall.1
          have cm := HM.out hall.2.1
          have cd := HD.out hall.2.2
          rw [hok] at har
          have HN3 : Hid (vB (numL (dY s.data.toList)) (numL (dM s.data.toList)) (numL (dD s.data.toList)) = false → rdT s.data.toList = (0, false)) := rdT_no3
          have HY3 : Hid (vB (numL (dY s.data.toList)) (numL (dM s.data.toList)) (numL (dD s.data.toList)) = true → rdT s.data.toList = (Days.num (numL (dY s.data.toList)) (numL (dM s.data.toList)) (numL (dD s.data.toList)), true)) := rdT_yes HSH.out hok
          generalize numL (dY s.data.toList) = y at *
          generalize numL (dM s.data.toList) = m at *
          generalize numL (dD s.data.toList) = d at *
          clear HSH HY HM HD haa l4 l2 l1 zy zm zd hsz8 hok hall hz
          have yi : (y : Int) < 10000 := by omega
          have mi : (m : Int) < 100 := by omega
          have di : (d : Int) < 100 := by omega
          cases hv : vB y m d
          · have HV : Hid (rdT s.data.toList = (0, false)) := HN3.out hv
            have hdo := fun w => Days.dateOf_impl_no y m d w (vB_no hv)
            clear HN3 HY3 hv
            go_enter Tryz.func104, Tryz.ntmps104
            go_wp2
            go_quiet (fail)
            go_wp2_with (first | (go_at_call 157; refine (har _).mono ?_; rintro e w1 ⟨rfl, b1⟩) | (go_at_call 159; fail))
            refine (cy _).mono ?_
            rintro e w2 ⟨rfl, b2⟩
            go_wp2_with (go_at_call 159; fail)
            refine (cm _).mono ?_
            rintro e w3 ⟨rfl, b3⟩
            go_wp2_with (go_at_call 159; fail)
            refine (cd _).mono ?_
            rintro e w4 ⟨rfl, b4⟩
            go_wp2_with (go_at_call 19; refine (hdo _).mono ?_; rintro e w5 ⟨rfl, rfl⟩)
            go_ret2
            exact ⟨ret_nb (by rw [HV.out]) (by rw [HV.out]; try rfl), chain (chain (chain (chain (drew_below _ _) b1) b2) b3) b4⟩
          · have HV : Hid (rdT s.data.toList = (Days.num y m d, true)) := HY3.out hv
            have hdo := fun w => Days.dateOf_impl_yes y m d w (vB_yes hv)
            clear HN3 HY3 hv
            go_enter Tryz.func104, Tryz.ntmps104
            go_wp2
            go_quiet (fail)
            go_wp2_with (first | (go_at_call 157; refine (har _).mono ?_; rintro e w1 ⟨rfl, b1⟩) | (go_at_call 159; fail))
            refine (cy _).mono ?_
            rintro e w2 ⟨rfl, b2⟩
            go_wp2_with (go_at_call 159; fail)
            refine (cm _).mono ?_
            rintro e w3 ⟨rfl, b3⟩
            go_wp2_with (go_at_call 159; fail)
            refine (cd _).mono ?_
            rintro e w4 ⟨rfl, b4⟩
            go_wp2_with (go_at_call 19; refine (hdo _).mono ?_; rintro e w5 ⟨rfl, rfl⟩)
            go_ret2
            exact ⟨ret_nb (by rw [HV.out]) (by rw [HV.out]; try rfl), chain (chain (chain (chain (drew_below _ _) b1) b2) b3) b4⟩
      · have HV : Hid (rdT s.data.toList = (0, false)) := rdT_no1 (by unfold shB; rw [len_eq, at_get h4, at_get h7, byte_eq hb4, byte_ne hb7]; simp)
        clear hz
        go_enter Tryz.func104, Tryz.ntmps104
        go_wp2
        go_ret2
        exact ⟨ret_nb (by rw [HV.out]) (by rw [HV.out]), Below.refl _ _⟩
    · have HV : Hid (rdT s.data.toList = (0, false)) := rdT_no1 (by unfold shB; rw [len_eq, at_get h4, byte_ne hb4]; simp)
      clear hz
      go_enter Tryz.func104, Tryz.ntmps104
      go_wp2
      go_ret2
      exact ⟨ret_nb (by rw [HV.out]) (by rw [HV.out]), Below.refl _ _⟩
  · have hzi : ((s.size : Int) != 10) = true := by simp; omega
    have HV : Hid (rdT s.data.toList = (0, false)) := rdT_no1 (by unfold shB; rw [len_eq]; simp [hz])
    go_enter Tryz.func104, Tryz.ntmps104
    go_wp2
    go_ret2
    exact ⟨ret_nb (by rw [HV.out]) (by rw [HV.out]), Below.refl _ _⟩
end Go.Proofs.YtdcdoeolaongkaaGreatDoor.Rd
