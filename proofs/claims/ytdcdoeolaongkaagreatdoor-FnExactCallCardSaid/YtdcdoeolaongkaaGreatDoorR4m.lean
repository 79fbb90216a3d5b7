import Derived.Test.YtdcdoeolaongkaaGreatDoorR4
namespace Go.Proofs.YtdcdoeolaongkaaGreatDoor.Rd
open Go.ChangeShapes Go.WideShapes Go.ChangeAt Go.RowKit Go.Shelf
set_option linter.unusedVariables false
set_option linter.unusedSimpArgs false
set_option maxRecDepth 100000
/-- The library's variable MaxLen holds a whole number. -/
def ML (w : World) : Prop := 4 < w.heap.size ∧ ∃ m, w.cell? ⟨4, 0, none⟩ = some (.int .i64 m)
theorem ML.below {w w' : World} (h : ML w) (hb : Below w.heap.size w w') : ML w' := by
  obtain ⟨h1, m, h2⟩ := h
  exact ⟨Nat.lt_of_lt_of_le h1 hb.size, m, (hb.cell (p := ⟨4, 0, none⟩) h1).trans h2⟩
set_option maxHeartbeats 4000000 in
theorem readDecM_impl (s : ByteArray) (w : World) (hs : s.size ≤ 1048576) (hM : ML w) :
    Calls Tryz.prog 103 #[.string s] w fun e w' => e = .returned (.tuple #[.int .i64 (rdD s.data.toList).1, .bool (rdD s.data.toList).2]) ∧ Below w.heap.size w w' := by
  have htp := fun w => Tryz.strings_TrimPrefix s ⟨#[45]⟩ w
  have hhp := fun w => Tryz.strings_HasPrefix s ⟨#[45]⟩ w
  have e45 : (⟨#[45]⟩ : ByteArray).data.toList = [45] := rfl
  have e46 : (⟨#[46]⟩ : ByteArray).data.toList = [46] := rfl
  rw [e45, trimP] at htp
  rw [e45, hasP] at hhp
  have hbl : (bodyL s.data.toList).length ≤ s.size := by rw [body_len, len_eq]; split <;> omega
  obtain ⟨_, mm, hmm⟩ := hM
  have hcut := Tryz.strings_Cut ⟨(bodyL s.data.toList).toArray⟩ ⟨#[46]⟩ mm w (by rw [mk_size]; omega) hmm
  clear hmm
  rw [e46, mk_list] at hcut
  have hle := ptL_le (bodyL s.data.toList)
  have HFA : Hid ((ptL (bodyL s.data.toList)).2.2 = false → (ptL (bodyL s.data.toList)).2.1 = []) := ptL_false
  have HRD : Hid (rdD s.data.toList = if okD (ptL (bodyL s.data.toList)) = true then ((if negL s.data.toList = true then -(unitsL (ptL (bodyL s.data.toList)).1 (ptL (bodyL s.data.toList)).2.1 : Int) else (unitsL (ptL (bodyL s.data.toList)).1 (ptL (bodyL s.data.toList)).2.1 : Int)), true) else (0, false)) := rfl
  change Calls Tryz.prog 160 _ _ (fun e w' => e = .returned (.tuple #[.string ⟨(ptL (bodyL s.data.toList)).1.toArray⟩, .string ⟨(ptL (bodyL s.data.toList)).2.1.toArray⟩, .bool (ptL (bodyL s.data.toList)).2.2]) ∧ ∃ n, w' = w.drewN n) at hcut
  generalize bodyL s.data.toList = d at *
  generalize negL s.data.toList = ng at *
  generalize ptL d = c at *
  obtain ⟨a, b, pt⟩ := c
  simp only at hcut HRD HFA hle
  have ha := fun w => areDigits_any ⟨a.toArray⟩ 14 w (by rw [mk_size]; omega) (by omega)
  have hb := fun w => areDigits_any ⟨b.toArray⟩ 4 w (by rw [mk_size]; omega) (by omega)
  rw [mk_list] at ha hb
  cases hok : okD (a, b, pt)
  · have HV : Hid (rdD s.data.toList = (0, false)) := by have := HRD.out; rw [hok] at this; exact this
    have cs : arD a 14 = false ∨ (arD a 14 = true ∧ pt = true ∧ arD b 4 = false) := by
      simp only [okD] at hok
      cases h1 : arD a 14
      · exact .inl rfl
      · right
        rw [h1] at hok
        cases pt <;> simp_all
    clear HRD HFA hok
    rcases cs with h1 | ⟨h1, rfl, h2⟩
    · rw [h1] at ha
      go_enter Tryz.func103, Tryz.ntmps103
      go_wp2_with (first | (go_at_call 156; refine (htp _).mono ?_; rintro e w0 ⟨rfl, hw⟩; rw [hw]; clear hw w0) | (go_at_call 160; refine hcut.mono ?_; rintro e w1 ⟨rfl, nq, rfl⟩) | (go_at_call 157; refine (ha _).mono ?_; rintro e w2 ⟨rfl, b1⟩))
      go_ret2
      exact ⟨ret_nb (by rw [HV.out]) (by rw [HV.out]), (drew_below w nq).trans (b1.mono (drew_below w nq).size)⟩
    · rw [h1] at ha
      rw [h2] at hb
      go_enter Tryz.func103, Tryz.ntmps103
      go_wp2_with (first | (go_at_call 156; refine (htp _).mono ?_; rintro e w0 ⟨rfl, hw⟩; rw [hw]; clear hw w0) | (go_at_call 160; refine hcut.mono ?_; rintro e w1 ⟨rfl, nq, rfl⟩) | (go_at_call 157; fail))
      refine (ha _).mono ?_
      rintro e w2 ⟨rfl, b1⟩
      go_wp2_with (go_at_call 157; refine (hb _).mono ?_; rintro e w3 ⟨rfl, b2⟩)
      go_ret2
      have bw1 := (drew_below w nq).trans (b1.mono (drew_below w nq).size)
      exact ⟨ret_nb (by rw [HV.out]) (by rw [HV.out]), bw1.trans (b2.mono bw1.size)⟩
  · obtain ⟨k1, k2, k3⟩ := frac_ok (c := (a, b, pt)) HFA.out hok
    simp only at k1 k2 k3
    have hu := units_lt k1 k2 k3
    have HV : Hid (rdD s.data.toList = ((if ng = true then -(unitsL a b : Int) else (unitsL a b : Int)), true)) := by have := HRD.out; rw [hok] at this; exact this
    have hwl : (a ++ b ++ List.replicate (4 - b.length) 48).length ≤ 18 := by
      have := (arD_is k1).2.2
      simp; omega
    have hw := fun w => wordOf_any ⟨(a ++ b ++ List.replicate (4 - b.length) 48).toArray⟩ w (by rw [mk_size]; omega) (by rw [mk_list, allD_app, allD_app, (arD_is k1).1, k2, allD_noughts]; rfl)
    rw [mk_list, units_all k3] at hw
    have hsg := fun w => signed_any (unitsL a b) ng w (by omega)
    have hse : sgR (unitsL a b) ng = (if ng = true then -(unitsL a b : Int) else (unitsL a b : Int), 0) := by unfold sgR; cases ng <;> simp <;> omega
    rw [hse] at hsg
    simp only at hsg
    have hrp := fun w => rep_any (4 - b.length) w (by omega)
    have EC : Hid (((4 - b.length : Nat) : Int) = (4 : Int) - b.length) := (by omega : ((4 - b.length : Nat) : Int) = (4 : Int) - b.length)
    rw [EC.out] at hrp
    have HCAT := hid_of (cat3b a b (List.replicate (4 - b.length) 48))
    have hbi : (b.length : Int) ≤ 4 := by omega
    have hal : a.length ≤ 14 := (arD_is k1).2.2
    generalize (if ng = true then -(unitsL a b : Int) else (unitsL a b : Int)) = z at *
    generalize unitsL a b = x at *
    have hzl : (List.replicate (4 - b.length) (48 : UInt8)).length ≤ 4 := by simp
    generalize List.replicate (4 - b.length) (48 : UInt8) = zz at *
    rw [k1] at ha
    have cs : pt = false ∨ (pt = true ∧ arD b 4 = true) := by
      simp only [okD] at hok
      rw [k1] at hok
      cases pt <;> simp_all
    clear HRD HFA hok hse hwl k1 k2 EC
    rcases cs with rfl | ⟨rfl, h2⟩
    · go_enter Tryz.func103, Tryz.ntmps103
      go_wp2_with (first | (go_at_call 156; refine (htp _).mono ?_; rintro e w0 ⟨rfl, hw⟩; rw [hw]; clear hw w0) | (go_at_call 160; refine hcut.mono ?_; rintro e w1 ⟨rfl, nq, rfl⟩) | (go_at_call 157; refine (ha _).mono ?_; rintro e w2 ⟨rfl, b1⟩) | (go_at_call 161; refine (hrp _).mono ?_; rintro e w3 ⟨rfl, b2⟩) | (go_at_call 159; rw [HCAT.out]; refine (hw _).mono ?_; rintro e w4 ⟨rfl, b3⟩) | (go_at_call 162; refine (hhp _).mono ?_; rintro e w0 ⟨rfl, hw0⟩; rw [hw0]; clear hw0 w0) | (go_at_call 158; refine (hsg _).mono ?_; rintro e w0 ⟨rfl, hw0⟩; rw [hw0]; clear hw0 w0))
      go_ret2
      have bw1 := (drew_below w nq).trans (b1.mono (drew_below w nq).size)
      have bw2 := bw1.trans (b2.mono bw1.size)
      exact ⟨ret_nb (by rw [HV.out]) (by rw [HV.out]), bw2.trans (b3.mono bw2.size)⟩
    · rw [h2] at hb
      go_enter Tryz.func103, Tryz.ntmps103
      go_wp2_with (first | (go_at_call 156; refine (htp _).mono ?_; rintro e w0 ⟨rfl, hw⟩; rw [hw]; clear hw w0) | (go_at_call 160; refine hcut.mono ?_; rintro e w1 ⟨rfl, nq, rfl⟩) | (go_at_call 157; fail))
      refine (ha _).mono ?_
      rintro e w2 ⟨rfl, b1⟩
      go_wp2_with (first | (go_at_call 157; refine (hb _).mono ?_; rintro e w7 ⟨rfl, b4⟩) | (go_at_call 161; refine (hrp _).mono ?_; rintro e w3 ⟨rfl, b2⟩) | (go_at_call 159; rw [HCAT.out]; refine (hw _).mono ?_; rintro e w4 ⟨rfl, b3⟩) | (go_at_call 162; refine (hhp _).mono ?_; rintro e w0 ⟨rfl, hw0⟩; rw [hw0]; clear hw0 w0) | (go_at_call 158; refine (hsg _).mono ?_; rintro e w0 ⟨rfl, hw0⟩; rw [hw0]; clear hw0 w0))
      go_ret2
      have bw1 := (drew_below w nq).trans (b1.mono (drew_below w nq).size)
      have bw4 := bw1.trans (b4.mono bw1.size)
      have bw2 := bw4.trans (b2.mono bw4.size)
      exact ⟨ret_nb (by rw [HV.out]) (by rw [HV.out]), bw2.trans (b3.mono bw2.size)⟩
end Go.Proofs.YtdcdoeolaongkaaGreatDoor.Rd
