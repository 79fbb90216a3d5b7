import Derived.Test.YtdcdoeolaongkaaGreatDoorR2
namespace Go.Proofs.YtdcdoeolaongkaaGreatDoor.Rd
open Go.ChangeShapes Go.WideShapes Go.ChangeAt Go.RowKit Go.Shelf
set_option linter.unusedVariables false
set_option linter.unusedSimpArgs false
set_option maxRecDepth 100000
theorem neg_at {s : ByteArray} (h : 0 < s.size) : negL s.data.toList = (((s[0]'h).toNat : Int) == 45) := by
  have e : s.data.toList = s[0] :: s.data.toList.tail := by
    have : 0 < s.data.toList.length := by rw [len_eq]; exact h
    cases hl : s.data.toList with
    | nil => rw [hl] at this; simp at this
    | cons b l =>
      have : s[0] = s.data.toList[0] := rfl
      rw [this]
      simp [hl]
  rw [e]
  simp only [negL]
  rw [Bool.eq_iff_iff, beq_iff_eq, beq_iff_eq]
  constructor
  · intro h; rw [h]; rfl
  · intro h; exact UInt8.toNat_inj.1 (by have : (45 : UInt8).toNat = 45 := rfl; omega)
theorem neg_empty {s : ByteArray} (h : ¬ 0 < s.size) : negL s.data.toList = false := by
  have : s.data.toList = [] := List.eq_nil_of_length_eq_zero (by rw [len_eq]; omega)
  rw [this]; rfl
theorem tail_bytes (s : ByteArray) : (s.extract 1 s.size).data.toList = s.data.toList.tail := by
  rw [Lib.extract_data, List.take_of_length_le (by rw [List.length_drop, len_eq]; exact Nat.le_refl _), List.drop_one]
theorem tail_size (s : ByteArray) : (s.extract 1 s.size).size ≤ s.size := by
  rw [← len_eq, tail_bytes, List.length_tail, len_eq]; omega
theorem rd_cases (t : ByteArray) (ng : Bool) (V : Int × Bool) (hV : V = if arD t.data.toList 19 = true then ((sgR (numL t.data.toList) ng).1, (sgR (numL t.data.toList) ng).2 == 0) else (0, false)) :
    (arD t.data.toList 19 = false ∧ V = (0, false)) ∨ (arD t.data.toList 19 = true ∧ dgN t.data.toList 19 < 10000000000000000000 ∧ ((ng = true ∧ (((dgN t.data.toList 19 : Int) < 9223372036854775808 ∧ V = (-(dgN t.data.toList 19 : Int), true)) ∨ ((dgN t.data.toList 19 : Int) = 9223372036854775808 ∧ V = (-9223372036854775808, true)) ∨ ((9223372036854775808 : Int) < dgN t.data.toList 19 ∧ V = (0, false)))) ∨
      (ng = false ∧ (((dgN t.data.toList 19 : Int) < 9223372036854775808 ∧ V = ((dgN t.data.toList 19 : Int), true)) ∨ ((dgN t.data.toList 19 : Int) = 9223372036854775808 ∧ V = (0, false)) ∨ ((9223372036854775808 : Int) < dgN t.data.toList 19 ∧ V = (0, false)))))) := by
  cases h : arD t.data.toList 19
  · left; rw [h] at hV; exact ⟨rfl, hV⟩
  · right
    have e : dgN t.data.toList 19 = numL t.data.toList := by unfold dgN; rw [if_pos h]
    rw [if_pos h, ← e] at hV
    have hx : dgN t.data.toList 19 < 10000000000000000000 := by rw [e]; exact num19 h
    refine ⟨rfl, hx, ?_⟩
    generalize dgN t.data.toList 19 = x at *
    rcases Int.lt_trichotomy (x : Int) 9223372036854775808 with c | c | c
    · cases ng
      · exact .inr ⟨rfl, .inl ⟨c, by rw [hV]; unfold sgR; rw [if_neg (by decide), if_pos (by omega)]; rfl⟩⟩
      · exact .inl ⟨rfl, .inl ⟨c, by rw [hV]; unfold sgR; rw [if_pos rfl, if_pos (by omega)]; rfl⟩⟩
    · cases ng
      · exact .inr ⟨rfl, .inr (.inl ⟨c, by rw [hV]; unfold sgR; rw [if_neg (by decide), if_neg (by omega)]; rfl⟩)⟩
      · exact .inl ⟨rfl, .inr (.inl ⟨c, by rw [hV]; unfold sgR; rw [if_pos rfl, if_pos (by omega)]; rw [c]; rfl⟩)⟩
    · cases ng
      · exact .inr ⟨rfl, .inr (.inr ⟨c, by rw [hV]; unfold sgR; rw [if_neg (by decide), if_neg (by omega)]; rfl⟩)⟩
      · exact .inl ⟨rfl, .inr (.inr ⟨c, by rw [hV]; unfold sgR; rw [if_pos rfl, if_neg (by omega)]; rfl⟩)⟩
set_option maxHeartbeats 2000000 in
theorem readInt_neg (s : ByteArray) (w : World) (hs : s.size ≤ 1048576) (h0 : 0 < s.size) (hb : (((s[0]'h0).toNat : Int) == 45) = true) (V : Int × Bool) (hV : V = if arD (s.extract 1 s.size).data.toList 19 = true then ((sgR (numL (s.extract 1 s.size).data.toList) true).1, (sgR (numL (s.extract 1 s.size).data.toList) true).2 == 0) else (0, false)) :
    Calls Tryz.prog 129 #[.string s] w fun e w' => e = .returned (.tuple #[.int .i64 V.1, .bool V.2]) ∧ w' = w := by
  have h0i : (0 : Int) < s.size := by omega
  have hdg := fun w => digits_spec (s.extract 1 s.size) 19 w (by have := tail_size s; omega) (by omega)
  have cs := rd_cases (s.extract 1 s.size) true V hV
  generalize dgN (s.extract 1 s.size).data.toList 19 = x at *
  generalize arD (s.extract 1 s.size).data.toList 19 = ok at *
  clear hV
  have hxl : (x : Int) ≥ 0 := by omega
  rcases cs with ⟨rfl, rfl⟩ | ⟨rfl, hx, cs⟩
  · go_enter Tryz.func129, Tryz.ntmps129
    go_wp2_with (go_at_call 177; refine (hdg _).mono ?_; rintro e w1 ⟨rfl, rfl⟩)
    go_ret2
    exact ⟨rfl, rfl⟩
  rcases cs with ⟨_, cs⟩ | ⟨h, _⟩
  rcases cs with ⟨c, rfl⟩ | ⟨c, rfl⟩ | ⟨c, rfl⟩
  · have g1 : ¬ (9223372036854775808 : Int) < x := by omega
    have g2 : ((x : Int) == 9223372036854775808) = false := by rw [beq_eq_false_iff_ne]; omega
    have g3 : ¬ (9223372036854775807 : Int) < x := by omega
    clear c
    clear hx
    go_enter Tryz.func129, Tryz.ntmps129
    go_wp2_with (go_at_call 177; refine (hdg _).mono ?_; rintro e w1 ⟨rfl, rfl⟩)
    go_ret2
    exact ⟨rfl, rfl⟩
  · have g1 : ¬ (9223372036854775808 : Int) < x := by omega
    have g2 : ((x : Int) == 9223372036854775808) = true := by rw [beq_iff_eq]; omega
    have c1 : (x : Int) ≤ 9223372036854775808 := by omega
    clear c
    clear hx
    go_enter Tryz.func129, Tryz.ntmps129
    go_wp2_with (go_at_call 177; refine (hdg _).mono ?_; rintro e w1 ⟨rfl, rfl⟩)
    go_ret2
    exact ⟨rfl, rfl⟩
  · skip
    clear hx
    go_enter Tryz.func129, Tryz.ntmps129
    go_wp2_with (go_at_call 177; refine (hdg _).mono ?_; rintro e w1 ⟨rfl, rfl⟩)
    go_ret2
    exact ⟨rfl, rfl⟩
  · cases h
set_option maxHeartbeats 2000000 in
theorem readInt_pos (s : ByteArray) (w : World) (hs : s.size ≤ 1048576) (h0 : 0 < s.size) (hb : (((s[0]'h0).toNat : Int) == 45) = false) (V : Int × Bool) (hV : V = if arD (s).data.toList 19 = true then ((sgR (numL (s).data.toList) false).1, (sgR (numL (s).data.toList) false).2 == 0) else (0, false)) :
    Calls Tryz.prog 129 #[.string s] w fun e w' => e = .returned (.tuple #[.int .i64 V.1, .bool V.2]) ∧ w' = w := by
  have h0i : (0 : Int) < s.size := by omega
  have hdg := fun w => digits_spec (s) 19 w (by have := tail_size s; omega) (by omega)
  have cs := rd_cases (s) false V hV
  generalize dgN (s).data.toList 19 = x at *
  generalize arD (s).data.toList 19 = ok at *
  clear hV
  have hxl : (x : Int) ≥ 0 := by omega
  rcases cs with ⟨rfl, rfl⟩ | ⟨rfl, hx, cs⟩
  · go_enter Tryz.func129, Tryz.ntmps129
    go_wp2_with (go_at_call 177; refine (hdg _).mono ?_; rintro e w1 ⟨rfl, rfl⟩)
    go_ret2
    exact ⟨rfl, rfl⟩
  rcases cs with ⟨h, _⟩ | ⟨_, cs⟩
  · cases h
  rcases cs with ⟨c, rfl⟩ | ⟨c, rfl⟩ | ⟨c, rfl⟩
  · have g1 : ¬ (9223372036854775808 : Int) < x := by omega
    have g2 : ¬ (9223372036854775807 : Int) < x := by omega
    clear c
    clear hx
    go_enter Tryz.func129, Tryz.ntmps129
    go_wp2_with (go_at_call 177; refine (hdg _).mono ?_; rintro e w1 ⟨rfl, rfl⟩)
    go_ret2
    exact ⟨rfl, rfl⟩
  · have g1 : ¬ (9223372036854775808 : Int) < x := by omega
    have g2 : (9223372036854775807 : Int) < x := by omega
    clear c
    clear hx
    go_enter Tryz.func129, Tryz.ntmps129
    go_wp2_with (go_at_call 177; refine (hdg _).mono ?_; rintro e w1 ⟨rfl, rfl⟩)
    go_ret2
    exact ⟨rfl, rfl⟩
  · skip
    clear hx
    go_enter Tryz.func129, Tryz.ntmps129
    go_wp2_with (go_at_call 177; refine (hdg _).mono ?_; rintro e w1 ⟨rfl, rfl⟩)
    go_ret2
    exact ⟨rfl, rfl⟩
set_option maxHeartbeats 2000000 in
theorem readInt_nil (s : ByteArray) (w : World) (hs : s.size ≤ 1048576) (h0 : ¬ 0 < s.size) (V : Int × Bool) (hV : V = if arD (s).data.toList 19 = true then ((sgR (numL (s).data.toList) false).1, (sgR (numL (s).data.toList) false).2 == 0) else (0, false)) :
    Calls Tryz.prog 129 #[.string s] w fun e w' => e = .returned (.tuple #[.int .i64 V.1, .bool V.2]) ∧ w' = w := by
  have h0i : ¬ (0 : Int) < s.size := by omega
  have hdg := fun w => digits_spec (s) 19 w (by have := tail_size s; omega) (by omega)
  have cs := rd_cases (s) false V hV
  generalize dgN (s).data.toList 19 = x at *
  generalize arD (s).data.toList 19 = ok at *
  clear hV
  have hxl : (x : Int) ≥ 0 := by omega
  rcases cs with ⟨rfl, rfl⟩ | ⟨rfl, hx, cs⟩
  · go_enter Tryz.func129, Tryz.ntmps129
    go_wp2_with (go_at_call 177; refine (hdg _).mono ?_; rintro e w1 ⟨rfl, rfl⟩)
    go_ret2
    exact ⟨rfl, rfl⟩
  rcases cs with ⟨h, _⟩ | ⟨_, cs⟩
  · cases h
  rcases cs with ⟨c, rfl⟩ | ⟨c, rfl⟩ | ⟨c, rfl⟩
  · have g1 : ¬ (9223372036854775808 : Int) < x := by omega
    have g2 : ¬ (9223372036854775807 : Int) < x := by omega
    clear c
    clear hx
    go_enter Tryz.func129, Tryz.ntmps129
    go_wp2_with (go_at_call 177; refine (hdg _).mono ?_; rintro e w1 ⟨rfl, rfl⟩)
    go_ret2
    exact ⟨rfl, rfl⟩
  · have g1 : ¬ (9223372036854775808 : Int) < x := by omega
    have g2 : (9223372036854775807 : Int) < x := by omega
    clear c
    clear hx
    go_enter Tryz.func129, Tryz.ntmps129
    go_wp2_with (go_at_call 177; refine (hdg _).mono ?_; rintro e w1 ⟨rfl, rfl⟩)
    go_ret2
    exact ⟨rfl, rfl⟩
  · skip
    clear hx
    go_enter Tryz.func129, Tryz.ntmps129
    go_wp2_with (go_at_call 177; refine (hdg _).mono ?_; rintro e w1 ⟨rfl, rfl⟩)
    go_ret2
    exact ⟨rfl, rfl⟩
theorem readInt_spec (s : ByteArray) (w : World) (hs : s.size ≤ 1048576) :
    Calls Tryz.prog 129 #[.string s] w fun e w' => e = .returned (.tuple #[.int .i64 (rdI s.data.toList).1, .bool (rdI s.data.toList).2]) ∧ w' = w := by
  by_cases h0 : 0 < s.size
  · cases hb : (((s[0]'h0).toNat : Int) == 45)
    · refine readInt_pos s w hs h0 hb _ ?_
      have hn := (neg_at h0).trans hb
      unfold rdI bodyL
      rw [hn]; rfl
    · refine readInt_neg s w hs h0 hb _ ?_
      have hn := (neg_at h0).trans hb
      unfold rdI bodyL
      rw [hn, tail_bytes]; rfl
  · refine readInt_nil s w hs h0 _ ?_
    have hn := neg_empty h0
    unfold rdI bodyL
    rw [hn]; rfl
end Go.Proofs.YtdcdoeolaongkaaGreatDoor.Rd
