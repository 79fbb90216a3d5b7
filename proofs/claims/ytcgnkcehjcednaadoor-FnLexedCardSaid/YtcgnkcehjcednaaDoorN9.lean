import Derived.Test.YtcgnkcehjcednaaDoorN1
import Derived.Test.YtcgnkcehjcednaaDoorN4
import Derived.Test.YtcgnkcehjcednaaDoorN8
import Derived.Test.YtcgnkcehjcednaaDoorW1
namespace Go.Proofs.YtcgnkcehjcednaaDoor
open Go.ChangeShapes Go.WideShapes Go.ChangeAt Go.RowKit Go.Shelf
set_option linter.unusedVariables false
set_option linter.unusedSimpArgs false
set_option maxRecDepth 100000
theorem textOK_some {s : ByteArray} {cs : List Int} (h : chars s = some cs) : textOK s = decide ((cs.length : Int) ≤ 255) := by
  unfold textOK; rw [h]
  exact decide_eq_decide.2 (by omega)
theorem textOK_none {s : ByteArray} (h : chars s = none) : textOK s = false := by
  unfold textOK; rw [h]
theorem undrew9 {W w' : World} (hb : Below W.drew.heap.size W.drew w') : Below W.heap.size W w' := (Below.refl W.heap.size W).drew.trans hb
set_option maxHeartbeats 1000000 in
theorem valueOK_text (s : ByteArray) (w : World) (hs : s.size ≤ 1048576) :
    Calls Tryd.prog 34 #[.agg #[.int .i64 3, .int .i64 0, .string s]] w fun e w' => e = .returned (.bool (textOK s)) ∧ Below w.heap.size w w' := by
  by_cases hl : 1020 < s.size
  · have HX : Hid (textOK s = false) := textOK_long s hl
    have hl' : (1020 : Int) < (s.size : Int) := by omega
    go_enter Tryd.func34, Tryd.ntmps34
    go_wp2
    go_ret
    exact ⟨ret_bool HX.out.symm, below_alloc _ _⟩
  · have hl' : ¬ (1020 : Int) < (s.size : Int) := by omega
    go_enter Tryd.func34, Tryd.ntmps34
    go_wp2_with fail
    refine (chars_any s _ hs).mono ?_
    intro e w1 hcp
    rcases hcp with ⟨cs, v, hch, rfl, hown, hb⟩ | ⟨a, hch, rfl, hb⟩
    · obtain ⟨a, cap, rfl⟩ := owns_slice hown
      have HX : Hid (textOK s = decide ((cs.length : Int) ≤ 255)) := textOK_some hch
      obtain ⟨hc, hf⟩ := bcell hb
      clear hch hown
      go_wp2
      go_ret
      refine ⟨ret_bool (by rw [HX.out]), ?_⟩
      exact (below_alloc w _).trans (hb.mono (by simp))
    · have HX : Hid (textOK s = false) := textOK_none hch
      obtain ⟨hc, hf⟩ := bcell hb
      clear hch
      go_wp2
      go_ret
      refine ⟨ret_bool HX.out.symm, ?_⟩
      exact (below_alloc w _).trans (hb.mono (by simp))
theorem okB_w (x : List UInt8) : okB 1 x = isWordL x := by
  have h := okB_iff 1 x
  have h2 : tokOK 1 x ↔ isWordL x = true := by unfold tokOK; simp
  cases a : okB 1 x <;> cases b : isWordL x <;> simp_all
theorem okB_q (x : List UInt8) : okB 2 x = isNameL x := by
  have h := okB_iff 2 x
  have h2 : tokOK 2 x ↔ isNameL x = true := by unfold tokOK; simp
  cases a : okB 2 x <;> cases b : isNameL x <;> simp_all
theorem okB_n (x : List UInt8) (k : Int) (hk : k = 3 ∨ k = 4) : okB k x = numB x k := by
  have h2 : tokOK k x ↔ isNumL x k := by
    unfold tokOK
    have a1 : k ≠ 1 := by omega
    have a2 : k ≠ 2 := by omega
    simp [a1, a2, hk]
  by_cases h : isNumL x k
  · rw [numB_yes h, okB_yes (h2.2 h)]
  · rw [numB_no h, okB_no (fun z => h (h2.1 z))]
theorem okB_s (x : ByteArray) : okB 5 x.data.toList = textOK x := by
  have h := okB_iff 5 x.data.toList
  have h2 : tokOK 5 x.data.toList ↔ textOK x = true := by unfold tokOK strOK; rw [ba_mk]; simp
  cases a : okB 5 x.data.toList <;> cases b : textOK x <;> simp_all
theorem okB_g (x : List UInt8) : okB 6 x = isSigL x := by
  have h := okB_iff 6 x
  have h2 : tokOK 6 x ↔ isSigL x = true := by unfold tokOK; simp
  cases a : okB 6 x <;> cases b : isSigL x <;> simp_all
theorem okB_o (x : List UInt8) (k : Int) (h1 : k ≠ 1) (h2 : k ≠ 2) (h3 : k ≠ 3) (h4 : k ≠ 4) (h5 : k ≠ 5) (h6 : k ≠ 6) : okB k x = false := okB_no (by unfold tokOK; simp [h1, h2, h3, h4, h5, h6])
set_option maxHeartbeats 3200000 in
theorem tokenOKS_any (k p : Int) (x : ByteArray) (w : World) (hs : x.size ≤ 1048576) :
    Calls Tryd.prog 62 #[.agg #[.int .i64 k, .string x, .int .i64 p]] w fun e w' => e = .returned (.bool (okB k x.data.toList)) ∧ Below w.heap.size w w' := by
  by_cases h1 : k = 1
  · subst h1
    have hc := fun w => isWord_any x w (by unfold maxLen; omega)
    rw [← okB_w] at hc
    go_enter Tryd.func62, Tryd.ntmps62
    go_wp2_with (go_at_call 45; refine (hc _).mono ?_; rintro e w' ⟨rfl, rfl⟩)
    go_ret
    exact ⟨rfl, below_alloc _ _⟩
  have n1 : (k == 1) = false := by rw [beq_eq_false_iff_ne]; exact h1
  by_cases h2 : k = 2
  · subst h2
    have hc := fun w => isName_any x w (by unfold maxLen; omega)
    rw [← okB_q] at hc
    go_enter Tryd.func62, Tryd.ntmps62
    go_wp2_with (go_at_call 44; refine (hc _).mono ?_; rintro e w' ⟨rfl, rfl⟩)
    go_ret
    exact ⟨rfl, below_alloc _ _⟩
  have n2 : (k == 2) = false := by rw [beq_eq_false_iff_ne]; exact h2
  by_cases h3 : k = 3
  · subst h3
    have hc := fun w => isNumber_any x 3 w (by unfold maxLen; omega)
    rw [← okB_n _ _ (.inl rfl)] at hc
    go_enter Tryd.func62, Tryd.ntmps62
    go_wp2_with (go_at_call 105; refine (hc _).mono ?_; rintro e w1 ⟨rfl, hb1⟩)
    go_ret
    exact ⟨rfl, (below_alloc _ _).trans (hb1.mono (by simp))⟩
  have n3 : (k == 3) = false := by rw [beq_eq_false_iff_ne]; exact h3
  by_cases h4 : k = 4
  · subst h4
    have hc := fun w => isNumber_any x 4 w (by unfold maxLen; omega)
    rw [← okB_n _ _ (.inr rfl)] at hc
    go_enter Tryd.func62, Tryd.ntmps62
    go_wp2_with (go_at_call 105; refine (hc _).mono ?_; rintro e w1 ⟨rfl, hb1⟩)
    go_ret
    exact ⟨rfl, (below_alloc _ _).trans (hb1.mono (by simp))⟩
  have n4 : (k == 4) = false := by rw [beq_eq_false_iff_ne]; exact h4
  by_cases h5 : k = 5
  · subst h5
    have hc := fun w => valueOK_text x w hs
    rw [← okB_s] at hc
    go_enter Tryd.func62, Tryd.ntmps62
    go_wp2_with (go_at_call 34; refine (hc _).mono ?_; rintro e w1 ⟨rfl, hb1⟩)
    go_ret
    exact ⟨rfl, (below_alloc _ _).trans (hb1.mono (by simp))⟩
  have n5 : (k == 5) = false := by rw [beq_eq_false_iff_ne]; exact h5
  by_cases h6 : k = 6
  · subst h6
    have hb6 := okB_g x.data.toList
    obtain ⟨b, hb⟩ : ∃ b, okB 6 x.data.toList = b := ⟨_, rfl⟩
    rw [hb] at hb6 ⊢
    have hxl : x.data.toList.length = x.size := by simp
    have HS : b = (decide (1 ≤ x.size) && decide (x.size ≤ 2) && !decide (x.data.toList = [33, 61]) && decide (sigAt x.data.toList = some x.data.toList)) := by rw [hb6]; unfold isSigL; rw [hxl]
    clear hb6 hb
    by_cases s0 : x.size = 0
    · have HB : Hid (b = false) := by show b = false; rw [HS]; simp [s0]
      clear HS
      go_enter Tryd.func62, Tryd.ntmps62
      go_wp2
      go_quiet (fail)
      go_wp2
      go_ret
      exact ⟨ret_bool HB.out.symm, below_drewN (below_alloc _ _) _⟩
    · have s0n : 0 < x.size := by omega
      have s0d : decide (0 < x.size) = true := by simp; omega
      by_cases s2 : x.size ≤ 2
      · have s2i : (x.size : Int) ≤ 2 := by omega
        by_cases sne : x.data.toList = [33, 61]
        · have HB : Hid (b = false) := by show b = false; rw [HS]; simp [sne]
          have sb : (x.toList == [33, 61]) = true := by rw [Lib.toList_data, sne]; rfl
          have sb2 : (x.toList != [33, 61]) = false := by rw [Lib.toList_data, sne]; rfl
          clear HS sne
          go_enter Tryd.func62, Tryd.ntmps62
          go_wp2
          go_quiet (fail)
          go_wp2
          go_ret
          exact ⟨ret_bool HB.out.symm, below_drewN (below_alloc _ _) _⟩
        · have sb : (x.toList == [33, 61]) = false := by rw [Lib.toList_data, beq_eq_false_iff_ne]; exact sne
          have sb2 : (x.toList != [33, 61]) = true := by rw [Lib.toList_data, bne_iff_ne]; exact sne
          have hsg := fun w => signAt_any x 0 w (by omega) (by omega)
          rw [List.drop_zero] at hsg
          obtain ⟨G, hG⟩ : ∃ G : ByteArray, G = ⟨((sigAt x.data.toList).getD []).toArray⟩ := ⟨_, rfl⟩
          rw [← hG] at hsg
          have hGd : G.data.toList = (sigAt x.data.toList).getD [] := by rw [hG]
          have HB : Hid (b = (G.toList == x.toList)) := by
            show b = _
            rw [HS, Lib.toList_data, Lib.toList_data, hGd]
            have a1 : decide (1 ≤ x.size) = true := by simp; omega
            have a2 : decide (x.size ≤ 2) = true := by simpa using s2
            have a3 : decide (x.data.toList = [33, 61]) = false := by simpa using sne
            rw [a1, a2, a3]
            simp only [Bool.true_and, Bool.not_false]
            have hne : x.data.toList ≠ [] := fun z => by rw [z] at hxl; simp at hxl; omega
            cases hsa : sigAt x.data.toList with
            | none =>
              simp only [Option.getD_none]
              rw [Bool.eq_iff_iff]; simp
              exact fun z => hne (by simp [z.symm])
            | some g =>
              simp only [Option.getD_some]
              rw [Bool.eq_iff_iff]; simp
          clear HS sne hGd hG
          go_enter Tryd.func62, Tryd.ntmps62
          go_wp2
          go_region_with (go_at_call 97; refine (hsg _).mono ?_; rintro e w1 ⟨rfl, hb'⟩; replace hb' := undrew9 hb'; obtain ⟨hc1, hf1⟩ := bcell hb'; have hz1 : w.heap.size < w1.heap.size := (by have := hb'.size; simp at this; omega); have bw1 : Below w.heap.size w w1 := (below_alloc w _).trans (hb'.mono (by simp)))
          all_goals
            go_wp2
            go_ret
            exact ⟨ret_bool HB.out.symm, by first | exact bw1 | exact bw1.drew⟩
      · have HB : Hid (b = false) := by show b = false; rw [HS]; simp [s2]
        have s2d : decide ((x.size : Int) ≤ 2) = false := by simp; omega
        clear HS
        go_enter Tryd.func62, Tryd.ntmps62
        go_wp2
        go_quiet (fail)
        go_wp2
        go_ret
        exact ⟨ret_bool HB.out.symm, below_drewN (below_alloc _ _) _⟩
  have n6 : (k == 6) = false := by rw [beq_eq_false_iff_ne]; exact h6
  have HO : Hid (okB k x.data.toList = false) := okB_o _ _ h1 h2 h3 h4 h5 h6
  go_enter Tryd.func62, Tryd.ntmps62
  go_wp2
  go_ret
  exact ⟨ret_bool HO.out.symm, below_alloc _ _⟩
end Go.Proofs.YtcgnkcehjcednaaDoor
