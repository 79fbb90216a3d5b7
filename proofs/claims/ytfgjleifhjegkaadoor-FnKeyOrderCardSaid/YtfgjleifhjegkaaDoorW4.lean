import Derived.Test.YtfgjleifhjegkaaDoorW1
import Derived.Test.YtfgjleifhjegkaaDoorW3
namespace Go.Proofs.YtfgjleifhjegkaaDoor
open Go.ChangeShapes Go.WideShapes Go.ChangeAt Go.RowKit Go.Shelf
set_option linter.unusedVariables false
theorem owns_slice {w : World} {base e size n : Nat} {v : Value} {xs : List Value} (h : w.ownsRow base e size v n xs) : ∃ a cap, v = .slice a n cap := by
  rcases h.2 with ⟨rfl, rfl⟩ | ⟨g, cap, cur, rfl, _⟩
  · exact ⟨none, 0, rfl⟩
  · exact ⟨_, _, rfl⟩
theorem textOK_some {s : ByteArray} {cs : List Int} (h : chars s = some cs) : textOK s = decide ((cs.length : Int) ≤ 255) := by
  unfold textOK; rw [h]; simp only [decide_eq_decide]; omega
theorem textOK_none {s : ByteArray} (h : chars s = none) : textOK s = false := by
  unfold textOK; rw [h]
set_option maxRecDepth 100000 in
set_option maxHeartbeats 1000000 in
theorem vok_spec_text (n : Int) (s : ByteArray) (w : World) (hs : s.size ≤ 1048576) :
    Calls Tryd.prog 26 #[.agg #[.int .i64 3, .int .i64 n, .string s]] w fun e w' => e = .returned (.bool (vok 3 n s)) ∧ Below w.heap.size w w' := by
  have HV : Hid (vok 3 n s = (n == 0 && textOK s)) := (by simp [vok] : vok 3 n s = (n == 0 && textOK s))
  by_cases hn : n = 0
  · subst hn
    by_cases hl : 1020 < s.size
    · have HX : Hid (textOK s = false) := textOK_long s hl
      have hl' : (1020 : Int) < (s.size : Int) := by omega
      go_enter Tryd.func26, Tryd.ntmps26
      go_wp2
      go_ret
      exact ⟨ret_bool (by rw [HV.out, HX.out]; rfl), below_allocW _ _⟩
    · have hl' : ¬ (1020 : Int) < (s.size : Int) := by omega
      go_enter Tryd.func26, Tryd.ntmps26
      go_wp2_with fail
      refine (chars_any s _ hs).mono ?_
      intro e w1 hcp
      rcases hcp with ⟨cs, v, hch, rfl, hown, hb⟩ | ⟨a, hch, rfl, hb⟩
      · obtain ⟨a, cap, rfl⟩ := owns_slice hown
        have HX : Hid (textOK s = decide ((cs.length : Int) ≤ 255)) := textOK_some hch
        obtain ⟨hc, hf⟩ := bcellW hb
        clear hch hown
        go_wp2
        go_ret
        refine ⟨ret_bool (by rw [HV.out, HX.out]; simp), ?_⟩
        exact (below_allocW w _).trans (hb.mono (by simp))
      · have HX : Hid (textOK s = false) := textOK_none hch
        obtain ⟨hc, hf⟩ := bcellW hb
        clear hch
        go_wp2
        go_ret
        refine ⟨ret_bool (by rw [HV.out, HX.out]; rfl), ?_⟩
        exact (below_allocW w _).trans (hb.mono (by simp))
  · have hn' : (n != 0) = true := by simpa using hn
    have hn2 : (n == 0) = false := by simpa using hn
    have HX : Hid (vok 3 n s = false) := (by rw [HV.out, hn2]; rfl : vok 3 n s = false)
    clear hn2
    go_enter Tryd.func26, Tryd.ntmps26
    go_wp2
    go_ret
    exact ⟨ret_bool HX.out.symm, below_allocW _ _⟩
set_option maxRecDepth 100000 in
set_option maxHeartbeats 1000000 in
theorem vok_spec (k n : Int) (s : ByteArray) (w : World) (hs : s.size ≤ 1048576) :
    Calls Tryd.prog 26 #[.agg #[.int .i64 k, .int .i64 n, .string s]] w fun e w' => e = .returned (.bool (vok k n s)) ∧ Below w.heap.size w w' := by
  by_cases h3 : k = 3
  · subst h3; exact vok_spec_text n s w hs
  have h3' : (k == 3) = false := by simpa using h3
  clear hs
  go_enter Tryd.func26, Tryd.ntmps26
  go_wp2
  all_goals
    go_ret
    refine ⟨ret_bool ?_, below_allocW _ _⟩
    go_light
    simp only [vok]
    first | (simp_all; done) | (simp_all; omega) | (rw [Bool.eq_iff_iff]; simp_all; omega) | grind
end Go.Proofs.YtfgjleifhjegkaaDoor
