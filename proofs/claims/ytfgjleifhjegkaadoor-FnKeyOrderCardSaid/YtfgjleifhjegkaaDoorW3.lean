import Derived.Test.YtfgjleifhjegkaaDoorW2
import Derived.Test.YtfgjleifhjegkaaDoorP2
namespace Go.Proofs.YtfgjleifhjegkaaDoor
open Go.ChangeShapes Go.WideShapes Go.ChangeAt Go.RowKit Go.Shelf
set_option linter.unusedVariables false
def Tabs (w : World) : Prop := Lib.Utf8Tabs (Tryd.laysValid_ren.g 3) (Tryd.laysValid_ren.g 4) w
theorem tabs_below {w w' : World} (h : Tabs w) (hb : Below w.heap.size w w') : Tabs w' := Utf8Tabs_below h hb
theorem below_allocW (w : World) (o : Obj) : Below w.heap.size w (w.alloc o) := (Below.refl _ w).alloc (Nat.le_refl _) o
theorem bcellW {W w1 : World} (hb : Below W.heap.size W w1) : (∀ b o, b < W.heap.size → w1.cell? ⟨b, o, none⟩ = W.cell? ⟨b, o, none⟩) ∧ (∀ b o, b < W.heap.size → w1.frozen? ⟨b, o, none⟩ = W.frozen? ⟨b, o, none⟩) :=
  ⟨fun b o h => hb.cell (p := ⟨b, o, none⟩) h, fun b o h => hb.frozen (p := ⟨b, o, none⟩) h⟩
theorem valid_any (s : ByteArray) (w : World) (hs : s.size ≤ 9223372036854775807) (hT : Tabs w) : Calls Tryd.prog 73 #[.string s] w fun e w' => e = .returned (.bool (Lib.validD s.data.toList)) ∧ Below w.heap.size w w' :=
  Any.utf8_ValidString Tryd.laysValid s w hs hT
theorem within_anyW (n a b : Int) (w : World) : Calls Tryd.prog 72 #[.int .i64 n, .int .i64 a, .int .i64 b] w fun e w' => e = .returned (.bool (decide (a ≤ n) && decide (n ≤ b))) ∧ w' = w := by
  go_enter Tryd.func72, Tryd.ntmps72
  go_wp2
  all_goals
    go_ret
    refine ⟨ret_bool ?_, rfl⟩
    go_light
    grind
/-- The document's valid values. -/
def vok (k n : Int) (s : ByteArray) : Bool :=
  if k = 0 then n == 0 && s.toList.isEmpty
  else if k = 1 then s.toList.isEmpty
  else if k = 2 then s.toList.isEmpty && (decide (-999999999999999999 ≤ n) && decide (n ≤ 999999999999999999))
  else if k = 3 then n == 0 && textOK s
  else if k = 4 then s.toList.isEmpty && (decide (0 ≤ n) && decide (n ≤ 1))
  else if k = 5 then s.toList.isEmpty && (decide (-719162 ≤ n) && decide (n ≤ 2932896))
  else false
set_option maxRecDepth 100000 in
set_option maxHeartbeats 1000000 in
theorem vok_impl_text (n : Int) (s : ByteArray) (w : World) (hs : s.size ≤ 1048576) (hT : Tabs w) :
    Calls Tryd.prog 54 #[.agg #[.int .i64 3, .int .i64 n, .string s]] w fun e w' => e = .returned (.bool (vok 3 n s)) ∧ Below w.heap.size w w' := by
  have HV : Hid (vok 3 n s = (n == 0 && textOK s)) := (by simp [vok] : vok 3 n s = (n == 0 && textOK s))
  by_cases hn : (n == 0) = true
  · have hn0 : n = 0 := by simpa using hn
    subst hn0
    have HT := textOK_impl s
    cases hv : Lib.validD s.data.toList with
    | false =>
      have HX : Hid (textOK s = false) := (by rw [← HT, hv]; rfl : textOK s = false)
      have HW : Hid (Lib.validD s.data.toList = false) := hv
      clear HT hv
      go_enter Tryd.func54, Tryd.ntmps54
      go_wp2_with fail
      refine (valid_any s _ (by omega) (tabs_below hT (below_allocW _ _))).mono ?_
      rw [HW.out]
      rintro e w1 ⟨rfl, hb⟩
      obtain ⟨hc, hf⟩ := bcellW hb
      go_wp2
      go_ret
      refine ⟨ret_bool (by rw [HV.out, HX.out]; rfl), ?_⟩
      exact (below_allocW w _).trans (hb.mono (by simp))
    | true =>
      have HX : Hid (textOK s = decide ((Lib.runeCount s : Int) ≤ 255)) := (by rw [← HT, hv]; simp : textOK s = decide ((Lib.runeCount s : Int) ≤ 255))
      have HW : Hid (Lib.validD s.data.toList = true) := hv
      have hrc := Lib.runeCount_le s
      clear HT hv
      go_enter Tryd.func54, Tryd.ntmps54
      go_wp2_with fail
      refine (valid_any s _ (by omega) (tabs_below hT (below_allocW _ _))).mono ?_
      rw [HW.out]
      rintro e w1 ⟨rfl, hb⟩
      obtain ⟨hc, hf⟩ := bcellW hb
      go_wp2_with fail
      refine (charCount_any s _ (by omega)).mono ?_
      rintro e w2 ⟨rfl, hb2⟩
      go_wp2
      go_ret
      refine ⟨ret_bool (by rw [HV.out, HX.out]; simp), ?_⟩
      exact ((below_allocW w _).trans (hb.mono (by simp))).trans (hb2.mono (by have := hb.size; simp at this; omega))
  · have hn' : (n == 0) = false := by simpa using hn
    clear hn
    go_enter Tryd.func54, Tryd.ntmps54
    go_wp2
    go_ret
    exact ⟨ret_bool (by rw [HV.out, hn']; rfl), below_allocW _ _⟩
set_option maxRecDepth 100000 in
set_option maxHeartbeats 1000000 in
theorem vok_impl (k n : Int) (s : ByteArray) (w : World) (hs : s.size ≤ 1048576) (hT : Tabs w) :
    Calls Tryd.prog 54 #[.agg #[.int .i64 k, .int .i64 n, .string s]] w fun e w' => e = .returned (.bool (vok k n s)) ∧ Below w.heap.size w w' := by
  by_cases h3 : k = 3
  · subst h3; exact vok_impl_text n s w hs hT
  have h3' : (k == 3) = false := by simpa using h3
  clear hT hs
  go_enter Tryd.func54, Tryd.ntmps54
  go_wp2_with (go_at_call 72; refine (within_anyW _ _ _ _).mono ?_; rintro e w' ⟨rfl, rfl⟩)
  all_goals
    go_ret
    refine ⟨ret_bool ?_, below_allocW _ _⟩
    go_light
    simp only [vok]
    simp_all
end Go.Proofs.YtfgjleifhjegkaaDoor
