import Derived.Test.YtghdjagomdgnfaaDoorProg
import Derived.Test.YtghdjagomdgnfaaDoorHAD
import Derived.WalkKit
import Derived.ProofKit
import Derived.OpenShut
import Derived.WalkLawsBesides
import Derived.Deep.Light
import Derived.WalkSpells
import Derived.Laws.RangeString
import Derived.Laws.RangeAny
import Derived.Test.YtghdjagomdgnfaaDoorHAE
namespace Go.Proofs.YtghdjagomdgnfaaDoor
open Go.ChangeShapes Go.WideShapes Go.ChangeAt Go.RowKit Go.Shelf
set_option linter.unusedVariables false
theorem ret_bool {a b : Bool} (h : a = b) : Ending.returned (.bool a) = .returned (.bool b) := by rw [h]
theorem ret_int {k : IntKind} {a b : Int} (h : a = b) : Ending.returned (.int k a) = .returned (.int k b) := by rw [h]
theorem iter_below (w : World) (s : ByteArray) (p : Nat) : Below w.heap.size w (w.iter s p) :=
  (Below.refl _ w).alloc (Nat.le_refl _) _
/-- charCount: 'for range s { n++ }'. -/
theorem charCount_any (s : ByteArray) (w : World) (hs : s.size < 9223372036854775807) :
    Calls Tryd.prog 98 #[.string s] w fun e w' => e = .returned (.int .i64 (Lib.runeCount s)) ∧ Below w.heap.size w w' := by
  go_enter Tryd.func98, Tryd.ntmps98
  go_wp2
  go_loopw [3] (fun n w' => ∃ (pos b acc : Nat), w' = w.iter s pos ∧ n = .int .i64 acc ∧ acc + Lib.runeCountFrom s b pos = Lib.runeCount s ∧ s.size ≤ pos + b ∧ acc ≤ pos) (fun _ w' => s.size - w'.iterPos w.heap.size)
  case atStart => exact ⟨0, s.size, 0, rfl, rfl, by simp [Lib.runeCount], by omega, Nat.le_refl _⟩
  case round =>
    obtain ⟨pos, b, acc, rfl, rfl, hc, hb, ha⟩ := hrel
    by_cases hp : pos < s.size
    · have hnx : ∀ ty, (Instr.next (.pointer (some ⟨w.heap.size, 0, none⟩)) true ty).run Tryd.prog (w.iter s pos) = _ := fun ty => run_next_any w s pos ty hp
      have hwd := Lib.decode_width_pos s pos hp
      go_wp2
      go_roundw
      case rel =>
        cases b with
        | zero => omega
        | succ b =>
          refine ⟨pos + (Utf8.decode s pos).2, b, acc + 1, rfl, by go_num, ?_, by omega, by omega⟩
          rw [← hc]
          simp [Lib.runeCountFrom, hp]
          omega
      case measure =>
        simp
        omega
    · have hnx : ∀ ty, (Instr.next (.pointer (some ⟨w.heap.size, 0, none⟩)) true ty).run Tryd.prog (w.iter s pos) = _ := fun ty => run_next_end w s pos ty hp
      go_wp2
      go_ret
      rw [Lib.runeCountFrom_end s b pos hp, Nat.add_zero] at hc
      subst hc
      exact ⟨rfl, iter_below _ _ _⟩
end Go.Proofs.YtghdjagomdgnfaaDoor
namespace Go.Proofs.YtghdjagomdgnfaaDoor
open Go.ChangeShapes Go.WideShapes Go.ChangeAt Go.RowKit Go.Shelf
set_option linter.unusedVariables false
def Tabs (w : World) : Prop := Lib.Utf8Tabs (Tryd.laysValid_ren.g 3) (Tryd.laysValid_ren.g 4) w
theorem tabs_below {w w' : World} (h : Tabs w) (hb : Below w.heap.size w w') : Tabs w' := Utf8Tabs_below h hb
theorem below_allocW (w : World) (o : Obj) : Below w.heap.size w (w.alloc o) := (Below.refl _ w).alloc (Nat.le_refl _) o
theorem bcellW {W w1 : World} (hb : Below W.heap.size W w1) : (∀ b o, b < W.heap.size → w1.cell? ⟨b, o, none⟩ = W.cell? ⟨b, o, none⟩) ∧ (∀ b o, b < W.heap.size → w1.frozen? ⟨b, o, none⟩ = W.frozen? ⟨b, o, none⟩) :=
  ⟨fun b o h => hb.cell (p := ⟨b, o, none⟩) h, fun b o h => hb.frozen (p := ⟨b, o, none⟩) h⟩
theorem valid_any (s : ByteArray) (w : World) (hs : s.size ≤ 9223372036854775807) (hT : Tabs w) : Calls Tryd.prog 97 #[.string s] w fun e w' => e = .returned (.bool (Lib.validD s.data.toList)) ∧ Below w.heap.size w w' :=
  Any.utf8_ValidString Tryd.laysValid s w hs hT
theorem within_anyW (n a b : Int) (w : World) : Calls Tryd.prog 29 #[.int .i64 n, .int .i64 a, .int .i64 b] w fun e w' => e = .returned (.bool (decide (a ≤ n) && decide (n ≤ b))) ∧ w' = w := by
  go_enter Tryd.func29, Tryd.ntmps29
  go_wp2
  all_goals
    go_ret
    refine ⟨ret_bool ?_, rfl⟩
    go_light
    grind
/-- The document's valid values. -/
def vok (k n : Int) (s : ByteArray) : Bool :=
  if k = 0 then n == 0 && s.toList.isEmpty
  else if k = 1 then s.toList.isEmpty
  else if k = 2 then s.toList.isEmpty && (decide (-999999999999999999 ≤ n) && decide (n ≤ 999999999999999999))
  else if k = 3 then n == 0 && textOK s
  else if k = 4 then s.toList.isEmpty && (decide (0 ≤ n) && decide (n ≤ 1))
  else if k = 5 then s.toList.isEmpty && (decide (-719162 ≤ n) && decide (n ≤ 2932896))
  else false
set_option maxRecDepth 100000 in
set_option maxHeartbeats 1000000 in
theorem vok_impl_text (n : Int) (s : ByteArray) (w : World) (hs : s.size ≤ 1048576) (hT : Tabs w) :
    Calls Tryd.prog 77 #[.agg #[.int .i64 3, .int .i64 n, .string s]] w fun e w' => e = .returned (.bool (vok 3 n s)) ∧ Below w.heap.size w w' := by
  have HV : Hid (vok 3 n s = (n == 0 && textOK s)) := (by simp [vok] : vok 3 n s = (n == 0 && textOK s))
  by_cases hn : (n == 0) = true
  · have hn0 : n = 0 := by simpa using hn
    subst hn0
    have HT := textOK_impl s
    cases hv : Lib.validD s.data.toList with
    | false =>
      have HX : Hid (textOK s = false) := (by rw [← HT, hv]; rfl : textOK s = false)
      have HW : Hid (Lib.validD s.data.toList = false) := hv
      clear HT hv
      go_enter Tryd.func77, Tryd.ntmps77
      go_wp2_with fail
      refine (valid_any s _ (by omega) (tabs_below hT (below_allocW _ _))).mono ?_
      rw [HW.out]
      rintro e w1 ⟨rfl, hb⟩
      obtain ⟨hc, hf⟩ := bcellW hb
      go_wp2
      go_ret
      refine ⟨ret_bool (by rw [HV.out, HX.out]; rfl), ?_⟩
      exact (below_allocW w _).trans (hb.mono (by simp))
    | true =>
      have HX : Hid (textOK s = decide ((Lib.runeCount s : Int) ≤ 255)) := (by rw [← HT, hv]; simp : textOK s = decide ((Lib.runeCount s : Int) ≤ 255))
      have HW : Hid (Lib.validD s.data.toList = true) := hv
      have hrc := Lib.runeCount_le s
      clear HT hv
      go_enter Tryd.func77, Tryd.ntmps77
      go_wp2_with fail
      refine (valid_any s _ (by omega) (tabs_below hT (below_allocW _ _))).mono ?_
      rw [HW.out]
      rintro e w1 ⟨rfl, hb⟩
      obtain ⟨hc, hf⟩ := bcellW hb
      go_wp2_with fail
      refine (charCount_any s _ (by omega)).mono ?_
      rintro e w2 ⟨rfl, hb2⟩
      go_wp2
      go_ret
      refine ⟨ret_bool (by rw [HV.out, HX.out]; simp), ?_⟩
      exact ((below_allocW w _).trans (hb.mono (by simp))).trans (hb2.mono (by have := hb.size; simp at this; omega))
  · have hn' : (n == 0) = false := by simpa using hn
    clear hn
    go_enter Tryd.func77, Tryd.ntmps77
    go_wp2
    go_ret
    exact ⟨ret_bool (by rw [HV.out, hn']; rfl), below_allocW _ _⟩
set_option maxRecDepth 100000 in
set_option maxHeartbeats 1000000 in
theorem vok_impl (k n : Int) (s : ByteArray) (w : World) (hs : s.size ≤ 1048576) (hT : Tabs w) :
    Calls Tryd.prog 77 #[.agg #[.int .i64 k, .int .i64 n, .string s]] w fun e w' => e = .returned (.bool (vok k n s)) ∧ Below w.heap.size w w' := by
  by_cases h3 : k = 3
  · subst h3; exact vok_impl_text n s w hs hT
  have h3' : (k == 3) = false := by simpa using h3
  clear hT hs
  go_enter Tryd.func77, Tryd.ntmps77
  go_wp2_with (go_at_call 29; refine (within_anyW _ _ _ _).mono ?_; rintro e w' ⟨rfl, rfl⟩)
  all_goals
    go_ret
    refine ⟨ret_bool ?_, below_allocW _ _⟩
    go_light
    simp only [vok]
    simp_all
end Go.Proofs.YtghdjagomdgnfaaDoor
namespace Go.Proofs.YtghdjagomdgnfaaDoor
open Go.ChangeShapes Go.WideShapes Go.ChangeAt Go.RowKit Go.Shelf
set_option linter.unusedVariables false
theorem owns_slice {w : World} {base e size n : Nat} {v : Value} {xs : List Value} (h : w.ownsRow base e size v n xs) : ∃ a cap, v = .slice a n cap := by
  rcases h.2 with ⟨rfl, rfl⟩ | ⟨g, cap, cur, rfl, _⟩
  · exact ⟨none, 0, rfl⟩
  · exact ⟨_, _, rfl⟩
theorem textOK_some {s : ByteArray} {cs : List Int} (h : chars s = some cs) : textOK s = decide ((cs.length : Int) ≤ 255) := by
  unfold textOK; rw [h]; simp only [decide_eq_decide]; omega
theorem textOK_none {s : ByteArray} (h : chars s = none) : textOK s = false := by
  unfold textOK; rw [h]
set_option maxRecDepth 100000 in
set_option maxHeartbeats 1000000 in
theorem vok_spec_text (n : Int) (s : ByteArray) (w : World) (hs : s.size ≤ 1048576) :
    Calls Tryd.prog 45 #[.agg #[.int .i64 3, .int .i64 n, .string s]] w fun e w' => e = .returned (.bool (vok 3 n s)) ∧ Below w.heap.size w w' := by
  have HV : Hid (vok 3 n s = (n == 0 && textOK s)) := (by simp [vok] : vok 3 n s = (n == 0 && textOK s))
  by_cases hn : n = 0
  · subst hn
    by_cases hl : 1020 < s.size
    · have HX : Hid (textOK s = false) := textOK_long s hl
      have hl' : (1020 : Int) < (s.size : Int) := by omega
      go_enter Tryd.func45, Tryd.ntmps45
      go_wp2
      go_ret
      exact ⟨ret_bool (by rw [HV.out, HX.out]; rfl), below_allocW _ _⟩
    · have hl' : ¬ (1020 : Int) < (s.size : Int) := by omega
      go_enter Tryd.func45, Tryd.ntmps45
      go_wp2_with fail
      refine (chars_any s _ hs).mono ?_
      intro e w1 hcp
      rcases hcp with ⟨cs, v, hch, rfl, hown, hb⟩ | ⟨a, hch, rfl, hb⟩
      · obtain ⟨a, cap, rfl⟩ := owns_slice hown
        have HX : Hid (textOK s = decide ((cs.length : Int) ≤ 255)) := textOK_some hch
        obtain ⟨hc, hf⟩ := bcellW hb
        clear hch hown
        go_wp2
        go_ret
        refine ⟨ret_bool (by rw [HV.out, HX.out]; simp), ?_⟩
        exact (below_allocW w _).trans (hb.mono (by simp))
      · have HX : Hid (textOK s = false) := textOK_none hch
        obtain ⟨hc, hf⟩ := bcellW hb
        clear hch
        go_wp2
        go_ret
        refine ⟨ret_bool (by rw [HV.out, HX.out]; rfl), ?_⟩
        exact (below_allocW w _).trans (hb.mono (by simp))
  · have hn' : (n != 0) = true := by simpa using hn
    have hn2 : (n == 0) = false := by simpa using hn
    have HX : Hid (vok 3 n s = false) := (by rw [HV.out, hn2]; rfl : vok 3 n s = false)
    clear hn2
    go_enter Tryd.func45, Tryd.ntmps45
    go_wp2
    go_ret
    exact ⟨ret_bool HX.out.symm, below_allocW _ _⟩
set_option maxRecDepth 100000 in
set_option maxHeartbeats 1000000 in
theorem vok_spec (k n : Int) (s : ByteArray) (w : World) (hs : s.size ≤ 1048576) :
    Calls Tryd.prog 45 #[.agg #[.int .i64 k, .int .i64 n, .string s]] w fun e w' => e = .returned (.bool (vok k n s)) ∧ Below w.heap.size w w' := by
  by_cases h3 : k = 3
  · subst h3; exact vok_spec_text n s w hs
  have h3' : (k == 3) = false := by simpa using h3
  clear hs
  go_enter Tryd.func45, Tryd.ntmps45
  go_wp2
  all_goals
    go_ret
    refine ⟨ret_bool ?_, below_allocW _ _⟩
    go_light
    simp only [vok]
    first | (simp_all; done) | (simp_all; omega) | (rw [Bool.eq_iff_iff]; simp_all; omega) | grind
end Go.Proofs.YtghdjagomdgnfaaDoor
