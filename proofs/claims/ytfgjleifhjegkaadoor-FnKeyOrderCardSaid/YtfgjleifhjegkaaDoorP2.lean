import Derived.Test.YtfgjleifhjegkaaDoorP1
namespace Go.Proofs.YtfgjleifhjegkaaDoor
set_option linter.unusedVariables false
open Go.Lib
theorem decodeL_drop (s : ByteArray) (pos : Nat) : decodeL (s.data.toList.drop pos) = Utf8.decode s pos := by
  have h := tail_decode s pos 0
  rw [Nat.add_zero] at h
  rw [← h]
  have e : (s.extract pos s.size) = ⟨(s.data.toList.drop pos).toArray⟩ := by
    have := extract_data s pos s.size
    have e2 : (s.extract pos s.size).data.toList = s.data.toList.drop pos := by
      rw [this]; apply List.take_of_length_le; rw [List.length_drop, ← size_eq]; omega
    cases hx : s.extract pos s.size with
    | mk d => rw [hx] at e2; simp only at e2; rw [← e2]
  rw [e]; rfl
theorem width_le (s : ByteArray) (pos : Nat) (h : pos < s.size) : pos + (Utf8.decode s pos).2 ≤ s.size ∧ (Utf8.decode s pos).2 ≤ 4 := by
  rw [decode_at]; unfold decodeN
  repeat' split
  all_goals (simp only; omega)
theorem valid_F (s : ByteArray) : ∀ f pos, s.size ≤ pos + f → (chF s f pos).isSome = validD (s.data.toList.drop pos)
  | 0, pos, h => by
    have e : s.data.toList.drop pos = [] := List.drop_eq_nil_of_le (by rw [← size_eq]; omega)
    rw [e, chF_end s 0 pos (by omega), validD_nil]; rfl
  | f + 1, pos, h => by
    by_cases hp : pos < s.size
    · have hne : s.data.toList.drop pos ≠ [] := by
        intro e; have := congrArg List.length e; rw [List.length_drop, ← size_eq] at this; simp at this; omega
      rw [validD_step _ hne, decodeL_drop, chF, if_pos hp]
      by_cases hb : Utf8.decode s pos = (65533, 1)
      · rw [if_pos hb, if_pos (by rw [hb]; exact ⟨rfl, rfl⟩)]; rfl
      · have hw := decode_width_pos s pos hp
        rw [if_neg hb, if_neg (fun e => hb (Prod.ext e.1 e.2)), List.drop_drop]
        have ih := valid_F s f (pos + (Utf8.decode s pos).2) (by omega)
        rw [← ih]; simp
    · have e : s.data.toList.drop pos = [] := List.drop_eq_nil_of_le (by rw [← size_eq]; omega)
      rw [e, chF_end s _ pos hp, validD_nil]; rfl
theorem count_F (s : ByteArray) : ∀ f pos cs, s.size ≤ pos + f → chF s f pos = some cs → runeCountFrom s f pos = cs.length ∧ s.size - pos ≤ 4 * cs.length ∧ cs.length ≤ s.size - pos
  | 0, pos, cs, h, e => by
    rw [chF_end s 0 pos (by omega)] at e; simp at e; subst e; simp [runeCountFrom]; omega
  | f + 1, pos, cs, h, e => by
    by_cases hp : pos < s.size
    · have hw := decode_width_pos s pos hp
      have hl := width_le s pos hp
      rw [chF, if_pos hp] at e
      by_cases hb : Utf8.decode s pos = (65533, 1)
      · rw [if_pos hb] at e; cases e
      · rw [if_neg hb] at e
        obtain ⟨l, e1, e2⟩ := Option.map_eq_some_iff.1 e
        have ih := count_F s f (pos + (Utf8.decode s pos).2) l (by omega) e1
        subst e2
        unfold runeCountFrom
        rw [if_pos hp]
        simp only [List.length_cons]
        omega
    · rw [chF_end s _ pos hp] at e; simp at e; subst e; rw [runeCountFrom_end s _ pos hp]; simp; omega
theorem valid_iff (s : ByteArray) : validD s.data.toList = (chars s).isSome := by
  have := valid_F s s.size 0 (by omega)
  rw [List.drop_zero] at this; exact this.symm
theorem count_eq (s : ByteArray) (cs : List Int) (h : chars s = some cs) : runeCount s = cs.length ∧ s.size ≤ 4 * cs.length ∧ cs.length ≤ s.size := by
  have := count_F s s.size 0 cs (by omega) h
  simpa [runeCount] using this
/-- A Text's S is valid: it is well formed, of at most 255 characters. -/
def textOK (s : ByteArray) : Bool := match chars s with
  | some cs => decide (cs.length ≤ 255)
  | none => false
theorem textOK_impl (s : ByteArray) : (validD s.data.toList && decide ((runeCount s : Int) ≤ 255)) = textOK s := by
  rw [valid_iff]; unfold textOK
  cases h : chars s with
  | none => simp
  | some cs => rw [(count_eq s cs h).1]; simp; omega
theorem textOK_long (s : ByteArray) (h : 1020 < s.size) : textOK s = false := by
  unfold textOK
  cases e : chars s with
  | none => rfl
  | some cs => have := count_eq s cs e; simp; omega
end Go.Proofs.YtfgjleifhjegkaaDoor
