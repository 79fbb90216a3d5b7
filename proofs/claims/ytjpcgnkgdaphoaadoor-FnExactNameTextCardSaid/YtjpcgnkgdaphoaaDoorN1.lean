import Derived.Test.YtjpcgnkgdaphoaaDoorX2
import Derived.Laws.StructEq
namespace Go.Proofs.YtjpcgnkgdaphoaaDoor
open Go.ChangeShapes Go.WideShapes Go.ChangeAt Go.RowKit Go.Shelf
set_option linter.unusedVariables false
set_option linter.unusedSimpArgs false
set_option maxRecDepth 100000
/-- The library's own bound can be read. -/
def ML (w : World) : Prop := 0 < w.heap.size ∧ ∃ m, w.cell? ⟨0, 0, none⟩ = some (.int .i64 m)
theorem ML.below {w w' : World} (h : ML w) (hb : Below w.heap.size w w') : ML w' := by
  obtain ⟨h2, m, hm⟩ := h
  exact ⟨Nat.lt_of_lt_of_le h2 hb.size, m, (hb.cell (p := ⟨0, 0, none⟩) h2).trans hm⟩
theorem replaceAll_any (q : UInt8) (s : ByteArray) (N : ByteArray) (w : World) (hN : N.data.toList = [q, q]) (hs : s.size ≤ 1048576) (hM : ML w) :
    Calls Tryd.prog 34 #[.string s, .string ⟨#[q]⟩, .string N] w fun e w' => e = .returned (.string ⟨(dbl q s.data.toList).toArray⟩) ∧ Below w.heap.size w w' := by
  obtain ⟨h2, m, hm⟩ := hM
  have hNs : N.size = 2 := by have := congrArg List.length hN; simpa using this
  have hc := Lib.countB_le ⟨#[q]⟩ (show 1 ≤ 1 from Nat.le_refl 1) s.size s (Nat.le_refl _)
  have h := Tryd.strings_ReplaceAll s ⟨#[q]⟩ N m w (by omega) hm (show 1 ≤ 1 from Nat.le_refl 1) (by rw [hNs]; omega)
  rw [hN, show (⟨#[q]⟩ : ByteArray).data.toList = [q] from rfl, repl_dbl] at h
  exact h
set_option maxHeartbeats 800000 in
theorem quotedBy_any (q : UInt8) (s : ByteArray) (w : World) (hs : s.size ≤ 1048576) (hM : ML w) :
    Calls Tryd.prog 22 #[.string ⟨#[q]⟩, .string s] w fun e w' => e = .returned (.string ⟨(markL q s.data.toList).toArray⟩) ∧ Below w.heap.size w w' := by
  have hr := fun N hN => replaceAll_any q s N w hN hs hM
  obtain ⟨Q, hQ⟩ : ∃ Q : ByteArray, Q = ⟨#[q]⟩ := ⟨_, rfl⟩
  have hQs : Q.size = 1 := by rw [hQ]; rfl
  have HQ : Hid (Q.data.toList = [q]) := by show Q.data.toList = [q]; rw [hQ]
  rw [← hQ] at hr ⊢
  have hN : (Q ++ Q).data.toList = [q, q] := by rw [ByteArray.data_append, Array.toList_append, HQ.out]; rfl
  have hr2 := hr (Q ++ Q) hN
  obtain ⟨D, hD⟩ : ∃ D : ByteArray, D = ⟨(dbl q s.data.toList).toArray⟩ := ⟨_, rfl⟩
  rw [← hD] at hr2
  have HD : Hid (D.data.toList = dbl q s.data.toList) := by show D.data.toList = _; rw [hD]
  have hDs : D.size ≤ 2097152 := by
    have h1 := (dbl_len q s.data.toList).2
    have h2 : D.size = (dbl q s.data.toList).length := by rw [hD]; simp [ByteArray.size]
    have h3 := List.count_le_length (a := q) (l := s.data.toList)
    have h4 : s.data.toList.length = s.size := by simp
    omega
  clear hr hN hQ hD
  go_enter Tryd.func22, Tryd.ntmps22
  go_wp2_with (go_at_call 34; refine hr2.mono ?_; rintro e w1 ⟨rfl, hb1⟩)
  go_ret
  refine ⟨ret_str (ba_ext ?_), hb1⟩
  rw [ByteArray.data_append, ByteArray.data_append, Array.toList_append, Array.toList_append, HQ.out, HD.out]
  simp [markL]
theorem tokText_small (k : Int) (x : ByteArray) : (tokText k x.data.toList).length ≤ 2 * x.size + 2 := by
  have hx : x.data.toList.length = x.size := by simp
  have h3 := fun q => List.count_le_length (a := q) (l := x.data.toList)
  have h1 := fun q => (dbl_len q x.data.toList).2
  unfold tokText markL
  split
  · have := h1 34; have := h3 34; simp at *; omega
  · split
    · have := h1 39; have := h3 39; simp at *; omega
    · simp at *; omega
set_option maxHeartbeats 800000 in
theorem tokenText_any (k p : Int) (x : ByteArray) (w : World) (hs : x.size ≤ 1048576) (hM : ML w) :
    Calls Tryd.prog 19 #[.agg #[.int .i64 k, .string x, .int .i64 p]] w fun e w' => e = .returned (.string ⟨(tokText k x.data.toList).toArray⟩) ∧ Below w.heap.size w w' := by
  have hM1 : ∀ o, ML (w.alloc o) := fun o => hM.below (below_alloc _ _)
  have hq := fun q w hM => quotedBy_any q x w hs hM
  by_cases h2 : k = 2
  · subst h2
    go_enter Tryd.func19, Tryd.ntmps19
    go_wp2_with (go_at_call 22; refine (hq 34 _ (hM1 _)).mono ?_; rintro e w1 ⟨rfl, hb1⟩)
    go_ret
    exact ⟨rfl, ((Below.refl _ _).alloc (Nat.le_refl _) _).trans (hb1.mono (by simp))⟩
  · have h2' : (k == 2) = false := by rw [beq_eq_false_iff_ne]; exact h2
    by_cases h5 : k = 5
    · subst h5
      go_enter Tryd.func19, Tryd.ntmps19
      go_wp2_with (go_at_call 22; refine (hq 39 _ (hM1 _)).mono ?_; rintro e w1 ⟨rfl, hb1⟩)
      go_ret
      exact ⟨rfl, ((Below.refl _ _).alloc (Nat.le_refl _) _).trans (hb1.mono (by simp))⟩
    · have h5' : (k == 5) = false := by rw [beq_eq_false_iff_ne]; exact h5
      have HE : Hid (tokText k x.data.toList = x.data.toList) := by show _ = _; unfold tokText; rw [if_neg h2, if_neg h5]
      go_enter Tryd.func19, Tryd.ntmps19
      go_wp2
      go_ret
      exact ⟨ret_str (ba_ext (by rw [HE.out])), (Below.refl _ _).alloc (Nat.le_refl _) _⟩
noncomputable def okB (k : Int) (x : List UInt8) : Bool := @decide (tokOK k x) (Classical.propDecidable _)
theorem okB_iff (k : Int) (x : List UInt8) : okB k x = true ↔ tokOK k x := by unfold okB; simp
theorem okB_no {k : Int} {x : List UInt8} (h : ¬ tokOK k x) : okB k x = false := by unfold okB; simp [h]
theorem okB_yes {k : Int} {x : List UInt8} (h : tokOK k x) : okB k x = true := by unfold okB; simp [h]
end Go.Proofs.YtjpcgnkgdaphoaaDoor
