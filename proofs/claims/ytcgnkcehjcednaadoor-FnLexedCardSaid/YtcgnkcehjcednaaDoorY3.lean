import Derived.Test.YtcgnkcehjcednaaDoorUB
namespace Go.Proofs.YtcgnkcehjcednaaDoor
open Go.ChangeShapes Go.WideShapes Go.ChangeAt Go.RowKit Go.Shelf
set_option linter.unusedVariables false
set_option linter.unusedSimpArgs false
set_option maxRecDepth 100000
theorem number_any (s : ByteArray) (a : Nat) (w : World) (hs : s.size ≤ 8000) (ha : a < s.size) (hd0 : digI ((s[a]'ha).toNat : Int) = true) :
    Calls Tryd.prog 95 #[.string s, .int .i64 a] w fun e w' => e = .returned (cutT a (numL (s.data.toList.drop a))) ∧ Below w.heap.size w w' := by
  have hsl : s.data.toList.length = s.size := by simp
  have hdl : (s.data.toList.drop a).length = s.size - a := by rw [List.length_drop, hsl]
  obtain ⟨n, hn⟩ : ∃ n, n = runN digI (s.data.toList.drop a) := ⟨_, rfl⟩
  have hn1 : 1 ≤ n := by
    rw [hn, drop_cons _ _ _ (bl_get s a ha)]; exact runN_pos digI _ _ hd0
  have hn2 : a + n ≤ s.size := by
    have := runN_le digI (s.data.toList.drop a)
    rw [← hn, hdl] at this; omega
  have hrun := fun w => run_any s a false w (by unfold maxLen; omega) (by omega)
  simp only [Bool.false_eq_true, if_false] at hrun
  rw [← hn] at hrun
  have hno := fun w => noughts_any (s.extract a (a + n)) w (by unfold maxLen; simp; omega)
  rw [ba_mid, Nat.add_sub_cancel_left] at hno
  obtain ⟨t, ht⟩ : ∃ t : ByteArray, t = ⟨(noughts ((s.data.toList.drop a).take n)).toArray⟩ := ⟨_, rfl⟩
  rw [← ht] at hno
  have htd : t.data.toList = noughts ((s.data.toList.drop a).take n) := by rw [ht]
  have htl : t.data.toList.length = t.size := by simp
  have hnl := noughts_len ((s.data.toList.drop a).take n)
  rw [← htd, htl, List.length_take, hdl] at hnl
  have ht1 : 1 ≤ t.size := hnl.2 (by omega)
  have ht2 : t.size ≤ n := by have := hnl.1; omega
  have hdt : digs t.data.toList := by rw [htd, hn]; exact digs_noughts _ (digs_run _)
  have hnx : ∀ e, nextW s (a + e) = isLet (s.data.toList.drop a)[e]? := fun e => by unfold nextW; rw [List.getElem?_drop]
  by_cases hdec : decAt (s.data.toList.drop a) = true
  · have hdec' := hdec
    unfold decAt at hdec'
    rw [← hn, List.getElem?_drop, List.getElem?_drop] at hdec'
    simp only [Bool.and_eq_true, decide_eq_true_eq] at hdec'
    obtain ⟨g1, g2⟩ := hdec'
    have hA : a + n + 1 < s.size := by
      cases hg : s.data.toList[a + (n + 1)]? with
      | none => rw [hg] at g2; cases g2
      | some d => have := get_lt hg; omega
    have hnn : a + n < s.size := by omega
    have hB : ((s[a + n]'hnn).toNat : Int) = 46 := by
      rw [bl_get s (a + n) hnn] at g1
      rw [Option.some.inj g1]; rfl
    have hC : digI ((s[a + n + 1]'hA).toNat : Int) = true := by rw [← Nat.add_assoc, bl_get s (a + n + 1) hA] at g2; exact g2
    have hrm := fun w => run_any s (a + n + 1) false w (by unfold maxLen; omega) (by omega)
    simp only [Bool.false_eq_true, if_false] at hrm
    have hcast : (((a + n + 1 : Nat)) : Int) = (a : Int) + n + 1 := by omega
    rw [hcast] at hrm
    have hm0 := runN_le digI (s.data.toList.drop (a + n + 1))
    rw [List.length_drop, hsl] at hm0
    have hm1 : 1 ≤ runN digI (s.data.toList.drop (a + n + 1)) := by
      rw [drop_cons _ _ _ (bl_get s (a + n + 1) hA)]; exact runN_pos digI _ _ hC
    refine number_D s t a n (numL (s.data.toList.drop a)) w hs hn1 hn2 ht1 ht2 hrun hno hdt (runN digI (s.data.toList.drop (a + n + 1))) hrm hm1 (by omega) ?_ hnn hA hB hC
    show numL (s.data.toList.drop a) = _
    unfold numL
    rw [hdec, ← hn, ← htd, htl, hnx]
    rw [show (s.data.toList.drop a).drop (n + 1) = s.data.toList.drop (a + n + 1) by rw [List.drop_drop]; congr 1]
    rfl
  · have hdec0 : decAt (s.data.toList.drop a) = false := by simpa using hdec
    have HR : Hid (numL (s.data.toList.drop a) = if bigI t.data.toList then .err 5 0 else if nextW s (a + n) then .err 2 n else .tok 3 t.data.toList n) := by
      show numL (s.data.toList.drop a) = _
      unfold numL
      rw [hdec0, ← hn, ← htd, hnx]
      rfl
    by_cases hA : a + n + 1 < s.size
    · have hnn : a + n < s.size := by omega
      by_cases hB : ((s[a + n]'hnn).toNat : Int) = 46
      · have hC : digI ((s[a + n + 1]'hA).toNat : Int) = false := by
          unfold decAt at hdec0
          rw [← hn, List.getElem?_drop, List.getElem?_drop, ← Nat.add_assoc, bl_get s (a + n) hnn, bl_get s (a + n + 1) hA] at hdec0
          have : s[a + n]'hnn = 46 := UInt8.toNat.inj (show (s[a + n]'hnn).toNat = 46 by omega)
          rw [this] at hdec0
          simpa [isDig] using hdec0
        exact number_C s t a n _ w hs hn1 hn2 ht1 ht2 hrun hno hdt HR hnn hA hB hC
      · exact number_B s t a n _ w hs hn1 hn2 ht1 ht2 hrun hno hdt HR hnn hA hB
    · exact number_A s t a n _ w hs hn1 hn2 ht1 ht2 hrun hno hdt HR hA
end Go.Proofs.YtcgnkcehjcednaaDoor
