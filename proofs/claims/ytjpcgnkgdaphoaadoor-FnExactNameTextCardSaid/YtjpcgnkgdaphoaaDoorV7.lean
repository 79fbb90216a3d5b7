import Derived.Test.YtjpcgnkgdaphoaaDoorV5A
import Derived.Test.YtjpcgnkgdaphoaaDoorV5B
import Derived.Test.YtjpcgnkgdaphoaaDoorV5C
import Derived.Test.YtjpcgnkgdaphoaaDoorV6
namespace Go.Proofs.YtjpcgnkgdaphoaaDoor
open Go.ChangeShapes Go.WideShapes Go.ChangeAt Go.RowKit Go.Shelf
set_option linter.unusedVariables false
set_option linter.unusedSimpArgs false
set_option maxRecDepth 100000
theorem cutNumber_any (s : ByteArray) (w : World) (hs : s.size ≤ 1048576) (h0 : 0 < s.size) (hd0 : digI ((s[0]'h0).toNat : Int) = true) :
    Calls Tryd.prog 30 #[.string s] w fun e w' => e = .returned (cutV (numL s.data.toList)) ∧ Below w.heap.size w w' := by
  have hsl : s.data.toList.length = s.size := by simp
  obtain ⟨n, hn⟩ : ∃ n, n = runN digI s.data.toList := ⟨_, rfl⟩
  have hn1 : 1 ≤ n := by
    rw [hn, wit0 s h0]; exact runN_pos digI _ _ hd0
  have hn2 : n ≤ s.size := by rw [hn, ← hsl]; exact runN_le _ _
  have hcnt := fun w => countAhead_any 29 digI Sorts.isDigit s w (by unfold maxLen; omega)
  have hwn := fun w => withoutNoughts_any (s.extract 0 n) w (by unfold maxLen; simp; omega) (by simp; omega)
  rw [ba_take] at hwn
  rw [← hn] at hcnt
  obtain ⟨t, ht⟩ : ∃ t : ByteArray, t = ⟨(noughts (s.data.toList.take n)).toArray⟩ := ⟨_, rfl⟩
  rw [← ht] at hwn
  have htd : t.data.toList = noughts (s.data.toList.take n) := by rw [ht]
  have htl : t.data.toList.length = t.size := by simp
  have hnl := noughts_len (s.data.toList.take n)
  rw [← htd, htl, List.length_take, hsl] at hnl
  have ht1 : 1 ≤ t.size := hnl.2 (by omega)
  have ht2 : t.size ≤ n := by have := hnl.1; omega
  have hdt : digs t.data.toList := by rw [htd, hn]; exact digs_noughts _ (digs_run _)
  by_cases hdec : decAt s.data.toList = true
  · have hdec' := hdec
    unfold decAt at hdec'
    rw [← hn] at hdec'
    simp only [Bool.and_eq_true, decide_eq_true_eq] at hdec'
    obtain ⟨g1, g2⟩ := hdec'
    have hA : n + 1 < s.size := by
      cases hg : s.data.toList[n + 1]? with
      | none => rw [hg] at g2; cases g2
      | some d => have := get_lt hg; omega
    have hnn : n < s.size := by omega
    have hB : ((s[n]'hnn).toNat : Int) = 46 := by
      rw [bl_get s n hnn] at g1
      rw [Option.some.inj g1]; rfl
    have hC : digI ((s[n + 1]'hA).toNat : Int) = true := by rw [bl_get s (n + 1) hA] at g2; exact g2
    have hcm := fun w => countAhead_any 29 digI Sorts.isDigit (s.extract (n + 1) s.size) w (by unfold maxLen; simp; omega)
    rw [ba_drop] at hcm
    have hm0 := runN_le digI (s.data.toList.drop (n + 1))
    rw [List.length_drop, hsl] at hm0
    have hm1 : 1 ≤ runN digI (s.data.toList.drop (n + 1)) := by
      rw [drop_cons _ _ _ (bl_get s (n + 1) hA)]; exact runN_pos digI _ _ hC
    refine cutNumber_D s t n (runN digI (s.data.toList.drop (n + 1))) (numL s.data.toList) w hs hn1 ht1 ht2 hcnt hwn hcm hm1 (by omega) ?_ hnn hA hB hC
    show numL s.data.toList = _
    unfold numL
    rw [hdec, ← hn, ← htd, htl]
    rfl
  · have hdec0 : decAt s.data.toList = false := by simpa using hdec
    have HR : Hid (numL s.data.toList = if bigI t.data.toList then .err 5 0 else if nextW s n then .err 2 n else .tok 3 t.data.toList n) := by
      show numL s.data.toList = _
      unfold numL
      rw [hdec0, ← hn, ← htd]
      rfl
    by_cases hA : n + 1 < s.size
    · have hnn : n < s.size := by omega
      by_cases hB : ((s[n]'hnn).toNat : Int) = 46
      · have hC : digI ((s[n + 1]'hA).toNat : Int) = false := by
          unfold decAt at hdec0
          rw [← hn, bl_get s n hnn, bl_get s (n + 1) hA] at hdec0
          have : s[n]'hnn = 46 := UInt8.toNat.inj (show (s[n]'hnn).toNat = 46 by omega)
          rw [this] at hdec0
          simpa [isDig] using hdec0
        exact cutNumber_C s t n _ w hs hn1 hn2 ht1 ht2 hcnt hwn hdt HR hnn hA hB hC
      · exact cutNumber_B s t n _ w hs hn1 hn2 ht1 ht2 hcnt hwn hdt HR hnn hA hB
    · exact cutNumber_A s t n _ w hs hn1 hn2 ht1 ht2 hcnt hwn hdt HR hA
end Go.Proofs.YtjpcgnkgdaphoaaDoor
