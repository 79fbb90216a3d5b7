import Derived.Test.YtjpcgnkgdaphoaaDoorY1
namespace Go.Proofs.YtjpcgnkgdaphoaaDoor
open Go.ChangeShapes Go.WideShapes Go.ChangeAt Go.RowKit Go.Shelf
set_option linter.unusedVariables false
set_option linter.unusedSimpArgs false
set_option maxRecDepth 100000
theorem dbl_snoc_eq (q : UInt8) (l : List UInt8) : dbl q (l ++ [q]) = dbl q l ++ [q] ++ [q] := by rw [dbl_append]; simp [dbl]
theorem dbl_snoc_ne (q c : UInt8) (l : List UInt8) (h : c ≠ q) : dbl q (l ++ [c]) = dbl q l ++ [c] := by rw [dbl_append]; simp [dbl, h]
set_option maxHeartbeats 1600000 in
theorem mark46_any (s : ByteArray) (q : UInt8) (w : World) (hs : s.size ≤ 1048576) :
    Calls Tryd.prog 12 #[.string s, .int .u8 (q.toNat : Int)] w fun e w' => e = .returned (.string ⟨(markL q s.data.toList).toArray⟩) ∧ Below w.heap.size w w' := by
  obtain ⟨i0, hi, hz0, hz1, hz2⟩ := info_parts info5
  go_enter Tryd.func12, Tryd.ntmps12
  go_wp2
  go_loopw [5, 6] (fun v i wr => ∃ (k : Nat) (acc : List UInt8), k ≤ s.size ∧ i = .int .i64 k ∧ acc.length ≤ 2 * k + 1 ∧ Hid (acc = q :: dbl q (s.data.toList.take k)) ∧ wr.ownsRow w.heap.size 5 1 v acc.length (bcells acc) ∧ Below w.heap.size w wr) (fun _ i _ => s.size - (intOf i).toNat)
  case atStart =>
    refine ⟨0, [q], Nat.zero_le _, rfl, by simp, rfl, ?_, (Below.refl _ _).alloc (Nat.le_refl _) _⟩
    have := World.ownsRow_lit (base := w.heap.size) (e := 5) (size := 1) w #[.int .u8 (q.toNat : Int)] 1 (Nat.le_refl _) (by unfold maxLen; omega) (by simp)
    simpa [bcells] using this
  case round =>
    obtain ⟨k, acc, hk, rfl, hal, HA, hown, hbel⟩ := hrel
    have hbs := hbel.size
    by_cases hlt : k < s.size
    · have hlti : (k : Int) < s.size := by omega
      have hts := take_snoc s k hlt
      obtain ⟨c, hc⟩ : ∃ c : UInt8, s[k]'hlt = c := ⟨_, rfl⟩
      rw [hc] at hts
      have hci : ((s[k]'hlt).toNat : Int) = (c.toNat : Int) := by rw [hc]
      by_cases he : c = q
      · subst he
        have HA2 : Hid (acc ++ [c] ++ [c] = c :: dbl c (s.data.toList.take (k + 1))) := by
          show _ = _
          rw [hts, dbl_snoc_eq, HA.out]; simp
        clear hts hc HA
        go_wp2_with (first | (at_builtin; refine wpList_append_own _ rfl (.tmp 20) (.tmp 22) 33 rfl w.heap.size 5 i0 (.int .u8 0) 1 1 Tryd.underlying33 hi hz0 hz1 hz2 rfl (by decide) _ _ _ rfl (hown.alloc _) ⟨wr.heap.size, 0, none⟩ 1 1 [.int .u8 (c.toNat : Int)] rfl rfl (cell_one_new _ _ _) (by intro u hu; simp at hu; subst hu; rfl) (by unfold maxLen; omega) (by omega) (by simp; omega) ?_; intro v1 w1 ho1 hg1 _; have hzz := hg1.size; simp at hzz) | (at_builtin; refine wpList_append_own _ rfl (.tmp 24) (.tmp 28) 33 rfl w.heap.size 5 i0 (.int .u8 0) 1 1 Tryd.underlying33 hi hz0 hz1 hz2 rfl (by decide) _ _ _ rfl (ho1.alloc _) ⟨w1.heap.size, 0, none⟩ 1 1 [.int .u8 (c.toNat : Int)] rfl rfl (cell_one_new _ _ _) (by intro u hu; simp at hu; subst hu; rfl) (by unfold maxLen; omega) (by omega) (by simp; omega) ?_; intro v2 w2 ho2 hg2 _))
        have hb1 : Below w.heap.size w w1 := (hbel.alloc hbs _).grown hg1 (by simp; omega) (fun k hk => (hown.lt k hk).1)
        have HB2 : Hid (Below w.heap.size w w2) := (hb1.alloc hb1.size _).grown hg2 (by have := hb1.size; simp; omega) (fun k hk => (ho1.lt k hk).1)
        have HO : Hid (w2.ownsRow w.heap.size 5 1 v2 (acc ++ [c] ++ [c]).length (bcells (acc ++ [c] ++ [c]))) := by
          show w2.ownsRow w.heap.size 5 1 v2 (acc ++ [c] ++ [c]).length (bcells (acc ++ [c] ++ [c]))
          rw [bcells_snoc, bcells_snoc]; simpa using ho2
        clear ho1 hg1 ho2 hg2 hown
        go_roundw
        case rel => exact ⟨k + 1, acc ++ [c] ++ [c], by omega, by go_num, by simp; omega, HA2.out, HO.out, HB2.out⟩
        case measure => simp [intOf]; omega
      · have hne : ¬ (c.toNat : Int) = (q.toNat : Int) := fun z => he (UInt8.toNat.inj (by omega))
        have HA2 : Hid (acc ++ [c] = q :: dbl q (s.data.toList.take (k + 1))) := by
          show _ = _
          rw [hts, dbl_snoc_ne q c _ he, HA.out]; simp
        clear hts hc HA he
        go_wp2_with (at_builtin; refine wpList_append_own _ rfl (.tmp 24) (.tmp 28) 33 rfl w.heap.size 5 i0 (.int .u8 0) 1 1 Tryd.underlying33 hi hz0 hz1 hz2 rfl (by decide) _ _ _ rfl (hown.alloc _) ⟨wr.heap.size, 0, none⟩ 1 1 [.int .u8 (c.toNat : Int)] rfl rfl (cell_one_new _ _ _) (by intro u hu; simp at hu; subst hu; rfl) (by unfold maxLen; omega) (by omega) (by simp; omega) ?_; intro v2 w2 ho2 hg2 _)
        have HB2 : Hid (Below w.heap.size w w2) := (hbel.alloc hbs _).grown hg2 (by simp; omega) (fun k hk => (hown.lt k hk).1)
        have HO : Hid (w2.ownsRow w.heap.size 5 1 v2 (acc ++ [c]).length (bcells (acc ++ [c]))) := by
          show w2.ownsRow w.heap.size 5 1 v2 (acc ++ [c]).length (bcells (acc ++ [c]))
          rw [bcells_snoc]; simpa using ho2
        clear ho2 hg2 hown
        go_roundw
        case rel => exact ⟨k + 1, acc ++ [c], by omega, by go_num, by simp; omega, HA2.out, HO.out, HB2.out⟩
        case measure => simp [intOf]; omega
    · have hlti : ¬ (k : Int) < s.size := by omega
      have HF : Hid (acc ++ [q] = markL q s.data.toList) := by
        show _ = _
        rw [HA.out, List.take_of_length_le (by simp; omega)]; rfl
      clear HA
      go_wp2_with (at_builtin; refine wpList_append_own _ rfl (.tmp 30) (.tmp 32) 33 rfl w.heap.size 5 i0 (.int .u8 0) 1 1 Tryd.underlying33 hi hz0 hz1 hz2 rfl (by decide) _ _ _ rfl (hown.alloc _) ⟨wr.heap.size, 0, none⟩ 1 1 [.int .u8 (q.toNat : Int)] rfl rfl (cell_one_new _ _ _) (by intro u hu; simp at hu; subst hu; rfl) (by unfold maxLen; omega) (by omega) (by simp; omega) ?_; intro v2 w2 ho2 hg2 _; have hcv := conv_own w2 w.heap.size v2 (acc ++ [q]) (by rw [bcells_snoc]; simpa using ho2))
      go_ret
      refine ⟨ret_str (by rw [HF.out]), (hbel.alloc hbs _).grown hg2 (by simp; omega) (fun k hk => (hown.lt k hk).1)⟩
end Go.Proofs.YtjpcgnkgdaphoaaDoor
