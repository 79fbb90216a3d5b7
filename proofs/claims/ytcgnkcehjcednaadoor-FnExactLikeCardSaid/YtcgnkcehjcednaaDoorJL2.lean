import Derived.Test.YtcgnkcehjcednaaDoorJL1
namespace Go.Proofs.YtcgnkcehjcednaaDoor
open Go.ChangeShapes Go.WideShapes Go.ChangeAt Go.RowKit
namespace Lk
set_option linter.unusedVariables false
set_option linter.unusedSimpArgs false
set_option maxRecDepth 100000
set_option maxHeartbeats 8000000 in
theorem pieces_any (s : ByteArray) (cs : List Int) (w : World) (hs : s.size ≤ 1048576) (hc : chars s = some cs) :
    Calls Tryd.prog 43 #[.string s] w fun e w' => ∃ v, e = .returned v ∧ w'.ownsRow w.heap.size 111 3 v (pcs false cs).length (pc3 (pcs false cs)) ∧ Below w.heap.size w w' := by
  obtain ⟨i0, hi, hz0, hz1, hz2⟩ := info_parts info111
  have HC : Hid (chF s s.size 0 = some cs) := hc
  clear hc
  obtain ⟨ps, hps⟩ : ∃ ps, pcs false cs = ps := ⟨_, rfl⟩
  have HP : Hid (pcs false cs = ps) := hps
  rw [hps]
  clear hps
  go_enter Tryd.func43, Tryd.ntmps43
  go_wp2
  go_loopw [3, 4] (fun v ev wr => PiecesR s ps w v ev wr) (fun _ _ wr => s.size - wr.iterPos w.heap.size)
  case atStart => exact ⟨0, s.size, false, [], cs, rfl, by omega, by omega, by simp, ⟨HC.out, by rw [← HP.out]; rfl⟩, ⟨World.iter_heap w s 0, World.ownsRow_nil _ _ _ _, (Below.refl _ w).alloc (Nat.le_refl _) _⟩⟩
  case round =>
    obtain ⟨pos, b, esc, acc, rest, rfl, hp, hb, hacc, HM, hbe⟩ := hrel
    have hmu : wr.iterPos w.heap.size = pos := by simp [World.iterPos, hbe.it]
    by_cases hlt : pos < s.size
    · have hnx : ∀ ty, (Instr.next (.pointer (some ⟨w.heap.size, 0, none⟩)) true ty).run Tryd.prog wr = _ := fun ty => Lib.run_next_any_at wr w.heap.size s pos ty hbe.it hlt
      obtain ⟨r, S0, S1, S2, S3⟩ := step_rest hlt hb HM.out.1
      have HS : Hid (chF s (b - 1) (pos + (Utf8.decode s pos).2) = some r) := S1
      have HN : Hid (acc ++ pcs esc (((Utf8.decode s pos).1 : Int) :: r) = ps) := (by rw [← S0]; exact HM.out.2 : acc ++ pcs esc (((Utf8.decode s pos).1 : Int) :: r) = ps)
      have hb2 := hbe.next (Nat.le_refl _) (pos + (Utf8.decode s pos).2)
      clear S1 hbe S0 HM
      generalize (Utf8.decode s pos).2 = K at *
      generalize (Utf8.decode s pos).1 = R at *
      obtain ⟨W, hW⟩ : ∃ W, wr.iterAt w.heap.size s (pos + K) = W := ⟨_, rfl⟩
      rw [hW] at hnx hb2
      have hz := hb2.bel.size
      have hown := hb2.own
      cases esc with
      | true =>
        have HR : Hid ((acc ++ [(false, false, (R : Int))]) ++ pcs false r = ps) := (by rw [← HN.out]; simp [pcs] : (acc ++ [(false, false, (R : Int))]) ++ pcs false r = ps)
        clear HN
        go_wp2_with (at_builtin; refine wpList_append_own _ rfl (.tmp 23) (.tmp 26) 68 rfl w.heap.size 111 i0 (.agg #[.bool false, .bool false, .int .i32 0]) 3 8 Tryd.underlying68 hi hz0 hz1 hz2 rfl (by decide) _ _ _ rfl (hown.alloc _) ⟨W.heap.size, 0, none⟩ 1 1 [.bool false, .bool false, .int .i32 (R : Int)] rfl rfl (three_new _ _ _ _ _) (by intro u hu; simp at hu; rcases hu with rfl | rfl <;> rfl) (by unfold maxLen; omega) (by omega) (by simp; omega) ?_; intro v' w1 hown' hgrow _)
        have hb3 := hb2.grown _ hown' hgrow
        clear hown' hgrow hown hb2
        go_roundw
        case rel => exact ⟨pos + K, b - 1, false, acc ++ [(false, false, (R : Int))], r, rfl, S2, by omega, by simp; omega, ⟨HS.out, HR.out⟩, by rw [pc3_snoc]; simpa using hb3⟩
        case measure => rw [hmu, show w1.iterPos w.heap.size = pos + K by simp [World.iterPos, hb3.it]]; omega
      | false =>
        by_cases h92 : (R : Int) = 92
        · have HR : Hid (acc ++ pcs true r = ps) := (by rw [← HN.out]; simp [pcs, h92] : acc ++ pcs true r = ps)
          have e92 : ((R : Int) == 92) = true := by simpa using h92
          clear HN h92
          go_wp2
          go_roundw
          case rel => exact ⟨pos + K, b - 1, true, acc, r, rfl, S2, by omega, by omega, ⟨HS.out, HR.out⟩, hb2⟩
          case measure => rw [hmu, show W.iterPos w.heap.size = pos + K by simp [World.iterPos, hb2.it]]; omega
        · have HR : Hid ((acc ++ [(((R : Int) == 37), ((R : Int) == 95), (R : Int))]) ++ pcs false r = ps) := (by rw [← HN.out]; simp [pcs, h92] : (acc ++ [(((R : Int) == 37), ((R : Int) == 95), (R : Int))]) ++ pcs false r = ps)
          have e92 : ((R : Int) == 92) = false := by simpa using h92
          clear HN h92
          go_wp2_with (at_builtin; refine wpList_append_own _ rfl (.tmp 12) (.tmp 19) 68 rfl w.heap.size 111 i0 (.agg #[.bool false, .bool false, .int .i32 0]) 3 8 Tryd.underlying68 hi hz0 hz1 hz2 rfl (by decide) _ _ _ rfl (hown.alloc _) ⟨W.heap.size, 0, none⟩ 1 1 [.bool ((R : Int) == 37), .bool ((R : Int) == 95), .int .i32 (R : Int)] rfl rfl (three_new _ _ _ _ _) (by intro u hu; simp at hu; rcases hu with rfl | rfl | rfl <;> rfl) (by unfold maxLen; omega) (by omega) (by simp; omega) ?_; intro v' w1 hown' hgrow _)
          have hb3 := hb2.grown _ hown' hgrow
          clear hown' hgrow hown hb2
          go_roundw
          case rel => exact ⟨pos + K, b - 1, false, acc ++ [(((R : Int) == 37), ((R : Int) == 95), (R : Int))], r, rfl, S2, by omega, by simp; omega, ⟨HS.out, HR.out⟩, by rw [pc3_snoc]; simpa using hb3⟩
          case measure => rw [hmu, show w1.iterPos w.heap.size = pos + K by simp [World.iterPos, hb3.it]]; omega
    · have hnx : ∀ ty, (Instr.next (.pointer (some ⟨w.heap.size, 0, none⟩)) true ty).run Tryd.prog wr = _ := fun ty => Lib.run_next_end_at wr w.heap.size s pos ty hbe.it hlt
      have HE : Hid (acc ++ pcs esc [] = ps) := (by obtain ⟨a1, a2⟩ := HM.out; rw [chF_end s b pos hlt] at a1; cases a1; exact a2 : acc ++ pcs esc [] = ps)
      have hz := hbe.bel.size
      have hown := hbe.own
      clear HM
      cases esc with
      | false =>
        have HE2 : Hid (acc = ps) := (by have := HE.out; simpa [pcs] using this : acc = ps)
        clear HE
        go_wp2
        go_ret
        rw [← HE2.out]
        exact ⟨_, rfl, hbe.own, hbe.bel⟩
      | true =>
        have HE2 : Hid (acc ++ [(false, false, (92 : Int))] = ps) := HE.out
        clear HE
        go_wp2_with (at_builtin; refine wpList_append_own _ rfl (.tmp 32) (.tmp 34) 68 rfl w.heap.size 111 i0 (.agg #[.bool false, .bool false, .int .i32 0]) 3 8 Tryd.underlying68 hi hz0 hz1 hz2 rfl (by decide) _ _ _ rfl (hown.alloc _) ⟨wr.heap.size, 0, none⟩ 1 1 [.bool false, .bool false, .int .i32 92] rfl rfl (three_new _ _ _ _ _) (by intro u hu; simp at hu; rcases hu with rfl | rfl <;> rfl) (by unfold maxLen; omega) (by omega) (by simp; omega) ?_; intro v' w1 hown' hgrow _)
        have hb3 := hbe.grown _ hown' hgrow
        clear hown' hgrow hown hbe
        go_ret
        rw [← HE2.out]
        exact ⟨_, rfl, by rw [pc3_snoc]; simpa using hb3.own, hb3.bel⟩
end Lk
end Go.Proofs.YtcgnkcehjcednaaDoor
