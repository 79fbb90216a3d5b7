import Derived.Test.YtfgjleifhjegkaaDoorKPT
import Derived.Test.YtfgjleifhjegkaaDoorIA
namespace Go.Proofs.YtfgjleifhjegkaaDoor
open Go.ChangeShapes Go.WideShapes Go.ChangeAt Go.RowKit
set_option linter.unusedVariables false
set_option linter.unusedSimpArgs false
set_option maxRecDepth 100000
set_option maxHeartbeats 8000000 in
theorem text_onto (b0 : Nat) (oa : Option Addr) (oc : Nat) (xs : List Int) (s : ByteArray) (w : World) (h0 : b0 ≤ w.heap.size) (hx : xs.length ≤ 100000000) (hs : s.size ≤ 1048576) (HY : YOut 5 b0 w (.slice oa xs.length oc) xs) :
    Calls Tryd.prog 57 #[.slice oa xs.length oc, .string s] w fun e w' => Onto b0 w (xs ++ (escL (strI s) ++ [0, 1])) e w' := by
  obtain ⟨i0, hi, hz0, hz1, hz2⟩ := info_parts infoU8
  have HY0 := hid HY
  clear HY
  go_enter Tryd.func57, Tryd.ntmps57
  go_wp2
  go_loopw [0, 8] (fun v iv wr => ∃ (i : Nat) (acc : List Int) (oa : Option Addr) (oc : Nat), i ≤ s.size ∧ iv = .int .i64 i ∧ v = .slice oa acc.length oc ∧ acc.length ≤ xs.length + 2 * i ∧ Hid (acc = xs ++ escL ((strI s).take i)) ∧ Hid (YOut 5 b0 wr (.slice oa acc.length oc) acc) ∧ b0 ≤ wr.heap.size ∧ Below b0 w wr) (fun _ iv _ => s.size - (intOf iv).toNat)
  case atStart => exact ⟨0, xs, _, _, Nat.zero_le _, rfl, rfl, by omega, (by simp [escL] : xs = xs ++ escL ((strI s).take 0)), HY0, h0, Below.refl _ _⟩
  case round =>
    clear HY0
    obtain ⟨i, acc, oa, oc, hi1, rfl, rfl, hal, HA, HY, hsz, hb⟩ := hrel
    have HLT := hid (World.ownsRow.lt HY.out)
    by_cases hlt : i < s.size
    · have hlti : (i : Int) < s.size := by omega
      obtain ⟨b, hbv⟩ : ∃ b : Int, ((s[i]'hlt).toNat : Int) = b := ⟨_, rfl⟩
      have HS : Hid (escL ((strI s).take (i + 1)) = escL ((strI s).take i) ++ esc1 b) := escL_step (by rw [strI_at s i hlt, hbv])
      have HWA : Hid ((wr.alloc (.cells #[.int .u8 b] 5)).ownsRow b0 5 1 (.slice oa acc.length oc) acc.length (acc.map (Value.int .u8))) := World.ownsRow.alloc HY.out _
      have hbw : Below b0 w (wr.alloc (.cells #[.int .u8 b] 5)) := hb.alloc hsz _
      by_cases hz : b = 0
      · have HE : Hid ((acc ++ [b]) ++ [255] = xs ++ escL ((strI s).take (i + 1))) := (by rw [HS.out, HA.out, hz]; simp [esc1] : (acc ++ [b]) ++ [255] = xs ++ escL ((strI s).take (i + 1)))
        have hzb : (b == 0) = true := by simp [hz]
        clear hz HA HS
        go_wp2_with (first
          | (at_builtin
             refine wpList_append_own _ rfl (.tmp 11) (.tmp 15) 24 rfl b0 5 i0 (.int .u8 0) 1 1 Tryd.underlying24 hi hz0 hz1 hz2 rfl (by decide) _ _ _ rfl HWA.out ⟨wr.heap.size, 0, none⟩ 1 1 [.int .u8 b] rfl rfl (blk_new wr [.int .u8 b] 5).cells (by intro u hu; simp at hu; subst hu; rfl) (by unfold maxLen; omega) (by omega) (by simp; omega) ?_
             intro v2 w2 hown2 hgrow2 hiff2
             clear hiff2
             have b2 : Below b0 w w2 := hbw.grown hgrow2 (by simp; omega) (fun j hj => (HLT.out j hj).1)
             have hs2 : b0 ≤ w2.heap.size := by have := hgrow2.size; simp at this; omega
             have HR := hid (YOut.push hown2)
             obtain ⟨oa2, oc2, rfl⟩ := HR.out.form
             have hl2 : (acc ++ [b]).length ≤ acc.length + 1 := by simp
             obtain ⟨acc2, hac⟩ : ∃ l, l = acc ++ [b] := ⟨_, rfl⟩
             rw [← hac] at HR hl2 ⊢
             rw [← hac] at HE
             have HLT2 := hid (World.ownsRow.lt HR.out)
             have HWA2 : Hid ((w2.alloc (.cells #[.int .u8 255] 5)).ownsRow b0 5 1 (.slice oa2 acc2.length oc2) acc2.length (acc2.map (Value.int .u8))) := World.ownsRow.alloc HR.out _
             have hbw2 : Below b0 w (w2.alloc (.cells #[.int .u8 255] 5)) := b2.alloc hs2 _
             clear hown2 hgrow2 HY hac HLT hbw hb HWA)
          | (at_builtin
             refine wpList_append_own _ rfl (.tmp 21) (.tmp 22) 24 rfl b0 5 i0 (.int .u8 0) 1 1 Tryd.underlying24 hi hz0 hz1 hz2 rfl (by decide) _ _ _ rfl HWA2.out ⟨w2.heap.size, 0, none⟩ 1 1 [.int .u8 255] rfl rfl (blk_new w2 [.int .u8 255] 5).cells (by intro u hu; simp at hu; subst hu; rfl) (by unfold maxLen; omega) (by omega) (by simp; omega) ?_
             intro v3 w3 hown3 hgrow3 hiff3
             clear hiff3
             have b3 : Below b0 w w3 := hbw2.grown hgrow3 (by simp; omega) (fun j hj => (HLT2.out j hj).1)
             have hs3 : b0 ≤ w3.heap.size := by have := hgrow3.size; simp at this; omega
             have HR3 := hid (YOut.push hown3)
             obtain ⟨oa3, oc3, rfl⟩ := HR3.out.form
             have hl3 : (acc2 ++ [255]).length ≤ acc2.length + 1 := by simp
             obtain ⟨acc3, hac⟩ : ∃ l, l = acc2 ++ [(255 : Int)] := ⟨_, rfl⟩
             rw [← hac] at HR3 hl3 ⊢
             rw [← hac] at HE
             clear hown3 hgrow3 hac HLT2 hbw2 b2 HWA2 HR))
        go_roundw
        case rel => exact ⟨i + 1, acc3, oa3, oc3, by omega, by go_num, rfl, by omega, HE, HR3, hs3, b3⟩
        case measure => simp [intOf]; omega
      · have HE : Hid (acc ++ [b] = xs ++ escL ((strI s).take (i + 1))) := (by rw [HS.out, HA.out]; simp [esc1, hz] : acc ++ [b] = xs ++ escL ((strI s).take (i + 1)))
        have hzb : (b == 0) = false := by simp [hz]
        clear hz HA HS
        go_wp2_with (at_builtin
                     refine wpList_append_own _ rfl (.tmp 11) (.tmp 15) 24 rfl b0 5 i0 (.int .u8 0) 1 1 Tryd.underlying24 hi hz0 hz1 hz2 rfl (by decide) _ _ _ rfl HWA.out ⟨wr.heap.size, 0, none⟩ 1 1 [.int .u8 b] rfl rfl (blk_new wr [.int .u8 b] 5).cells (by intro u hu; simp at hu; subst hu; rfl) (by unfold maxLen; omega) (by omega) (by simp; omega) ?_
                     intro v2 w2 hown2 hgrow2 hiff2
                     clear hiff2
                     have b2 : Below b0 w w2 := hbw.grown hgrow2 (by simp; omega) (fun j hj => (HLT.out j hj).1)
                     have hs2 : b0 ≤ w2.heap.size := by have := hgrow2.size; simp at this; omega
                     have HR := hid (YOut.push hown2)
                     obtain ⟨oa2, oc2, rfl⟩ := HR.out.form
                     have hl2 : (acc ++ [b]).length ≤ acc.length + 1 := by simp
                     obtain ⟨acc2, hac⟩ : ∃ l, l = acc ++ [b] := ⟨_, rfl⟩
                     rw [← hac] at HR hl2 ⊢
                     rw [← hac] at HE
                     clear hown2 hgrow2 HY hac HLT hbw hb HWA)
        go_roundw
        case rel => exact ⟨i + 1, acc2, oa2, oc2, by omega, by go_num, rfl, by omega, HE, HR, hs2, b2⟩
        case measure => simp [intOf]; omega
    · have hie : i = s.size := by omega
      have HE : Hid (xs ++ (escL (strI s) ++ [0, 1]) = acc ++ [0, 1]) := (by rw [HA.out, List.take_of_length_le (by rw [strI_len]; omega)]; simp : xs ++ (escL (strI s) ++ [0, 1]) = acc ++ [0, 1])
      have hlti : ¬ (i : Int) < s.size := by omega
      have HWA : Hid ((wr.alloc (.cells #[.int .u8 0, .int .u8 1] 5)).ownsRow b0 5 1 (.slice oa acc.length oc) acc.length (acc.map (Value.int .u8))) := World.ownsRow.alloc HY.out _
      have hbw : Below b0 w (wr.alloc (.cells #[.int .u8 0, .int .u8 1] 5)) := hb.alloc hsz _
      clear HA hie
      go_wp2_with (at_builtin
                   refine wpList_append_own _ rfl (.tmp 25) (.tmp 26) 24 rfl b0 5 i0 (.int .u8 0) 1 1 Tryd.underlying24 hi hz0 hz1 hz2 rfl (by decide) _ _ _ rfl HWA.out ⟨wr.heap.size, 0, none⟩ 2 2 [.int .u8 0, .int .u8 1] rfl rfl (blk_new wr [.int .u8 0, .int .u8 1] 5).cells (by intro u hu; simp at hu; rcases hu with rfl | rfl <;> rfl) (by unfold maxLen; omega) (by omega) (by simp; omega) ?_
                   intro v2 w2 hown2 hgrow2 hiff2
                   clear hiff2
                   have b2 : Below b0 w w2 := hbw.grown hgrow2 (by simp; omega) (fun j hj => (HLT.out j hj).1)
                   have HR : Hid (YOut 5 b0 w2 v2 (xs ++ (escL (strI s) ++ [0, 1]))) := (by rw [HE.out]; exact YOut.more (ys := [0, 1]) hown2 : YOut 5 b0 w2 v2 (xs ++ (escL (strI s) ++ [0, 1])))
                   clear hown2 hgrow2)
      go_ret
      exact ⟨⟨_, rfl, HR.out⟩, b2⟩
end Go.Proofs.YtfgjleifhjegkaaDoor
