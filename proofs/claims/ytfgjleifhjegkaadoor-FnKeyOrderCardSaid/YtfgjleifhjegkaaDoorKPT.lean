import Derived.Test.YtfgjleifhjegkaaDoorKPD
namespace Go.Proofs.YtfgjleifhjegkaaDoor
open Go.ChangeShapes Go.WideShapes Go.ChangeAt Go.RowKit
set_option linter.unusedVariables false
set_option linter.unusedSimpArgs false
set_option maxRecDepth 100000
theorem YOut.cells {ty b : Nat} {w : World} {v : Value} {xs : List Int} (h : YOut ty b w v xs) (hp : 0 < xs.length) : ∃ g cap, v = .slice (some ⟨g, 0, none⟩) xs.length cap ∧ b ≤ g ∧ g < w.heap.size ∧ ∀ j u, (xs.map (Value.int .u8))[j]? = some u → w.cell? ((⟨g, 0, none⟩ : Addr).add j) = some u := by
  obtain ⟨hl, h2⟩ := h
  rcases h2 with ⟨rfl, h0⟩ | ⟨g, cap, cur, rfl, hg1, hg2, hg3⟩
  · omega
  · have ho : w.ownsRow b ty 1 (.slice (some ⟨g, 0, none⟩) xs.length cap) xs.length (xs.map (Value.int .u8)) := ⟨hl, .inr ⟨g, cap, cur, rfl, hg1, hg2, hg3⟩⟩
    refine ⟨g, cap, rfl, hg1, (ho.lt _ rfl).2, fun j u hj => ?_⟩
    rw [Addr.add_lit, Nat.zero_add]
    exact own_cell ho hj
theorem oneU8 (l : List Int) : ∀ u ∈ l.map (Value.int .u8), u.oneCell' = true := by
  intro u hu
  obtain ⟨_, _, rfl⟩ := List.mem_map.1 hu
  rfl
set_option maxHeartbeats 8000000 in
theorem kp_text (n : Int) (s : ByteArray) (w : World) (hs : s.size ≤ 1048576) :
    Calls Tryd.prog 30 #[.agg #[.int .i64 3, .int .i64 n, .string s]] w fun e w' => (∃ v, e = .returned v ∧ YOut 5 w.heap.size w' v (keyP 3 n s)) ∧ Below w.heap.size w w' := by
  obtain ⟨i0, hi, hz0, hz1, hz2⟩ := info_parts infoU8
  have HK : Hid (keyP 3 n s = 48 :: (escL (strI s) ++ [0, 1])) := (by unfold keyP; simp : keyP 3 n s = 48 :: (escL (strI s) ++ [0, 1]))
  have HY0 : Hid (YOut 5 (w.heap.size + 1) ((w.alloc (.cells #[.int .i64 3, .int .i64 n, .string s] 39)).alloc (.cells #[.int .u8 48] 5)) (.slice (some ⟨w.heap.size + 1, 0, none⟩) 1 1) [48]) := (by
    have := YOut.made (ty := 5) (b := w.heap.size + 1) (w.alloc (.cells #[.int .i64 3, .int .i64 n, .string s] 39)) [48] (by simp) (by simp)
    simpa using this : YOut 5 (w.heap.size + 1) ((w.alloc (.cells #[.int .i64 3, .int .i64 n, .string s] 39)).alloc (.cells #[.int .u8 48] 5)) (.slice (some ⟨w.heap.size + 1, 0, none⟩) 1 1) [48])
  have HB0 : Hid (Blk ((w.alloc (.cells #[.int .i64 3, .int .i64 n, .string s] 39)).alloc (.cells #[.int .u8 48] 5)) w.heap.size [.int .i64 3, .int .i64 n, .string s]) := (blk_new w [.int .i64 3, .int .i64 n, .string s] 39).below (below_alloc _ _) (by simp)
  have bw0 : Below w.heap.size w ((w.alloc (.cells #[.int .i64 3, .int .i64 n, .string s] 39)).alloc (.cells #[.int .u8 48] 5)) := by (go_light; repeat (first | with_reducible assumption | with_reducible exact Below.refl _ _ | (with_reducible refine Below.setCell ?_ ?_ _; rotate_left; (focus first | (simp; done) | (simp; omega) | omega)) | (with_reducible refine Below.alloc ?_ ?_ _; rotate_left; (focus first | (simp; done) | (simp; omega) | omega)) | with_reducible refine Below.drew ?_))
  go_enter Tryd.func30, Tryd.ntmps30
  go_wp2
  go_loopw [3, 4] (fun v iv wr => ∃ (i : Nat) (acc : List Int) (oa : Option Addr) (oc : Nat), i ≤ s.size ∧ iv = .int .i64 i ∧ v = .slice oa acc.length oc ∧ acc.length ≤ 1 + 2 * i ∧ Hid (acc = 48 :: escL ((strI s).take i)) ∧ Hid (YOut 5 (w.heap.size + 1) wr (.slice oa acc.length oc) acc) ∧ Hid (Blk wr w.heap.size [.int .i64 3, .int .i64 n, .string s]) ∧ w.heap.size + 1 ≤ wr.heap.size ∧ Below w.heap.size w wr) (fun _ iv _ => s.size - (intOf iv).toNat)
  case atStart => exact ⟨0, [48], _, _, Nat.zero_le _, rfl, rfl, by simp, (by simp [escL] : [48] = 48 :: escL ((strI s).take 0)), HY0, HB0, by simp, bw0⟩
  case round =>
    clear HY0 HB0 bw0
    obtain ⟨i, acc, oa, oc, hi1, rfl, rfl, hal, HA, HY, HB, hsz, hb⟩ := hrel
    have c2 : wr.cell? ⟨w.heap.size, 2, none⟩ = some (.string s) := (HB.out 2 (by simp)).1
    have HLT := hid (World.ownsRow.lt HY.out)
    by_cases hlt : i < s.size
    · have hlti : (i : Int) < s.size := by omega
      obtain ⟨b, hbv⟩ : ∃ b : Int, ((s[i]'hlt).toNat : Int) = b := ⟨_, rfl⟩
      have HS : Hid (escL ((strI s).take (i + 1)) = escL ((strI s).take i) ++ esc1 b) := escL_step (by rw [strI_at s i hlt, hbv])
      have HWA : Hid ((wr.alloc (.cells #[.int .u8 b] 5)).ownsRow (w.heap.size + 1) 5 1 (.slice oa acc.length oc) acc.length (acc.map (Value.int .u8))) := World.ownsRow.alloc HY.out _
      have hbw : Below w.heap.size w (wr.alloc (.cells #[.int .u8 b] 5)) := hb.alloc hb.size _
      by_cases hz : b = 0
      · have HE : Hid ((acc ++ [b]) ++ [255] = 48 :: escL ((strI s).take (i + 1))) := (by rw [HS.out, HA.out, hz]; simp [esc1] : (acc ++ [b]) ++ [255] = 48 :: escL ((strI s).take (i + 1)))
        have hzb : (b == 0) = true := by simp [hz]
        clear hz HA HS
        go_wp2_with (first
          | (at_builtin
             refine wpList_append_own _ rfl (.tmp 31) (.tmp 36) 24 rfl (w.heap.size + 1) 5 i0 (.int .u8 0) 1 1 Tryd.underlying24 hi hz0 hz1 hz2 rfl (by decide) _ _ _ rfl HWA.out ⟨wr.heap.size, 0, none⟩ 1 1 [.int .u8 b] rfl rfl (blk_new wr [.int .u8 b] 5).cells (by intro u hu; simp at hu; subst hu; rfl) (by unfold maxLen; omega) (by omega) (by simp; omega) ?_
             intro v2 w2 hown2 hgrow2 hiff2
             clear hiff2
             have b2 : Below w.heap.size w w2 := hbw.grown hgrow2 hbw.size (fun j hj => by have := (HLT.out j hj).1; omega)
             have HB2 : Hid (Blk w2 w.heap.size [.int .i64 3, .int .i64 n, .string s]) := (HB.out.below (below_alloc _ _) (by omega)).grown hgrow2 (by simp; omega) (fun e => by have := (HLT.out _ e.symm).1; omega)
             have hs2 : w.heap.size + 1 ≤ w2.heap.size := by have := hgrow2.size; simp at this; omega
             have HR := hid (YOut.push hown2)
             obtain ⟨oa2, oc2, rfl⟩ := HR.out.form
             have hl2 : (acc ++ [b]).length ≤ acc.length + 1 := by simp
             have c22 : w2.cell? ⟨w.heap.size, 2, none⟩ = some (.string s) := (HB2.out 2 (by simp)).1
             obtain ⟨acc2, hac⟩ : ∃ l, l = acc ++ [b] := ⟨_, rfl⟩
             rw [← hac] at HR hl2 ⊢
             rw [← hac] at HE
             have HLT2 := hid (World.ownsRow.lt HR.out)
             have HWA2 : Hid ((w2.alloc (.cells #[.int .u8 255] 5)).ownsRow (w.heap.size + 1) 5 1 (.slice oa2 acc2.length oc2) acc2.length (acc2.map (Value.int .u8))) := World.ownsRow.alloc HR.out _
             have hbw2 : Below w.heap.size w (w2.alloc (.cells #[.int .u8 255] 5)) := b2.alloc b2.size _
             clear hown2 hgrow2 HY hac HLT hbw hb HWA HB c2)
          | (at_builtin
             refine wpList_append_own _ rfl (.tmp 43) (.tmp 44) 24 rfl (w.heap.size + 1) 5 i0 (.int .u8 0) 1 1 Tryd.underlying24 hi hz0 hz1 hz2 rfl (by decide) _ _ _ rfl HWA2.out ⟨w2.heap.size, 0, none⟩ 1 1 [.int .u8 255] rfl rfl (blk_new w2 [.int .u8 255] 5).cells (by intro u hu; simp at hu; subst hu; rfl) (by unfold maxLen; omega) (by omega) (by simp; omega) ?_
             intro v3 w3 hown3 hgrow3 hiff3
             clear hiff3
             have b3 : Below w.heap.size w w3 := hbw2.grown hgrow3 hbw2.size (fun j hj => by have := (HLT2.out j hj).1; omega)
             have HB3 : Hid (Blk w3 w.heap.size [.int .i64 3, .int .i64 n, .string s]) := (HB2.out.below (below_alloc _ _) (by omega)).grown hgrow3 (by simp; omega) (fun e => by have := (HLT2.out _ e.symm).1; omega)
             have hs3 : w.heap.size + 1 ≤ w3.heap.size := by have := hgrow3.size; simp at this; omega
             have HR3 := hid (YOut.push hown3)
             obtain ⟨oa3, oc3, rfl⟩ := HR3.out.form
             have hl3 : (acc2 ++ [255]).length ≤ acc2.length + 1 := by simp
             obtain ⟨acc3, hac⟩ : ∃ l, l = acc2 ++ [(255 : Int)] := ⟨_, rfl⟩
             rw [← hac] at HR3 hl3 ⊢
             rw [← hac] at HE
             clear hown3 hgrow3 hac HLT2 hbw2 b2 HWA2 HB2 HR c22))
        go_roundw
        case rel => exact ⟨i + 1, acc3, oa3, oc3, by omega, by go_num, rfl, by omega, HE, HR3, HB3, hs3, b3⟩
        case measure => simp [intOf]; omega
      · have HE : Hid (acc ++ [b] = 48 :: escL ((strI s).take (i + 1))) := (by rw [HS.out, HA.out]; simp [esc1, hz] : acc ++ [b] = 48 :: escL ((strI s).take (i + 1)))
        have hzb : (b == 0) = false := by simp [hz]
        clear HA HS
        go_wp2_with (first
          | (at_builtin
             refine wpList_append_own _ rfl (.tmp 31) (.tmp 36) 24 rfl (w.heap.size + 1) 5 i0 (.int .u8 0) 1 1 Tryd.underlying24 hi hz0 hz1 hz2 rfl (by decide) _ _ _ rfl HWA.out ⟨wr.heap.size, 0, none⟩ 1 1 [.int .u8 b] rfl rfl (blk_new wr [.int .u8 b] 5).cells (by intro u hu; simp at hu; subst hu; rfl) (by unfold maxLen; omega) (by omega) (by simp; omega) ?_
             intro v2 w2 hown2 hgrow2 hiff2
             clear hiff2
             have b2 : Below w.heap.size w w2 := hbw.grown hgrow2 hbw.size (fun j hj => by have := (HLT.out j hj).1; omega)
             have HB2 : Hid (Blk w2 w.heap.size [.int .i64 3, .int .i64 n, .string s]) := (HB.out.below (below_alloc _ _) (by omega)).grown hgrow2 (by simp; omega) (fun e => by have := (HLT.out _ e.symm).1; omega)
             have hs2 : w.heap.size + 1 ≤ w2.heap.size := by have := hgrow2.size; simp at this; omega
             have HR := hid (YOut.push hown2)
             obtain ⟨oa2, oc2, rfl⟩ := HR.out.form
             have hl2 : (acc ++ [b]).length ≤ acc.length + 1 := by simp
             have c22 : w2.cell? ⟨w.heap.size, 2, none⟩ = some (.string s) := (HB2.out 2 (by simp)).1
             obtain ⟨acc2, hac⟩ : ∃ l, l = acc ++ [b] := ⟨_, rfl⟩
             rw [← hac] at HR hl2 ⊢
             rw [← hac] at HE
             clear hown2 hgrow2 HY hac HLT hbw hb HWA HB c2))
        go_roundw
        case rel => exact ⟨i + 1, acc2, oa2, oc2, by omega, by go_num, rfl, by omega, HE, HR, HB2, hs2, b2⟩
        case measure => simp [intOf]; omega
    · have hlti : ¬ (i : Int) < s.size := by omega
      have hie : i = s.size := by omega
      have HE : Hid (keyP 3 n s = acc ++ [0, 1]) := (by rw [HK.out, HA.out, List.take_of_length_le (by rw [strI_len]; omega)]; simp : keyP 3 n s = acc ++ [0, 1])
      have HWA : Hid ((wr.alloc (.cells #[.int .u8 0, .int .u8 1] 5)).ownsRow (w.heap.size + 1) 5 1 (.slice oa acc.length oc) acc.length (acc.map (Value.int .u8))) := World.ownsRow.alloc HY.out _
      have hbw : Below w.heap.size w (wr.alloc (.cells #[.int .u8 0, .int .u8 1] 5)) := hb.alloc hb.size _
      clear HY HA HK hie
      go_wp2_with (at_builtin; refine wpList_append_own _ rfl (.tmp 46) (.tmp 47) 24 rfl (w.heap.size + 1) 5 i0 (.int .u8 0) 1 1 Tryd.underlying24 hi hz0 hz1 hz2 rfl (by decide) _ _ _ rfl HWA.out ⟨wr.heap.size, 0, none⟩ 2 2 [.int .u8 0, .int .u8 1] rfl rfl (blk_new wr [.int .u8 0, .int .u8 1] 5).cells (by intro u hu; simp at hu; rcases hu with rfl | rfl <;> rfl) (by unfold maxLen; omega) (by omega) (by simp; omega) ?_; intro v2 w2 hown2 hgrow2 hiff2; clear hiff2)
      have b2 : Below w.heap.size w w2 := hbw.grown hgrow2 hbw.size (fun j hj => by have := (HLT.out j hj).1; omega)
      have HR : Hid (YOut 5 w.heap.size w2 v2 (keyP 3 n s)) := (by rw [HE.out]; exact (YOut.more (ys := [0, 1]) hown2).base (Nat.le_succ _) : YOut 5 w.heap.size w2 v2 (keyP 3 n s))
      clear hown2 hgrow2
      go_wp2
      go_ret
      exact ⟨⟨_, rfl, HR.out⟩, b2⟩
/-- What a value gives in a key: it is there, and not too long. -/
theorem keyP_len (k n : Int) (s : ByteArray) (hs : s.size ≤ 1048576) : 0 < (keyP k n s).length ∧ (keyP k n s).length ≤ 2097160 := by
  unfold keyP
  split
  · simp [beL_len]
  split
  · have := escL_len (strI s)
    rw [strI_len] at this
    simp; omega
  split
  · simp
  split
  · simp [beL_len]
  · simp
end Go.Proofs.YtfgjleifhjegkaaDoor
