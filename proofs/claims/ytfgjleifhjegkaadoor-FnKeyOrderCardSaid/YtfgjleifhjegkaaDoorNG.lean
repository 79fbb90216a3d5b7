import Derived.Test.YtfgjleifhjegkaaDoorIA
import Derived.Test.YtfgjleifhjegkaaDoorKPT
namespace Go.Proofs.YtfgjleifhjegkaaDoor
open Go.ChangeShapes Go.WideShapes Go.ChangeAt Go.RowKit
set_option linter.unusedVariables false
set_option linter.unusedSimpArgs false
set_option maxRecDepth 100000
/-- So many low bytes of a number, the highest first. -/
def shL : Nat → Int → List Int
  | 0, _ => []
  | m + 1, n => n / 2 ^ (8 * m) % 256 :: shL m n
theorem shL_len : ∀ m n, (shL m n).length = m
  | 0, _ => rfl
  | m + 1, n => by unfold shL; rw [List.length_cons, shL_len m]
theorem shL_low : ∀ m (n : Int), shL (m + 1) n = shL m (n / 256) ++ [n % 256]
  | 0, n => by simp [shL]
  | m + 1, n => by
    have ih := shL_low m n
    rw [shL, ih, shL, List.cons_append]
    congr 1
    rw [Int.ediv_ediv_of_nonneg (by decide), show (256 : Int) * 2 ^ (8 * m) = 2 ^ (8 * (m + 1)) by rw [show 8 * (m + 1) = 8 + 8 * m by omega, Int.pow_add]; rfl]
theorem beL_shL : ∀ (m u : Nat), beL m u = shL m (u : Int)
  | 0, _ => rfl
  | m + 1, u => by
    rw [shL_low, beL, beL_shL m (u / 256)]
    rfl
theorem shL_turn {n : Int} (h0 : -9223372036854775808 ≤ n) (h1 : n ≤ 9223372036854775807) : shL 8 (turnN n) = beL 8 (n + 9223372036854775808).toNat := by
  rw [beL_shL]
  unfold turnN
  split
  · rw [Int.toNat_of_nonneg (by omega)]
  · rw [Int.toNat_of_nonneg (by omega)]
    simp only [shL, List.cons.injEq, and_true]
    refine ⟨?_, ?_, ?_, ?_, ?_, ?_, ?_, ?_⟩ <;> simp <;> omega
set_option maxHeartbeats 4000000 in
theorem number_onto (b0 : Nat) (oa : Option Addr) (oc : Nat) (xs : List Int) (n : Int) (m : Nat) (w : World) (h0 : b0 ≤ w.heap.size) (hm : m ≤ 8) (hx : xs.length ≤ 100000000) (h1 : -9223372036854775808 ≤ n) (h2 : n ≤ 9223372036854775807) (HY : YOut 5 b0 w (.slice oa xs.length oc) xs) :
    Calls Tryd.prog 55 #[.slice oa xs.length oc, .int .i64 n, .int .i64 m] w fun e w' => Onto b0 w (xs ++ shL m n) e w' := by
  obtain ⟨i0, hi, hz0, hz1, hz2⟩ := info_parts infoU8
  have HY0 := hid HY
  clear HY
  go_enter Tryd.func55, Tryd.ntmps55
  have hwm : IntKind.i64.wrap ((m : Int) - 1) = (m : Int) - 1 := by simp only [IntKind.wrap_i64, wrap64]; omega
  go_wp2
  go_loopw [0, 7] (fun v iv wr => ∃ (r : Nat) (acc : List Int) (oa : Option Addr) (oc : Nat), r ≤ m ∧ iv = .int .i64 ((r : Int) - 1) ∧ v = .slice oa acc.length oc ∧ acc.length ≤ xs.length + 8 - r ∧ Hid (YOut 5 b0 wr (.slice oa acc.length oc) acc) ∧ Hid (xs ++ shL m n = acc ++ shL r n) ∧ b0 ≤ wr.heap.size ∧ Below b0 w wr) (fun _ iv _ => (intOf iv + 1).toNat)
  case atStart => exact ⟨m, xs, _, _, Nat.le_refl _, rfl, rfl, by omega, HY0, rfl, h0, Below.refl _ _⟩
  case round =>
    clear HY0 hwm
    obtain ⟨r, acc, oa, oc, hr, rfl, rfl, hal, HY, HV, hsz, hb⟩ := hrel
    rcases r with _ | r
    · have HR : Hid (YOut 5 b0 wr (.slice oa acc.length oc) (xs ++ shL m n)) := (by rw [HV.out]; simpa [shL] using HY.out : YOut 5 b0 wr (.slice oa acc.length oc) (xs ++ shL m n))
      clear HY HV
      go_wp2
      go_ret
      exact ⟨⟨_, rfl, HR.out⟩, hb⟩
    · have hr1 : ((r + 1 : Nat) : Int) - 1 = r := by omega
      have hw8 : IntKind.i64.wrap (8 * (r : Int)) = 8 * r := by simp only [IntKind.wrap_i64, wrap64]; omega
      obtain ⟨x, hx1⟩ : ∃ x : Int, n / 2 ^ (8 * r) % 256 = x := ⟨_, rfl⟩
      have HE : Hid (xs ++ shL m n = (acc ++ [x]) ++ shL r n) := (by rw [HV.out, ← hx1]; simp [shL] : xs ++ shL m n = (acc ++ [x]) ++ shL r n)
      have hbw : Below b0 w (wr.alloc (.cells #[.int .u8 x] 5)) := hb.alloc hsz _
      have HLT := hid (World.ownsRow.lt HY.out)
      have hw1 : IntKind.i64.wrap ((r : Int) - 1) = (r : Int) - 1 := by simp only [IntKind.wrap_i64, wrap64]; omega
      rw [hr1]
      clear HV hr1
      go_wp2_with (at_builtin; refine wpList_append_own _ rfl (.tmp 14) (.tmp 20) 24 rfl b0 5 i0 (.int .u8 0) 1 1 Tryd.underlying24 hi hz0 hz1 hz2 rfl (by decide) _ _ _ rfl (World.ownsRow.alloc HY.out _) ⟨wr.heap.size, 0, none⟩ 1 1 [.int .u8 x] rfl rfl (blk_new wr [.int .u8 x] 5).cells (by intro u hu; simp at hu; subst hu; rfl) (by unfold maxLen; omega) (by omega) (by simp; omega) ?_; intro v2 w2 hown2 hgrow2 hiff2; clear hiff2)
      have b2 : Below b0 w w2 := hbw.grown hgrow2 (by simp; omega) (fun j hj => (HLT.out j hj).1)
      have hs2 : b0 ≤ w2.heap.size := by have := hgrow2.size; simp at this; omega
      have HR := hid (YOut.push hown2)
      obtain ⟨oa2, oc2, rfl⟩ := HR.out.form
      have hl2 : (acc ++ [x]).length = acc.length + 1 := by simp
      obtain ⟨acc2, hac⟩ : ∃ l, l = acc ++ [x] := ⟨_, rfl⟩
      rw [← hac] at HR HE hl2 ⊢
      clear hown2 hgrow2 HY hac HLT hbw hb hx1
      go_wp2
      go_roundw
      case rel => exact ⟨r, acc2, oa2, oc2, by omega, by go_num, rfl, by omega, HR, HE, hs2, b2⟩
      case measure => first | (simp [intOf]; done) | (simp [intOf]; omega)
end Go.Proofs.YtfgjleifhjegkaaDoor
namespace Go.Proofs.YtfgjleifhjegkaaDoor
open Go.ChangeShapes Go.WideShapes Go.ChangeAt Go.RowKit
set_option linter.unusedVariables false
set_option linter.unusedSimpArgs false
set_option maxRecDepth 100000
set_option maxHeartbeats 8000000 in
theorem text_onto (b0 : Nat) (oa : Option Addr) (oc : Nat) (xs : List Int) (s : ByteArray) (w : World) (h0 : b0 ≤ w.heap.size) (hx : xs.length ≤ 100000000) (hs : s.size ≤ 1048576) (HY : YOut 5 b0 w (.slice oa xs.length oc) xs) :
    Calls Tryd.prog 57 #[.slice oa xs.length oc, .string s] w fun e w' => Onto b0 w (xs ++ (escL (strI s) ++ [0, 1])) e w' := by
  obtain ⟨i0, hi, hz0, hz1, hz2⟩ := info_parts infoU8
  have HY0 := hid HY
  clear HY
  go_enter Tryd.func57, Tryd.ntmps57
  go_wp2
  go_loopw [0, 8] (fun v iv wr => ∃ (i : Nat) (acc : List Int) (oa : Option Addr) (oc : Nat), i ≤ s.size ∧ iv = .int .i64 i ∧ v = .slice oa acc.length oc ∧ acc.length ≤ xs.length + 2 * i ∧ Hid (acc = xs ++ escL ((strI s).take i)) ∧ Hid (YOut 5 b0 wr (.slice oa acc.length oc) acc) ∧ b0 ≤ wr.heap.size ∧ Below b0 w wr) (fun _ iv _ => s.size - (intOf iv).toNat)
  case atStart => exact ⟨0, xs, _, _, Nat.zero_le _, rfl, rfl, by omega, (by simp [escL] : xs = xs ++ escL ((strI s).take 0)), HY0, h0, Below.refl _ _⟩
  case round =>
    clear HY0
    obtain ⟨i, acc, oa, oc, hi1, rfl, rfl, hal, HA, HY, hsz, hb⟩ := hrel
    have HLT := hid (World.ownsRow.lt HY.out)
    by_cases hlt : i < s.size
    · have hlti : (i : Int) < s.size := by omega
      obtain ⟨b, hbv⟩ : ∃ b : Int, ((s[i]'hlt).toNat : Int) = b := ⟨_, rfl⟩
      have HS : Hid (escL ((strI s).take (i + 1)) = escL ((strI s).take i) ++ esc1 b) := escL_step (by rw [strI_at s i hlt, hbv])
      have HWA : Hid ((wr.alloc (.cells #[.int .u8 b] 5)).ownsRow b0 5 1 (.slice oa acc.length oc) acc.length (acc.map (Value.int .u8))) := World.ownsRow.alloc HY.out _
      have hbw : Below b0 w (wr.alloc (.cells #[.int .u8 b] 5)) := hb.alloc hsz _
      by_cases hz : b = 0
      · have HE : Hid ((acc ++ [b]) ++ [255] = xs ++ escL ((strI s).take (i + 1))) := (by rw [HS.out, HA.out, hz]; simp [esc1] : (acc ++ [b]) ++ [255] = xs ++ escL ((strI s).take (i + 1)))
        have hzb : (b == 0) = true := by simp [hz]
        clear hz HA HS
        go_wp2_with (first
          | (at_builtin
             refine wpList_append_own _ rfl (.tmp 11) (.tmp 15) 24 rfl b0 5 i0 (.int .u8 0) 1 1 Tryd.underlying24 hi hz0 hz1 hz2 rfl (by decide) _ _ _ rfl HWA.out ⟨wr.heap.size, 0, none⟩ 1 1 [.int .u8 b] rfl rfl (blk_new wr [.int .u8 b] 5).cells (by intro u hu; simp at hu; subst hu; rfl) (by unfold maxLen; omega) (by omega) (by simp; omega) ?_
             intro v2 w2 hown2 hgrow2 hiff2
             clear hiff2
             have b2 : Below b0 w w2 := hbw.grown hgrow2 (by simp; omega) (fun j hj => (HLT.out j hj).1)
             have hs2 : b0 ≤ w2.heap.size := by have := hgrow2.size; simp at this; omega
             have HR := hid (YOut.push hown2)
             obtain ⟨oa2, oc2, rfl⟩ := HR.out.form
             have hl2 : (acc ++ [b]).length ≤ acc.length + 1 := by simp
             obtain ⟨acc2, hac⟩ : ∃ l, l = acc ++ [b] := ⟨_, rfl⟩
             rw [← hac] at HR hl2 ⊢
             rw [← hac] at HE
             have HLT2 := hid (World.ownsRow.lt HR.out)
             have HWA2 : Hid ((w2.alloc (.cells #[.int .u8 255] 5)).ownsRow b0 5 1 (.slice oa2 acc2.length oc2) acc2.length (acc2.map (Value.int .u8))) := World.ownsRow.alloc HR.out _
             have hbw2 : Below b0 w (w2.alloc (.cells #[.int .u8 255] 5)) := b2.alloc hs2 _
             clear hown2 hgrow2 HY hac HLT hbw hb HWA)
          | (at_builtin
             refine wpList_append_own _ rfl (.tmp 21) (.tmp 22) 24 rfl b0 5 i0 (.int .u8 0) 1 1 Tryd.underlying24 hi hz0 hz1 hz2 rfl (by decide) _ _ _ rfl HWA2.out ⟨w2.heap.size, 0, none⟩ 1 1 [.int .u8 255] rfl rfl (blk_new w2 [.int .u8 255] 5).cells (by intro u hu; simp at hu; subst hu; rfl) (by unfold maxLen; omega) (by omega) (by simp; omega) ?_
             intro v3 w3 hown3 hgrow3 hiff3
             clear hiff3
             have b3 : Below b0 w w3 := hbw2.grown hgrow3 (by simp; omega) (fun j hj => (HLT2.out j hj).1)
             have hs3 : b0 ≤ w3.heap.size := by have := hgrow3.size; simp at this; omega
             have HR3 := hid (YOut.push hown3)
             obtain ⟨oa3, oc3, rfl⟩ := HR3.out.form
             have hl3 : (acc2 ++ [255]).length ≤ acc2.length + 1 := by simp
             obtain ⟨acc3, hac⟩ : ∃ l, l = acc2 ++ [(255 : Int)] := ⟨_, rfl⟩
             rw [← hac] at HR3 hl3 ⊢
             rw [← hac] at HE
             clear hown3 hgrow3 hac HLT2 hbw2 b2 HWA2 HR))
        go_roundw
        case rel => exact ⟨i + 1, acc3, oa3, oc3, by omega, by go_num, rfl, by omega, HE, HR3, hs3, b3⟩
        case measure => simp [intOf]; omega
      · have HE : Hid (acc ++ [b] = xs ++ escL ((strI s).take (i + 1))) := (by rw [HS.out, HA.out]; simp [esc1, hz] : acc ++ [b] = xs ++ escL ((strI s).take (i + 1)))
        have hzb : (b == 0) = false := by simp [hz]
        clear hz HA HS
        go_wp2_with (at_builtin
                     refine wpList_append_own _ rfl (.tmp 11) (.tmp 15) 24 rfl b0 5 i0 (.int .u8 0) 1 1 Tryd.underlying24 hi hz0 hz1 hz2 rfl (by decide) _ _ _ rfl HWA.out ⟨wr.heap.size, 0, none⟩ 1 1 [.int .u8 b] rfl rfl (blk_new wr [.int .u8 b] 5).cells (by intro u hu; simp at hu; subst hu; rfl) (by unfold maxLen; omega) (by omega) (by simp; omega) ?_
                     intro v2 w2 hown2 hgrow2 hiff2
                     clear hiff2
                     have b2 : Below b0 w w2 := hbw.grown hgrow2 (by simp; omega) (fun j hj => (HLT.out j hj).1)
                     have hs2 : b0 ≤ w2.heap.size := by have := hgrow2.size; simp at this; omega
                     have HR := hid (YOut.push hown2)
                     obtain ⟨oa2, oc2, rfl⟩ := HR.out.form
                     have hl2 : (acc ++ [b]).length ≤ acc.length + 1 := by simp
                     obtain ⟨acc2, hac⟩ : ∃ l, l = acc ++ [b] := ⟨_, rfl⟩
                     rw [← hac] at HR hl2 ⊢
                     rw [← hac] at HE
                     clear hown2 hgrow2 HY hac HLT hbw hb HWA)
        go_roundw
        case rel => exact ⟨i + 1, acc2, oa2, oc2, by omega, by go_num, rfl, by omega, HE, HR, hs2, b2⟩
        case measure => simp [intOf]; omega
    · have hie : i = s.size := by omega
      have HE : Hid (xs ++ (escL (strI s) ++ [0, 1]) = acc ++ [0, 1]) := (by rw [HA.out, List.take_of_length_le (by rw [strI_len]; omega)]; simp : xs ++ (escL (strI s) ++ [0, 1]) = acc ++ [0, 1])
      have hlti : ¬ (i : Int) < s.size := by omega
      have HWA : Hid ((wr.alloc (.cells #[.int .u8 0, .int .u8 1] 5)).ownsRow b0 5 1 (.slice oa acc.length oc) acc.length (acc.map (Value.int .u8))) := World.ownsRow.alloc HY.out _
      have hbw : Below b0 w (wr.alloc (.cells #[.int .u8 0, .int .u8 1] 5)) := hb.alloc hsz _
      clear HA hie
      go_wp2_with (at_builtin
                   refine wpList_append_own _ rfl (.tmp 25) (.tmp 26) 24 rfl b0 5 i0 (.int .u8 0) 1 1 Tryd.underlying24 hi hz0 hz1 hz2 rfl (by decide) _ _ _ rfl HWA.out ⟨wr.heap.size, 0, none⟩ 2 2 [.int .u8 0, .int .u8 1] rfl rfl (blk_new wr [.int .u8 0, .int .u8 1] 5).cells (by intro u hu; simp at hu; rcases hu with rfl | rfl <;> rfl) (by unfold maxLen; omega) (by omega) (by simp; omega) ?_
                   intro v2 w2 hown2 hgrow2 hiff2
                   clear hiff2
                   have b2 : Below b0 w w2 := hbw.grown hgrow2 (by simp; omega) (fun j hj => (HLT.out j hj).1)
                   have HR : Hid (YOut 5 b0 w2 v2 (xs ++ (escL (strI s) ++ [0, 1]))) := (by rw [HE.out]; exact YOut.more (ys := [0, 1]) hown2 : YOut 5 b0 w2 v2 (xs ++ (escL (strI s) ++ [0, 1])))
                   clear hown2 hgrow2)
      go_ret
      exact ⟨⟨_, rfl, HR.out⟩, b2⟩
end Go.Proofs.YtfgjleifhjegkaaDoor
namespace Go.Proofs.YtfgjleifhjegkaaDoor
open Go.ChangeShapes Go.WideShapes Go.ChangeAt Go.RowKit
set_option linter.unusedVariables false
set_option linter.unusedSimpArgs false
set_option maxRecDepth 100000
theorem turnN_lo {n : Int} (h0 : -9223372036854775808 ≤ n) (h1 : n ≤ 9223372036854775807) : -9223372036854775808 ≤ turnN n ∧ turnN n ≤ 9223372036854775807 := by
  unfold turnN; split <;> omega
set_option maxHeartbeats 8000000 in
theorem kpo0 (b0 : Nat) (oa : Option Addr) (oc : Nat) (xs : List Int) (n : Int) (s : ByteArray) (w : World) (h0 : b0 ≤ w.heap.size) (hx : xs.length ≤ 90000000) (HY : YOut 5 b0 w (.slice oa xs.length oc) xs) :
    Calls Tryd.prog 33 #[.slice oa xs.length oc, .agg #[.int .i64 0, .int .i64 n, .string s]] w fun e w' => Onto b0 w (xs ++ keyP 0 n s) e w' := by
  obtain ⟨i0, hi, hz0, hz1, hz2⟩ := info_parts infoU8
  have HK : Hid (keyP 0 n s = 0 :: []) := (by unfold keyP; simp : keyP 0 n s = 0 :: [])
  have HE : Hid (xs ++ keyP 0 n s = (xs ++ [0]) ++ []) := (by rw [HK.out]; simp : xs ++ keyP 0 n s = (xs ++ [0]) ++ [])
  have HYA : Hid (YOut 5 b0 ((w.alloc (.cells #[.int .i64 0, .int .i64 n, .string s] 39)).alloc (.cells #[.int .u8 0] 5)) (.slice oa xs.length oc) xs) := World.ownsRow.alloc (World.ownsRow.alloc HY _) _
  have HBA : Hid (Blk ((w.alloc (.cells #[.int .i64 0, .int .i64 n, .string s] 39)).alloc (.cells #[.int .u8 0] 5)) w.heap.size [.int .i64 0, .int .i64 n, .string s]) := (blk_new w [.int .i64 0, .int .i64 n, .string s] 39).below (below_alloc _ _) (by simp)
  have HCA : Hid (∀ j u, ([.int .u8 0] : List Value)[j]? = some u → ((w.alloc (.cells #[.int .i64 0, .int .i64 n, .string s] 39)).alloc (.cells #[.int .u8 0] 5)).cell? ((⟨w.heap.size + 1, 0, none⟩ : Addr).add j) = some u) := (by
    have := (blk_new (w.alloc (.cells #[.int .i64 0, .int .i64 n, .string s] 39)) [.int .u8 0] 5).cells
    simpa using this : ∀ j u, ([.int .u8 0] : List Value)[j]? = some u → ((w.alloc (.cells #[.int .i64 0, .int .i64 n, .string s] 39)).alloc (.cells #[.int .u8 0] 5)).cell? ((⟨w.heap.size + 1, 0, none⟩ : Addr).add j) = some u)
  have bwA : Below b0 w ((w.alloc (.cells #[.int .i64 0, .int .i64 n, .string s] 39)).alloc (.cells #[.int .u8 0] 5)) := ((Below.refl b0 w).alloc h0 _).alloc (by simp; omega) _
  have HLT := hid (World.ownsRow.lt HY)
  clear HY HK
  go_enter Tryd.func33, Tryd.ntmps33
  go_wp2_with (first
    | (at_builtin
       refine wpList_append_own _ rfl (.tmp 5) (.tmp 10) 24 rfl b0 5 i0 (.int .u8 0) 1 1 Tryd.underlying24 hi hz0 hz1 hz2 rfl (by decide) _ _ _ rfl HYA.out ⟨w.heap.size + 1, 0, none⟩ 1 1 [.int .u8 0] rfl rfl HCA.out (by intro u hu; simp at hu; subst hu; rfl) (by unfold maxLen; omega) (by omega) (by simp; omega) ?_
       intro v2 w2 hown2 hgrow2 hiff2
       clear hiff2
       have b2 : Below b0 w w2 := bwA.grown hgrow2 (by simp; omega) (fun j hj => (HLT.out j hj).1)
       have HB2 : Hid (Blk w2 w.heap.size [.int .i64 0, .int .i64 n, .string s]) := HBA.out.grown hgrow2 (by simp; omega) (fun e => by have := (HLT.out _ e.symm).2; omega)
       have hs2 : w.heap.size < w2.heap.size := by have := hgrow2.size; simp at this; omega
       have hs3 : b0 ≤ w2.heap.size := by omega
       have HR := hid (YOut.push hown2)
       obtain ⟨oa2, oc2, rfl⟩ := HR.out.form
       have hl2 : (xs ++ [0]).length ≤ xs.length + 1 := by simp
       have d0 : w2.cell? ⟨w.heap.size, 0, none⟩ = some (.int .i64 0) := (HB2.out 0 (by simp)).1
       have d1 : w2.cell? ⟨w.heap.size, 1, none⟩ = some (.int .i64 n) := (HB2.out 1 (by simp)).1
       have d2 : w2.cell? ⟨w.heap.size, 2, none⟩ = some (.string s) := (HB2.out 2 (by simp)).1
       obtain ⟨acc2, hac⟩ : ∃ l, l = xs ++ [(0 : Int)] := ⟨_, rfl⟩
       have hp2 : 0 < (xs ++ [(0 : Int)]).length := by simp
       rw [← hac] at HR hl2 hp2 ⊢
       rw [← hac] at HE
       have hl3 : acc2.length ≤ 100000000 := by omega
       clear hown2 hgrow2 HYA HBA HCA hac HLT bwA))
  have HF : Hid (YOut 5 b0 w2 (.slice oa2 acc2.length oc2) (xs ++ keyP 0 n s)) := (by rw [HE.out, List.append_nil]; exact HR.out : YOut 5 b0 w2 (.slice oa2 acc2.length oc2) (xs ++ keyP 0 n s))
  go_ret
  exact ⟨⟨_, rfl, HF.out⟩, b2⟩
set_option maxHeartbeats 8000000 in
theorem kpo1 (b0 : Nat) (oa : Option Addr) (oc : Nat) (xs : List Int) (n : Int) (s : ByteArray) (w : World) (h0 : b0 ≤ w.heap.size) (hx : xs.length ≤ 90000000) (h1 : -9223372036854775808 ≤ n) (h2 : n ≤ 9223372036854775807) (HY : YOut 5 b0 w (.slice oa xs.length oc) xs) :
    Calls Tryd.prog 33 #[.slice oa xs.length oc, .agg #[.int .i64 1, .int .i64 n, .string s]] w fun e w' => Onto b0 w (xs ++ keyP 1 n s) e w' := by
  obtain ⟨i0, hi, hz0, hz1, hz2⟩ := info_parts infoU8
  have HK : Hid (keyP 1 n s = 16 :: beL 8 (n + 9223372036854775808).toNat) := (by unfold keyP; simp : keyP 1 n s = 16 :: beL 8 (n + 9223372036854775808).toNat)
  have HE : Hid (xs ++ keyP 1 n s = (xs ++ [16]) ++ beL 8 (n + 9223372036854775808).toNat) := (by rw [HK.out]; simp : xs ++ keyP 1 n s = (xs ++ [16]) ++ beL 8 (n + 9223372036854775808).toNat)
  have HYA : Hid (YOut 5 b0 ((w.alloc (.cells #[.int .i64 1, .int .i64 n, .string s] 39)).alloc (.cells #[.int .u8 16] 5)) (.slice oa xs.length oc) xs) := World.ownsRow.alloc (World.ownsRow.alloc HY _) _
  have HBA : Hid (Blk ((w.alloc (.cells #[.int .i64 1, .int .i64 n, .string s] 39)).alloc (.cells #[.int .u8 16] 5)) w.heap.size [.int .i64 1, .int .i64 n, .string s]) := (blk_new w [.int .i64 1, .int .i64 n, .string s] 39).below (below_alloc _ _) (by simp)
  have HCA : Hid (∀ j u, ([.int .u8 16] : List Value)[j]? = some u → ((w.alloc (.cells #[.int .i64 1, .int .i64 n, .string s] 39)).alloc (.cells #[.int .u8 16] 5)).cell? ((⟨w.heap.size + 1, 0, none⟩ : Addr).add j) = some u) := (by
    have := (blk_new (w.alloc (.cells #[.int .i64 1, .int .i64 n, .string s] 39)) [.int .u8 16] 5).cells
    simpa using this : ∀ j u, ([.int .u8 16] : List Value)[j]? = some u → ((w.alloc (.cells #[.int .i64 1, .int .i64 n, .string s] 39)).alloc (.cells #[.int .u8 16] 5)).cell? ((⟨w.heap.size + 1, 0, none⟩ : Addr).add j) = some u)
  have bwA : Below b0 w ((w.alloc (.cells #[.int .i64 1, .int .i64 n, .string s] 39)).alloc (.cells #[.int .u8 16] 5)) := ((Below.refl b0 w).alloc h0 _).alloc (by simp; omega) _
  have HLT := hid (World.ownsRow.lt HY)
  clear HY HK
  obtain ⟨ht1, ht2⟩ := turnN_lo h1 h2
  rw [← shL_turn h1 h2] at HE
  go_enter Tryd.func33, Tryd.ntmps33
  go_wp2_with (first
    | (at_builtin
       refine wpList_append_own _ rfl (.tmp 5) (.tmp 10) 24 rfl b0 5 i0 (.int .u8 0) 1 1 Tryd.underlying24 hi hz0 hz1 hz2 rfl (by decide) _ _ _ rfl HYA.out ⟨w.heap.size + 1, 0, none⟩ 1 1 [.int .u8 16] rfl rfl HCA.out (by intro u hu; simp at hu; subst hu; rfl) (by unfold maxLen; omega) (by omega) (by simp; omega) ?_
       intro v2 w2 hown2 hgrow2 hiff2
       clear hiff2
       have b2 : Below b0 w w2 := bwA.grown hgrow2 (by simp; omega) (fun j hj => (HLT.out j hj).1)
       have HB2 : Hid (Blk w2 w.heap.size [.int .i64 1, .int .i64 n, .string s]) := HBA.out.grown hgrow2 (by simp; omega) (fun e => by have := (HLT.out _ e.symm).2; omega)
       have hs2 : w.heap.size < w2.heap.size := by have := hgrow2.size; simp at this; omega
       have hs3 : b0 ≤ w2.heap.size := by omega
       have HR := hid (YOut.push hown2)
       obtain ⟨oa2, oc2, rfl⟩ := HR.out.form
       have hl2 : (xs ++ [16]).length ≤ xs.length + 1 := by simp
       have d0 : w2.cell? ⟨w.heap.size, 0, none⟩ = some (.int .i64 1) := (HB2.out 0 (by simp)).1
       have d1 : w2.cell? ⟨w.heap.size, 1, none⟩ = some (.int .i64 n) := (HB2.out 1 (by simp)).1
       have d2 : w2.cell? ⟨w.heap.size, 2, none⟩ = some (.string s) := (HB2.out 2 (by simp)).1
       obtain ⟨acc2, hac⟩ : ∃ l, l = xs ++ [(16 : Int)] := ⟨_, rfl⟩
       have hp2 : 0 < (xs ++ [(16 : Int)]).length := by simp
       rw [← hac] at HR hl2 hp2 ⊢
       rw [← hac] at HE
       have hl3 : acc2.length ≤ 100000000 := by omega
       clear hown2 hgrow2 HYA HBA HCA hac HLT bwA)
    | (go_at_call 56
       refine (turned_impl n _ h1 h2).mono ?_
       rintro e w3 ⟨rfl, hw3⟩
       replace hw3 := hw3.symm
       subst hw3)
    | (go_at_call 55
       refine (number_onto b0 _ _ acc2 (turnN n) 8 _ hs3 (by decide) hl3 ht1 ht2 HR.out).mono ?_
       rintro e w3 ⟨⟨v3, rfl, HR3⟩, b3⟩
       have HF : Hid (YOut 5 b0 w3 v3 (xs ++ keyP 1 n s)) := (by rw [HE.out]; exact HR3 : YOut 5 b0 w3 v3 (xs ++ keyP 1 n s))
       clear HR3))
  go_ret
  exact ⟨⟨_, rfl, HF.out⟩, b2.trans b3⟩
set_option maxHeartbeats 8000000 in
theorem kpo2 (b0 : Nat) (oa : Option Addr) (oc : Nat) (xs : List Int) (n : Int) (s : ByteArray) (w : World) (h0 : b0 ≤ w.heap.size) (hx : xs.length ≤ 90000000) (h1 : -9223372036854775808 ≤ n) (h2 : n ≤ 9223372036854775807) (HY : YOut 5 b0 w (.slice oa xs.length oc) xs) :
    Calls Tryd.prog 33 #[.slice oa xs.length oc, .agg #[.int .i64 2, .int .i64 n, .string s]] w fun e w' => Onto b0 w (xs ++ keyP 2 n s) e w' := by
  obtain ⟨i0, hi, hz0, hz1, hz2⟩ := info_parts infoU8
  have HK : Hid (keyP 2 n s = 32 :: beL 8 (n + 9223372036854775808).toNat) := (by unfold keyP; simp : keyP 2 n s = 32 :: beL 8 (n + 9223372036854775808).toNat)
  have HE : Hid (xs ++ keyP 2 n s = (xs ++ [32]) ++ beL 8 (n + 9223372036854775808).toNat) := (by rw [HK.out]; simp : xs ++ keyP 2 n s = (xs ++ [32]) ++ beL 8 (n + 9223372036854775808).toNat)
  have HYA : Hid (YOut 5 b0 ((w.alloc (.cells #[.int .i64 2, .int .i64 n, .string s] 39)).alloc (.cells #[.int .u8 32] 5)) (.slice oa xs.length oc) xs) := World.ownsRow.alloc (World.ownsRow.alloc HY _) _
  have HBA : Hid (Blk ((w.alloc (.cells #[.int .i64 2, .int .i64 n, .string s] 39)).alloc (.cells #[.int .u8 32] 5)) w.heap.size [.int .i64 2, .int .i64 n, .string s]) := (blk_new w [.int .i64 2, .int .i64 n, .string s] 39).below (below_alloc _ _) (by simp)
  have HCA : Hid (∀ j u, ([.int .u8 32] : List Value)[j]? = some u → ((w.alloc (.cells #[.int .i64 2, .int .i64 n, .string s] 39)).alloc (.cells #[.int .u8 32] 5)).cell? ((⟨w.heap.size + 1, 0, none⟩ : Addr).add j) = some u) := (by
    have := (blk_new (w.alloc (.cells #[.int .i64 2, .int .i64 n, .string s] 39)) [.int .u8 32] 5).cells
    simpa using this : ∀ j u, ([.int .u8 32] : List Value)[j]? = some u → ((w.alloc (.cells #[.int .i64 2, .int .i64 n, .string s] 39)).alloc (.cells #[.int .u8 32] 5)).cell? ((⟨w.heap.size + 1, 0, none⟩ : Addr).add j) = some u)
  have bwA : Below b0 w ((w.alloc (.cells #[.int .i64 2, .int .i64 n, .string s] 39)).alloc (.cells #[.int .u8 32] 5)) := ((Below.refl b0 w).alloc h0 _).alloc (by simp; omega) _
  have HLT := hid (World.ownsRow.lt HY)
  clear HY HK
  obtain ⟨ht1, ht2⟩ := turnN_lo h1 h2
  rw [← shL_turn h1 h2] at HE
  go_enter Tryd.func33, Tryd.ntmps33
  go_wp2_with (first
    | (at_builtin
       refine wpList_append_own _ rfl (.tmp 5) (.tmp 10) 24 rfl b0 5 i0 (.int .u8 0) 1 1 Tryd.underlying24 hi hz0 hz1 hz2 rfl (by decide) _ _ _ rfl HYA.out ⟨w.heap.size + 1, 0, none⟩ 1 1 [.int .u8 32] rfl rfl HCA.out (by intro u hu; simp at hu; subst hu; rfl) (by unfold maxLen; omega) (by omega) (by simp; omega) ?_
       intro v2 w2 hown2 hgrow2 hiff2
       clear hiff2
       have b2 : Below b0 w w2 := bwA.grown hgrow2 (by simp; omega) (fun j hj => (HLT.out j hj).1)
       have HB2 : Hid (Blk w2 w.heap.size [.int .i64 2, .int .i64 n, .string s]) := HBA.out.grown hgrow2 (by simp; omega) (fun e => by have := (HLT.out _ e.symm).2; omega)
       have hs2 : w.heap.size < w2.heap.size := by have := hgrow2.size; simp at this; omega
       have hs3 : b0 ≤ w2.heap.size := by omega
       have HR := hid (YOut.push hown2)
       obtain ⟨oa2, oc2, rfl⟩ := HR.out.form
       have hl2 : (xs ++ [32]).length ≤ xs.length + 1 := by simp
       have d0 : w2.cell? ⟨w.heap.size, 0, none⟩ = some (.int .i64 2) := (HB2.out 0 (by simp)).1
       have d1 : w2.cell? ⟨w.heap.size, 1, none⟩ = some (.int .i64 n) := (HB2.out 1 (by simp)).1
       have d2 : w2.cell? ⟨w.heap.size, 2, none⟩ = some (.string s) := (HB2.out 2 (by simp)).1
       obtain ⟨acc2, hac⟩ : ∃ l, l = xs ++ [(32 : Int)] := ⟨_, rfl⟩
       have hp2 : 0 < (xs ++ [(32 : Int)]).length := by simp
       rw [← hac] at HR hl2 hp2 ⊢
       rw [← hac] at HE
       have hl3 : acc2.length ≤ 100000000 := by omega
       clear hown2 hgrow2 HYA HBA HCA hac HLT bwA)
    | (go_at_call 56
       refine (turned_impl n _ h1 h2).mono ?_
       rintro e w3 ⟨rfl, hw3⟩
       replace hw3 := hw3.symm
       subst hw3)
    | (go_at_call 55
       refine (number_onto b0 _ _ acc2 (turnN n) 8 _ hs3 (by decide) hl3 ht1 ht2 HR.out).mono ?_
       rintro e w3 ⟨⟨v3, rfl, HR3⟩, b3⟩
       have HF : Hid (YOut 5 b0 w3 v3 (xs ++ keyP 2 n s)) := (by rw [HE.out]; exact HR3 : YOut 5 b0 w3 v3 (xs ++ keyP 2 n s))
       clear HR3))
  go_ret
  exact ⟨⟨_, rfl, HF.out⟩, b2.trans b3⟩
set_option maxHeartbeats 8000000 in
theorem kpo3 (b0 : Nat) (oa : Option Addr) (oc : Nat) (xs : List Int) (n : Int) (s : ByteArray) (w : World) (h0 : b0 ≤ w.heap.size) (hx : xs.length ≤ 90000000) (hs : s.size ≤ 1048576) (HY : YOut 5 b0 w (.slice oa xs.length oc) xs) :
    Calls Tryd.prog 33 #[.slice oa xs.length oc, .agg #[.int .i64 3, .int .i64 n, .string s]] w fun e w' => Onto b0 w (xs ++ keyP 3 n s) e w' := by
  obtain ⟨i0, hi, hz0, hz1, hz2⟩ := info_parts infoU8
  have HK : Hid (keyP 3 n s = 48 :: (escL (strI s) ++ [0, 1])) := (by unfold keyP; simp : keyP 3 n s = 48 :: (escL (strI s) ++ [0, 1]))
  have HE : Hid (xs ++ keyP 3 n s = (xs ++ [48]) ++ (escL (strI s) ++ [0, 1])) := (by rw [HK.out]; simp : xs ++ keyP 3 n s = (xs ++ [48]) ++ (escL (strI s) ++ [0, 1]))
  have HYA : Hid (YOut 5 b0 ((w.alloc (.cells #[.int .i64 3, .int .i64 n, .string s] 39)).alloc (.cells #[.int .u8 48] 5)) (.slice oa xs.length oc) xs) := World.ownsRow.alloc (World.ownsRow.alloc HY _) _
  have HBA : Hid (Blk ((w.alloc (.cells #[.int .i64 3, .int .i64 n, .string s] 39)).alloc (.cells #[.int .u8 48] 5)) w.heap.size [.int .i64 3, .int .i64 n, .string s]) := (blk_new w [.int .i64 3, .int .i64 n, .string s] 39).below (below_alloc _ _) (by simp)
  have HCA : Hid (∀ j u, ([.int .u8 48] : List Value)[j]? = some u → ((w.alloc (.cells #[.int .i64 3, .int .i64 n, .string s] 39)).alloc (.cells #[.int .u8 48] 5)).cell? ((⟨w.heap.size + 1, 0, none⟩ : Addr).add j) = some u) := (by
    have := (blk_new (w.alloc (.cells #[.int .i64 3, .int .i64 n, .string s] 39)) [.int .u8 48] 5).cells
    simpa using this : ∀ j u, ([.int .u8 48] : List Value)[j]? = some u → ((w.alloc (.cells #[.int .i64 3, .int .i64 n, .string s] 39)).alloc (.cells #[.int .u8 48] 5)).cell? ((⟨w.heap.size + 1, 0, none⟩ : Addr).add j) = some u)
  have bwA : Below b0 w ((w.alloc (.cells #[.int .i64 3, .int .i64 n, .string s] 39)).alloc (.cells #[.int .u8 48] 5)) := ((Below.refl b0 w).alloc h0 _).alloc (by simp; omega) _
  have HLT := hid (World.ownsRow.lt HY)
  clear HY HK
  go_enter Tryd.func33, Tryd.ntmps33
  go_wp2_with (first
    | (at_builtin
       refine wpList_append_own _ rfl (.tmp 5) (.tmp 10) 24 rfl b0 5 i0 (.int .u8 0) 1 1 Tryd.underlying24 hi hz0 hz1 hz2 rfl (by decide) _ _ _ rfl HYA.out ⟨w.heap.size + 1, 0, none⟩ 1 1 [.int .u8 48] rfl rfl HCA.out (by intro u hu; simp at hu; subst hu; rfl) (by unfold maxLen; omega) (by omega) (by simp; omega) ?_
       intro v2 w2 hown2 hgrow2 hiff2
       clear hiff2
       have b2 : Below b0 w w2 := bwA.grown hgrow2 (by simp; omega) (fun j hj => (HLT.out j hj).1)
       have HB2 : Hid (Blk w2 w.heap.size [.int .i64 3, .int .i64 n, .string s]) := HBA.out.grown hgrow2 (by simp; omega) (fun e => by have := (HLT.out _ e.symm).2; omega)
       have hs2 : w.heap.size < w2.heap.size := by have := hgrow2.size; simp at this; omega
       have hs3 : b0 ≤ w2.heap.size := by omega
       have HR := hid (YOut.push hown2)
       obtain ⟨oa2, oc2, rfl⟩ := HR.out.form
       have hl2 : (xs ++ [48]).length ≤ xs.length + 1 := by simp
       have d0 : w2.cell? ⟨w.heap.size, 0, none⟩ = some (.int .i64 3) := (HB2.out 0 (by simp)).1
       have d1 : w2.cell? ⟨w.heap.size, 1, none⟩ = some (.int .i64 n) := (HB2.out 1 (by simp)).1
       have d2 : w2.cell? ⟨w.heap.size, 2, none⟩ = some (.string s) := (HB2.out 2 (by simp)).1
       obtain ⟨acc2, hac⟩ : ∃ l, l = xs ++ [(48 : Int)] := ⟨_, rfl⟩
       have hp2 : 0 < (xs ++ [(48 : Int)]).length := by simp
       rw [← hac] at HR hl2 hp2 ⊢
       rw [← hac] at HE
       have hl3 : acc2.length ≤ 100000000 := by omega
       clear hown2 hgrow2 HYA HBA HCA hac HLT bwA)
    | (go_at_call 57
       refine (text_onto b0 _ _ acc2 s _ hs3 hl3 hs HR.out).mono ?_
       rintro e w3 ⟨⟨v3, rfl, HR3⟩, b3⟩
       have HF : Hid (YOut 5 b0 w3 v3 (xs ++ keyP 3 n s)) := (by rw [HE.out]; exact HR3 : YOut 5 b0 w3 v3 (xs ++ keyP 3 n s))
       clear HR3))
  go_ret
  exact ⟨⟨_, rfl, HF.out⟩, b2.trans b3⟩
set_option maxHeartbeats 8000000 in
theorem kpo4 (b0 : Nat) (oa : Option Addr) (oc : Nat) (xs : List Int) (n : Int) (s : ByteArray) (w : World) (h0 : b0 ≤ w.heap.size) (hx : xs.length ≤ 90000000) (h1 : 0 ≤ n) (h2 : n ≤ 1) (HY : YOut 5 b0 w (.slice oa xs.length oc) xs) :
    Calls Tryd.prog 33 #[.slice oa xs.length oc, .agg #[.int .i64 4, .int .i64 n, .string s]] w fun e w' => Onto b0 w (xs ++ keyP 4 n s) e w' := by
  obtain ⟨i0, hi, hz0, hz1, hz2⟩ := info_parts infoU8
  have HK : Hid (keyP 4 n s = 64 :: [n]) := (by unfold keyP; simp : keyP 4 n s = 64 :: [n])
  have HE : Hid (xs ++ keyP 4 n s = (xs ++ [64]) ++ [n]) := (by rw [HK.out]; simp : xs ++ keyP 4 n s = (xs ++ [64]) ++ [n])
  have HYA : Hid (YOut 5 b0 ((w.alloc (.cells #[.int .i64 4, .int .i64 n, .string s] 39)).alloc (.cells #[.int .u8 64] 5)) (.slice oa xs.length oc) xs) := World.ownsRow.alloc (World.ownsRow.alloc HY _) _
  have HBA : Hid (Blk ((w.alloc (.cells #[.int .i64 4, .int .i64 n, .string s] 39)).alloc (.cells #[.int .u8 64] 5)) w.heap.size [.int .i64 4, .int .i64 n, .string s]) := (blk_new w [.int .i64 4, .int .i64 n, .string s] 39).below (below_alloc _ _) (by simp)
  have HCA : Hid (∀ j u, ([.int .u8 64] : List Value)[j]? = some u → ((w.alloc (.cells #[.int .i64 4, .int .i64 n, .string s] 39)).alloc (.cells #[.int .u8 64] 5)).cell? ((⟨w.heap.size + 1, 0, none⟩ : Addr).add j) = some u) := (by
    have := (blk_new (w.alloc (.cells #[.int .i64 4, .int .i64 n, .string s] 39)) [.int .u8 64] 5).cells
    simpa using this : ∀ j u, ([.int .u8 64] : List Value)[j]? = some u → ((w.alloc (.cells #[.int .i64 4, .int .i64 n, .string s] 39)).alloc (.cells #[.int .u8 64] 5)).cell? ((⟨w.heap.size + 1, 0, none⟩ : Addr).add j) = some u)
  have bwA : Below b0 w ((w.alloc (.cells #[.int .i64 4, .int .i64 n, .string s] 39)).alloc (.cells #[.int .u8 64] 5)) := ((Below.refl b0 w).alloc h0 _).alloc (by simp; omega) _
  have HLT := hid (World.ownsRow.lt HY)
  clear HY HK
  have hsh : shL 1 n = [n] := by simp [shL]; omega
  rw [← hsh] at HE
  clear hsh
  go_enter Tryd.func33, Tryd.ntmps33
  go_wp2_with (first
    | (at_builtin
       refine wpList_append_own _ rfl (.tmp 5) (.tmp 10) 24 rfl b0 5 i0 (.int .u8 0) 1 1 Tryd.underlying24 hi hz0 hz1 hz2 rfl (by decide) _ _ _ rfl HYA.out ⟨w.heap.size + 1, 0, none⟩ 1 1 [.int .u8 64] rfl rfl HCA.out (by intro u hu; simp at hu; subst hu; rfl) (by unfold maxLen; omega) (by omega) (by simp; omega) ?_
       intro v2 w2 hown2 hgrow2 hiff2
       clear hiff2
       have b2 : Below b0 w w2 := bwA.grown hgrow2 (by simp; omega) (fun j hj => (HLT.out j hj).1)
       have HB2 : Hid (Blk w2 w.heap.size [.int .i64 4, .int .i64 n, .string s]) := HBA.out.grown hgrow2 (by simp; omega) (fun e => by have := (HLT.out _ e.symm).2; omega)
       have hs2 : w.heap.size < w2.heap.size := by have := hgrow2.size; simp at this; omega
       have hs3 : b0 ≤ w2.heap.size := by omega
       have HR := hid (YOut.push hown2)
       obtain ⟨oa2, oc2, rfl⟩ := HR.out.form
       have hl2 : (xs ++ [64]).length ≤ xs.length + 1 := by simp
       have d0 : w2.cell? ⟨w.heap.size, 0, none⟩ = some (.int .i64 4) := (HB2.out 0 (by simp)).1
       have d1 : w2.cell? ⟨w.heap.size, 1, none⟩ = some (.int .i64 n) := (HB2.out 1 (by simp)).1
       have d2 : w2.cell? ⟨w.heap.size, 2, none⟩ = some (.string s) := (HB2.out 2 (by simp)).1
       obtain ⟨acc2, hac⟩ : ∃ l, l = xs ++ [(64 : Int)] := ⟨_, rfl⟩
       have hp2 : 0 < (xs ++ [(64 : Int)]).length := by simp
       rw [← hac] at HR hl2 hp2 ⊢
       rw [← hac] at HE
       have hl3 : acc2.length ≤ 100000000 := by omega
       clear hown2 hgrow2 HYA HBA HCA hac HLT bwA)
    | (go_at_call 55
       refine (number_onto b0 _ _ acc2 n 1 _ hs3 (by decide) hl3 (by omega) (by omega) HR.out).mono ?_
       rintro e w3 ⟨⟨v3, rfl, HR3⟩, b3⟩
       have HF : Hid (YOut 5 b0 w3 v3 (xs ++ keyP 4 n s)) := (by rw [HE.out]; exact HR3 : YOut 5 b0 w3 v3 (xs ++ keyP 4 n s))
       clear HR3))
  go_ret
  exact ⟨⟨_, rfl, HF.out⟩, b2.trans b3⟩
set_option maxHeartbeats 8000000 in
theorem kpo5 (b0 : Nat) (oa : Option Addr) (oc : Nat) (xs : List Int) (n : Int) (s : ByteArray) (w : World) (h0 : b0 ≤ w.heap.size) (hx : xs.length ≤ 90000000) (h1 : -719162 ≤ n) (h2 : n ≤ 2932896) (HY : YOut 5 b0 w (.slice oa xs.length oc) xs) :
    Calls Tryd.prog 33 #[.slice oa xs.length oc, .agg #[.int .i64 5, .int .i64 n, .string s]] w fun e w' => Onto b0 w (xs ++ keyP 5 n s) e w' := by
  obtain ⟨i0, hi, hz0, hz1, hz2⟩ := info_parts infoU8
  have HK : Hid (keyP 5 n s = 80 :: beL 4 (n + 2147483648).toNat) := (by unfold keyP; simp : keyP 5 n s = 80 :: beL 4 (n + 2147483648).toNat)
  have HE : Hid (xs ++ keyP 5 n s = (xs ++ [80]) ++ beL 4 (n + 2147483648).toNat) := (by rw [HK.out]; simp : xs ++ keyP 5 n s = (xs ++ [80]) ++ beL 4 (n + 2147483648).toNat)
  have HYA : Hid (YOut 5 b0 ((w.alloc (.cells #[.int .i64 5, .int .i64 n, .string s] 39)).alloc (.cells #[.int .u8 80] 5)) (.slice oa xs.length oc) xs) := World.ownsRow.alloc (World.ownsRow.alloc HY _) _
  have HBA : Hid (Blk ((w.alloc (.cells #[.int .i64 5, .int .i64 n, .string s] 39)).alloc (.cells #[.int .u8 80] 5)) w.heap.size [.int .i64 5, .int .i64 n, .string s]) := (blk_new w [.int .i64 5, .int .i64 n, .string s] 39).below (below_alloc _ _) (by simp)
  have HCA : Hid (∀ j u, ([.int .u8 80] : List Value)[j]? = some u → ((w.alloc (.cells #[.int .i64 5, .int .i64 n, .string s] 39)).alloc (.cells #[.int .u8 80] 5)).cell? ((⟨w.heap.size + 1, 0, none⟩ : Addr).add j) = some u) := (by
    have := (blk_new (w.alloc (.cells #[.int .i64 5, .int .i64 n, .string s] 39)) [.int .u8 80] 5).cells
    simpa using this : ∀ j u, ([.int .u8 80] : List Value)[j]? = some u → ((w.alloc (.cells #[.int .i64 5, .int .i64 n, .string s] 39)).alloc (.cells #[.int .u8 80] 5)).cell? ((⟨w.heap.size + 1, 0, none⟩ : Addr).add j) = some u)
  have bwA : Below b0 w ((w.alloc (.cells #[.int .i64 5, .int .i64 n, .string s] 39)).alloc (.cells #[.int .u8 80] 5)) := ((Below.refl b0 w).alloc h0 _).alloc (by simp; omega) _
  have HLT := hid (World.ownsRow.lt HY)
  clear HY HK
  have hsh : beL 4 (n + 2147483648).toNat = shL 4 (n + 2147483648) := by rw [beL_shL, Int.toNat_of_nonneg (by omega)]
  rw [hsh] at HE
  clear hsh
  have hwn : IntKind.i64.wrap (n + 2147483648) = n + 2147483648 := by simp only [IntKind.wrap_i64, wrap64]; omega
  go_enter Tryd.func33, Tryd.ntmps33
  go_wp2_with (first
    | (at_builtin
       refine wpList_append_own _ rfl (.tmp 5) (.tmp 10) 24 rfl b0 5 i0 (.int .u8 0) 1 1 Tryd.underlying24 hi hz0 hz1 hz2 rfl (by decide) _ _ _ rfl HYA.out ⟨w.heap.size + 1, 0, none⟩ 1 1 [.int .u8 80] rfl rfl HCA.out (by intro u hu; simp at hu; subst hu; rfl) (by unfold maxLen; omega) (by omega) (by simp; omega) ?_
       intro v2 w2 hown2 hgrow2 hiff2
       clear hiff2
       have b2 : Below b0 w w2 := bwA.grown hgrow2 (by simp; omega) (fun j hj => (HLT.out j hj).1)
       have HB2 : Hid (Blk w2 w.heap.size [.int .i64 5, .int .i64 n, .string s]) := HBA.out.grown hgrow2 (by simp; omega) (fun e => by have := (HLT.out _ e.symm).2; omega)
       have hs2 : w.heap.size < w2.heap.size := by have := hgrow2.size; simp at this; omega
       have hs3 : b0 ≤ w2.heap.size := by omega
       have HR := hid (YOut.push hown2)
       obtain ⟨oa2, oc2, rfl⟩ := HR.out.form
       have hl2 : (xs ++ [80]).length ≤ xs.length + 1 := by simp
       have d0 : w2.cell? ⟨w.heap.size, 0, none⟩ = some (.int .i64 5) := (HB2.out 0 (by simp)).1
       have d1 : w2.cell? ⟨w.heap.size, 1, none⟩ = some (.int .i64 n) := (HB2.out 1 (by simp)).1
       have d2 : w2.cell? ⟨w.heap.size, 2, none⟩ = some (.string s) := (HB2.out 2 (by simp)).1
       obtain ⟨acc2, hac⟩ : ∃ l, l = xs ++ [(80 : Int)] := ⟨_, rfl⟩
       have hp2 : 0 < (xs ++ [(80 : Int)]).length := by simp
       rw [← hac] at HR hl2 hp2 ⊢
       rw [← hac] at HE
       have hl3 : acc2.length ≤ 100000000 := by omega
       clear hown2 hgrow2 HYA HBA HCA hac HLT bwA)
    | (go_at_call 55
       refine (number_onto b0 _ _ acc2 (n + 2147483648) 4 _ hs3 (by decide) hl3 (by omega) (by omega) HR.out).mono ?_
       rintro e w3 ⟨⟨v3, rfl, HR3⟩, b3⟩
       have HF : Hid (YOut 5 b0 w3 v3 (xs ++ keyP 5 n s)) := (by rw [HE.out]; exact HR3 : YOut 5 b0 w3 v3 (xs ++ keyP 5 n s))
       clear HR3))
  go_ret
  exact ⟨⟨_, rfl, HF.out⟩, b2.trans b3⟩
end Go.Proofs.YtfgjleifhjegkaaDoor
