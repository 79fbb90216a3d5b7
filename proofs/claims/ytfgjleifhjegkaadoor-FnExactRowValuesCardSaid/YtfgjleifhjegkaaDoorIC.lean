import Derived.Test.YtfgjleifhjegkaaDoorKPT
import Derived.Test.YtfgjleifhjegkaaDoorIA
namespace Go.Proofs.YtfgjleifhjegkaaDoor
open Go.ChangeShapes Go.WideShapes Go.ChangeAt Go.RowKit
set_option linter.unusedVariables false
set_option linter.unusedSimpArgs false
set_option maxRecDepth 100000
theorem YOut.boxNe {ty b q : Nat} {w : World} {v : Value} {xs : List Int} {k : Int} {r : List Value} (h : YOut ty b w v xs) (hp : 0 < xs.length) (hB : Blk w q (.int .i64 k :: r)) : some q ≠ v.ownBlock := by
  obtain ⟨g, cap, rfl, _, _, hc⟩ := h.cells hp
  intro e
  simp [Value.ownBlock] at e
  subst e
  have h0 := (hB 0 (by simp)).1
  have h1 := hc 0 (.int .u8 xs[0]) (by rw [List.getElem?_map, List.getElem?_eq_getElem hp]; rfl)
  rw [Addr.add_lit, Nat.zero_add, h0] at h1
  simp at h1
set_option maxHeartbeats 8000000 in
theorem varint_onto (b0 : Nat) (oa : Option Addr) (oc : Nat) (xs : List Int) (n : Nat) (w : World) (h0 : b0 ≤ w.heap.size) (hx : xs.length ≤ 100000000) (hn : n < 18446744073709551616) (HY : YOut 5 b0 w (.slice oa xs.length oc) xs) (hp : 0 < xs.length) (q : Nat) (bk : Int) (br : List Value) (hq : q < w.heap.size) (hB : Blk w q (.int .i64 bk :: br)) :
    Calls Tryd.prog 58 #[.slice oa xs.length oc, .int .u64 (n : Int)] w fun e w' => Onto b0 w (xs ++ varF 9 n) e w' ∧ Blk w' q (.int .i64 bk :: br) := by
  obtain ⟨i0, hi, hz0, hz1, hz2⟩ := info_parts infoU8
  have HY0 := hid HY
  have HB0 : Hid (Blk w q (.int .i64 bk :: br)) := hB
  clear HY hB
  go_enter Tryd.func58, Tryd.ntmps58
  go_wp2
  go_loopw [0, 1] (fun v uv wr => ∃ (m f : Nat) (acc : List Int) (oa : Option Addr) (oc : Nat), acc.length + f ≤ xs.length + 9 ∧ m < 2 * 128 ^ f ∧ m < 18446744073709551616 ∧ uv = .int .u64 (m : Int) ∧ v = .slice oa acc.length oc ∧ Hid (YOut 5 b0 wr (.slice oa acc.length oc) acc) ∧ Hid (xs ++ varF 9 n = acc ++ varF f m) ∧ 0 < acc.length ∧ q < wr.heap.size ∧ Hid (Blk wr q (.int .i64 bk :: br)) ∧ b0 ≤ wr.heap.size ∧ Below b0 w wr) (fun _ uv _ => (intOf uv).toNat)
  case atStart => exact ⟨n, 9, xs, _, _, Nat.le_refl _, by omega, hn, rfl, rfl, HY0, rfl, hp, hq, HB0, h0, Below.refl _ _⟩
  case round =>
    clear HY0 HB0
    obtain ⟨m, f, acc, oa, oc, hf, hm, hm64, rfl, rfl, HY, HV, hap, hqr, HB, hsz, hb⟩ := hrel
    have HNE := hid (HY.out.boxNe hap HB.out)
    have hal : acc.length ≤ 100000009 := by omega
    by_cases hlt : m < 128
    · have hlti : ¬ (128 : Int) ≤ m := by omega
      have HE : Hid (xs ++ varF 9 n = acc ++ [(m : Int)]) := (by rw [HV.out, varF_small hlt] : xs ++ varF 9 n = acc ++ [(m : Int)])
      have hcv : IntKind.u8.wrap (m : Int) = m := by simp only [IntKind.wrap, IntKind.bits, IntKind.signed]; simp; omega
      have hbw : Below b0 w (wr.alloc (.cells #[.int .u8 (m : Int)] 5)) := hb.alloc hsz _
      have HLT := hid (World.ownsRow.lt HY.out)
      go_wp2_with (at_builtin; refine wpList_append_own _ rfl (.tmp 16) (.tmp 19) 24 rfl b0 5 i0 (.int .u8 0) 1 1 Tryd.underlying24 hi hz0 hz1 hz2 rfl (by decide) _ _ _ rfl (World.ownsRow.alloc HY.out _) ⟨wr.heap.size, 0, none⟩ 1 1 [.int .u8 (m : Int)] rfl rfl (blk_new wr [.int .u8 (m : Int)] 5).cells (by intro u hu; simp at hu; subst hu; rfl) (by unfold maxLen; omega) (by omega) (by simp; omega) ?_; intro v2 w2 hown2 hgrow2 hiff2; clear hiff2)
      have b2 : Below b0 w w2 := hbw.grown hgrow2 (by simp; omega) (fun j hj => (HLT.out j hj).1)
      have HB2 : Hid (Blk w2 q (.int .i64 bk :: br)) := (HB.out.below (below_alloc _ _) hqr).grown hgrow2 (by simp; omega) HNE.out
      have HR : Hid (YOut 5 b0 w2 v2 (xs ++ varF 9 n)) := (by rw [HE.out]; exact YOut.push hown2 : YOut 5 b0 w2 v2 (xs ++ varF 9 n))
      clear hown2 hgrow2
      go_wp2
      go_ret
      exact ⟨⟨⟨_, rfl, HR.out⟩, b2⟩, HB2.out⟩
    · have hlti : (128 : Int) ≤ m := by omega
      rcases f with _ | f
      · exfalso; simp at hm; omega
      have hm2 : m / 128 < 2 * 128 ^ f := Nat.div_lt_of_lt_mul (by rw [Nat.pow_succ] at hm; omega)
      obtain ⟨x, hx1⟩ : ∃ x : Int, x = ((m % 128 + 128 : Nat) : Int) := ⟨_, rfl⟩
      have HE : Hid (xs ++ varF 9 n = (acc ++ [x]) ++ varF f (m / 128)) := (by rw [HV.out, varF_big hlt, hx1]; simp : xs ++ varF 9 n = (acc ++ [x]) ++ varF f (m / 128))
      have hcv : IntKind.u8.wrap ((m : Int) % 128 + 128) = x := by rw [hx1]; simp only [IntKind.wrap, IntKind.bits, IntKind.signed]; simp; omega
      have hbw : Below b0 w (wr.alloc (.cells #[.int .u8 x] 5)) := hb.alloc hsz _
      have HLT := hid (World.ownsRow.lt HY.out)
      have hm128 : (m : Int) % 128 < 128 := by omega
      have hm0 : 0 ≤ (m : Int) % 128 := by omega
      clear hx1 HV
      go_wp2_with (at_builtin; refine wpList_append_own _ rfl (.tmp 9) (.tmp 14) 24 rfl b0 5 i0 (.int .u8 0) 1 1 Tryd.underlying24 hi hz0 hz1 hz2 rfl (by decide) _ _ _ rfl (World.ownsRow.alloc HY.out _) ⟨wr.heap.size, 0, none⟩ 1 1 [.int .u8 x] rfl rfl (blk_new wr [.int .u8 x] 5).cells (by intro u hu; simp at hu; subst hu; rfl) (by unfold maxLen; omega) (by omega) (by simp; omega) ?_; intro v2 w2 hown2 hgrow2 hiff2; clear hiff2)
      have b2 : Below b0 w w2 := hbw.grown hgrow2 (by simp; omega) (fun j hj => (HLT.out j hj).1)
      have hs2 : b0 ≤ w2.heap.size := by have := hgrow2.size; simp at this; omega
      have HB2 : Hid (Blk w2 q (.int .i64 bk :: br)) := (HB.out.below (below_alloc _ _) hqr).grown hgrow2 (by simp; omega) HNE.out
      have hq2 : q < w2.heap.size := by have := hgrow2.size; simp at this; omega
      have HR := hid (YOut.push hown2)
      obtain ⟨oa2, oc2, rfl⟩ := HR.out.form
      have hl2 : (acc ++ [x]).length = acc.length + 1 := by simp
      obtain ⟨acc2, hac⟩ : ∃ l, l = acc ++ [x] := ⟨_, rfl⟩
      rw [← hac] at HR HE hl2 ⊢
      have hap2 : 0 < acc2.length := by omega
      clear hown2 hgrow2 HY hac HLT hbw hb HB HNE
      go_wp2
      go_roundw
      case rel => exact ⟨m / 128, f, acc2, oa2, oc2, by omega, hm2, by omega, by go_num, rfl, HR, HE, hap2, hq2, HB2, hs2, b2⟩
      case measure => simp [intOf]; omega
end Go.Proofs.YtfgjleifhjegkaaDoor
