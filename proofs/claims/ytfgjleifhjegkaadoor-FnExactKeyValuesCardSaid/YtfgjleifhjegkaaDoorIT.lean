import Derived.Test.YtfgjleifhjegkaaDoorIN
namespace Go.Proofs.YtfgjleifhjegkaaDoor
open Go.ChangeShapes Go.WideShapes Go.ChangeAt Go.RowKit
set_option linter.unusedVariables false
set_option linter.unusedSimpArgs false
set_option maxRecDepth 100000
theorem GQ.own {q : Nat} {w a b : World} {row : Option Nat} (h : GQ q w a) (hg : a.grownBy b row) (hr : ∀ k, row = some k → w.heap.size ≤ k) : GQ q w b :=
  ⟨hg.os.trans h.os, hg.tape.trans h.tape, hg.output.trans h.output, Nat.le_trans h.size hg.size, fun k hk hn => (hg.block k (Nat.lt_of_lt_of_le hk h.size) (fun e => by have := hr k e.symm; omega)).trans (h.block k hk hn)⟩
theorem GQ.setNew {q b j : Nat} {w a : World} {u : Value} (h : GQ q w a) (hb : w.heap.size ≤ b) : GQ q w (a.setCell ⟨b, j, none⟩ u) :=
  ⟨h.os, h.tape, h.output, by rw [show (a.setCell ⟨b, j, none⟩ u).heap.size = a.heap.size by simp [World.setCell]]; exact h.size, fun k hk hn => (Below.heap_setCell _ _ _ _ (by simp; omega)).trans (h.block k hk hn)⟩
/-- How many bytes are left. -/
def restN (q : Nat) (w : World) : Nat := match w.cell? ⟨q, 0, none⟩ with
  | some (.slice _ n _) => n
  | _ => 0
theorem restN_of {B q : Nat} {w : World} {rv : Value} {sh : Bool} {l : List Int} (hK : Blk w q [rv, .bool sh]) (hv : YS B w rv l) : restN q w = l.length := by
  obtain ⟨a, cap, rfl, _⟩ := hv
  have c0 : w.cell? ⟨q, 0, none⟩ = some (.slice a l.length cap) := (hK 0 (by simp)).1
  unfold restN
  rw [c0]
theorem pc_one_nil : pcL [] 1 = ([], []) := by simp [pcL]
theorem pc_one (b : Int) (r : List Int) : pcL (b :: r) 1 = ([b], r) := by
  unfold pcL
  rw [if_pos ⟨by decide, by simp; omega⟩]
  simp
theorem nm_nil : nmI [] = 0 := by simp [nmI, numL, wrap64]
theorem nm_one {b : Int} (h0 : 0 ≤ b) (h1 : b ≤ 255) : nmI [b] = b := by
  simp only [nmI, numL, List.foldl_cons, List.foldl_nil, wrap64]
  omega
/-- The text at the head of some bytes, and what is left. -/
def ktI : List Int → List Int × List Int
  | [] => ([], [])
  | [b] => if b = 0 then ([], []) else ([b], [])
  | b :: c :: r => if b = 0 then (if c = 255 then (0 :: (ktI r).1, (ktI r).2) else ([], r)) else (b :: (ktI (c :: r)).1, (ktI (c :: r)).2)
theorem ktI_plain {b : Int} (h : b ≠ 0) : ∀ (r : List Int), ktI (b :: r) = (b :: (ktI r).1, (ktI r).2)
  | [] => by simp [ktI, h]
  | c :: r => by
    conv => lhs; unfold ktI
    rw [if_neg h]
theorem ktI_one : ktI [0] = ([], []) := by simp [ktI]
theorem ktI_nought (r : List Int) : ktI (0 :: 255 :: r) = (0 :: (ktI r).1, (ktI r).2) := by
  conv => lhs; unfold ktI
  simp
theorem ktI_end {c : Int} (h : c ≠ 255) (r : List Int) : ktI (0 :: c :: r) = ([], r) := by
  conv => lhs; unfold ktI
  simp [h]
theorem ktI_len : ∀ (l : List Int), (ktI l).1.length ≤ l.length ∧ (ktI l).2.length ≤ l.length
  | [] => by simp [ktI]
  | [b] => by unfold ktI; split <;> simp
  | b :: c :: r => by
    have h1 := ktI_len r
    have h2 := ktI_len (c :: r)
    unfold ktI
    simp at h2
    split
    · split
      · simp; omega
      · simp; omega
    · simp; omega
theorem ktI_esc (R : List Int) : ∀ l : List Int, ktI (escL l ++ 0 :: 1 :: R) = (l, R)
  | [] => by simp [escL, ktI_end]
  | b :: r => by
    have ih := ktI_esc R r
    have he : escL (b :: r) = esc1 b ++ escL r := by simp [escL]
    rw [he]
    by_cases hb : b = 0
    · subst hb
      have : esc1 0 = [0, 255] := by simp [esc1]
      rw [this]
      show ktI (0 :: 255 :: (escL r ++ 0 :: 1 :: R)) = _
      rw [ktI_nought, ih]
    · have : esc1 b = [b] := by simp [esc1, hb]
      rw [this]
      show ktI (b :: (escL r ++ 0 :: 1 :: R)) = _
      rw [ktI_plain hb, ih]
def TxP (B q : Nat) (l : List Int) (w : World) (e : Ending) (w' : World) : Prop := ∃ rv sh, e = .returned (.string (strOfNums (ktI l).1)) ∧ GQ q w w' ∧ Blk w' q [rv, .bool sh] ∧ YS B w' rv (ktI l).2
set_option maxHeartbeats 8000000 in
theorem keyText_any (B q : Nat) (v : Value) (l : List Int) (sh : Bool) (w : World) (hq : q < w.heap.size) (hB : B ≤ q) (hK : Blk w q [v, .bool sh]) (hv : YS B w v l) (hb : Byt l) (hl : l.length ≤ 1000000000000) :
    Calls Tryd.prog 62 #[.pointer (some ⟨q, 0, none⟩)] w fun e w' => TxP B q l w e w' := by
  obtain ⟨i0, hi, hz0, hz1, hz2⟩ := info_parts infoU8
  have HK0 := hid hK
  have HV0 := hid hv
  have HB0 := hid hb
  clear hK hv hb
  go_enter Tryd.func62, Tryd.ntmps62
  go_wp2
  go_loopw [3] (fun tv wr => ∃ (l1 acc : List Int) (oa : Option Addr) (oc : Nat) (rv : Value) (s1 : Bool), tv = .slice oa acc.length oc ∧ acc.length + l1.length ≤ l.length ∧ Hid (YOut 5 w.heap.size wr (.slice oa acc.length oc) acc) ∧ Hid (Blk wr q [rv, .bool s1]) ∧ Hid (YS B wr rv l1) ∧ Hid (Byt l1) ∧ Hid (ktI l = (acc ++ (ktI l1).1, (ktI l1).2)) ∧ Hid (GQ q w wr) ∧ w.heap.size ≤ wr.heap.size) (fun _ wr => restN q wr)
  case atStart => exact ⟨l, [], none, 0, v, sh, rfl, by simp, (⟨rfl, .inl ⟨rfl, rfl⟩⟩ : YOut 5 w.heap.size w (.slice none 0 0) []), HK0, HV0, HB0, (by simp : ktI l = ([] ++ (ktI l).1, (ktI l).2)), GQ.refl _ _, Nat.le_refl _⟩
  case round =>
    clear HK0 HV0 HB0
    obtain ⟨l1, acc, oa, oc, rv, s1, rfl, hal, HY, HK, HV, HB, HE, HG, hsz⟩ := hrel
    have hnb := number_any B q rv l1 s1 1 wr (by omega) hB HK.out HV.out HB.out
    have HRN := hid (restN_of HK.out HV.out)
    have HQB : Hid (q < w.heap.size) := hq
    rcases l1 with _ | ⟨b, r⟩
    · unfold NbP at hnb
      rw [pc_one_nil, nm_nil] at hnb
      have HF : Hid (ktI l = (acc, [])) := (by rw [HE.out]; simp [ktI] : ktI l = (acc, []))
      clear HE HK HV
      go_wp2_with (go_at_call 44; fail)
      refine hnb.mono ?_
      rintro e w1 ⟨rv1, s2, rfl, hg1, hk1, hv1⟩
      have HY1 := hid (HY.out.gq hg1 HQB.out)
      have HG1 := hid (HG.out.trans hg1)
      have hs1 : w.heap.size ≤ w1.heap.size := by have := hg1.size; omega
      have hnb2 := number_any B q rv1 [] s2 1 w1 (by omega) hB hk1 hv1 (fun x hx => by simp at hx)
      unfold NbP at hnb2
      rw [pc_one_nil, nm_nil] at hnb2
      clear hnb hg1 hk1 hv1 HY HG
      go_wp2_with (go_at_call 44; fail)
      refine hnb2.mono ?_
      rintro e w2 ⟨rv2, s3, rfl, hg2, hk2, hv2⟩
      have HY2 := hid (HY1.out.gq hg2 HQB.out)
      have HG2 := hid (HG1.out.trans hg2)
      have hs2 : w.heap.size ≤ w2.heap.size := by have := hg2.size; omega
      have hcv := conv_rs ((HY2.out.rsw.rs (D := CY) id).mono liesY (Nat.zero_le _))
      have HR : Hid (TxP B q l w (.returned (.string (strOfNums acc))) w2) := ⟨rv2, s3, by rw [HF.out], HG2.out, hk2, by rw [HF.out]; exact hv2⟩
      clear hnb2 hg2 hk2 hv2 HY1 HG1 HY2 HG2 HF
      go_wp2
      go_ret
      exact HR.out
    · have hbb := HB.out b (List.mem_cons_self ..)
      have HBR : Hid (Byt r) := (fun x hx => HB.out x (List.mem_cons_of_mem _ hx) : Byt r)
      unfold NbP at hnb
      rw [pc_one, nm_one hbb.1 hbb.2] at hnb
      have hw8 : IntKind.u8.wrap b = b := by simp only [IntKind.wrap, IntKind.bits, IntKind.signed]; simp; omega
      simp only [List.length_cons] at hal
      by_cases hz : b = 0
      · subst hz
        clear hw8
        go_wp2_with (go_at_call 44; fail)
        refine hnb.mono ?_
        rintro e w1 ⟨rv1, s2, rfl, hg1, hk1, hv1⟩
        have HY1 := hid (HY.out.gq hg1 HQB.out)
        have HG1 := hid (HG.out.trans hg1)
        have hs1 : w.heap.size ≤ w1.heap.size := by have := hg1.size; omega
        have hnb2 := number_any B q rv1 r s2 1 w1 (by omega) hB hk1 hv1 HBR.out
        unfold NbP at hnb2
        clear hnb hg1 hk1 hv1 HY HG HK HV
        rcases r with _ | ⟨c, r⟩
        · rw [pc_one_nil, nm_nil] at hnb2
          have HF : Hid (ktI l = (acc, [])) := (by rw [HE.out]; simp [ktI_one] : ktI l = (acc, []))
          clear HE
          go_wp2_with (go_at_call 44; fail)
          refine hnb2.mono ?_
          rintro e w2 ⟨rv2, s3, rfl, hg2, hk2, hv2⟩
          have HY2 := hid (HY1.out.gq hg2 HQB.out)
          have HG2 := hid (HG1.out.trans hg2)
          have hcv := conv_rs ((HY2.out.rsw.rs (D := CY) id).mono liesY (Nat.zero_le _))
          have HR : Hid (TxP B q l w (.returned (.string (strOfNums acc))) w2) := ⟨rv2, s3, by rw [HF.out], HG2.out, hk2, by rw [HF.out]; exact hv2⟩
          clear hnb2 hg2 hk2 hv2 HY1 HG1 HY2 HG2 HF
          go_wp2
          go_ret
          exact HR.out
        · have hcb := HBR.out c (List.mem_cons_self ..)
          have HBR2 : Hid (Byt r) := (fun x hx => HBR.out x (List.mem_cons_of_mem _ hx) : Byt r)
          rw [pc_one, nm_one hcb.1 hcb.2] at hnb2
          simp only [List.length_cons] at hal
          by_cases hc : c = 255
          · subst hc
            have HF : Hid (ktI l = ((acc ++ [0]) ++ (ktI r).1, (ktI r).2)) := (by rw [HE.out, ktI_nought]; simp : ktI l = ((acc ++ [0]) ++ (ktI r).1, (ktI r).2))
            clear HE
            go_wp2_with (go_at_call 44; fail)
            refine hnb2.mono ?_
            rintro e w2 ⟨rv2, s3, rfl, hg2, hk2, hv2⟩
            have HY2 := hid (HY1.out.gq hg2 HQB.out)
            have HG2 := hid (HG1.out.trans hg2)
            have hs2 : w.heap.size ≤ w2.heap.size := by have := hg2.size; omega
            have HK2 := hid hk2
            have HV2 := hid hv2
            have HLT := hid (World.ownsRow.lt HY2.out)
            clear hnb2 hg2 hk2 hv2 HY1 HG1
            go_wp2_with (at_builtin; refine wpList_append_own _ rfl (.tmp 17) (.tmp 19) 24 rfl w.heap.size 5 i0 (.int .u8 0) 1 1 Tryd.underlying24 hi hz0 hz1 hz2 rfl (by decide) _ _ _ rfl (World.ownsRow.alloc HY2.out _) ⟨w2.heap.size, 0, none⟩ 1 1 [.int .u8 0] rfl rfl (blk_new w2 [.int .u8 0] 5).cells (by intro u hu; simp at hu; subst hu; rfl) (by unfold maxLen; omega) (by omega) (by simp; omega) ?_; intro v3 w3 hown3 hgrow3 hiff3; clear hiff3)
            have HG3 : Hid (GQ q w w3) := (HG2.out.trans (GQ.alloc q w2 _)).own hgrow3 (fun j hj => (HLT.out j hj).1)
            have HK3 : Hid (Blk w3 q [rv2, .bool s3]) := (HK2.out.below (below_alloc _ _) (by omega)).grown hgrow3 (by simp; omega) (fun e => by have := (HLT.out _ e.symm).1; omega)
            have HV3 : Hid (YS B w3 rv2 r) := (HV2.out.gq (GQ.alloc q w2 _) hB (by omega)).same (fun g j hgB => World.cell?_of_block (a := ⟨g, j, none⟩) (hgrow3.block g (by simp; omega) (fun e => by have := (HLT.out _ e.symm).1; omega)))
            have hs3 : w.heap.size ≤ w3.heap.size := by have := hgrow3.size; simp at this; omega
            have HR := hid (YOut.push hown3)
            obtain ⟨oa3, oc3, rfl⟩ := HR.out.form
            have hl3 : (acc ++ [0]).length = acc.length + 1 := by simp
            have HN3 := hid (restN_of HK3.out HV3.out)
            obtain ⟨acc3, hac⟩ : ∃ z, z = acc ++ [(0 : Int)] := ⟨_, rfl⟩
            rw [← hac] at HR HF hl3 ⊢
            clear hown3 hgrow3 HY2 HG2 HK2 HV2 HLT hac
            go_wp2
            go_roundw
            case rel => exact ⟨r, acc3, oa3, oc3, rv2, s3, rfl, by omega, HR, HK3, HV3, HBR2, HF, HG3, hs3⟩
            case measure => rw [HN3.out, HRN.out]; simp; omega
          · have HF : Hid (ktI l = (acc, r)) := (by rw [HE.out, ktI_end hc]; simp : ktI l = (acc, r))
            have hcn : (c == 255) = false := by simp [hc]
            clear HE
            go_wp2_with (go_at_call 44; fail)
            refine hnb2.mono ?_
            rintro e w2 ⟨rv2, s3, rfl, hg2, hk2, hv2⟩
            have HY2 := hid (HY1.out.gq hg2 HQB.out)
            have HG2 := hid (HG1.out.trans hg2)
            have hcv := conv_rs ((HY2.out.rsw.rs (D := CY) id).mono liesY (Nat.zero_le _))
            have HR : Hid (TxP B q l w (.returned (.string (strOfNums acc))) w2) := ⟨rv2, s3, by rw [HF.out], HG2.out, hk2, by rw [HF.out]; exact hv2⟩
            clear hnb2 hg2 hk2 hv2 HY1 HG1 HY2 HG2 HF
            go_wp2
            go_ret
            exact HR.out
      · have hzb : (b == 0) = false := by simp [hz]
        have HF : Hid (ktI l = ((acc ++ [b]) ++ (ktI r).1, (ktI r).2)) := (by rw [HE.out, ktI_plain hz]; simp : ktI l = ((acc ++ [b]) ++ (ktI r).1, (ktI r).2))
        clear HE
        go_wp2_with (go_at_call 44; fail)
        refine hnb.mono ?_
        rintro e w2 ⟨rv2, s3, rfl, hg2, hk2, hv2⟩
        have HY2 := hid (HY.out.gq hg2 HQB.out)
        have HG2 := hid (HG.out.trans hg2)
        have hs2 : w.heap.size ≤ w2.heap.size := by have := hg2.size; omega
        have HK2 := hid hk2
        have HV2 := hid hv2
        have HLT := hid (World.ownsRow.lt HY2.out)
        clear hnb hg2 hk2 hv2 HY HG HK HV
        go_wp2_with (at_builtin; refine wpList_append_own _ rfl (.tmp 17) (.tmp 19) 24 rfl w.heap.size 5 i0 (.int .u8 0) 1 1 Tryd.underlying24 hi hz0 hz1 hz2 rfl (by decide) _ _ _ rfl (World.ownsRow.alloc HY2.out _) ⟨w2.heap.size, 0, none⟩ 1 1 [.int .u8 b] rfl rfl (blk_new w2 [.int .u8 b] 5).cells (by intro u hu; simp at hu; subst hu; rfl) (by unfold maxLen; omega) (by omega) (by simp; omega) ?_; intro v3 w3 hown3 hgrow3 hiff3; clear hiff3)
        have HG3 : Hid (GQ q w w3) := (HG2.out.trans (GQ.alloc q w2 _)).own hgrow3 (fun j hj => (HLT.out j hj).1)
        have HK3 : Hid (Blk w3 q [rv2, .bool s3]) := (HK2.out.below (below_alloc _ _) (by omega)).grown hgrow3 (by simp; omega) (fun e => by have := (HLT.out _ e.symm).1; omega)
        have HV3 : Hid (YS B w3 rv2 r) := (HV2.out.gq (GQ.alloc q w2 _) hB (by omega)).same (fun g j hgB => World.cell?_of_block (a := ⟨g, j, none⟩) (hgrow3.block g (by simp; omega) (fun e => by have := (HLT.out _ e.symm).1; omega)))
        have hs3 : w.heap.size ≤ w3.heap.size := by have := hgrow3.size; simp at this; omega
        have HR := hid (YOut.push hown3)
        obtain ⟨oa3, oc3, rfl⟩ := HR.out.form
        have hl3 : (acc ++ [b]).length = acc.length + 1 := by simp
        have HN3 := hid (restN_of HK3.out HV3.out)
        obtain ⟨acc3, hac⟩ : ∃ z, z = acc ++ [b] := ⟨_, rfl⟩
        rw [← hac] at HR HF hl3 ⊢
        clear hown3 hgrow3 HY2 HG2 HK2 HV2 HLT hac
        go_wp2
        go_roundw
        case rel => exact ⟨r, acc3, oa3, oc3, rv2, s3, rfl, by omega, HR, HK3, HV3, HBR, HF, HG3, hs3⟩
        case measure => rw [HN3.out, HRN.out]; simp
end Go.Proofs.YtfgjleifhjegkaaDoor
