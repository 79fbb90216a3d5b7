import Derived.Test.YtfgjleifhjegkaaDoorKGa
namespace Go.Proofs.YtfgjleifhjegkaaDoor
open Go.ChangeShapes Go.WideShapes Go.ChangeAt Go.RowKit
set_option linter.unusedVariables false
set_option linter.unusedSimpArgs false
set_option maxRecDepth 100000
set_option maxHeartbeats 32000000 in
theorem keyGuess_spec (a : Option Addr) (ca : Nat) (xs : List Int) (w : World) (hn : xs.length ≤ 1048576) (hcap : xs.length ≤ ca) (hcm : ca ≤ 1048576) (hb : Byt xs) (hv : RS 1 CY 0 w (.slice a xs.length ca) xs) :
    Calls Tryd.prog 39 #[.slice a xs.length ca] w fun e w' => (∃ v, e = .returned v ∧ VOut w.heap.size w' v (gus xs.length xs)) ∧ Below w.heap.size w w' := by
  obtain ⟨i0, hi, hz0, hz1, hz2⟩ := info_parts infoV
  have HV0 : Hid (VOut w.heap.size (w.alloc (.cells #[] 39)) (.slice (some ⟨w.heap.size, 0, none⟩) 0 0) []) := World.ownsRow_made w #[] 0 (Nat.le_refl _) (by unfold maxLen; omega) (by simp)
  have bw0 : Below w.heap.size w (w.alloc (.cells #[] 39)) := below_alloc _ _
  have HB0 := hid hb
  have HR0 := hid hv
  clear hb hv
  go_enter Tryd.func39, Tryd.ntmps39
  go_wp2
  go_loopw [0, 3] (fun bv v wr => ∃ (f bl bc oc : Nat) (ys : List Int) (acc : List VA) (ba oa : Option Addr), bl = ys.length ∧ ys.length ≤ f ∧ bl ≤ bc ∧ bc ≤ 1048576 ∧ bv = .slice ba bl bc ∧ v = .slice oa acc.length oc ∧ acc.length + ys.length ≤ xs.length ∧ Hid (gus xs.length xs = acc ++ gus f ys) ∧ Hid (Byt ys) ∧ Hid (RS 1 CY 0 w (.slice ba ys.length bc) ys) ∧ Hid (VOut w.heap.size wr (.slice oa acc.length oc) acc) ∧ Below w.heap.size w wr) (fun bv _ _ => slen bv)
  case atStart => exact ⟨xs.length, xs.length, ca, 0, xs, [], a, _, rfl, Nat.le_refl _, hcap, by omega, rfl, rfl, by simp, (by simp : gus xs.length xs = [] ++ gus xs.length xs), HB0, HR0, HV0, bw0⟩
  case round =>
    clear HV0 bw0 HB0 HR0
    obtain ⟨f, bl, bc, oc, ys, acc, ba, oa, hbl, hf, hbc, hbm, rfl, rfl, hal, HG, HB, HR, HV, hb⟩ := hrel
    subst hbl
    have hbs := hb.size
    rcases ys with _ | ⟨y0, yr⟩
    · have HE : Hid (VOut w.heap.size wr (.slice oa acc.length oc) (gus xs.length xs)) := (by have := HG.out; rw [gus_nil, List.append_nil] at this; rw [this]; exact HV.out : VOut w.heap.size wr (.slice oa acc.length oc) (gus xs.length xs))
      clear HG HV
      go_wp2
      go_ret
      exact ⟨⟨_, rfl, HE.out⟩, hb⟩
    · obtain ⟨ys, hys⟩ : ∃ l, l = y0 :: yr := ⟨_, rfl⟩
      have hne : ys ≠ [] := by rw [hys]; simp
      have hpos : 0 < ys.length := by rw [hys]; simp
      have hposi : (0 : Int) < ys.length := by omega
      have hhd : ys.headD 0 = y0 := by rw [hys]; rfl
      rw [← hys] at HG HB HR hf hbc hal ⊢
      have hy0 := HB.out y0 (by rw [hys]; simp)
      have HYS := hid hys
      have HR' := HR.out
      obtain ⟨ba', bc', he, hRc⟩ := HR'
      simp only [Value.slice.injEq] at he
      obtain ⟨rfl, _, rfl⟩ := he
      obtain ⟨g, o, rfl, _, hg, hRc⟩ := hRc hpos
      have HCE : Hid (∀ j (h : j < ys.length), wr.cell? ⟨g, o + j, none⟩ = some (.int .u8 ys[j])) := (fun j h => by
        obtain ⟨cs, hC, hcell⟩ := hRc j h
        unfold CY at hC
        subst hC
        have := hcell 0 (by omega)
        rw [Nat.mul_one, Nat.add_zero] at this
        exact (hb.cell (p := ⟨g, o + j, none⟩) hg).trans this : ∀ j (h : j < ys.length), wr.cell? ⟨g, o + j, none⟩ = some (.int .u8 ys[j]))
      have c0 : wr.cell? ⟨g, o, none⟩ = some (.int .u8 y0) := by
        have := HCE.out 0 hpos
        rw [Nat.add_zero] at this
        rw [this]; simp [hys]
      clear hRc hys
      obtain ⟨f, rfl⟩ : ∃ q, f = q + 1 := ⟨f - 1, by omega⟩
      have hwq : IntKind.i64.wrap y0 = y0 := by simp only [IntKind.wrap_i64, wrap64]; omega
      obtain ⟨q, hq⟩ : ∃ q, q = y0 / 16 := ⟨_, rfl⟩
      have hq0 : 0 ≤ q := by omega
      have hq15 : q ≤ 15 := by omega
      have hqt : y0.tdiv 16 = q := by rw [hq]; exact Int.tdiv_eq_ediv_of_nonneg hy0.1
      have hqd : y0 / 16 = q := hq.symm
      have HQ : Hid (gst ys = gst ys) := rfl
      have HGS : Hid (ys.headD 0 / 16 = q) := (by rw [hhd, hq] : ys.headD 0 / 16 = q)
      have HLT := hid (World.ownsRow.lt HV.out)
      clear hq hhd HQ
      by_cases k1 : q = 1
      · subst k1
        by_cases hlen : (9 : Int) ≤ ys.length
        · obtain ⟨win, hwin⟩ : ∃ l, l = (ys.drop 1).take 8 := ⟨_, rfl⟩
          have hwl : win.length = 8 := by rw [hwin, List.length_take, List.length_drop]; omega
          have HWB : Hid (Byt win) := (fun x hx => HB.out x (List.mem_of_mem_drop (List.mem_of_mem_take (by rw [hwin] at hx; exact hx))) : Byt win)
          have hmx : numL win < 18446744073709551616 := by have h1 := numL_lt win HWB.out; rw [hwl, show 256 ^ 8 = 18446744073709551616 from by decide] at h1; exact h1
          obtain ⟨mm, hmm⟩ : ∃ z, z = numL win := ⟨_, rfl⟩
          obtain ⟨N, hN⟩ : ∃ N : Int, N = (mm : Int) - 9223372036854775808 := ⟨_, rfl⟩
          have HGT : Hid (gst ys = some (⟨1, N, ⟨#[]⟩⟩, 9)) := (by
            unfold gst
            rw [HGS.out, hN, hmm, hwin]
            simp [noS]
            omega : gst ys = some (⟨1, N, ⟨#[]⟩⟩, 9))
          have hRW : RS 1 CY 0 (wr.alloc (.cells #[.int .i64 (1), .int .i64 (0), .string ⟨#[]⟩] 39)) (.slice (some ⟨g, o + 1, none⟩) win.length (bc - 1)) win := by
            have := HR.out.win (n := 0) (c := bc - 1) 1 8 (by omega)
            rw [← hwin] at this
            exact this.below liesY (hb.trans ((below_alloc wr _).mono hbs))
          have hnum := number_spec _ _ win _ hRW HWB.out (by omega)
          rw [← hmm, hwl] at hnum
          rw [← hmm] at hmx
          have hwN : IntKind.i64.wrap (IntKind.u64.wrap ((mm : Int) - 9223372036854775808)) = N := by rw [hN]; simp only [IntKind.wrap, IntKind.bits, IntKind.signed]; simp; omega
          clear hwin hmm hN hRW HWB hwl
          have HVA : Hid (VOut w.heap.size ((wr.alloc (.cells #[.int .i64 (1), .int .i64 (N), .string ⟨#[]⟩] 39)).alloc (.cells #[.int .i64 (1), .int .i64 (N), .string ⟨#[]⟩] 39)) (.slice oa acc.length oc) acc) := World.ownsRow.alloc (World.ownsRow.alloc HV.out _) _
          have hbw : Below w.heap.size w ((wr.alloc (.cells #[.int .i64 (1), .int .i64 (N), .string ⟨#[]⟩] 39)).alloc (.cells #[.int .i64 (1), .int .i64 (N), .string ⟨#[]⟩] 39)) := (hb.alloc hbs _).alloc (by simp; omega) _
          have HCA : Hid (∀ j u, (vcs ⟨1, N, ⟨#[]⟩⟩)[j]? = some u → ((wr.alloc (.cells #[.int .i64 (1), .int .i64 (N), .string ⟨#[]⟩] 39)).alloc (.cells #[.int .i64 (1), .int .i64 (N), .string ⟨#[]⟩] 39)).cell? ((⟨wr.heap.size + 1, 0, none⟩ : Addr).add j) = some u) := (by
            have := (blk_new (wr.alloc (.cells #[.int .i64 (1), .int .i64 (N), .string ⟨#[]⟩] 39)) (vcs ⟨1, N, ⟨#[]⟩⟩) 39).cells
            simpa [vcs] using this : ∀ j u, (vcs ⟨1, N, ⟨#[]⟩⟩)[j]? = some u → ((wr.alloc (.cells #[.int .i64 (1), .int .i64 (N), .string ⟨#[]⟩] 39)).alloc (.cells #[.int .i64 (1), .int .i64 (N), .string ⟨#[]⟩] 39)).cell? ((⟨wr.heap.size + 1, 0, none⟩ : Addr).add j) = some u)
          have HF : Hid (gus xs.length xs = (acc ++ [(⟨1, N, ⟨#[]⟩⟩ : VA)]) ++ gus f (ys.drop 9)) := (by
            rw [HG.out, gus_some hne HGT.out]; simp : gus xs.length xs = (acc ++ [(⟨1, N, ⟨#[]⟩⟩ : VA)]) ++ gus f (ys.drop 9))
          have HDL : Hid ((ys.drop 9).length = ys.length - 9) := List.length_drop
          have HRD : Hid (RS 1 CY 0 w (.slice (if bc = 9 then some ⟨g, o, none⟩ else some ⟨g, o + 9, none⟩) (ys.drop 9).length (bc - 9)) (ys.drop 9)) := (by
            by_cases hbn : bc = 9
            · exact ⟨_, _, rfl, fun hp => by rw [List.length_drop] at hp; omega⟩
            · rw [if_neg hbn]
              have := HR.out.win (n := 0) (c := bc - 9) 9 (ys.length - 9) (by omega)
              rwa [List.take_of_length_le (by rw [List.length_drop]; omega)] at this : RS 1 CY 0 w (.slice (if bc = 9 then some ⟨g, o, none⟩ else some ⟨g, o + 9, none⟩) (ys.drop 9).length (bc - 9)) (ys.drop 9))
          have HBD : Hid (Byt (ys.drop 9)) := (fun x hx => HB.out x (List.mem_of_mem_drop hx) : Byt (ys.drop 9))
          clear HG HGT HR HB HCE HGS HYS
          go_wp2_with (go_at_call 60; fail)
          refine hnum.mono ?_
          rintro e w1 ⟨rfl, hww⟩
          replace hww := hww.symm
          subst hww
          clear hnum
          go_wp2_with (first
            | (at_builtin
               refine wpList_append_own _ rfl (.tmp 78) (.tmp 80) 27 rfl w.heap.size 39 i0 _ 3 32 Tryd.underlying27 hi hz0 hz1 hz2 rfl (by decide) _ _ _ rfl HVA.out ⟨wr.heap.size + 1, 0, none⟩ 1 1 (vcs ⟨1, N, ⟨#[]⟩⟩) rfl rfl HCA.out (by intro u hu; simp [vcs] at hu; rcases hu with rfl | rfl | rfl <;> rfl) (by unfold maxLen; omega) (by omega) (by simp; omega) ?_
               intro v2 w2 hown2 hgrow2 hiff2
               clear hiff2
               have b2 : Below w.heap.size w w2 := hbw.grown hgrow2 hbw.size (fun j hj => (HLT.out j hj).1)
               have HR2 := hid (VOut.push hown2)
               obtain ⟨oa2, oc2, rfl⟩ := HR2.out.form
               have hl2 : (acc ++ [(⟨1, N, ⟨#[]⟩⟩ : VA)]).length ≤ acc.length + 1 := by simp
               obtain ⟨acc2, hac⟩ : ∃ l, l = acc ++ [(⟨1, N, ⟨#[]⟩⟩ : VA)] := ⟨_, rfl⟩
               rw [← hac] at HR2 hl2 ⊢
               rw [← hac] at HF
               clear hown2 hgrow2 hac HLT hbw HVA HCA HV))
          go_roundw
          case rel => exact ⟨f, ys.length - 9, bc - 9, oc2, ys.drop 9, acc2, _, oa2, HDL.out.symm, by have := HDL.out; omega, by omega, by omega, by first | rfl | go_num, rfl, by have := HDL.out; omega, HF, HBD, HRD, HR2, b2⟩
          case measure => simp [slen]; omega
        · have HGT : Hid (gst ys = none) := (by unfold gst; rw [HGS.out]; simp; omega : gst ys = none)
          have HE : Hid (VOut w.heap.size (wr.alloc (.cells #[.int .i64 (1), .int .i64 (0), .string ⟨#[]⟩] 39)) (.slice oa acc.length oc) (gus xs.length xs)) := (by
            rw [HG.out, gus_none HGT.out, List.append_nil]; exact World.ownsRow.alloc HV.out _ : VOut w.heap.size (wr.alloc (.cells #[.int .i64 (1), .int .i64 (0), .string ⟨#[]⟩] 39)) (.slice oa acc.length oc) (gus xs.length xs))
          have bwx : Below w.heap.size w (wr.alloc (.cells #[.int .i64 (1), .int .i64 (0), .string ⟨#[]⟩] 39)) := hb.alloc hbs _
          clear HG HGT HV HR HB HCE HGS HYS HLT
          go_wp2
          go_ret
          exact ⟨⟨_, rfl, HE.out⟩, bwx⟩
      by_cases k2 : q = 2
      · subst k2
        by_cases hlen : (9 : Int) ≤ ys.length
        · obtain ⟨win, hwin⟩ : ∃ l, l = (ys.drop 1).take 8 := ⟨_, rfl⟩
          have hwl : win.length = 8 := by rw [hwin, List.length_take, List.length_drop]; omega
          have HWB : Hid (Byt win) := (fun x hx => HB.out x (List.mem_of_mem_drop (List.mem_of_mem_take (by rw [hwin] at hx; exact hx))) : Byt win)
          have hmx : numL win < 18446744073709551616 := by have h1 := numL_lt win HWB.out; rw [hwl, show 256 ^ 8 = 18446744073709551616 from by decide] at h1; exact h1
          obtain ⟨mm, hmm⟩ : ∃ z, z = numL win := ⟨_, rfl⟩
          obtain ⟨N, hN⟩ : ∃ N : Int, N = (mm : Int) - 9223372036854775808 := ⟨_, rfl⟩
          have HGT : Hid (gst ys = some (⟨2, N, ⟨#[]⟩⟩, 9)) := (by
            unfold gst
            rw [HGS.out, hN, hmm, hwin]
            simp [noS]
            omega : gst ys = some (⟨2, N, ⟨#[]⟩⟩, 9))
          have hRW : RS 1 CY 0 (wr.alloc (.cells #[.int .i64 (2), .int .i64 (0), .string ⟨#[]⟩] 39)) (.slice (some ⟨g, o + 1, none⟩) win.length (bc - 1)) win := by
            have := HR.out.win (n := 0) (c := bc - 1) 1 8 (by omega)
            rw [← hwin] at this
            exact this.below liesY (hb.trans ((below_alloc wr _).mono hbs))
          have hnum := number_spec _ _ win _ hRW HWB.out (by omega)
          rw [← hmm, hwl] at hnum
          rw [← hmm] at hmx
          have hwN : IntKind.i64.wrap (IntKind.u64.wrap ((mm : Int) - 9223372036854775808)) = N := by rw [hN]; simp only [IntKind.wrap, IntKind.bits, IntKind.signed]; simp; omega
          clear hwin hmm hN hRW HWB hwl
          have HVA : Hid (VOut w.heap.size ((wr.alloc (.cells #[.int .i64 (2), .int .i64 (N), .string ⟨#[]⟩] 39)).alloc (.cells #[.int .i64 (2), .int .i64 (N), .string ⟨#[]⟩] 39)) (.slice oa acc.length oc) acc) := World.ownsRow.alloc (World.ownsRow.alloc HV.out _) _
          have hbw : Below w.heap.size w ((wr.alloc (.cells #[.int .i64 (2), .int .i64 (N), .string ⟨#[]⟩] 39)).alloc (.cells #[.int .i64 (2), .int .i64 (N), .string ⟨#[]⟩] 39)) := (hb.alloc hbs _).alloc (by simp; omega) _
          have HCA : Hid (∀ j u, (vcs ⟨2, N, ⟨#[]⟩⟩)[j]? = some u → ((wr.alloc (.cells #[.int .i64 (2), .int .i64 (N), .string ⟨#[]⟩] 39)).alloc (.cells #[.int .i64 (2), .int .i64 (N), .string ⟨#[]⟩] 39)).cell? ((⟨wr.heap.size + 1, 0, none⟩ : Addr).add j) = some u) := (by
            have := (blk_new (wr.alloc (.cells #[.int .i64 (2), .int .i64 (N), .string ⟨#[]⟩] 39)) (vcs ⟨2, N, ⟨#[]⟩⟩) 39).cells
            simpa [vcs] using this : ∀ j u, (vcs ⟨2, N, ⟨#[]⟩⟩)[j]? = some u → ((wr.alloc (.cells #[.int .i64 (2), .int .i64 (N), .string ⟨#[]⟩] 39)).alloc (.cells #[.int .i64 (2), .int .i64 (N), .string ⟨#[]⟩] 39)).cell? ((⟨wr.heap.size + 1, 0, none⟩ : Addr).add j) = some u)
          have HF : Hid (gus xs.length xs = (acc ++ [(⟨2, N, ⟨#[]⟩⟩ : VA)]) ++ gus f (ys.drop 9)) := (by
            rw [HG.out, gus_some hne HGT.out]; simp : gus xs.length xs = (acc ++ [(⟨2, N, ⟨#[]⟩⟩ : VA)]) ++ gus f (ys.drop 9))
          have HDL : Hid ((ys.drop 9).length = ys.length - 9) := List.length_drop
          have HRD : Hid (RS 1 CY 0 w (.slice (if bc = 9 then some ⟨g, o, none⟩ else some ⟨g, o + 9, none⟩) (ys.drop 9).length (bc - 9)) (ys.drop 9)) := (by
            by_cases hbn : bc = 9
            · exact ⟨_, _, rfl, fun hp => by rw [List.length_drop] at hp; omega⟩
            · rw [if_neg hbn]
              have := HR.out.win (n := 0) (c := bc - 9) 9 (ys.length - 9) (by omega)
              rwa [List.take_of_length_le (by rw [List.length_drop]; omega)] at this : RS 1 CY 0 w (.slice (if bc = 9 then some ⟨g, o, none⟩ else some ⟨g, o + 9, none⟩) (ys.drop 9).length (bc - 9)) (ys.drop 9))
          have HBD : Hid (Byt (ys.drop 9)) := (fun x hx => HB.out x (List.mem_of_mem_drop hx) : Byt (ys.drop 9))
          clear HG HGT HR HB HCE HGS HYS
          go_wp2_with (go_at_call 60; fail)
          refine hnum.mono ?_
          rintro e w1 ⟨rfl, hww⟩
          replace hww := hww.symm
          subst hww
          clear hnum
          go_wp2_with (first
            | (at_builtin
               refine wpList_append_own _ rfl (.tmp 78) (.tmp 80) 27 rfl w.heap.size 39 i0 _ 3 32 Tryd.underlying27 hi hz0 hz1 hz2 rfl (by decide) _ _ _ rfl HVA.out ⟨wr.heap.size + 1, 0, none⟩ 1 1 (vcs ⟨2, N, ⟨#[]⟩⟩) rfl rfl HCA.out (by intro u hu; simp [vcs] at hu; rcases hu with rfl | rfl | rfl <;> rfl) (by unfold maxLen; omega) (by omega) (by simp; omega) ?_
               intro v2 w2 hown2 hgrow2 hiff2
               clear hiff2
               have b2 : Below w.heap.size w w2 := hbw.grown hgrow2 hbw.size (fun j hj => (HLT.out j hj).1)
               have HR2 := hid (VOut.push hown2)
               obtain ⟨oa2, oc2, rfl⟩ := HR2.out.form
               have hl2 : (acc ++ [(⟨2, N, ⟨#[]⟩⟩ : VA)]).length ≤ acc.length + 1 := by simp
               obtain ⟨acc2, hac⟩ : ∃ l, l = acc ++ [(⟨2, N, ⟨#[]⟩⟩ : VA)] := ⟨_, rfl⟩
               rw [← hac] at HR2 hl2 ⊢
               rw [← hac] at HF
               clear hown2 hgrow2 hac HLT hbw HVA HCA HV))
          go_roundw
          case rel => exact ⟨f, ys.length - 9, bc - 9, oc2, ys.drop 9, acc2, _, oa2, HDL.out.symm, by have := HDL.out; omega, by omega, by omega, by first | rfl | go_num, rfl, by have := HDL.out; omega, HF, HBD, HRD, HR2, b2⟩
          case measure => simp [slen]; omega
        · have HGT : Hid (gst ys = none) := (by unfold gst; rw [HGS.out]; simp; omega : gst ys = none)
          have HE : Hid (VOut w.heap.size (wr.alloc (.cells #[.int .i64 (2), .int .i64 (0), .string ⟨#[]⟩] 39)) (.slice oa acc.length oc) (gus xs.length xs)) := (by
            rw [HG.out, gus_none HGT.out, List.append_nil]; exact World.ownsRow.alloc HV.out _ : VOut w.heap.size (wr.alloc (.cells #[.int .i64 (2), .int .i64 (0), .string ⟨#[]⟩] 39)) (.slice oa acc.length oc) (gus xs.length xs))
          have bwx : Below w.heap.size w (wr.alloc (.cells #[.int .i64 (2), .int .i64 (0), .string ⟨#[]⟩] 39)) := hb.alloc hbs _
          clear HG HGT HV HR HB HCE HGS HYS HLT
          go_wp2
          go_ret
          exact ⟨⟨_, rfl, HE.out⟩, bwx⟩
      by_cases k5 : q = 5
      · subst k5
        by_cases hlen : (5 : Int) ≤ ys.length
        · obtain ⟨win, hwin⟩ : ∃ l, l = (ys.drop 1).take 4 := ⟨_, rfl⟩
          have hwl : win.length = 4 := by rw [hwin, List.length_take, List.length_drop]; omega
          have HWB : Hid (Byt win) := (fun x hx => HB.out x (List.mem_of_mem_drop (List.mem_of_mem_take (by rw [hwin] at hx; exact hx))) : Byt win)
          have hmx : numL win < 4294967296 := by have h1 := numL_lt win HWB.out; rw [hwl, show 256 ^ 4 = 4294967296 from by decide] at h1; exact h1
          obtain ⟨mm, hmm⟩ : ∃ z, z = numL win := ⟨_, rfl⟩
          obtain ⟨N, hN⟩ : ∃ N : Int, N = (mm : Int) - 2147483648 := ⟨_, rfl⟩
          have HGT : Hid (gst ys = some (⟨5, N, ⟨#[]⟩⟩, 5)) := (by
            unfold gst
            rw [HGS.out, hN, hmm, hwin]
            simp [noS]
            omega : gst ys = some (⟨5, N, ⟨#[]⟩⟩, 5))
          have hRW : RS 1 CY 0 (wr.alloc (.cells #[.int .i64 (5), .int .i64 (0), .string ⟨#[]⟩] 39)) (.slice (some ⟨g, o + 1, none⟩) win.length (bc - 1)) win := by
            have := HR.out.win (n := 0) (c := bc - 1) 1 4 (by omega)
            rw [← hwin] at this
            exact this.below liesY (hb.trans ((below_alloc wr _).mono hbs))
          have hnum := number_spec _ _ win _ hRW HWB.out (by omega)
          rw [← hmm, hwl] at hnum
          rw [← hmm] at hmx
          have hwN0 : IntKind.i64.wrap (mm : Int) = mm := by simp only [IntKind.wrap_i64, wrap64]; omega
          have hwN : IntKind.i64.wrap ((mm : Int) - 2147483648) = N := by rw [hN]; simp only [IntKind.wrap_i64, wrap64]; omega
          clear hwin hmm hN hRW HWB hwl
          have HVA : Hid (VOut w.heap.size ((wr.alloc (.cells #[.int .i64 (5), .int .i64 (N), .string ⟨#[]⟩] 39)).alloc (.cells #[.int .i64 (5), .int .i64 (N), .string ⟨#[]⟩] 39)) (.slice oa acc.length oc) acc) := World.ownsRow.alloc (World.ownsRow.alloc HV.out _) _
          have hbw : Below w.heap.size w ((wr.alloc (.cells #[.int .i64 (5), .int .i64 (N), .string ⟨#[]⟩] 39)).alloc (.cells #[.int .i64 (5), .int .i64 (N), .string ⟨#[]⟩] 39)) := (hb.alloc hbs _).alloc (by simp; omega) _
          have HCA : Hid (∀ j u, (vcs ⟨5, N, ⟨#[]⟩⟩)[j]? = some u → ((wr.alloc (.cells #[.int .i64 (5), .int .i64 (N), .string ⟨#[]⟩] 39)).alloc (.cells #[.int .i64 (5), .int .i64 (N), .string ⟨#[]⟩] 39)).cell? ((⟨wr.heap.size + 1, 0, none⟩ : Addr).add j) = some u) := (by
            have := (blk_new (wr.alloc (.cells #[.int .i64 (5), .int .i64 (N), .string ⟨#[]⟩] 39)) (vcs ⟨5, N, ⟨#[]⟩⟩) 39).cells
            simpa [vcs] using this : ∀ j u, (vcs ⟨5, N, ⟨#[]⟩⟩)[j]? = some u → ((wr.alloc (.cells #[.int .i64 (5), .int .i64 (N), .string ⟨#[]⟩] 39)).alloc (.cells #[.int .i64 (5), .int .i64 (N), .string ⟨#[]⟩] 39)).cell? ((⟨wr.heap.size + 1, 0, none⟩ : Addr).add j) = some u)
          have HF : Hid (gus xs.length xs = (acc ++ [(⟨5, N, ⟨#[]⟩⟩ : VA)]) ++ gus f (ys.drop 5)) := (by
            rw [HG.out, gus_some hne HGT.out]; simp : gus xs.length xs = (acc ++ [(⟨5, N, ⟨#[]⟩⟩ : VA)]) ++ gus f (ys.drop 5))
          have HDL : Hid ((ys.drop 5).length = ys.length - 5) := List.length_drop
          have HRD : Hid (RS 1 CY 0 w (.slice (if bc = 5 then some ⟨g, o, none⟩ else some ⟨g, o + 5, none⟩) (ys.drop 5).length (bc - 5)) (ys.drop 5)) := (by
            by_cases hbn : bc = 5
            · exact ⟨_, _, rfl, fun hp => by rw [List.length_drop] at hp; omega⟩
            · rw [if_neg hbn]
              have := HR.out.win (n := 0) (c := bc - 5) 5 (ys.length - 5) (by omega)
              rwa [List.take_of_length_le (by rw [List.length_drop]; omega)] at this : RS 1 CY 0 w (.slice (if bc = 5 then some ⟨g, o, none⟩ else some ⟨g, o + 5, none⟩) (ys.drop 5).length (bc - 5)) (ys.drop 5))
          have HBD : Hid (Byt (ys.drop 5)) := (fun x hx => HB.out x (List.mem_of_mem_drop hx) : Byt (ys.drop 5))
          clear HG HGT HR HB HCE HGS HYS
          go_wp2_with (go_at_call 60; fail)
          refine hnum.mono ?_
          rintro e w1 ⟨rfl, hww⟩
          replace hww := hww.symm
          subst hww
          clear hnum
          go_wp2_with (first
            | (at_builtin
               refine wpList_append_own _ rfl (.tmp 78) (.tmp 80) 27 rfl w.heap.size 39 i0 _ 3 32 Tryd.underlying27 hi hz0 hz1 hz2 rfl (by decide) _ _ _ rfl HVA.out ⟨wr.heap.size + 1, 0, none⟩ 1 1 (vcs ⟨5, N, ⟨#[]⟩⟩) rfl rfl HCA.out (by intro u hu; simp [vcs] at hu; rcases hu with rfl | rfl | rfl <;> rfl) (by unfold maxLen; omega) (by omega) (by simp; omega) ?_
               intro v2 w2 hown2 hgrow2 hiff2
               clear hiff2
               have b2 : Below w.heap.size w w2 := hbw.grown hgrow2 hbw.size (fun j hj => (HLT.out j hj).1)
               have HR2 := hid (VOut.push hown2)
               obtain ⟨oa2, oc2, rfl⟩ := HR2.out.form
               have hl2 : (acc ++ [(⟨5, N, ⟨#[]⟩⟩ : VA)]).length ≤ acc.length + 1 := by simp
               obtain ⟨acc2, hac⟩ : ∃ l, l = acc ++ [(⟨5, N, ⟨#[]⟩⟩ : VA)] := ⟨_, rfl⟩
               rw [← hac] at HR2 hl2 ⊢
               rw [← hac] at HF
               clear hown2 hgrow2 hac HLT hbw HVA HCA HV))
          go_roundw
          case rel => exact ⟨f, ys.length - 5, bc - 5, oc2, ys.drop 5, acc2, _, oa2, HDL.out.symm, by have := HDL.out; omega, by omega, by omega, by first | rfl | go_num, rfl, by have := HDL.out; omega, HF, HBD, HRD, HR2, b2⟩
          case measure => simp [slen]; omega
        · have HGT : Hid (gst ys = none) := (by unfold gst; rw [HGS.out]; simp; omega : gst ys = none)
          have HE : Hid (VOut w.heap.size (wr.alloc (.cells #[.int .i64 (5), .int .i64 (0), .string ⟨#[]⟩] 39)) (.slice oa acc.length oc) (gus xs.length xs)) := (by
            rw [HG.out, gus_none HGT.out, List.append_nil]; exact World.ownsRow.alloc HV.out _ : VOut w.heap.size (wr.alloc (.cells #[.int .i64 (5), .int .i64 (0), .string ⟨#[]⟩] 39)) (.slice oa acc.length oc) (gus xs.length xs))
          have bwx : Below w.heap.size w (wr.alloc (.cells #[.int .i64 (5), .int .i64 (0), .string ⟨#[]⟩] 39)) := hb.alloc hbs _
          clear HG HGT HV HR HB HCE HGS HYS HLT
          go_wp2
          go_ret
          exact ⟨⟨_, rfl, HE.out⟩, bwx⟩
      by_cases k4 : q = 4
      · subst k4
        by_cases hlen : (2 : Int) ≤ ys.length
        · have c1 : wr.cell? ⟨g, o + 1, none⟩ = some (.int .u8 (ys[1]'(by omega))) := HCE.out 1 (by omega)
          have hy1 := HB.out (ys[1]'(by omega)) (List.getElem_mem _)
          have hd1 : (ys.drop 1).headD 0 = ys[1]'(by omega) := by rw [List.drop_eq_getElem_cons (show 1 < ys.length by omega)]; rfl
          have HGT : Hid (gst ys = some (⟨4, ys[1]'(by omega), ⟨#[]⟩⟩, 2)) := (by
            unfold gst
            rw [HGS.out, hd1]
            simp [noS]
            omega : gst ys = some (⟨4, ys[1]'(by omega), ⟨#[]⟩⟩, 2))
          clear hd1
          generalize ys[1]'(by omega) = y1 at c1 hy1 HGT
          have c1' : (wr.alloc (.cells #[.int .i64 4, .int .i64 0, .string ⟨#[]⟩] 39)).cell? ⟨g, o + 1, none⟩ = some (.int .u8 y1) := (World.cell?_alloc_lt _ _ _ (by show g < wr.heap.size; omega)).trans c1
          have hw1 : IntKind.i64.wrap y1 = y1 := by simp only [IntKind.wrap_i64, wrap64]; omega
          have HVA : Hid (VOut w.heap.size ((wr.alloc (.cells #[.int .i64 (4), .int .i64 (y1), .string ⟨#[]⟩] 39)).alloc (.cells #[.int .i64 (4), .int .i64 (y1), .string ⟨#[]⟩] 39)) (.slice oa acc.length oc) acc) := World.ownsRow.alloc (World.ownsRow.alloc HV.out _) _
          have hbw : Below w.heap.size w ((wr.alloc (.cells #[.int .i64 (4), .int .i64 (y1), .string ⟨#[]⟩] 39)).alloc (.cells #[.int .i64 (4), .int .i64 (y1), .string ⟨#[]⟩] 39)) := (hb.alloc hbs _).alloc (by simp; omega) _
          have HCA : Hid (∀ j u, (vcs ⟨4, y1, ⟨#[]⟩⟩)[j]? = some u → ((wr.alloc (.cells #[.int .i64 (4), .int .i64 (y1), .string ⟨#[]⟩] 39)).alloc (.cells #[.int .i64 (4), .int .i64 (y1), .string ⟨#[]⟩] 39)).cell? ((⟨wr.heap.size + 1, 0, none⟩ : Addr).add j) = some u) := (by
            have := (blk_new (wr.alloc (.cells #[.int .i64 (4), .int .i64 (y1), .string ⟨#[]⟩] 39)) (vcs ⟨4, y1, ⟨#[]⟩⟩) 39).cells
            simpa [vcs] using this : ∀ j u, (vcs ⟨4, y1, ⟨#[]⟩⟩)[j]? = some u → ((wr.alloc (.cells #[.int .i64 (4), .int .i64 (y1), .string ⟨#[]⟩] 39)).alloc (.cells #[.int .i64 (4), .int .i64 (y1), .string ⟨#[]⟩] 39)).cell? ((⟨wr.heap.size + 1, 0, none⟩ : Addr).add j) = some u)
          have HF : Hid (gus xs.length xs = (acc ++ [(⟨4, y1, ⟨#[]⟩⟩ : VA)]) ++ gus f (ys.drop 2)) := (by
            rw [HG.out, gus_some hne HGT.out]; simp : gus xs.length xs = (acc ++ [(⟨4, y1, ⟨#[]⟩⟩ : VA)]) ++ gus f (ys.drop 2))
          have HDL : Hid ((ys.drop 2).length = ys.length - 2) := List.length_drop
          have HRD : Hid (RS 1 CY 0 w (.slice (if bc = 2 then some ⟨g, o, none⟩ else some ⟨g, o + 2, none⟩) (ys.drop 2).length (bc - 2)) (ys.drop 2)) := (by
            by_cases hbn : bc = 2
            · exact ⟨_, _, rfl, fun hp => by rw [List.length_drop] at hp; omega⟩
            · rw [if_neg hbn]
              have := HR.out.win (n := 0) (c := bc - 2) 2 (ys.length - 2) (by omega)
              rwa [List.take_of_length_le (by rw [List.length_drop]; omega)] at this : RS 1 CY 0 w (.slice (if bc = 2 then some ⟨g, o, none⟩ else some ⟨g, o + 2, none⟩) (ys.drop 2).length (bc - 2)) (ys.drop 2))
          have HBD : Hid (Byt (ys.drop 2)) := (fun x hx => HB.out x (List.mem_of_mem_drop hx) : Byt (ys.drop 2))
          clear HG HGT HR HB HCE HGS HYS
          go_wp2_with (first
            | (at_builtin
               refine wpList_append_own _ rfl (.tmp 78) (.tmp 80) 27 rfl w.heap.size 39 i0 _ 3 32 Tryd.underlying27 hi hz0 hz1 hz2 rfl (by decide) _ _ _ rfl HVA.out ⟨wr.heap.size + 1, 0, none⟩ 1 1 (vcs ⟨4, y1, ⟨#[]⟩⟩) rfl rfl HCA.out (by intro u hu; simp [vcs] at hu; rcases hu with rfl | rfl | rfl <;> rfl) (by unfold maxLen; omega) (by omega) (by simp; omega) ?_
               intro v2 w2 hown2 hgrow2 hiff2
               clear hiff2
               have b2 : Below w.heap.size w w2 := hbw.grown hgrow2 hbw.size (fun j hj => (HLT.out j hj).1)
               have HR2 := hid (VOut.push hown2)
               obtain ⟨oa2, oc2, rfl⟩ := HR2.out.form
               have hl2 : (acc ++ [(⟨4, y1, ⟨#[]⟩⟩ : VA)]).length ≤ acc.length + 1 := by simp
               obtain ⟨acc2, hac⟩ : ∃ l, l = acc ++ [(⟨4, y1, ⟨#[]⟩⟩ : VA)] := ⟨_, rfl⟩
               rw [← hac] at HR2 hl2 ⊢
               rw [← hac] at HF
               clear hown2 hgrow2 hac HLT hbw HVA HCA HV))
          go_roundw
          case rel => exact ⟨f, ys.length - 2, bc - 2, oc2, ys.drop 2, acc2, _, oa2, HDL.out.symm, by have := HDL.out; omega, by omega, by omega, by first | rfl | go_num, rfl, by have := HDL.out; omega, HF, HBD, HRD, HR2, b2⟩
          case measure => simp [slen]; omega
        · have HGT : Hid (gst ys = none) := (by unfold gst; rw [HGS.out]; simp; omega : gst ys = none)
          have HE : Hid (VOut w.heap.size (wr.alloc (.cells #[.int .i64 (4), .int .i64 (0), .string ⟨#[]⟩] 39)) (.slice oa acc.length oc) (gus xs.length xs)) := (by
            rw [HG.out, gus_none HGT.out, List.append_nil]; exact World.ownsRow.alloc HV.out _ : VOut w.heap.size (wr.alloc (.cells #[.int .i64 (4), .int .i64 (0), .string ⟨#[]⟩] 39)) (.slice oa acc.length oc) (gus xs.length xs))
          have bwx : Below w.heap.size w (wr.alloc (.cells #[.int .i64 (4), .int .i64 (0), .string ⟨#[]⟩] 39)) := hb.alloc hbs _
          clear HG HGT HV HR HB HCE HGS HYS HLT
          go_wp2
          go_ret
          exact ⟨⟨_, rfl, HE.out⟩, bwx⟩
      by_cases k3 : q = 3
      · subst k3
        by_cases hbn : bc = 1
        · have hl1 : ys.length = 1 := by omega
          have hd0 : ys.drop 1 = [] := List.drop_of_length_le (by omega)
          have HGT : Hid (gst ys = none) := (by unfold gst; rw [HGS.out, hd0]; simp [ktx] : gst ys = none)
          have hkt := keyText_spec (some ⟨g, o, none⟩) 0 [] (wr.alloc (.cells #[.int .i64 3, .int .i64 0, .string ⟨#[]⟩] 39)) (by simp) ⟨_, _, rfl, fun hp => absurd hp (by simp)⟩
          have HVX : Hid (VOut w.heap.size (wr.alloc (.cells #[.int .i64 3, .int .i64 0, .string ⟨#[]⟩] 39)) (.slice oa acc.length oc) acc) := World.ownsRow.alloc HV.out _
          have bwx : Below w.heap.size w (wr.alloc (.cells #[.int .i64 3, .int .i64 0, .string ⟨#[]⟩] 39)) := hb.alloc hbs _
          subst hbn
          clear hd0
          go_wp2_with (go_at_call 61; fail)
          refine hkt.mono ?_
          rintro e w1 ⟨hcase, hb1⟩
          have bw1 : Below w.heap.size w w1 := bwx.trans (hb1.mono bwx.size)
          rcases hcase with ⟨hkn, rfl⟩ | ⟨l, n, hks, rfl⟩
          · have HE : Hid (VOut w.heap.size w1 (.slice oa acc.length oc) (gus xs.length xs)) := (by rw [HG.out, gus_none HGT.out, List.append_nil]; exact HVX.out.below hb1 : VOut w.heap.size w1 (.slice oa acc.length oc) (gus xs.length xs))
            clear HG HGT HV HVX HR HB HCE HGS HYS HLT hkn hb1 hkt
            go_wp2
            go_ret
            exact ⟨⟨_, rfl, HE.out⟩, bw1⟩
          · simp [ktx] at hks
        have hRW : RS 1 CY 0 (wr.alloc (.cells #[.int .i64 3, .int .i64 0, .string ⟨#[]⟩] 39)) (.slice (some ⟨g, o + 1, none⟩) (ys.drop 1).length (bc - 1)) (ys.drop 1) := by
          have := HR.out.win (n := 0) (c := bc - 1) 1 (ys.length - 1) (by omega)
          rw [List.take_of_length_le (by rw [List.length_drop]; omega)] at this
          exact this.below liesY (hb.trans ((below_alloc wr _).mono hbs))
        have hkt := keyText_spec _ _ (ys.drop 1) _ (by rw [List.length_drop]; omega) hRW
        rw [show (ys.drop 1).length = ys.length - 1 from List.length_drop] at hkt
        have HVX : Hid (VOut w.heap.size (wr.alloc (.cells #[.int .i64 3, .int .i64 0, .string ⟨#[]⟩] 39)) (.slice oa acc.length oc) acc) := World.ownsRow.alloc HV.out _
        have HBX : Hid (Blk (wr.alloc (.cells #[.int .i64 3, .int .i64 0, .string ⟨#[]⟩] 39)) wr.heap.size [.int .i64 3, .int .i64 0, .string ⟨#[]⟩]) := blk_new wr [.int .i64 3, .int .i64 0, .string ⟨#[]⟩] 39
        have bwx : Below w.heap.size w (wr.alloc (.cells #[.int .i64 3, .int .i64 0, .string ⟨#[]⟩] 39)) := hb.alloc hbs _
        clear hRW
        go_wp2_with (go_at_call 61; fail)
        refine hkt.mono ?_
        rintro e w1 ⟨hcase, hb1⟩
        have bw1 : Below w.heap.size w w1 := bwx.trans (hb1.mono bwx.size)
        have HV1 := hid (HVX.out.below hb1)
        have HB1 := hid (HBX.out.below hb1 (by simp))
        have hs1 : wr.heap.size < w1.heap.size := by have := hb1.size; simp at this; omega
        clear hkt hb1 bwx HVX HBX
        rcases hcase with ⟨hkn, rfl⟩ | ⟨l, n, hks, rfl⟩
        · have HGT : Hid (gst ys = none) := (by unfold gst; rw [HGS.out, hkn]; simp : gst ys = none)
          have HE : Hid (VOut w.heap.size w1 (.slice oa acc.length oc) (gus xs.length xs)) := (by rw [HG.out, gus_none HGT.out, List.append_nil]; exact HV1.out : VOut w.heap.size w1 (.slice oa acc.length oc) (gus xs.length xs))
          clear HG HGT HV HV1 HB1 HR HB HCE HGS HYS HLT hkn
          go_wp2
          go_ret
          exact ⟨⟨_, rfl, HE.out⟩, bw1⟩
        · have hkl := ktx_len _ _ _ hks
          rw [List.length_drop] at hkl
          obtain ⟨S, hS⟩ : ∃ S, S = strOfNums l := ⟨_, rfl⟩
          obtain ⟨n1, hn1⟩ : ∃ z, z = 1 + n := ⟨_, rfl⟩
          have HGT : Hid (gst ys = some (⟨3, 0, S⟩, n1)) := (by unfold gst; rw [HGS.out, hks, hS, hn1]; simp : gst ys = some (⟨3, 0, S⟩, n1))
          rw [← hS]
          have hwn : IntKind.i64.wrap (1 + (n : Int)) = n1 := by rw [hn1]; simp only [IntKind.wrap_i64, wrap64]; omega
          have hn1l : n1 ≤ ys.length := by omega
          have hn1p : 1 ≤ n1 := by omega
          have hn1i : ¬ (ys.length : Int) < n1 := by omega
          have d0 : w1.cell? ⟨wr.heap.size, 0, none⟩ = some (.int .i64 3) := (HB1.out 0 (by simp)).1
          have d1 : w1.cell? ⟨wr.heap.size, 1, none⟩ = some (.int .i64 0) := (HB1.out 1 (by simp)).1
          have d2 : w1.cell? ⟨wr.heap.size, 2, none⟩ = some (.string ⟨#[]⟩) := (HB1.out 2 (by simp)).1
          have f2 : w1.frozen? ⟨wr.heap.size, 2, none⟩ = false := (HB1.out 2 (by simp)).2
          have hbw : Below w.heap.size w ((w1.setCell ⟨wr.heap.size, 2, none⟩ (.string S)).alloc (.cells #[.int .i64 3, .int .i64 0, .string S] 39)) := (bw1.setCell (show w.heap.size ≤ (⟨wr.heap.size, 2, none⟩ : Addr).block from hbs) _).alloc (by simp; omega) _
          have HVA : Hid (VOut w.heap.size ((w1.setCell ⟨wr.heap.size, 2, none⟩ (.string S)).alloc (.cells #[.int .i64 3, .int .i64 0, .string S] 39)) (.slice oa acc.length oc) acc) := World.ownsRow.alloc (ownsRow_setCell_other HV1.out (fun e => by have := HLT.out wr.heap.size e; omega) _) _
          have HCA : Hid (∀ j u, (vcs ⟨3, 0, S⟩)[j]? = some u → ((w1.setCell ⟨wr.heap.size, 2, none⟩ (.string S)).alloc (.cells #[.int .i64 3, .int .i64 0, .string S] 39)).cell? ((⟨w1.heap.size, 0, none⟩ : Addr).add j) = some u) := (by
            have := (blk_new (w1.setCell ⟨wr.heap.size, 2, none⟩ (.string S)) (vcs ⟨3, 0, S⟩) 39).cells
            simpa [vcs] using this : ∀ j u, (vcs ⟨3, 0, S⟩)[j]? = some u → ((w1.setCell ⟨wr.heap.size, 2, none⟩ (.string S)).alloc (.cells #[.int .i64 3, .int .i64 0, .string S] 39)).cell? ((⟨w1.heap.size, 0, none⟩ : Addr).add j) = some u)
          clear hn1 hS hks hkl HV1 HB1
          have HF : Hid (gus xs.length xs = (acc ++ [(⟨3, 0, S⟩ : VA)]) ++ gus f (ys.drop n1)) := (by
            rw [HG.out, gus_some hne HGT.out]; simp : gus xs.length xs = (acc ++ [(⟨3, 0, S⟩ : VA)]) ++ gus f (ys.drop n1))
          have HDL : Hid ((ys.drop n1).length = ys.length - n1) := List.length_drop
          have HRD : Hid (RS 1 CY 0 w (.slice (if bc = n1 then some ⟨g, o, none⟩ else some ⟨g, o + n1, none⟩) (ys.drop n1).length (bc - n1)) (ys.drop n1)) := (by
            by_cases hbn : bc = n1
            · exact ⟨_, _, rfl, fun hp => by rw [List.length_drop] at hp; omega⟩
            · rw [if_neg hbn]
              have := HR.out.win (n := 0) (c := bc - n1) n1 (ys.length - n1) (by omega)
              rwa [List.take_of_length_le (by rw [List.length_drop]; omega)] at this : RS 1 CY 0 w (.slice (if bc = n1 then some ⟨g, o, none⟩ else some ⟨g, o + n1, none⟩) (ys.drop n1).length (bc - n1)) (ys.drop n1))
          have HBD : Hid (Byt (ys.drop n1)) := (fun x hx => HB.out x (List.mem_of_mem_drop hx) : Byt (ys.drop n1))
          clear HG HGT HR HB HCE HGS HYS
          go_wp2_with (first
            | (at_builtin
               refine wpList_append_own _ rfl (.tmp 78) (.tmp 80) 27 rfl w.heap.size 39 i0 _ 3 32 Tryd.underlying27 hi hz0 hz1 hz2 rfl (by decide) _ _ _ rfl HVA.out ⟨w1.heap.size, 0, none⟩ 1 1 (vcs ⟨3, 0, S⟩) rfl rfl HCA.out (by intro u hu; simp [vcs] at hu; rcases hu with rfl | rfl | rfl <;> rfl) (by unfold maxLen; omega) (by omega) (by simp; omega) ?_
               intro v2 w2 hown2 hgrow2 hiff2
               clear hiff2
               have b2 : Below w.heap.size w w2 := hbw.grown hgrow2 hbw.size (fun j hj => (HLT.out j hj).1)
               have HR2 := hid (VOut.push hown2)
               obtain ⟨oa2, oc2, rfl⟩ := HR2.out.form
               have hl2 : (acc ++ [(⟨3, 0, S⟩ : VA)]).length ≤ acc.length + 1 := by simp
               obtain ⟨acc2, hac⟩ : ∃ l, l = acc ++ [(⟨3, 0, S⟩ : VA)] := ⟨_, rfl⟩
               rw [← hac] at HR2 hl2 ⊢
               rw [← hac] at HF
               clear hown2 hgrow2 hac HLT hbw HVA HCA HV))
          go_roundw
          case rel => exact ⟨f, ys.length - n1, bc - n1, oc2, ys.drop n1, acc2, _, oa2, HDL.out.symm, by have := HDL.out; omega, by omega, by omega, by first | rfl | go_num, rfl, by have := HDL.out; omega, HF, HBD, HRD, HR2, b2⟩
          case measure => simp [slen]; omega
      · have HGT : Hid (gst ys = some (⟨q, 0, ⟨#[]⟩⟩, 1)) := (by unfold gst; rw [HGS.out]; simp [k1, k2, k3, k4, k5, noS] : gst ys = some (⟨q, 0, ⟨#[]⟩⟩, 1))
        have HVA : Hid (VOut w.heap.size ((wr.alloc (.cells #[.int .i64 (q), .int .i64 (0), .string ⟨#[]⟩] 39)).alloc (.cells #[.int .i64 (q), .int .i64 (0), .string ⟨#[]⟩] 39)) (.slice oa acc.length oc) acc) := World.ownsRow.alloc (World.ownsRow.alloc HV.out _) _
        have hbw : Below w.heap.size w ((wr.alloc (.cells #[.int .i64 (q), .int .i64 (0), .string ⟨#[]⟩] 39)).alloc (.cells #[.int .i64 (q), .int .i64 (0), .string ⟨#[]⟩] 39)) := (hb.alloc hbs _).alloc (by simp; omega) _
        have HCA : Hid (∀ j u, (vcs ⟨q, 0, ⟨#[]⟩⟩)[j]? = some u → ((wr.alloc (.cells #[.int .i64 (q), .int .i64 (0), .string ⟨#[]⟩] 39)).alloc (.cells #[.int .i64 (q), .int .i64 (0), .string ⟨#[]⟩] 39)).cell? ((⟨wr.heap.size + 1, 0, none⟩ : Addr).add j) = some u) := (by
          have := (blk_new (wr.alloc (.cells #[.int .i64 (q), .int .i64 (0), .string ⟨#[]⟩] 39)) (vcs ⟨q, 0, ⟨#[]⟩⟩) 39).cells
          simpa [vcs] using this : ∀ j u, (vcs ⟨q, 0, ⟨#[]⟩⟩)[j]? = some u → ((wr.alloc (.cells #[.int .i64 (q), .int .i64 (0), .string ⟨#[]⟩] 39)).alloc (.cells #[.int .i64 (q), .int .i64 (0), .string ⟨#[]⟩] 39)).cell? ((⟨wr.heap.size + 1, 0, none⟩ : Addr).add j) = some u)
        have HF : Hid (gus xs.length xs = (acc ++ [(⟨q, 0, ⟨#[]⟩⟩ : VA)]) ++ gus f (ys.drop 1)) := (by
          rw [HG.out, gus_some hne HGT.out]; simp : gus xs.length xs = (acc ++ [(⟨q, 0, ⟨#[]⟩⟩ : VA)]) ++ gus f (ys.drop 1))
        have HDL : Hid ((ys.drop 1).length = ys.length - 1) := List.length_drop
        have HRD : Hid (RS 1 CY 0 w (.slice (if bc = 1 then some ⟨g, o, none⟩ else some ⟨g, o + 1, none⟩) (ys.drop 1).length (bc - 1)) (ys.drop 1)) := (by
          by_cases hbn : bc = 1
          · exact ⟨_, _, rfl, fun hp => by rw [List.length_drop] at hp; omega⟩
          · rw [if_neg hbn]
            have := HR.out.win (n := 0) (c := bc - 1) 1 (ys.length - 1) (by omega)
            rwa [List.take_of_length_le (by rw [List.length_drop]; omega)] at this : RS 1 CY 0 w (.slice (if bc = 1 then some ⟨g, o, none⟩ else some ⟨g, o + 1, none⟩) (ys.drop 1).length (bc - 1)) (ys.drop 1))
        have HBD : Hid (Byt (ys.drop 1)) := (fun x hx => HB.out x (List.mem_of_mem_drop hx) : Byt (ys.drop 1))
        clear HG HGT HR HB HCE HGS HYS
        go_wp2_with (first
          | (at_builtin
             refine wpList_append_own _ rfl (.tmp 78) (.tmp 80) 27 rfl w.heap.size 39 i0 _ 3 32 Tryd.underlying27 hi hz0 hz1 hz2 rfl (by decide) _ _ _ rfl HVA.out ⟨wr.heap.size + 1, 0, none⟩ 1 1 (vcs ⟨q, 0, ⟨#[]⟩⟩) rfl rfl HCA.out (by intro u hu; simp [vcs] at hu; rcases hu with rfl | rfl | rfl <;> rfl) (by unfold maxLen; omega) (by omega) (by simp; omega) ?_
             intro v2 w2 hown2 hgrow2 hiff2
             clear hiff2
             have b2 : Below w.heap.size w w2 := hbw.grown hgrow2 hbw.size (fun j hj => (HLT.out j hj).1)
             have HR2 := hid (VOut.push hown2)
             obtain ⟨oa2, oc2, rfl⟩ := HR2.out.form
             have hl2 : (acc ++ [(⟨q, 0, ⟨#[]⟩⟩ : VA)]).length ≤ acc.length + 1 := by simp
             obtain ⟨acc2, hac⟩ : ∃ l, l = acc ++ [(⟨q, 0, ⟨#[]⟩⟩ : VA)] := ⟨_, rfl⟩
             rw [← hac] at HR2 hl2 ⊢
             rw [← hac] at HF
             clear hown2 hgrow2 hac HLT hbw HVA HCA HV))
        go_roundw
        case rel => exact ⟨f, ys.length - 1, bc - 1, oc2, ys.drop 1, acc2, _, oa2, HDL.out.symm, by have := HDL.out; omega, by omega, by omega, by first | rfl | go_num, rfl, by have := HDL.out; omega, HF, HBD, HRD, HR2, b2⟩
        case measure => simp [slen]; omega
end Go.Proofs.YtfgjleifhjegkaaDoor
