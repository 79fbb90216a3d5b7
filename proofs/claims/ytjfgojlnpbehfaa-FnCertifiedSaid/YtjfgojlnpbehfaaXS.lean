import Derived.Test.YtjfgojlnpbehfaaXW
namespace Go.Proofs.Ytjfgojlnpbehfaa
open Go.ChangeShapes Go.WideShapes Go.ChangeAt Go.RowKit
set_option linter.unusedVariables false
set_option linter.unusedSimpArgs false
set_option maxRecDepth 100000
theorem Cnts.small {us : List TI} {ws : List Int} {k j : Nat} (h : Cnts us ws k j) (hk : k < ws.length) : 0 ≤ ws[k] ∧ ws[k] ≤ j := by
  have := h.2 k hk
  rw [if_neg (by omega), if_pos rfl] at this
  have h2 := cntL_le us (List.range j) k
  rw [List.length_range] at h2
  omega
set_option maxHeartbeats 8000000 in
theorem waits_impl (a : Option Addr) (c : Nat) (us : List TI) (B : Nat) (w : World) (hH : histP us) (hr : RS 4 CDl B w (.slice a us.length c) us) :
    Calls Try.prog 31 #[.slice a us.length c] w fun e w' => ∃ (g : Nat) (ws : List Int), e = .returned (.slice (some ⟨g, 0, none⟩) us.length us.length) ∧ IRow 3 w.heap.size w' g ws ∧ Cnts us ws us.length 0 ∧ Below w.heap.size w w' := by
  obtain ⟨i0, hi, hz0, hz1, hz2⟩ := info_parts info3
  have hn1 : us.length ≤ 1000 := hH.1
  have HH := hid hH
  have HR := hid hr
  clear hH hr
  go_enter Try.func31, Try.ntmps31
  go_wp2_with (refine wpList_make_full _ rfl (.tmp 9) (.tmp 9) 23 rfl w.heap.size 3 i0 _ 1 Try.underlying23 hi hz0 hz1 .i64 .i64 us.length us.length us.length rfl rfl rfl rfl (by rw [hz2]; omega) (by unfold maxLen; omega) (Nat.le_refl _) ?_; intro w2 hown hgrow)
  have bw2 : Below w.heap.size w w2 := (Below.refl _ w).grown hgrow (Nat.le_refl _) (fun k hk => by simp at hk)
  have RW0 : Hid (IRow 3 w.heap.size w2 w.heap.size (List.replicate us.length 0)) := rowI hown (by rw [Nat.mul_one]; simp [toList_madeCells_one, Value.cells])
  clear hown hgrow
  obtain ⟨gw, hgw⟩ : ∃ x, x = w.heap.size := ⟨_, rfl⟩
  have hgw0 : w.heap.size ≤ gw := by omega
  rw [show (Value.slice (some ⟨w.heap.size, 0, none⟩) us.length us.length) = .slice (some ⟨gw, 0, none⟩) us.length us.length by rw [hgw]]
  rw [show (IRow 3 w.heap.size w2 w.heap.size (List.replicate us.length 0)) = IRow 3 w.heap.size w2 gw (List.replicate us.length 0) by rw [hgw]] at RW0
  clear hgw
  go_loopw [13] (fun iv wr => ∃ (k : Nat) (ws : List Int), k ≤ us.length ∧ iv = .int .i64 k ∧ Hid (IRow 3 w.heap.size wr gw ws) ∧ Hid (Cnts us ws k 0) ∧ Below w.heap.size w wr) (fun iv _ => us.length - (intOf iv).toNat)
  case atStart => exact ⟨0, _, Nat.zero_le _, rfl, RW0, cnts_start us, bw2⟩
  case round =>
    clear RW0 bw2
    obtain ⟨k, ws0, hk, rfl, RW0, HW0, hbel⟩ := hrel
    have hbs := hbel.size
    by_cases hlt : k < us.length
    · have hlti : (k : Int) < us.length := by omega
      obtain ⟨g, o, rfl, _, hg, hgc⟩ := deal_at HR.out (by omega)
      obtain ⟨hT, c0, c1, c2, c3⟩ := hgc k hlt
      have HD : Hid (us[k]? = some us[k]) := List.getElem?_eq_getElem hlt
      have HGC := hid hgc
      clear hgc
      generalize us[k] = p at *
      replace c0 := (hbel.cell (p := ⟨g, o + k * 4, none⟩) hg).trans c0
      replace c1 := (hbel.cell (p := ⟨g, o + k * 4 + 1, none⟩) hg).trans c1
      replace c2 := (hbel.cell (p := ⟨g, o + k * 4 + 2, none⟩) hg).trans c2
      replace c3 := (hbel.cell (p := ⟨g, o + k * 4 + 3, none⟩) hg).trans c3
      have KP0 := hid (blk_new wr [.int .i64 p.bgn, .int .i64 p.com, .int .u64 (bitsOf p.reads : Nat), .int .u64 (bitsOf p.writes : Nat)] 55)
      have bwA : Below w.heap.size w (wr.alloc (.cells #[.int .i64 p.bgn, .int .i64 p.com, .int .u64 (bitsOf p.reads : Nat), .int .u64 (bitsOf p.writes : Nat)] 55)) := hbel.alloc hbs _
      have RW1 := hid (RW0.out.below (below_alloc wr (.cells #[.int .i64 p.bgn, .int .i64 p.com, .int .u64 (bitsOf p.reads : Nat), .int .u64 (bitsOf p.writes : Nat)] 55)))
      have hzA : wr.heap.size < (wr.alloc (.cells #[.int .i64 p.bgn, .int .i64 p.com, .int .u64 (bitsOf p.reads : Nat), .int .u64 (bitsOf p.writes : Nat)] 55)).heap.size := by simp
      have hgwz : gw < wr.heap.size := RW0.out.lt.2
      go_wp2
      obtain ⟨gp, hgp⟩ : ∃ x, x = wr.heap.size := ⟨_, rfl⟩
      rw [← hgp] at KP0 hzA hgwz
      rw [← hgp]
      go_loopw [20] (fun jv wr => ∃ (l : Nat) (ws : List Int), l ≤ us.length ∧ jv = .int .i64 l ∧ Hid (IRow 3 w.heap.size wr gw ws) ∧ Hid (Cnts us ws k l) ∧ Hid (Blk wr gp [.int .i64 p.bgn, .int .i64 p.com, .int .u64 (bitsOf p.reads : Nat), .int .u64 (bitsOf p.writes : Nat)]) ∧ gp < wr.heap.size ∧ Below w.heap.size w wr) (fun jv _ => us.length - (intOf jv).toNat)
      case atStart => exact ⟨0, ws0, Nat.zero_le _, rfl, RW1, HW0, KP0, hzA, bwA⟩
      case round =>
        clear KP0 hzA bwA hbel hbs hgp c0 c1 c2 c3 RW1 RW0 HW0
        obtain ⟨l, ws, hl, rfl, RW, HW, KP, hzp, hbel⟩ := hrel
        have hbs := hbel.size
        by_cases hlt2 : l < us.length
        · have hlti2 : (l : Int) < us.length := by omega
          obtain ⟨hTu, d0, d1, d2, d3⟩ := HGC.out l hlt2
          have HU : Hid (us[l]? = some us[l]) := List.getElem?_eq_getElem hlt2
          generalize us[l] = u at *
          replace d0 := (hbel.cell (p := ⟨g, o + l * 4, none⟩) hg).trans d0
          replace d1 := (hbel.cell (p := ⟨g, o + l * 4 + 1, none⟩) hg).trans d1
          replace d2 := (hbel.cell (p := ⟨g, o + l * 4 + 2, none⟩) hg).trans d2
          replace d3 := (hbel.cell (p := ⟨g, o + l * 4 + 3, none⟩) hg).trans d3
          have HAI := hid (ahead_iff HH.out HU.out HD.out)
          have KB := hid (KP.out.below (below_alloc wr (.cells #[.int .i64 u.bgn, .int .i64 u.com, .int .u64 (bitsOf u.reads : Nat), .int .u64 (bitsOf u.writes : Nat)] 55)) hzp)
          replace RW := hid (RW.out.below (below_alloc wr (.cells #[.int .i64 u.bgn, .int .i64 u.com, .int .u64 (bitsOf u.reads : Nat), .int .u64 (bitsOf u.writes : Nat)] 55)))
          have bwW : Below w.heap.size w (wr.alloc (.cells #[.int .i64 u.bgn, .int .i64 u.com, .int .u64 (bitsOf u.reads : Nat), .int .u64 (bitsOf u.writes : Nat)] 55)) := hbel.alloc hbs _
          have hzp2 : gp < (wr.alloc (.cells #[.int .i64 u.bgn, .int .i64 u.com, .int .u64 (bitsOf u.reads : Nat), .int .u64 (bitsOf u.writes : Nat)] 55)).heap.size := by simp; omega
          have hc := ahead_deal u p hTu.1 hT.2 (wr.alloc (.cells #[.int .i64 u.bgn, .int .i64 u.com, .int .u64 (bitsOf u.reads : Nat), .int .u64 (bitsOf u.writes : Nat)] 55))
          unfold dealA at hc
          have e0 : (wr.alloc (.cells #[.int .i64 u.bgn, .int .i64 u.com, .int .u64 (bitsOf u.reads : Nat), .int .u64 (bitsOf u.writes : Nat)] 55)).cell? ⟨gp, 0, none⟩ = some (.int .i64 p.bgn) := (KB.out 0 (by simp)).1
          have e1 : (wr.alloc (.cells #[.int .i64 u.bgn, .int .i64 u.com, .int .u64 (bitsOf u.reads : Nat), .int .u64 (bitsOf u.writes : Nat)] 55)).cell? ⟨gp, 1, none⟩ = some (.int .i64 p.com) := (KB.out 1 (by simp)).1
          have e2 : (wr.alloc (.cells #[.int .i64 u.bgn, .int .i64 u.com, .int .u64 (bitsOf u.reads : Nat), .int .u64 (bitsOf u.writes : Nat)] 55)).cell? ⟨gp, 2, none⟩ = some (.int .u64 (bitsOf p.reads : Nat)) := (KB.out 2 (by simp)).1
          have e3 : (wr.alloc (.cells #[.int .i64 u.bgn, .int .i64 u.com, .int .u64 (bitsOf u.reads : Nat), .int .u64 (bitsOf u.writes : Nat)] 55)).cell? ⟨gp, 3, none⟩ = some (.int .u64 (bitsOf p.writes : Nat)) := (KB.out 3 (by simp)).1
          clear KP hTu
          go_wp2_with (go_at_call 33; fail)
          refine hc.mono ?_
          rintro e w3 ⟨⟨r, rfl, hr⟩, hb3⟩
          replace RW := hid (RW.out.below hb3)
          replace KB := hid (KB.out.below hb3 hzp2)
          replace hzp2 : gp < w3.heap.size := Nat.lt_of_lt_of_le hzp2 hb3.size
          replace bwW : Below w.heap.size w w3 := bwW.trans (hb3.mono bwW.size)
          have HRA := hid (hr.trans HAI.out)
          clear hc hr hb3 e0 e1 e2 e3 d0 d1 d2 d3 HAI hbel hbs
          have hkw : k < ws.length := by rw [HW.out.1]; exact hlt
          have hsm := HW.out.small hkw
          rcases r with _ | _
          · have HW2 : Hid (Cnts us ws k (l + 1)) := HW.out.keep (Bool.eq_false_iff.2 (fun z => absurd (HRA.out.2 z) (by simp)))
            clear HW HRA hsm
            go_wp2
            go_roundw
            case rel => exact ⟨l + 1, ws, by omega, by go_num, RW, HW2, KB, hzp2, bwW⟩
            case measure => simp [intOf]; omega
          · have HW2 : Hid (Cnts us (ws.set k (ws[k] + 1)) k (l + 1)) := HW.out.step hkw (HRA.out.1 rfl)
            have hcw : w3.cell? ⟨gw, k, none⟩ = some (.int .i64 ws[k]) := RW.out.cell hkw
            have hfw : w3.frozen? ⟨gw, k, none⟩ = false := RW.out.frozen k
            have hwr : IntKind.i64.wrap (ws[k] + 1) = ws[k] + 1 := by simp only [IntKind.wrap_i64, wrap64]; omega
            have RW2 := hid (RW.out.set k (ws[k] + 1))
            have KB2 := hid (KB.out.other (c := gw) (j := k) (u := .int .i64 (ws[k] + 1)) (by omega))
            have bw2 := bwW.setCell (show w.heap.size ≤ (⟨gw, k, none⟩ : Addr).block by simp; omega) (.int .i64 (ws[k] + 1))
            have hwsn := HW.out.1
            have hsz2 : gp < (w3.setCell ⟨gw, k, none⟩ (.int .i64 (ws[k] + 1))).heap.size := by simpa using hzp2
            clear HW HRA hsm RW KB bwW
            generalize hxw : ws[k] = xw at hcw hwr HW2 RW2 KB2 bw2 hsz2
            clear hxw
            go_wp2
            go_roundw
            case rel => exact ⟨l + 1, _, by omega, by go_num, RW2, HW2, KB2, hsz2, bw2⟩
            case measure => simp [intOf]; omega
        · have hln : l = us.length := by omega
          subst hln
          have hlti2 : ¬ (us.length : Int) < us.length := by omega
          have HV := hid HW.out.next
          clear HW KP
          go_wp2
          go_roundw
          case rel => exact ⟨k + 1, ws, by omega, by go_num, RW, HV, hbel⟩
          case measure => simp [intOf]; omega
    · have hkn : k = us.length := by omega
      subst hkn
      have hlti : ¬ (us.length : Int) < us.length := by omega
      go_wp2
      go_ret
      first | exact ⟨gw, ws0, rfl, RW0.out, HW0.out, hbel⟩ | exact ⟨gw, rfl, ws0, RW0.out, HW0.out, hbel⟩
end Go.Proofs.Ytjfgojlnpbehfaa
