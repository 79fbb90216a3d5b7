import Derived.Test.YtjfgojlnpbehfaaSN2
import Derived.Deep.RegionHeld
namespace Go.Proofs.Ytjfgojlnpbehfaa
open Go.ChangeShapes Go.WideShapes Go.ChangeAt Go.RowKit
set_option linter.unusedVariables false
set_option linter.unusedSimpArgs false
set_option maxRecDepth 100000
theorem info4 : (Try.prog.info? 4).map (fun i => (i.zero, i.size, i.bytes)) = some (some (.bool false), 1, 1) := by kernel_rfl
def SerPost (us : List TI) (w : World) (e : Ending) (w' : World) : Prop := ∃ (v : Value) (c : Int) (l : List Int), e = .returned (.tuple #[v, .int .i64 c]) ∧ RSW 1 CI w.heap.size w' v l ∧ SerC us l c ∧ Below w.heap.size w w'
set_option maxHeartbeats 32000000 in
theorem serial_spec (a : Option Addr) (ca : Nat) (us : List TI) (w : World) (hb : BH 1048576 us) (ha : RS 4 CT 0 w (.slice a us.length ca) us) :
    Calls Try.prog 14 #[.slice a us.length ca] w fun e w' => SerPost us w e w' := by
  obtain ⟨i0, hi, hz0, hz1, hz2⟩ := info_parts info3
  obtain ⟨j0, hj, hy0, hy1, hy2⟩ := info_parts info4
  have hn := hb.1
  have HZ : Hid (∀ t ∈ us, BT 1048576 t) := hb.2
  have hh := history_spec a ca us w hb ha
  clear hb
  obtain ⟨a', ca', he, hva⟩ := ha
  simp only [Value.slice.injEq] at he
  obtain ⟨rfl, _, rfl⟩ := he
  go_enter Try.func14, Try.ntmps14
  go_wp2_with (go_at_call 23; fail)
  refine hh.mono ?_
  rintro e w1 ⟨⟨r, rfl, hr⟩, hb1⟩
  clear hh
  rcases r with _ | _
  · have HF : Hid (SerC us [] 1) := .inl ⟨fun h => (by simpa using hr.2 h), rfl, rfl⟩
    clear hr
    go_wp2
    refine bodyPost_ret (v := .tuple #[.slice (some ⟨w1.heap.size, 0, none⟩) 0 0, .int .i64 1]) (by simp [results, Try.results14, go_sem]) rfl ⟨_, 1, [], rfl, ⟨_, _, rfl, fun h => absurd h (by simp)⟩, HF.out, hb1.alloc hb1.size _⟩
  · have HH := hid (hr.1 rfl)
    have hn1 : us.length ≤ 1000 := HH.out.1
    clear hr
    go_wp2_with (refine wpList_make_full _ rfl (.tmp 20) (.tmp 20) 23 rfl w.heap.size 3 i0 _ 1 Try.underlying23 hi hz0 hz1 .i64 .i64 us.length us.length us.length rfl rfl rfl rfl (by rw [hz2]; omega) (by unfold maxLen; omega) hb1.size ?_; intro w2 hown hgrow)
    have bw2 : Below w.heap.size w w2 := hb1.grown hgrow hb1.size (fun k hk => by simp at hk)
    have RW0 : Hid (IRow 3 w.heap.size w2 w1.heap.size (List.replicate us.length 0)) := rowI hown (by rw [Nat.mul_one]; simp [toList_madeCells_one, Value.cells])
    have hgw0 := hb1.size
    obtain ⟨gw, hgw⟩ : ∃ x, x = w1.heap.size := ⟨_, rfl⟩
    rw [← hgw] at RW0 hgw0 ⊢
    clear hown hgrow hgw hb1
    go_loopw [24] (fun iv wr => ∃ (k : Nat) (ws : List Int), k ≤ us.length ∧ iv = .int .i64 k ∧ Hid (IRow 3 w.heap.size wr gw ws) ∧ Hid (Waits us ws (List.range k) (List.range (k + 1)) 0) ∧ Below w.heap.size w wr) (fun iv _ => us.length - (intOf iv).toNat)
    case atStart => exact ⟨0, _, Nat.zero_le _, rfl, RW0, waits_start us _, bw2⟩
    case round =>
      clear RW0 bw2
      obtain ⟨k, ws0, hk, rfl, RW0, HW0, hbel⟩ := hrel
      have hbs := hbel.size
      by_cases hlt : k < us.length
      · have hlti : (k : Int) < us.length := by omega
        obtain ⟨g, o, rfl, _, hg, hgc⟩ := hva (by omega)
        obtain ⟨cs, hC0, hcell⟩ := hgc k hlt
        have CTp : Hid (∀ {W : World}, Below w.heap.size w W → CT 0 W cs us[k]) := (fun h => liesT.below hC0 h : ∀ {W : World}, Below w.heap.size w W → CT 0 W cs us[k])
        have hC := hC0
        have hBp := HZ.out us[k] (List.getElem_mem hlt)
        have HD : Hid (us[k]? = some us[k]) := List.getElem?_eq_getElem hlt
        clear hC0
        generalize hx : us[k] = p at *
        clear hx
        obtain ⟨v0, v1, rfl, r0, r1⟩ := hC
        obtain ⟨a0, q0, rfl, _⟩ := r0
        obtain ⟨a1, q1, rfl, _⟩ := r1
        have c0 : wr.cell? ⟨g, o + k * 4, none⟩ = some (.int .i64 p.bgn) := (hbel.cell (p := ⟨g, o + k * 4, none⟩) hg).trans (hcell 0 (by omega))
        have c1 : wr.cell? ⟨g, o + k * 4 + 1, none⟩ = some (.int .i64 p.com) := (hbel.cell (p := ⟨g, o + k * 4 + 1, none⟩) hg).trans (hcell 1 (by omega))
        have c2 : wr.cell? ⟨g, o + k * 4 + 2, none⟩ = some (.slice a0 p.reads.length q0) := (hbel.cell (p := ⟨g, o + k * 4 + 2, none⟩) hg).trans (hcell 2 (by omega))
        have c3 : wr.cell? ⟨g, o + k * 4 + 3, none⟩ = some (.slice a1 p.writes.length q1) := (hbel.cell (p := ⟨g, o + k * 4 + 3, none⟩) hg).trans (hcell 3 (by omega))
        clear hcell
        have KP0 := hid (blk_new wr [.int .i64 p.bgn, .int .i64 p.com, .slice a0 p.reads.length q0, .slice a1 p.writes.length q1] 31)
        have RW1 := hid (RW0.out.below (below_alloc wr (.cells #[.int .i64 p.bgn, .int .i64 p.com, .slice a0 p.reads.length q0, .slice a1 p.writes.length q1] 31)))
        have hgwr := RW0.out.lt.2
        have bwA : Below w.heap.size w (wr.alloc (.cells #[.int .i64 p.bgn, .int .i64 p.com, .slice a0 p.reads.length q0, .slice a1 p.writes.length q1] 31)) := hbel.alloc hbs _
        have hzA : wr.heap.size < ((wr.alloc (.cells #[.int .i64 p.bgn, .int .i64 p.com, .slice a0 p.reads.length q0, .slice a1 p.writes.length q1] 31))).heap.size := by simp
        go_wp2
        obtain ⟨gp, hgp⟩ : ∃ x, x = wr.heap.size := ⟨_, rfl⟩
        rw [← hgp] at KP0 hzA hgwr
        rw [← hgp]
        go_loopw [31] (fun jv wr => ∃ (l : Nat) (ws : List Int), l ≤ us.length ∧ jv = .int .i64 l ∧ Hid (IRow 3 w.heap.size wr gw ws) ∧ Hid (Waits us ws (List.range k) (List.range (k + 1)) l) ∧ Hid (Blk wr gp [.int .i64 p.bgn, .int .i64 p.com, .slice a0 p.reads.length q0, .slice a1 p.writes.length q1]) ∧ gp < wr.heap.size ∧ Below w.heap.size w wr) (fun jv _ => us.length - (intOf jv).toNat)
        case atStart => exact ⟨0, ws0, Nat.zero_le _, rfl, RW1, HW0, KP0, hzA, bwA⟩
        case round =>
          clear KP0 hzA bwA hbel hbs hgp c0 c1 c2 c3 RW0 RW1 HW0
          obtain ⟨l, ws, hl, rfl, RW, HW, KP, hzp, hbel2⟩ := hrel
          have hbs2 := hbel2.size
          by_cases hlt2 : l < us.length
          · have hlti2 : (l : Int) < us.length := by omega
            obtain ⟨ds, hD0, hcell2⟩ := hgc l hlt2
            have CTo : Hid (∀ {W : World}, Below w.heap.size w W → CT 0 W ds us[l]) := (fun h => liesT.below hD0 h : ∀ {W : World}, Below w.heap.size w W → CT 0 W ds us[l])
            have hD := hD0
            have hBu := HZ.out us[l] (List.getElem_mem hlt2)
            have HU : Hid (us[l]? = some us[l]) := List.getElem?_eq_getElem hlt2
            have hbel := hbel2
            clear hD0 hgc hva
            generalize hx : us[l] = u at *
            clear hx
            obtain ⟨xv0, xv1, rfl, xr0, xr1⟩ := hD
            obtain ⟨xa0, xq0, rfl, _⟩ := xr0
            obtain ⟨xa1, xq1, rfl, _⟩ := xr1
            have d0 : wr.cell? ⟨g, o + l * 4, none⟩ = some (.int .i64 u.bgn) := (hbel.cell (p := ⟨g, o + l * 4, none⟩) hg).trans (hcell2 0 (by omega))
            have d1 : wr.cell? ⟨g, o + l * 4 + 1, none⟩ = some (.int .i64 u.com) := (hbel.cell (p := ⟨g, o + l * 4 + 1, none⟩) hg).trans (hcell2 1 (by omega))
            have d2 : wr.cell? ⟨g, o + l * 4 + 2, none⟩ = some (.slice xa0 u.reads.length xq0) := (hbel.cell (p := ⟨g, o + l * 4 + 2, none⟩) hg).trans (hcell2 2 (by omega))
            have d3 : wr.cell? ⟨g, o + l * 4 + 3, none⟩ = some (.slice xa1 u.writes.length xq1) := (hbel.cell (p := ⟨g, o + l * 4 + 3, none⟩) hg).trans (hcell2 3 (by omega))
            clear hcell2 hbel
            have HAB := hid (aheadB_at HD.out HU.out)
            have KB := hid (KP.out.below (below_alloc wr (.cells #[.int .i64 u.bgn, .int .i64 u.com, .slice xa0 u.reads.length xq0, .slice xa1 u.writes.length xq1] 31)) hzp)
            replace RW := hid (RW.out.below (below_alloc wr (.cells #[.int .i64 u.bgn, .int .i64 u.com, .slice xa0 u.reads.length xq0, .slice xa1 u.writes.length xq1] 31)))
            have bwW : Below w.heap.size w (wr.alloc (.cells #[.int .i64 u.bgn, .int .i64 u.com, .slice xa0 u.reads.length xq0, .slice xa1 u.writes.length xq1] 31)) := hbel2.alloc hbs2 _
            have hzp2 : gp < (wr.alloc (.cells #[.int .i64 u.bgn, .int .i64 u.com, .slice xa0 u.reads.length xq0, .slice xa1 u.writes.length xq1] 31)).heap.size := by simp; omega
            clear KP
            by_cases hlk : l = k
            · have HA : Hid (aheadB us k l = false) := (by rw [HAB.out, hlk]; simp : aheadB us k l = false)
              have HW2 : Hid (Waits us ws (List.range k) (List.range (k + 1)) (l + 1)) := HW.out.keep (by rw [cntL_succ, HA.out]; simp)
              clear HAB HA HW
              subst hlk
              go_wp2
              go_roundw
              case rel => exact ⟨l + 1, ws, by omega, by go_num, RW, HW2, KB, by omega, bwW⟩
              case measure => simp [intOf]; omega
            · have hki : ¬ (k : Int) = l := by omega
              have hkl : ¬ k = l := fun h => hlk h.symm
              have e0 : (wr.alloc (.cells #[.int .i64 u.bgn, .int .i64 u.com, .slice xa0 u.reads.length xq0, .slice xa1 u.writes.length xq1] 31)).cell? ⟨gp, 0, none⟩ = some (.int .i64 p.bgn) := (KB.out 0 (by simp)).1
              have e1 : (wr.alloc (.cells #[.int .i64 u.bgn, .int .i64 u.com, .slice xa0 u.reads.length xq0, .slice xa1 u.writes.length xq1] 31)).cell? ⟨gp, 1, none⟩ = some (.int .i64 p.com) := (KB.out 1 (by simp)).1
              have e2 : (wr.alloc (.cells #[.int .i64 u.bgn, .int .i64 u.com, .slice xa0 u.reads.length xq0, .slice xa1 u.writes.length xq1] 31)).cell? ⟨gp, 2, none⟩ = some (.slice a0 p.reads.length q0) := (KB.out 2 (by simp)).1
              have e3 : (wr.alloc (.cells #[.int .i64 u.bgn, .int .i64 u.com, .slice xa0 u.reads.length xq0, .slice xa1 u.writes.length xq1] 31)).cell? ⟨gp, 3, none⟩ = some (.slice a1 p.writes.length q1) := (KB.out 3 (by simp)).1
              by_cases hcb : p.com ≤ u.bgn
              · have HA : Hid (aheadB us k l = true) := (by rw [HAB.out, decide_eq_true hcb]; simp [hkl] : aheadB us k l = true)
                clear HAB
                have hgl : l < ws.length := by rw [HW.out.1]; exact hlt2
                have hcw : (wr.alloc (.cells #[.int .i64 u.bgn, .int .i64 u.com, .slice xa0 u.reads.length xq0, .slice xa1 u.writes.length xq1] 31)).cell? ⟨gw, l, none⟩ = some (.int .i64 ws[l]) := RW.out.cell hgl
                have hfw : (wr.alloc (.cells #[.int .i64 u.bgn, .int .i64 u.com, .slice xa0 u.reads.length xq0, .slice xa1 u.writes.length xq1] 31)).frozen? ⟨gw, l, none⟩ = false := RW.out.frozen l
                have hwl := HW.out.at hgl
                have hcl := Nat.le_trans (cntL_le us (List.range k) l) (Nat.le_of_eq List.length_range)
                have hwr : IntKind.i64.wrap (ws[l] + 1) = ws[l] + 1 := by simp only [IntKind.wrap_i64, wrap64]; omega
                have HW2 : Hid (Waits us (ws.set l (ws[l] + 1)) (List.range k) (List.range (k + 1)) (l + 1)) := HW.out.step (by rw [cntL_succ, HA.out, hwl]; simp)
                have RW2 := hid (RW.out.set l (ws[l] + 1))
                have KB2 := hid (KB.out.other (c := gw) (j := l) (u := .int .i64 (ws[l] + 1)) (by omega))
                have bw2 := bwW.setCell (show w.heap.size ≤ (⟨gw, l, none⟩ : Addr).block by simp; omega) (.int .i64 (ws[l] + 1))
                have hsz2 : gp < ((wr.alloc (.cells #[.int .i64 u.bgn, .int .i64 u.com, .slice xa0 u.reads.length xq0, .slice xa1 u.writes.length xq1] 31)).setCell ⟨gw, l, none⟩ (.int .i64 (ws[l] + 1))).heap.size := by simpa using hzp2
                have hwsl : ((l : Int) < ws.length) := by omega
                have hwsn := HW.out.1
                clear HW RW KB HA hwl hcl
                generalize hxw : ws[l] = xw at hcw hwr HW2 RW2 KB2 bw2 hsz2
                clear hxw
                go_wp2
                go_roundw
                case rel => exact ⟨l + 1, _, by omega, by go_num, RW2, HW2, KB2, hsz2, bw2⟩
                case measure => simp [intOf]; omega
              · have hl1 := leads_spec p u [.int .i64 p.bgn, .int .i64 p.com, .slice a0 p.reads.length q0, .slice a1 p.writes.length q1] [.int .i64 u.bgn, .int .i64 u.com, .slice xa0 u.reads.length xq0, .slice xa1 u.writes.length xq1] (wr.alloc (.cells #[.int .i64 u.bgn, .int .i64 u.com, .slice xa0 u.reads.length xq0, .slice xa1 u.writes.length xq1] 31)) hBp hBu (CTp.out bwW) (CTo.out bwW)
                go_wp2_with (go_at_call 30; fail)
                refine hl1.mono ?_
                rintro e w3 ⟨⟨r, rfl, hr⟩, hb3⟩
                replace KB := hid (KB.out.below hb3 hzp2)
                replace RW := hid (RW.out.below hb3)
                replace bwW : Below w.heap.size w w3 := bwW.trans (hb3.mono bwW.size)
                replace hzp2 : gp < w3.heap.size := Nat.lt_of_lt_of_le hzp2 hb3.size
                clear hl1 hb3 e0 e1 e2 e3
                rcases r with _ | _
                · have HA : Hid (aheadB us k l = false) := (by rw [HAB.out, decide_eq_false (show ¬ p.com ≤ u.bgn by omega), decide_eq_false (fun h => (by simpa using hr.2 h))]; simp : aheadB us k l = false)
                  have HW2 : Hid (Waits us ws (List.range k) (List.range (k + 1)) (l + 1)) := HW.out.keep (by rw [cntL_succ, HA.out]; simp)
                  clear HAB HA HW hr
                  go_wp2
                  go_roundw
                  case rel => exact ⟨l + 1, ws, by omega, by go_num, RW, HW2, KB, by omega, bwW⟩
                  case measure => simp [intOf]; omega
                · have HA : Hid (aheadB us k l = true) := (by rw [HAB.out, decide_eq_true (hr.1 rfl)]; simp [hkl] : aheadB us k l = true)
                  clear HAB hr
                  have hgl : l < ws.length := by rw [HW.out.1]; exact hlt2
                  have hcw : w3.cell? ⟨gw, l, none⟩ = some (.int .i64 ws[l]) := RW.out.cell hgl
                  have hfw : w3.frozen? ⟨gw, l, none⟩ = false := RW.out.frozen l
                  have hwl := HW.out.at hgl
                  have hcl := Nat.le_trans (cntL_le us (List.range k) l) (Nat.le_of_eq List.length_range)
                  have hwr : IntKind.i64.wrap (ws[l] + 1) = ws[l] + 1 := by simp only [IntKind.wrap_i64, wrap64]; omega
                  have HW2 : Hid (Waits us (ws.set l (ws[l] + 1)) (List.range k) (List.range (k + 1)) (l + 1)) := HW.out.step (by rw [cntL_succ, HA.out, hwl]; simp)
                  have RW2 := hid (RW.out.set l (ws[l] + 1))
                  have KB2 := hid (KB.out.other (c := gw) (j := l) (u := .int .i64 (ws[l] + 1)) (by omega))
                  have bw2 := bwW.setCell (show w.heap.size ≤ (⟨gw, l, none⟩ : Addr).block by simp; omega) (.int .i64 (ws[l] + 1))
                  have hsz2 : gp < (w3.setCell ⟨gw, l, none⟩ (.int .i64 (ws[l] + 1))).heap.size := by simpa using hzp2
                  have hwsl : ((l : Int) < ws.length) := by omega
                  have hwsn := HW.out.1
                  clear HW RW KB HA hwl hcl
                  generalize hxw : ws[l] = xw at hcw hwr HW2 RW2 KB2 bw2 hsz2
                  clear hxw
                  go_wp2
                  go_roundw
                  case rel => exact ⟨l + 1, _, by omega, by go_num, RW2, HW2, KB2, hsz2, bw2⟩
                  case measure => simp [intOf]; omega
          · have hln : l = us.length := by omega
            subst hln
            have hlti2 : ¬ (us.length : Int) < us.length := by omega
            have HV := hid (HW.out.next (List.range (k + 1 + 1)))
            clear HW KP
            go_wp2
            go_roundw
            case rel => exact ⟨k + 1, ws, by omega, by go_num, RW, HV, hbel2⟩
            case measure => simp [intOf]; omega
      · have hkn : k = us.length := by omega
        subst hkn
        have hlti : ¬ (us.length : Int) < us.length := by omega
        have HWS : Hid (Waits us ws0 (remL us.length []) (remL us.length []) 0) := (by rw [remL_nil]; exact HW0.out.turn _ : Waits us ws0 (remL us.length []) (remL us.length []) 0)
        have hgwr := RW0.out.lt.2
        have hne : (us.length : Int) = us.length := rfl
        go_wp2_with (refine wpList_make_full _ rfl (.tmp 61) (.tmp 61) 57 rfl w.heap.size 4 j0 _ 1 Try.underlying57 hj hy0 hy1 .i64 .i64 us.length us.length us.length rfl rfl rfl rfl (by rw [hy2]; omega) (by unfold maxLen; omega) (by simp; omega) ?_; intro w4 hown4 hgrow4)
        have bw4 : Below w.heap.size w w4 := (hbel.alloc hbs _).grown hgrow4 (by simp; omega) (fun k hk => by simp at hk)
        have RG4 : Hid (BRow 4 w.heap.size w4 (wr.heap.size + 1) (List.replicate us.length false)) := rowB (xs := List.replicate us.length (Value.bool false)) (by simpa [toList_madeCells_one, Value.cells] using hown4) (by simp)
        have RW4 : Hid (IRow 3 w.heap.size w4 gw ws0) := (RW0.out.below (below_alloc wr (.cells #[] 3))).grown hgrow4 (by simp)
        have OR4 : Hid (OutRow 3 wr.heap.size w4 (.slice (some ⟨wr.heap.size, 0, none⟩) ([] : List Nat).length 0) []) := (World.ownsRow_made (e := 3) (size := 1) wr #[] 0 (Nat.le_refl _) (by unfold maxLen; omega) (by simp)).kept hgrow4 (.inr (by simp [Value.ownBlock]))
        obtain ⟨q, hq⟩ : ∃ x, x = wr.heap.size := ⟨_, rfl⟩
        rw [← hq] at RG4 OR4 hgwr
        rw [← hq]
        have hwq : w.heap.size ≤ q := by omega
        clear hq hown4 hgrow4 HW0 RW0 hbel hbs hlti
        go_loopw [9] (fun v wr => ∃ (out : List Nat) (ws : List Int) (gs : List Bool) (oa : Option Addr) (oc : Nat), out.length ≤ us.length ∧ v = .slice oa out.length oc ∧ Hid (OutRow 3 q wr (.slice oa out.length oc) out) ∧ Hid (IRow 3 w.heap.size wr gw ws) ∧ Hid (BRow 4 w.heap.size wr (q + 1) gs) ∧ Hid (Waits us ws (remL us.length out) (remL us.length out) 0) ∧ Hid (Gone us gs out) ∧ Hid (SerOut us out) ∧ Below w.heap.size w wr) (fun v _ => us.length - lenV v)
        case atStart => exact ⟨[], ws0, _, _, _, Nat.zero_le _, rfl, OR4, RW4, RG4, HWS, gone_start us, serOut_nil us, bw4⟩
        case round =>
          clear OR4 RW4 RG4 HWS bw4
          obtain ⟨out, ws, gs, oa, oc, ho, rfl, HOR, RW, RG, HW, HGO, HSO, hbel⟩ := hrel
          have hbs := hbel.size
          by_cases hlt3 : out.length < us.length
          · have hli3 : (out.length : Int) < us.length := by omega
            go_wp2
            rename World => W3
            go_loopw [11, 70] (fun av iv wr => ∃ k : Nat, k ≤ us.length ∧ av = .int .i64 (-1) ∧ iv = .int .i64 k ∧ Hid (∀ j, j < k → j ∈ remL us.length out → cntL us (remL us.length out) j ≠ 0) ∧ wr = W3) (fun _ iv _ => us.length - (intOf iv).toNat)
            case atStart => exact ⟨0, Nat.zero_le _, rfl, rfl, (fun j h => absurd h (Nat.not_lt_zero _) : ∀ j, j < 0 → j ∈ remL us.length out → cntL us (remL us.length out) j ≠ 0), rfl⟩
            case round =>
              obtain ⟨k, hk, rfl, rfl, HN, hww⟩ := hrel
              replace hww := hww.symm
              subst hww
              by_cases hlt4 : k < us.length
              · have hlti4 : (k : Int) < us.length := by omega
                have hgk : k < gs.length := by rw [HGO.out.1]; exact hlt4
                have hwk : k < ws.length := by rw [HW.out.1]; exact hlt4
                have cg : W3.cell? ⟨q + 1, k, none⟩ = some (.bool gs[k]) := RG.out.cell hgk
                have cw : W3.cell? ⟨gw, k, none⟩ = some (.int .i64 ws[k]) := RW.out.cell hwk
                have fg : W3.frozen? ⟨q + 1, k, none⟩ = false := RG.out.frozen k
                have HGK := hid (HGO.out.2 k hgk)
                have HWK := hid (HW.out.at0 hwk)
                have hgsl : (k : Int) < gs.length := by omega
                have hwsl : (k : Int) < ws.length := by omega
                have hgsn := HGO.out.1
                have hwsn := HW.out.1
                generalize hxg : gs[k] = xg at cg HGK
                generalize hxw : ws[k] = xw at cw HWK
                clear hxg hxw
                rcases xg with _ | _
                · have HKO : Hid (k ∉ out) := (fun h => (by simpa using HGK.out.2 h) : k ∉ out)
                  have HKR : Hid (k ∈ remL us.length out) := remL_mem.2 ⟨hlt4, HKO.out⟩
                  by_cases hxz : xw = 0
                  · have HPK : Hid (Pick us out k) := ⟨HKR.out, by have := HWK.out; omega, HN.out⟩
                    clear HN HGK HWK
                    subst hxz
                    have hneg : (Value.slice oa out.length oc).ownBlock ≠ some (q + 1) := HOR.out.ne RG.out (by decide)
                    have hnew : (Value.slice oa out.length oc).ownBlock ≠ some gw := fun e => by have := World.ownsRow.lt HOR.out gw e; omega
                    have HNG := hid hneg
                    have HNW := hid hnew
                    have RG5 := hid (RG.out.set k true)
                    have RW5 := hid (RW.out.other (c := q + 1) (j := k) (u := .bool true) (by omega))
                    have OR5 : Hid (OutRow 3 q (W3.setCell ⟨q + 1, k, none⟩ (.bool true)) (.slice oa out.length oc) out) := ownsRow_setCell_other HOR.out hneg _
                    have bw5 : Below w.heap.size w (W3.setCell ⟨q + 1, k, none⟩ (.bool true)) := hbel.setCell (show w.heap.size ≤ (⟨q + 1, k, none⟩ : Addr).block by simp; omega) _
                    have hqW := HOR.out.lt
                    have hq3 : q ≤ W3.heap.size := by have := RG.out.lt.2; omega
                    clear hneg hnew
                    go_wp2_with (at_builtin; refine wpList_append_own _ rfl (.tmp 93) (.tmp 95) 23 rfl q 3 i0 (.int .i64 0) 1 8 Try.underlying23 hi hz0 hz1 hz2 rfl (by decide) _ _ _ rfl (World.ownsRow.alloc OR5.out _) ⟨W3.heap.size, 0, none⟩ 1 1 [.int .i64 (k : Int)] rfl rfl (by have := (blk_new (W3.setCell ⟨q + 1, k, none⟩ (.bool true)) [.int .i64 (k : Int)] 3).cells; simpa using this) (by intro u hu; simp at hu; subst hu; rfl) (by unfold maxLen; omega) (by omega) (by simp; omega) ?_; intro v6 w6 hown6 hgrow6 hiff6; clear hiff6)
                    obtain ⟨out2, hout2⟩ : ∃ x, x = out ++ [k] := ⟨_, rfl⟩
                    have HL2 : Hid (out2.length = out.length + 1) := (by rw [hout2]; simp : out2.length = out.length + 1)
                    have HOR6 : Hid (OutRow 3 q w6 v6 out2) := (by rw [hout2]; unfold OutRow; rw [List.map_append, List.length_append]; exact hown6 : OutRow 3 q w6 v6 out2)
                    have RG6 := hid ((RG5.out.below (below_alloc _ (.cells #[.int .i64 (k : Int)] 3))).grown hgrow6 HNG.out)
                    have RW6 := hid ((RW5.out.below (below_alloc _ (.cells #[.int .i64 (k : Int)] 3))).grown hgrow6 HNW.out)
                    have bw6 : Below w.heap.size w w6 := (bw5.alloc bw5.size _).grown hgrow6 (by have := bw5.size; simp at this ⊢; omega) (fun j hj => by have := hqW j hj; omega)
                    have HSO6 : Hid (SerOut us out2) := (by rw [hout2]; exact serOut_push HSO.out HPK.out : SerOut us out2)
                    have HGO6 : Hid (Gone us (gs.set k true) out2) := (by rw [hout2]; exact HGO.out.push k : Gone us (gs.set k true) out2)
                    have HCP : Hid (∀ j, cntL us (remL us.length out2) j + (if aheadB us k j then 1 else 0) = cntL us (remL us.length out) j) := (by rw [hout2]; exact fun j => cntL_push j HKR.out : ∀ j, cntL us (remL us.length out2) j + (if aheadB us k j then 1 else 0) = cntL us (remL us.length out) j)
                    have HW6 : Hid (Waits us ws (remL us.length out) (remL us.length out2) 0) := HW.out.turn _
                    obtain ⟨oa2, oc2, rfl⟩ := HOR6.out.form
                    generalize hgs2 : gs.set k true = gs2 at *
                    clear hgs2 hown6 hgrow6 hout2 RG5 RW5 OR5 bw5 HNG HNW HPK HKR HKO HSO HGO HW RW RG HOR cg cw fg hqW hgsl hwsl hgk hwk hgsn hwsn
                    obtain ⟨g, o, rfl, _, hg, hgc⟩ := hva (by omega)
                    obtain ⟨cs, hC0, hcp⟩ := hgc k hlt4
                    have CTp : Hid (∀ {W : World}, Below w.heap.size w W → CT 0 W cs us[k]) := (fun h => liesT.below hC0 h : ∀ {W : World}, Below w.heap.size w W → CT 0 W cs us[k])
                    have hC := hC0
                    have hBp := HZ.out us[k] (List.getElem_mem hlt4)
                    have HD : Hid (us[k]? = some us[k]) := List.getElem?_eq_getElem hlt4
                    clear hC0 hva
                    generalize hx : us[k] = p at *
                    clear hx
                    obtain ⟨v0, v1, rfl, r0, r1⟩ := hC
                    obtain ⟨a0, q0, rfl, _⟩ := r0
                    obtain ⟨a1, q1, rfl, _⟩ := r1
                    have HCC := hid hcp
                    clear hcp hbel hbs
                    go_wp2
                    go_loopw [99] (fun jv wr => ∃ (l : Nat) (ws2 : List Int), l ≤ us.length ∧ jv = .int .i64 l ∧ Hid (IRow 3 w.heap.size wr gw ws2) ∧ Hid (Waits us ws2 (remL us.length out) (remL us.length out2) l) ∧ Hid (BRow 4 w.heap.size wr (q + 1) gs2) ∧ Hid (OutRow 3 q wr (.slice oa2 out2.length oc2) out2) ∧ Below w.heap.size w wr) (fun jv _ => us.length - (intOf jv).toNat)
                    case atStart => exact ⟨0, ws, Nat.zero_le _, rfl, RW6, HW6, RG6, HOR6, bw6⟩
                    case round =>
                      clear RW6 HW6 RG6 HOR6 bw6
                      obtain ⟨l, ws2, hl, rfl, RW, HW, RG, HOR, hbel2⟩ := hrel
                      have hbs2 := hbel2.size
                      by_cases hlt2 : l < us.length
                      · have hlti2 : (l : Int) < us.length := by omega
                        obtain ⟨ds, hD0, hcell2⟩ := hgc l hlt2
                        have CTo : Hid (∀ {W : World}, Below w.heap.size w W → CT 0 W ds us[l]) := (fun h => liesT.below hD0 h : ∀ {W : World}, Below w.heap.size w W → CT 0 W ds us[l])
                        have hD := hD0
                        have hBu := HZ.out us[l] (List.getElem_mem hlt2)
                        have HU : Hid (us[l]? = some us[l]) := List.getElem?_eq_getElem hlt2
                        have hbel := hbel2
                        clear hD0 hgc
                        generalize hx : us[l] = u at *
                        clear hx
                        obtain ⟨xv0, xv1, rfl, xr0, xr1⟩ := hD
                        obtain ⟨xa0, xq0, rfl, _⟩ := xr0
                        obtain ⟨xa1, xq1, rfl, _⟩ := xr1
                        have d0 : wr.cell? ⟨g, o + l * 4, none⟩ = some (.int .i64 u.bgn) := (hbel.cell (p := ⟨g, o + l * 4, none⟩) hg).trans (hcell2 0 (by omega))
                        have d1 : wr.cell? ⟨g, o + l * 4 + 1, none⟩ = some (.int .i64 u.com) := (hbel.cell (p := ⟨g, o + l * 4 + 1, none⟩) hg).trans (hcell2 1 (by omega))
                        have d2 : wr.cell? ⟨g, o + l * 4 + 2, none⟩ = some (.slice xa0 u.reads.length xq0) := (hbel.cell (p := ⟨g, o + l * 4 + 2, none⟩) hg).trans (hcell2 2 (by omega))
                        have d3 : wr.cell? ⟨g, o + l * 4 + 3, none⟩ = some (.slice xa1 u.writes.length xq1) := (hbel.cell (p := ⟨g, o + l * 4 + 3, none⟩) hg).trans (hcell2 3 (by omega))
                        clear hcell2 hbel
                        have hgr : g < wr.heap.size := by omega
                        have hgwr2 : gw < wr.heap.size := RW.out.lt.2
                        have HAB := hid (aheadB_at HD.out HU.out)
                        replace RW := hid (RW.out.below (below_alloc wr (.cells #[.int .i64 u.bgn, .int .i64 u.com, .slice xa0 u.reads.length xq0, .slice xa1 u.writes.length xq1] 31)))
                        replace RG := hid (RG.out.below (below_alloc wr (.cells #[.int .i64 u.bgn, .int .i64 u.com, .slice xa0 u.reads.length xq0, .slice xa1 u.writes.length xq1] 31)))
                        replace HOR := hid (HOR.out.below (below_alloc wr (.cells #[.int .i64 u.bgn, .int .i64 u.com, .slice xa0 u.reads.length xq0, .slice xa1 u.writes.length xq1] 31)))
                        have bwW : Below w.heap.size w (wr.alloc (.cells #[.int .i64 u.bgn, .int .i64 u.com, .slice xa0 u.reads.length xq0, .slice xa1 u.writes.length xq1] 31)) := hbel2.alloc hbs2 _
                        by_cases hlk : l = k
                        · have HA : Hid (aheadB us k l = false) := (by rw [HAB.out, hlk]; simp : aheadB us k l = false)
                          have HW2 : Hid (Waits us ws2 (remL us.length out) (remL us.length out2) (l + 1)) := HW.out.keep (by have := HCP.out l; rw [HA.out] at this; simpa using this)
                          clear HAB HA HW HCP
                          subst hlk
                          go_wp2
                          go_quiet (fail)
                          go_wp2
                          go_roundw
                          case rel => exact ⟨l + 1, ws2, by omega, by go_num, hid (RW.out.below (below_drewNt _ _)), HW2, hid (RG.out.below (below_drewNt _ _)), hid (HOR.out.below (below_drewNt _ _)), bwW.trans ((below_drewNt _ _).mono bwW.size)⟩
                          case measure => simp [intOf]; omega
                        · have hki : ¬ (l : Int) = k := by omega
                          have hkl : ¬ k = l := fun h => hlk h.symm
                          have f0 : wr.cell? ⟨g, o + k * 4, none⟩ = some (.int .i64 p.bgn) := (hbel2.cell (p := ⟨g, o + k * 4, none⟩) hg).trans (HCC.out 0 (by omega))
                          have f1 : wr.cell? ⟨g, o + k * 4 + 1, none⟩ = some (.int .i64 p.com) := (hbel2.cell (p := ⟨g, o + k * 4 + 1, none⟩) hg).trans (HCC.out 1 (by omega))
                          have f2 : wr.cell? ⟨g, o + k * 4 + 2, none⟩ = some (.slice a0 p.reads.length q0) := (hbel2.cell (p := ⟨g, o + k * 4 + 2, none⟩) hg).trans (HCC.out 2 (by omega))
                          have f3 : wr.cell? ⟨g, o + k * 4 + 3, none⟩ = some (.slice a1 p.writes.length q1) := (hbel2.cell (p := ⟨g, o + k * 4 + 3, none⟩) hg).trans (HCC.out 3 (by omega))
                          have e0 : (wr.alloc (.cells #[.int .i64 u.bgn, .int .i64 u.com, .slice xa0 u.reads.length xq0, .slice xa1 u.writes.length xq1] 31)).cell? ⟨g, o + k * 4, none⟩ = some (.int .i64 p.bgn) := (bwW.cell (p := ⟨g, o + k * 4, none⟩) hg).trans (HCC.out 0 (by omega))
                          have e1 : (wr.alloc (.cells #[.int .i64 u.bgn, .int .i64 u.com, .slice xa0 u.reads.length xq0, .slice xa1 u.writes.length xq1] 31)).cell? ⟨g, o + k * 4 + 1, none⟩ = some (.int .i64 p.com) := (bwW.cell (p := ⟨g, o + k * 4 + 1, none⟩) hg).trans (HCC.out 1 (by omega))
                          have e2 : (wr.alloc (.cells #[.int .i64 u.bgn, .int .i64 u.com, .slice xa0 u.reads.length xq0, .slice xa1 u.writes.length xq1] 31)).cell? ⟨g, o + k * 4 + 2, none⟩ = some (.slice a0 p.reads.length q0) := (bwW.cell (p := ⟨g, o + k * 4 + 2, none⟩) hg).trans (HCC.out 2 (by omega))
                          have e3 : (wr.alloc (.cells #[.int .i64 u.bgn, .int .i64 u.com, .slice xa0 u.reads.length xq0, .slice xa1 u.writes.length xq1] 31)).cell? ⟨g, o + k * 4 + 3, none⟩ = some (.slice a1 p.writes.length q1) := (bwW.cell (p := ⟨g, o + k * 4 + 3, none⟩) hg).trans (HCC.out 3 (by omega))
                          by_cases hcb : p.com ≤ u.bgn
                          · have HA : Hid (aheadB us k l = true) := (by rw [HAB.out, decide_eq_true hcb]; simp [hkl] : aheadB us k l = true)
                            clear HAB
                            have hgl : l < ws2.length := by rw [HW.out.1]; exact hlt2
                            have hcw : (wr.alloc (.cells #[.int .i64 u.bgn, .int .i64 u.com, .slice xa0 u.reads.length xq0, .slice xa1 u.writes.length xq1] 31)).cell? ⟨gw, l, none⟩ = some (.int .i64 ws2[l]) := RW.out.cell hgl
                            have hfw : (wr.alloc (.cells #[.int .i64 u.bgn, .int .i64 u.com, .slice xa0 u.reads.length xq0, .slice xa1 u.writes.length xq1] 31)).frozen? ⟨gw, l, none⟩ = false := RW.out.frozen l
                            have hwl := HW.out.at hgl
                            have hcl := Nat.le_trans (cntL_le us (remL us.length out) l) (remL_len _ _)
                            have hcp1 : (cntL us (remL us.length out2) l : Int) + 1 = (cntL us (remL us.length out) l : Nat) := by have := HCP.out l; rw [HA.out] at this; simp at this; omega
                            have hwr : IntKind.i64.wrap (ws2[l] - 1) = ws2[l] - 1 := by simp only [IntKind.wrap_i64, wrap64]; omega
                            have HW2 : Hid (Waits us (ws2.set l (ws2[l] - 1)) (remL us.length out) (remL us.length out2) (l + 1)) := HW.out.step (by rw [hwl]; omega)
                            have RW2 := hid (RW.out.set l (ws2[l] - 1))
                            have RG2 := hid (RG.out.other (c := gw) (j := l) (u := .int .i64 (ws2[l] - 1)) (by omega))
                            have HO2 : Hid (OutRow 3 q ((wr.alloc (.cells #[.int .i64 u.bgn, .int .i64 u.com, .slice xa0 u.reads.length xq0, .slice xa1 u.writes.length xq1] 31)).setCell ⟨gw, l, none⟩ (.int .i64 (ws2[l] - 1))) (.slice oa2 out2.length oc2) out2) := ownsRow_setCell_other HOR.out (fun e => by have := World.ownsRow.lt HOR.out gw e; omega) _
                            have bw2 := bwW.setCell (show w.heap.size ≤ (⟨gw, l, none⟩ : Addr).block by simp; omega) (.int .i64 (ws2[l] - 1))
                            have hwsl : ((l : Int) < ws2.length) := by omega
                            have hwsn := HW.out.1
                            clear HW RW RG HOR HA hwl hcl hcp1 HCP
                            generalize hxw : ws2[l] = xw at hcw hwr HW2 RW2 RG2 HO2 bw2
                            clear hxw
                            go_wp2
                            have g1 : decide (p.com ≤ u.bgn) = true := decide_eq_true (by omega)
                            have g2 : ((l : Int) != (k : Int)) = true := bne_iff_ne.2 hki
                            go_big_quiet (fail)
                            go_wp2
                            go_roundw
                            case rel => exact ⟨l + 1, _, by omega, by go_num, hid (RW2.out.below (below_drewNt _ _)), HW2, hid (RG2.out.below (below_drewNt _ _)), hid (HO2.out.below (below_drewNt _ _)), bw2.trans ((below_drewNt _ _).mono bw2.size)⟩
                            case measure => simp [intOf]; omega
                          · have hl1 := leads_spec p u [.int .i64 p.bgn, .int .i64 p.com, .slice a0 p.reads.length q0, .slice a1 p.writes.length q1] [.int .i64 u.bgn, .int .i64 u.com, .slice xa0 u.reads.length xq0, .slice xa1 u.writes.length xq1] ((wr.alloc (.cells #[.int .i64 u.bgn, .int .i64 u.com, .slice xa0 u.reads.length xq0, .slice xa1 u.writes.length xq1] 31))).drew hBp hBu (CTp.out bwW.drew) (CTo.out bwW.drew)
                            have b0 : ((wr.alloc (.cells #[.int .i64 u.bgn, .int .i64 u.com, .slice xa0 u.reads.length xq0, .slice xa1 u.writes.length xq1] 31))).cell? ⟨wr.heap.size, 0, none⟩ = some (.int .i64 u.bgn) := by simp
                            have HRW := hid RW.out
                            go_wp2
                            have g1 : decide (p.com ≤ u.bgn) = false := decide_eq_false (by omega)
                            have g2 : ((l : Int) != (k : Int)) = true := bne_iff_ne.2 hki
                            go_region_held (fun W => W.cell? ⟨g, o + k * 4, none⟩ = some (.int .i64 p.bgn) ∧ W.cell? ⟨g, o + k * 4 + 1, none⟩ = some (.int .i64 p.com) ∧ W.cell? ⟨g, o + k * 4 + 2, none⟩ = some (.slice a0 p.reads.length q0) ∧ W.cell? ⟨g, o + k * 4 + 3, none⟩ = some (.slice a1 p.writes.length q1) ∧ W.cell? ⟨wr.heap.size, 0, none⟩ = some (.int .i64 u.bgn) ∧ W.cell? ⟨wr.heap.size, 1, none⟩ = some (.int .i64 u.com) ∧ W.cell? ⟨wr.heap.size, 2, none⟩ = some (.slice xa0 u.reads.length xq0) ∧ W.cell? ⟨wr.heap.size, 3, none⟩ = some (.slice xa1 u.writes.length xq1)) (go_keep) ((go_at_call 30; refine hl1.mono ?_; rintro e w3 ⟨⟨r, rfl, hr⟩, hb3⟩; replace hb3 := undrew hb3; replace RW := hid (RW.out.below hb3); replace RG := hid (RG.out.below hb3); replace HOR := hid (HOR.out.below hb3); replace bwW : Below w.heap.size w w3 := bwW.trans (hb3.mono bwW.size); have y0 : w3.cell? ⟨g, o + k * 4, none⟩ = some (.int .i64 p.bgn) := (hb3.cell (p := ⟨g, o + k * 4, none⟩) (by simp; omega)).trans e0; have y1 : w3.cell? ⟨g, o + k * 4 + 1, none⟩ = some (.int .i64 p.com) := (hb3.cell (p := ⟨g, o + k * 4 + 1, none⟩) (by simp; omega)).trans e1; have y2 : w3.cell? ⟨g, o + k * 4 + 2, none⟩ = some (.slice a0 p.reads.length q0) := (hb3.cell (p := ⟨g, o + k * 4 + 2, none⟩) (by simp; omega)).trans e2; have y3 : w3.cell? ⟨g, o + k * 4 + 3, none⟩ = some (.slice a1 p.writes.length q1) := (hb3.cell (p := ⟨g, o + k * 4 + 3, none⟩) (by simp; omega)).trans e3; have z0 : w3.cell? ⟨wr.heap.size, 0, none⟩ = some (.int .i64 u.bgn) := (hb3.cell (p := ⟨wr.heap.size, 0, none⟩) (by simp)).trans (by simp); have z1 : w3.cell? ⟨wr.heap.size, 1, none⟩ = some (.int .i64 u.com) := (hb3.cell (p := ⟨wr.heap.size, 1, none⟩) (by simp)).trans (by simp); have z2 : w3.cell? ⟨wr.heap.size, 2, none⟩ = some (.slice xa0 u.reads.length xq0) := (hb3.cell (p := ⟨wr.heap.size, 2, none⟩) (by simp)).trans (by simp); have z3 : w3.cell? ⟨wr.heap.size, 3, none⟩ = some (.slice xa1 u.writes.length xq1) := (hb3.cell (p := ⟨wr.heap.size, 3, none⟩) (by simp)).trans (by simp); clear hb3))
                            all_goals
                              clear hl1 HRW y0 y1 y2 y3 z0 z1 z2 z3
                              rcases r with _ | _
                              · have HA : Hid (aheadB us k l = false) := (by rw [HAB.out, decide_eq_false (show ¬ p.com ≤ u.bgn by omega), decide_eq_false (fun h => (by simpa using hr.2 h))]; simp : aheadB us k l = false)
                                have HW2 : Hid (Waits us ws2 (remL us.length out) (remL us.length out2) (l + 1)) := HW.out.keep (by have := HCP.out l; rw [HA.out] at this; simpa using this)
                                clear HAB HA HW hr HCP
                                go_wp2
                                go_roundw
                                case rel => exact ⟨l + 1, ws2, by omega, by go_num, RW, HW2, RG, HOR, bwW⟩
                                case measure => simp [intOf]; omega
                              · have HA : Hid (aheadB us k l = true) := (by rw [HAB.out, decide_eq_true (hr.1 rfl)]; simp [hkl] : aheadB us k l = true)
                                clear HAB hr
                                have hgl : l < ws2.length := by rw [HW.out.1]; exact hlt2
                                have hcw : w3.cell? ⟨gw, l, none⟩ = some (.int .i64 ws2[l]) := RW.out.cell hgl
                                have hfw : w3.frozen? ⟨gw, l, none⟩ = false := RW.out.frozen l
                                have hwl := HW.out.at hgl
                                have hcl := Nat.le_trans (cntL_le us (remL us.length out) l) (remL_len _ _)
                                have hcp1 : (cntL us (remL us.length out2) l : Int) + 1 = (cntL us (remL us.length out) l : Nat) := by have := HCP.out l; rw [HA.out] at this; simp at this; omega
                                have hwr : IntKind.i64.wrap (ws2[l] - 1) = ws2[l] - 1 := by simp only [IntKind.wrap_i64, wrap64]; omega
                                have HW2 : Hid (Waits us (ws2.set l (ws2[l] - 1)) (remL us.length out) (remL us.length out2) (l + 1)) := HW.out.step (by rw [hwl]; omega)
                                have RW2 := hid (RW.out.set l (ws2[l] - 1))
                                have RG2 := hid (RG.out.other (c := gw) (j := l) (u := .int .i64 (ws2[l] - 1)) (by omega))
                                have HO2 : Hid (OutRow 3 q (w3.setCell ⟨gw, l, none⟩ (.int .i64 (ws2[l] - 1))) (.slice oa2 out2.length oc2) out2) := ownsRow_setCell_other HOR.out (fun e => by have := World.ownsRow.lt HOR.out gw e; omega) _
                                have bw2 := bwW.setCell (show w.heap.size ≤ (⟨gw, l, none⟩ : Addr).block by simp; omega) (.int .i64 (ws2[l] - 1))
                                have hwsl : ((l : Int) < ws2.length) := by omega
                                have hwsn := HW.out.1
                                clear HW RW RG HOR HA hwl hcl hcp1 HCP
                                generalize hxw : ws2[l] = xw at hcw hwr HW2 RW2 RG2 HO2 bw2
                                clear hxw
                                go_wp2
                                go_roundw
                                case rel => exact ⟨l + 1, _, by omega, by go_num, RW2, HW2, RG2, HO2, bw2⟩
                                case measure => simp [intOf]; omega
                      · have hln : l = us.length := by omega
                        subst hln
                        have hlti2 : ¬ (us.length : Int) < us.length := by omega
                        have HV := hid (HW.out.next (remL us.length out2))
                        have hl2 := HL2.out
                        clear HW HL2
                        go_wp2
                        go_roundw
                        case rel => exact ⟨out2, ws2, gs2, oa2, oc2, by omega, rfl, HOR, RW, RG, HV, HGO6, HSO6, hbel2⟩
                        case measure => simp [lenV]; omega
                  · have HN2 : Hid (∀ j, j < k + 1 → j ∈ remL us.length out → cntL us (remL us.length out) j ≠ 0) := (fun j hj hm => by
                      by_cases e : j = k
                      · subst e; have := HWK.out; omega
                      · exact HN.out j (by omega) hm : ∀ j, j < k + 1 → j ∈ remL us.length out → cntL us (remL us.length out) j ≠ 0)
                    clear HN HGK HWK HKO HKR
                    go_wp2
                    go_roundw
                    case rel => exact ⟨k + 1, by omega, rfl, by go_num, HN2, by first | exact rfl | trivial⟩
                    case measure => simp [intOf]; omega
                · have HN2 : Hid (∀ j, j < k + 1 → j ∈ remL us.length out → cntL us (remL us.length out) j ≠ 0) := (fun j hj hm => by
                    by_cases e : j = k
                    · subst e; exact absurd (HGK.out.1 rfl) (remL_mem.1 hm).2
                    · exact HN.out j (by omega) hm : ∀ j, j < k + 1 → j ∈ remL us.length out → cntL us (remL us.length out) j ≠ 0)
                  clear HN HGK HWK
                  go_wp2
                  go_roundw
                  case rel => exact ⟨k + 1, by omega, rfl, by go_num, HN2, by first | exact rfl | trivial⟩
                  case measure => simp [intOf]; omega
              · have hkn : k = us.length := by omega
                subst hkn
                have hlti4 : ¬ (us.length : Int) < us.length := by omega
                have HF : Hid (SerC us [] 21) := .inr (.inr ⟨HH.out, out, HSO.out, hlt3, fun j hj => HN.out j (remL_mem.1 hj).1 hj, rfl, rfl⟩)
                clear HN
                go_wp2
                refine bodyPost_ret (v := .tuple #[.slice (some ⟨W3.heap.size, 0, none⟩) 0 0, .int .i64 21]) (by simp [results, Try.results14, go_sem]) rfl ⟨_, 21, [], rfl, ⟨_, _, rfl, fun h => absurd h (by simp)⟩, HF.out, hbel.alloc hbs _⟩
          · have hle : out.length = us.length := by omega
            have hli3 : ¬ (out.length : Int) < us.length := by omega
            have HF : Hid (SerC us (out.map Int.ofNat) 0) := .inr (.inl ⟨HH.out, out, HSO.out, hle, rfl, rfl⟩)
            have HRS := hid (HOR.out.rsw.mono liesI hwq)
            clear HOR hle
            go_wp2
            refine bodyPost_ret (v := .tuple #[.slice oa out.length oc, .int .i64 0]) (by simp [results, Try.results14, go_sem]) rfl ⟨_, 0, _, rfl, HRS.out, HF.out, hbel⟩
end Go.Proofs.Ytjfgojlnpbehfaa
