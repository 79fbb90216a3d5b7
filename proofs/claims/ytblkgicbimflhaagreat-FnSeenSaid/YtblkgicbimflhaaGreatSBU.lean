import Derived.Test.YtblkgicbimflhaaGreatSBT
import Derived.Deep.CutBlock
namespace Go.Proofs.YtblkgicbimflhaaGreat
open Go.ChangeShapes Go.WideShapes Go.ChangeAt Go.RowKit
set_option linter.unusedVariables false
set_option linter.unusedSimpArgs false
set_option maxRecDepth 100000
set_option maxHeartbeats 16000000
theorem seen_law (himpl : ∀ us, TxnOf 9 us (txnL us) (txnC us)) (v0 : Option Addr) (len cap : Nat) (w : World) (hlen : len <= maxLen) (hby : Bytes w w.heap.size v0 len) :
 Calls Tryz.prog 4 #[.slice v0 len cap] w fun e w' => e = .returned (.bool true) /\ Below w.heap.size w w' := by
 have HBY := hid hby
 have HIM := hid himpl
 clear hby himpl
 by_cases hbig : 1048576 < len
 .have hbi : (1048576 : Int) < len := by omega
  go_enter Tryz.func4, Tryz.ntmps4
  go_wp2
  go_ret
  exact ⟨rfl, Below.refl _ _⟩
 obtain ⟨j0, hj, hy0, hy1, hy2⟩ := info_parts infoOp
 have hbi : ¬ (1048576 : Int) < len := by omega
 have hln : len <= 1048576 := by omega
 clear hbig
 have HDR := hid (drawRun_any v0 len cap (w.alloc (.cells #[] 41)) hln (fun j hj => by
  obtain ⟨g, o, b, e1, e2, e3, e4⟩ := HBY.out j hj
  exact ⟨g, o, b, e1, by simp; omega, ((below_alloc w _).cell (p := ⟨g, o + j, none⟩) e2).trans e3, e4⟩))
 clear HBY
 go_enter Tryz.func4, Tryz.ntmps4
 go_wp2_with (go_at_call 12; fail)
 refine HDR.out.mono ?_
 rintro e w1 ⟨us, dv, rfl, hrow, hul, hnm, hb1⟩
 have HL : Hid (L1 w dv us [] (.slice (some ⟨w.heap.size, 0, none⟩) 0 0) w1) := hid (by
  have hm := World.ownsRow_made (base := w.heap.size) (e := 41) (size := 7) w #[] 0 (by simp) (by unfold maxLen; omega) (by simp)
  refine ⟨own_below (by simpa using hm) hb1, own_bs hrow (by simp), fun g hg e => ?_, (below_alloc w _).trans (hb1.mono (by simp))⟩
  have h1 := (hrow.lt g hg).1
  simp [Value.ownBlock] at e
  subst e
  simp at h1
  omega)
 obtain ⟨da, dc, rfl⟩ := formR hrow
 clear hrow hnm hb1 HDR
 go_wp2
 go_loopw [3, 31] (fun lv iv wr => ∃ (k : Nat) (os : List Opn) (pa : Option Addr) (pc : Nat), k <= us.length /\ iv = .int .i64 (k : Int) /\ lv = .slice pa os.length pc /\ os.length <= 1000 /\ Hid (L1 w (.slice da us.length dc) us os (.slice pa os.length pc) wr)) (fun _ iv _ => us.length - (intOf iv).toNat)
 case atStart => exact ⟨0, [], _, 0, by omega, rfl, rfl, by simp, HL⟩
 case round =>
  clear HL
  obtain ⟨k, os, pa, pc, hk, rfl, rfl, hol, HL⟩ := hrel
  by_cases hlt : k < us.length
  .have hlti : (k : Int) < us.length := by omega
   obtain ⟨dg, dc', hde, _, _, hdl⟩ := own_shape HL.out.drw (by omega)
   obtain ⟨rfl, rfl⟩ : da = some ⟨dg, 0, none⟩ /\ dc = dc' := by injection hde with a b c; exact ⟨a, c⟩
   have hcl := HL.out.cells rfl hlt
   have HU : Hid (∃ o : Opn, o = us[k]) := hid ⟨_, rfl⟩
   generalize us[k] = o at hcl
   obtain ⟨kd, ss, tb, ky, vl, md, nm⟩ := o
   have c0 : wr.cell? ⟨dg, k * 7, none⟩ = some (.int .i64 kd) := hcl 0 (by omega)
   have c1 : wr.cell? ⟨dg, k * 7 + 1, none⟩ = some (.int .i64 ss) := hcl 1 (by omega)
   have c2 : wr.cell? ⟨dg, k * 7 + 2, none⟩ = some (.int .i64 tb) := hcl 2 (by omega)
   have c3 : wr.cell? ⟨dg, k * 7 + 3, none⟩ = some (.int .i64 ky) := hcl 3 (by omega)
   have c4 : wr.cell? ⟨dg, k * 7 + 4, none⟩ = some (.int .i64 vl) := hcl 4 (by omega)
   have c5 : wr.cell? ⟨dg, k * 7 + 5, none⟩ = some (.int .i64 md) := hcl 5 (by omega)
   have c6 : wr.cell? ⟨dg, k * 7 + 6, none⟩ = some (.string nm) := hcl 6 (by omega)
   have HA := hid (HL.out.below (below_alloc wr (.cells #[.int .i64 kd, .int .i64 ss, .int .i64 tb, .int .i64 ky, .int .i64 vl, .int .i64 md, .string nm] 41)))
   clear hcl HU hde HL
   by_cases hro : os.length + 2 <= 1000
   .have hroi : (os.length : Int) + 2 <= 1000 := by omega
    have KO : Blk (wr.alloc (.cells #[.int .i64 kd, .int .i64 ss, .int .i64 tb, .int .i64 ky, .int .i64 vl, .int .i64 md, .string nm] 41)) wr.heap.size (opK ⟨kd, ss, tb, ky, vl, md, nm⟩) := blk_new wr (opK ⟨kd, ss, tb, ky, vl, md, nm⟩) _
    obtain ⟨x1, hx1⟩ : ∃ x : Int, x = 1 + (k : Int) % 3 := ⟨_, rfl⟩
    obtain ⟨x2, hx2⟩ : ∃ x : Int, x = (k : Int) / 3 % 3 := ⟨_, rfl⟩
    have HAA := hid (HA.out.below (below_alloc (wr.alloc (.cells #[.int .i64 kd, .int .i64 ss, .int .i64 tb, .int .i64 ky, .int .i64 vl, .int .i64 md, .string nm] 41)) (.cells #[.int .i64 kd, .int .i64 ss, .int .i64 tb, .int .i64 ky, .int .i64 vl, .int .i64 md, .string nm, .int .i64 3, .int .i64 (1 + (k : Int) % 3), .int .i64 ((k : Int) / 3 % 3), .int .i64 0, .int .i64 0, .int .i64 0, .string ⟨#[]⟩] 41)))
    have HCN := hid (cells_new (wr.alloc (.cells #[.int .i64 kd, .int .i64 ss, .int .i64 tb, .int .i64 ky, .int .i64 vl, .int .i64 md, .string nm] 41)) (opK ⟨kd, ss, tb, ky, vl, md, nm⟩ ++ opK ⟨3, (1 + (k : Int) % 3), ((k : Int) / 3 % 3), 0, 0, 0, ⟨#[]⟩⟩) 41 (wr.heap.size + 1) (by simp))
    have hbA : w.heap.size <= ((wr.alloc (.cells #[.int .i64 kd, .int .i64 ss, .int .i64 tb, .int .i64 ky, .int .i64 vl, .int .i64 md, .string nm] 41)).alloc (.cells #[.int .i64 kd, .int .i64 ss, .int .i64 tb, .int .i64 ky, .int .i64 vl, .int .i64 md, .string nm, .int .i64 3, .int .i64 (1 + (k : Int) % 3), .int .i64 ((k : Int) / 3 % 3), .int .i64 0, .int .i64 0, .int .i64 0, .string ⟨#[]⟩] 41)).heap.size := HAA.out.bel.size
    clear HA KO hx1 hx2
    go_wp2_with (at_builtin; go_loud (refine wpList_append_own_at _ rfl (.tmp 40) (.tmp 49) 23 rfl w.heap.size 41 j0 _ 7 64 Tryz.underlying23 hj hy0 hy1 hy2 rfl (by decide) (.slice pa os.length pc) os.length (os.flatMap opK) rfl HAA.out.row ⟨wr.heap.size + 1, 0, none⟩ 2 2 (opK ⟨kd, ss, tb, ky, vl, md, nm⟩ ++ opK ⟨3, (1 + (k : Int) % 3), ((k : Int) / 3 % 3), 0, 0, 0, ⟨#[]⟩⟩) rfl rfl HCN.out (fun u hu => (List.mem_append.1 hu).elim (oneOp _ u) (oneOp _ u)) (by unfold maxLen; omega) (by omega) hbA ?_; intro v' w' hown hgrow _ hat; obtain ⟨na, nc, hvn⟩ := formR hown; subst hvn; have HLN := hid (HAA.out.push hgrow hown hat); clear hown hgrow hat))
    go_roundw
    case rel => exact ⟨k + 1, os ++ [⟨kd, ss, tb, ky, vl, md, nm⟩, ⟨3, (1 + (k : Int) % 3), ((k : Int) / 3 % 3), 0, 0, 0, ⟨#[]⟩⟩], na, nc, by omega, by go_num, by simp, by simp; omega, hid (by simpa using HLN.out)⟩
    case measure => simp [intOf]; omega
   .have hroi : ¬ (os.length : Int) + 2 <= 1000 := by omega
    go_wp2
    go_roundw
    case rel => exact ⟨k + 1, os, pa, pc, by omega, by go_num, rfl, hol, HA⟩
    case measure => simp [intOf]; omega
  .have hlti : ¬ (k : Int) < us.length := by omega
   have hrs : RS 7 CO 0 wr (.slice pa os.length pc) os := (Gr.rs (f := opK) liesO HL.out.row (fun _ _ => rfl)).mono liesO (Nat.zero_le _)
   have HRS := hid hrs
   have HBW := hid HL.out.bel
   clear hrs HL hlti hk
   obtain ⟨eL, eC⟩ := txnL_small hol
   have HS := hid (txnRun_spec os wr pa pc HRS.out)
   rw [eL, eC] at HS
   go_wp2_with (go_at_call 8; fail)
   refine HS.out.mono ?_
   rintro e w2 ⟨wv, qs, rfl, hAw, hRw, hbw, hqn, hqs, hqm⟩
   obtain ⟨L, hL⟩ : ∃ L, L = (runsF bas0 os).2 := ⟨_, rfl⟩
   have hLl : L.length = os.length := by rw [hL]; exact runsF_len _ _
   have HLP : Hid (∀ t ∈ L, t.ps.length <= 1048576) := hid (fun t ht => by
    rw [hL] at ht
    exact runs_ps os 0 bas0 bndN0 (by omega) rfl t ht)
   rw [<- hL] at hRw HS
   have HLq := hid hL
   have HLl := hid hLl
   clear HS hqn hqs hqm hAw
   obtain ⟨wa, wc, rfl, hRw2⟩ := hRw
   have HWT : Hid (RS 5 CA 0 w2 (.slice wa L.length wc) L) := hid ⟨wa, wc, rfl, hRw2⟩
   clear hRw2
   have hz2 := hbw.size
   have HRS2 := hid (HRS.out.below liesO hbw)
   have HB2 := hid (HBW.out.trans (hbw.mono HBW.out.size))
   clear hbw HRS HBW
   have HR3 := hid (HRS2.out.below liesO (below_alloc w2 (.cells #[] 41)))
   have HO3 : Hid ((w2.alloc (.cells #[] 41)).ownsRow w2.heap.size 41 7 (.slice (some ⟨w2.heap.size, 0, none⟩) 0 0) 0 []) := hid (by
    have hm := World.ownsRow_made (base := w2.heap.size) (e := 41) (size := 7) w2 #[] 0 (by simp) (by unfold maxLen; omega) (by simp)
    simpa using hm)
   rw [hLl]
   rw [<- hL] at eL
   clear hLl hL
   go_wp2_with (first | (at_builtin; go_loud (refine wpList_append_rs liesO (fun h => oneCO h) _ rfl (.tmp 58) (.tmp 59) 23 rfl w2.heap.size 41 j0 _ 64 Tryz.underlying23 hj hy0 hy1 hy2 rfl (by decide) (.slice (some ⟨w2.heap.size, 0, none⟩) 0 0) 0 [] rfl HO3.out pa pc os rfl HR3.out (by unfold maxLen; omega) (by omega) (by simp) ?_; intro news v' w' hfill hown hgrow hat; rw [Nat.zero_add, List.nil_append] at hown; obtain ⟨na, nc, hvn⟩ := formR hown; subst hvn; have HN : Hid (RS 7 CO 0 w' (.slice na os.length nc) os) := hid (Fill.own (B := 0) (w := w') liesO hfill (own_base0 hown) (Nat.le_refl _)); have HBn : Hid (Below w2.heap.size w2 w') := hid ((below_alloc w2 _).trans ((Fr.grown hgrow).below (by simp) (fun g hg => by have := (HO3.out.lt g hg).1; omega))); clear hfill hown hgrow hat)) | (go_at_call 9; fail))
   have HC := hid (HIM.out os w' na nc HN.out)
   rw [eL, eC] at HC
   refine HC.out.mono ?_
   rintro e w4 ⟨gv, ps, rfl, hAg, hRg, hbg, hpn, hps, hpm⟩
   have hz4 := hbg.size
   have HBX : Hid (Below w2.heap.size w2 w4) := hid (HBn.out.trans (hbg.mono HBn.out.size))
   obtain ⟨ga, gc, rfl, hRg2⟩ := hRg
   have HGT : Hid (RS 5 CA 0 w4 (.slice ga L.length gc) L) := hid ⟨ga, gc, rfl, hRg2⟩
   have HWT4 := hid (HWT.out.below liesA HBX.out)
   have HOP4 := hid (HRS2.out.below liesO HBX.out)
   have HB4 : Hid (Below w.heap.size w w4) := hid (HB2.out.trans (HBX.out.mono HB2.out.size))
   have hlq : ((os.length : Int) != (os.length : Int)) = false := by simp
   rw [HLl.out] at HGT HWT4 ⊢
   have hmk := mk35
   have HLL := hid (ll0_start w4 os)
   clear hRg2 hAg hbg hpn hps hpm HWT HRS2 HBX HBn HN HC HO3 HR3 HB2 hz2 hz4 eL eC
   go_wp2
   go_loopw [11, 77] (fun lv iv wr => ∃ (k : Nat) (nw : List Sn) (vs : List (Value × Value × Value)) (ps : List (Sn × (Value × Value × Value))) (qa : Option Addr) (qc : Nat), k <= os.length /\ iv = .int .i64 (k : Int) /\ lv = .slice qa ps.length qc /\ Hid (LL w4 w4.heap.size os k wr nw vs (.slice qa ps.length qc) ps)) (fun _ iv _ => os.length - (intOf iv).toNat)
   case atStart => exact ⟨0, _, _, [], _, 0, by omega, rfl, rfl, HLL⟩
   case round =>
    clear HLL hmk
    obtain ⟨k, nw, vs, ps, qa, qc, hk, rfl, rfl, HLL⟩ := hrel
    by_cases hlt : k < os.length
    .have hlti : (k : Int) < os.length := by omega
     have HBW := hid HLL.out.bel
     have hbs := HBW.out.size
     obtain ⟨o, ho⟩ : ∃ o, os[k]? = some o := ⟨_, List.getElem?_eq_getElem hlt⟩
     obtain ⟨a, ha, hsi, hsf⟩ := HLL.out.step HLq.out ho
     have HSI := hid hsi
     have HSF := hid hsf
     have hapl := HLP.out a (List.mem_of_getElem? ha)
     obtain ⟨og, oo, ocs, rfl, hn1, hogl, hC, hcO⟩ := rs_at HOP4.out HBW.out ho
     obtain ⟨gg, go, gcs, rfl, hn2, hggl, ⟨apv, rfl, hap⟩, hcG⟩ := rs_at HGT.out HBW.out ha
     obtain ⟨wg, wo, wcs, rfl, hn3, hwgl, ⟨bpv, rfl, _⟩, hcW⟩ := rs_at HWT4.out HBW.out ha
     have HAP := hid hap
     obtain ⟨apa, apc, hapf, _⟩ := hap
     clear hsi hsf ha ho hn1 hn2 hn3
     obtain ⟨kd, ss, tb, ky, vl, md, nm⟩ := o
     obtain ⟨cd, av, st, fd, aps⟩ := a
     unfold CO at hC
     subst hC
     simp only at hcG hcW hapl hapf HAP
     subst hapf
     have c0 : wr.cell? ⟨og, oo + k * 7, none⟩ = some (.int .i64 kd) := hcO 0 (by omega)
     have c1 : wr.cell? ⟨og, oo + k * 7 + 1, none⟩ = some (.int .i64 ss) := hcO 1 (by omega)
     have c2 : wr.cell? ⟨og, oo + k * 7 + 2, none⟩ = some (.int .i64 tb) := hcO 2 (by omega)
     have c3 : wr.cell? ⟨og, oo + k * 7 + 3, none⟩ = some (.int .i64 ky) := hcO 3 (by omega)
     have c4 : wr.cell? ⟨og, oo + k * 7 + 4, none⟩ = some (.int .i64 vl) := hcO 4 (by omega)
     have c5 : wr.cell? ⟨og, oo + k * 7 + 5, none⟩ = some (.int .i64 md) := hcO 5 (by omega)
     have c6 : wr.cell? ⟨og, oo + k * 7 + 6, none⟩ = some (.string nm) := hcO 6 (by omega)
     have b1 := below_alloc wr (.cells #[.int .i64 kd, .int .i64 ss, .int .i64 tb, .int .i64 ky, .int .i64 vl, .int .i64 md, .string nm] 41)
     have d0 : (wr.alloc (.cells #[.int .i64 kd, .int .i64 ss, .int .i64 tb, .int .i64 ky, .int .i64 vl, .int .i64 md, .string nm] 41)).cell? ⟨gg, go + k * 5, none⟩ = some (.int .i64 cd) := ct b1 hggl (hcG 0 (by omega))
     have d1 : (wr.alloc (.cells #[.int .i64 kd, .int .i64 ss, .int .i64 tb, .int .i64 ky, .int .i64 vl, .int .i64 md, .string nm] 41)).cell? ⟨gg, go + k * 5 + 1, none⟩ = some (.int .i64 av) := ct b1 hggl (hcG 1 (by omega))
     have d2 : (wr.alloc (.cells #[.int .i64 kd, .int .i64 ss, .int .i64 tb, .int .i64 ky, .int .i64 vl, .int .i64 md, .string nm] 41)).cell? ⟨gg, go + k * 5 + 2, none⟩ = some (.int .i64 st) := ct b1 hggl (hcG 2 (by omega))
     have d3 : (wr.alloc (.cells #[.int .i64 kd, .int .i64 ss, .int .i64 tb, .int .i64 ky, .int .i64 vl, .int .i64 md, .string nm] 41)).cell? ⟨gg, go + k * 5 + 3, none⟩ = some (.bool fd) := ct b1 hggl (hcG 3 (by omega))
     have d4 : (wr.alloc (.cells #[.int .i64 kd, .int .i64 ss, .int .i64 tb, .int .i64 ky, .int .i64 vl, .int .i64 md, .string nm] 41)).cell? ⟨gg, go + k * 5 + 4, none⟩ = some (.slice apa aps.length apc) := ct b1 hggl (hcG 4 (by omega))
     have b2 := below_alloc (wr.alloc (.cells #[.int .i64 kd, .int .i64 ss, .int .i64 tb, .int .i64 ky, .int .i64 vl, .int .i64 md, .string nm] 41)) (.cells #[.int .i64 cd, .int .i64 av, .int .i64 st, .bool fd, .slice apa aps.length apc] 38)
     have B2 : Below wr.heap.size wr ((wr.alloc (.cells #[.int .i64 kd, .int .i64 ss, .int .i64 tb, .int .i64 ky, .int .i64 vl, .int .i64 md, .string nm] 41)).alloc (.cells #[.int .i64 cd, .int .i64 av, .int .i64 st, .bool fd, .slice apa aps.length apc] 38)) := b1.trans (b2.mono (by simp))
     have e0 : ((wr.alloc (.cells #[.int .i64 kd, .int .i64 ss, .int .i64 tb, .int .i64 ky, .int .i64 vl, .int .i64 md, .string nm] 41)).alloc (.cells #[.int .i64 cd, .int .i64 av, .int .i64 st, .bool fd, .slice apa aps.length apc] 38)).cell? ⟨wg, wo + k * 5, none⟩ = some (.int .i64 cd) := ct B2 hwgl (hcW 0 (by omega))
     have K1 : Blk (wr.alloc (.cells #[.int .i64 kd, .int .i64 ss, .int .i64 tb, .int .i64 ky, .int .i64 vl, .int .i64 md, .string nm] 41)) wr.heap.size (opK ⟨kd, ss, tb, ky, vl, md, nm⟩) := blk_new wr (opK ⟨kd, ss, tb, ky, vl, md, nm⟩) _
     have K1b : Blk ((wr.alloc (.cells #[.int .i64 kd, .int .i64 ss, .int .i64 tb, .int .i64 ky, .int .i64 vl, .int .i64 md, .string nm] 41)).alloc (.cells #[.int .i64 cd, .int .i64 av, .int .i64 st, .bool fd, .slice apa aps.length apc] 38)) wr.heap.size (opK ⟨kd, ss, tb, ky, vl, md, nm⟩) := K1.below b2 (by simp)
     have K2 : Blk ((wr.alloc (.cells #[.int .i64 kd, .int .i64 ss, .int .i64 tb, .int .i64 ky, .int .i64 vl, .int .i64 md, .string nm] 41)).alloc (.cells #[.int .i64 cd, .int .i64 av, .int .i64 st, .bool fd, .slice apa aps.length apc] 38)) (wr.heap.size + 1) [.int .i64 cd, .int .i64 av, .int .i64 st, .bool fd, .slice apa aps.length apc] := by
      have := blk_new (wr.alloc (.cells #[.int .i64 kd, .int .i64 ss, .int .i64 tb, .int .i64 ky, .int .i64 vl, .int .i64 md, .string nm] 41)) [.int .i64 cd, .int .i64 av, .int .i64 st, .bool fd, .slice apa aps.length apc] 38
      rw [show (wr.alloc (.cells #[.int .i64 kd, .int .i64 ss, .int .i64 tb, .int .i64 ky, .int .i64 vl, .int .i64 md, .string nm] 41)).heap.size = wr.heap.size + 1 by simp] at this
      exact this
     have f0 : ((wr.alloc (.cells #[.int .i64 kd, .int .i64 ss, .int .i64 tb, .int .i64 ky, .int .i64 vl, .int .i64 md, .string nm] 41)).alloc (.cells #[.int .i64 cd, .int .i64 av, .int .i64 st, .bool fd, .slice apa aps.length apc] 38)).cell? ⟨wr.heap.size + 1, 0, none⟩ = some (.int .i64 cd) := (K2 0 (by simp)).1
     have HT1 := hid (tag_below (tag_new wr (opK ⟨kd, ss, tb, ky, vl, md, nm⟩) 41) b2)
     have HB2 := hid B2
     have HK1 := hid K1b
     have HK2 := hid K2
     have hz2 : wr.heap.size + 1 < ((wr.alloc (.cells #[.int .i64 kd, .int .i64 ss, .int .i64 tb, .int .i64 ky, .int .i64 vl, .int .i64 md, .string nm] 41)).alloc (.cells #[.int .i64 cd, .int .i64 av, .int .i64 st, .bool fd, .slice apa aps.length apc] 38)).heap.size := by simp
     have hcc : (cd != cd) = false := by simp
     clear hcO hcG hcW b1 b2 B2 K1 K1b K2
     go_upto_region 20 with fail
     go_cut [93] (fun s wx => s = .bool false /\ Hid (Below wr.heap.size wr wx) /\ Hid (Blk wx wr.heap.size (opK ⟨kd, ss, tb, ky, vl, md, nm⟩)) /\ Hid (Blk wx (wr.heap.size + 1) [.int .i64 cd, .int .i64 av, .int .i64 st, .bool fd, .slice apa aps.length apc]) /\ wr.heap.size + 1 < wx.heap.size /\ Hid (tag wx wr.heap.size 41))
     case first =>
      go_quiet (fail)
      as_aux_lemma =>
       go_wp2
       go_meet
       case rel => exact ⟨rfl, hid (HB2.out.trans ((below_drewNt _ _).mono HB2.out.size)), hid (HK1.out.below (below_drewNt _ _) (by omega)), hid (HK2.out.below (below_drewNt _ _) hz2), hz2, hid (tag_below HT1.out (below_drewNt _ _))⟩
     case rest =>
      obtain ⟨rfl, HB, HKo, HKa, hzc, HTo⟩ := hcut
      clear HB2 HK1 HK2 HT1 f0 e0 d0 d1 d2 d3 d4 c0 c1 c2 c3 c4 c5 c6 hz2
      rename World => wd
      obtain ⟨p0, p1⟩ := kc1 HKo.out
      by_cases hs1 : ss < 1
      .have HN : Hid (LL w4 w4.heap.size os (k + 1) wd nw vs (.slice qa ps.length qc) ps) := hid (HLL.out.same HB.out (by have := HSI.out; rw [stS_out (.inl hs1)] at this; exact this))
       as_aux_lemma =>
        go_wp2
        go_roundw
        case rel => exact ⟨k + 1, nw, vs, ps, qa, qc, by omega, by go_num, rfl, HN⟩
        case measure => simp [intOf]; omega
      by_cases hs4 : 4 < ss
      .have HN : Hid (LL w4 w4.heap.size os (k + 1) wd nw vs (.slice qa ps.length qc) ps) := hid (HLL.out.same HB.out (by have := HSI.out; rw [stS_out (.inr hs4)] at this; exact this))
       as_aux_lemma =>
        go_wp2
        go_roundw
        case rel => exact ⟨k + 1, nw, vs, ps, qa, qc, by omega, by go_num, rfl, HN⟩
        case measure => simp [intOf]; omega
      obtain ⟨s, rfl⟩ : ∃ s : Nat, ss = s := ⟨ss.toNat, by omega⟩
      have hs5 : s < 5 := by omega
      have hs5i : (s : Int) < 5 := by omega
      have hss : ¬ ((s : Int) < 1 \/ 4 < (s : Int)) := by omega
      obtain ⟨u, q, hu, hq, hsm, hcl⟩ := (HLL.out.mem.below HB.out).at hs5
      have hud : nw.getD s sn0 = u := by rw [List.getD_eq_getElem?_getD, hu]; rfl
      obtain ⟨ka, kc, ta, tm, tc, la, lm, lc, hqf⟩ := hsm.form
      subst hqf
      obtain ⟨uop, uun, ubg, ucm, uks, utd, uls⟩ := u
      simp only at hcl
      have n0 : wd.cell? ⟨w4.heap.size, s * 7, none⟩ = some (.bool uop) := (hcl 0 (by omega)).1
      have n1 : wd.cell? ⟨w4.heap.size, s * 7 + 1, none⟩ = some (.bool uun) := (hcl 1 (by omega)).1
      have n2 : wd.cell? ⟨w4.heap.size, s * 7 + 2, none⟩ = some (.int .i64 ubg) := (hcl 2 (by omega)).1
      have n3 : wd.cell? ⟨w4.heap.size, s * 7 + 3, none⟩ = some (.int .i64 ucm) := (hcl 3 (by omega)).1
      have n4 : wd.cell? ⟨w4.heap.size, s * 7 + 4, none⟩ = some (.slice ka uks.length kc) := (hcl 4 (by omega)).1
      have n5 : wd.cell? ⟨w4.heap.size, s * 7 + 5, none⟩ = some (.slice ta tm tc) := (hcl 5 (by omega)).1
      have n6 : wd.cell? ⟨w4.heap.size, s * 7 + 6, none⟩ = some (.slice la lm lc) := (hcl 6 (by omega)).1
      have bb := below_alloc wd (.cells #[.bool uop, .bool uun, .int .i64 ubg, .int .i64 ucm, .slice ka uks.length kc, .slice ta tm tc, .slice la lm lc] 47)
      have HBb : Hid (Below wr.heap.size wr (wd.alloc (.cells #[.bool uop, .bool uun, .int .i64 ubg, .int .i64 ucm, .slice ka uks.length kc, .slice ta tm tc, .slice la lm lc] 47))) := hid (HB.out.trans (bb.mono HB.out.size))
      have hgn : w4.heap.size < wd.heap.size := tag_lt (HLL.out.mem.below HB.out).gt
      have g0 : (wd.alloc (.cells #[.bool uop, .bool uun, .int .i64 ubg, .int .i64 ucm, .slice ka uks.length kc, .slice ta tm tc, .slice la lm lc] 47)).cell? ⟨w4.heap.size, s * 7, none⟩ = some (.bool uop) := (bb.cell (p := ⟨w4.heap.size, s * 7, none⟩) hgn).trans (hcl 0 (by omega)).1
      have y0 : wd.frozen? ⟨w4.heap.size, s * 7, none⟩ = false := (hcl 0 (by omega)).2
      have g1 : (wd.alloc (.cells #[.bool uop, .bool uun, .int .i64 ubg, .int .i64 ucm, .slice ka uks.length kc, .slice ta tm tc, .slice la lm lc] 47)).cell? ⟨w4.heap.size, s * 7 + 1, none⟩ = some (.bool uun) := (bb.cell (p := ⟨w4.heap.size, s * 7 + 1, none⟩) hgn).trans (hcl 1 (by omega)).1
      have y1 : wd.frozen? ⟨w4.heap.size, s * 7 + 1, none⟩ = false := (hcl 1 (by omega)).2
      have g2 : (wd.alloc (.cells #[.bool uop, .bool uun, .int .i64 ubg, .int .i64 ucm, .slice ka uks.length kc, .slice ta tm tc, .slice la lm lc] 47)).cell? ⟨w4.heap.size, s * 7 + 2, none⟩ = some (.int .i64 ubg) := (bb.cell (p := ⟨w4.heap.size, s * 7 + 2, none⟩) hgn).trans (hcl 2 (by omega)).1
      have y2 : wd.frozen? ⟨w4.heap.size, s * 7 + 2, none⟩ = false := (hcl 2 (by omega)).2
      have g3 : (wd.alloc (.cells #[.bool uop, .bool uun, .int .i64 ubg, .int .i64 ucm, .slice ka uks.length kc, .slice ta tm tc, .slice la lm lc] 47)).cell? ⟨w4.heap.size, s * 7 + 3, none⟩ = some (.int .i64 ucm) := (bb.cell (p := ⟨w4.heap.size, s * 7 + 3, none⟩) hgn).trans (hcl 3 (by omega)).1
      have y3 : wd.frozen? ⟨w4.heap.size, s * 7 + 3, none⟩ = false := (hcl 3 (by omega)).2
      have g4 : (wd.alloc (.cells #[.bool uop, .bool uun, .int .i64 ubg, .int .i64 ucm, .slice ka uks.length kc, .slice ta tm tc, .slice la lm lc] 47)).cell? ⟨w4.heap.size, s * 7 + 4, none⟩ = some (.slice ka uks.length kc) := (bb.cell (p := ⟨w4.heap.size, s * 7 + 4, none⟩) hgn).trans (hcl 4 (by omega)).1
      have y4 : wd.frozen? ⟨w4.heap.size, s * 7 + 4, none⟩ = false := (hcl 4 (by omega)).2
      have g5 : (wd.alloc (.cells #[.bool uop, .bool uun, .int .i64 ubg, .int .i64 ucm, .slice ka uks.length kc, .slice ta tm tc, .slice la lm lc] 47)).cell? ⟨w4.heap.size, s * 7 + 5, none⟩ = some (.slice ta tm tc) := (bb.cell (p := ⟨w4.heap.size, s * 7 + 5, none⟩) hgn).trans (hcl 5 (by omega)).1
      have y5 : wd.frozen? ⟨w4.heap.size, s * 7 + 5, none⟩ = false := (hcl 5 (by omega)).2
      have g6 : (wd.alloc (.cells #[.bool uop, .bool uun, .int .i64 ubg, .int .i64 ucm, .slice ka uks.length kc, .slice ta tm tc, .slice la lm lc] 47)).cell? ⟨w4.heap.size, s * 7 + 6, none⟩ = some (.slice la lm lc) := (bb.cell (p := ⟨w4.heap.size, s * 7 + 6, none⟩) hgn).trans (hcl 6 (by omega)).1
      have y6 : wd.frozen? ⟨w4.heap.size, s * 7 + 6, none⟩ = false := (hcl 6 (by omega)).2
      have q0 : (wd.alloc (.cells #[.bool uop, .bool uun, .int .i64 ubg, .int .i64 ucm, .slice ka uks.length kc, .slice ta tm tc, .slice la lm lc] 47)).cell? ⟨wr.heap.size, 0, none⟩ = some (.int .i64 kd) := ct bb (by show wr.heap.size < wd.heap.size; omega) p0
      have q1 : (wd.alloc (.cells #[.bool uop, .bool uun, .int .i64 ubg, .int .i64 ucm, .slice ka uks.length kc, .slice ta tm tc, .slice la lm lc] 47)).cell? ⟨wr.heap.size, 1, none⟩ = some (.int .i64 (s : Int)) := ct bb (by show wr.heap.size < wd.heap.size; omega) p1
      have q2 : (wd.alloc (.cells #[.bool uop, .bool uun, .int .i64 ubg, .int .i64 ucm, .slice ka uks.length kc, .slice ta tm tc, .slice la lm lc] 47)).cell? ⟨wr.heap.size + 1, 0, none⟩ = some (.int .i64 cd) := (bb.cell (p := ⟨wr.heap.size + 1, 0, none⟩) hzc).trans (HKa.out 0 (by simp)).1
      by_cases hcd : cd = 0
      rotate_left
      .have hcn : (cd != 0) = true := by simpa using hcd
       by_cases h6 : kd = 6
       .have HN : Hid (LL w4 w4.heap.size os (k + 1) ((((((((wd.setCell ⟨w4.heap.size, s * 7, none⟩ (.bool false)).setCell ⟨w4.heap.size, s * 7 + 1, none⟩ (.bool false)).setCell ⟨w4.heap.size, s * 7 + 2, none⟩ (.int .i64 0)).setCell ⟨w4.heap.size, s * 7 + 3, none⟩ (.int .i64 0)).setCell ⟨w4.heap.size, s * 7 + 4, none⟩ (.slice none 0 0)).setCell ⟨w4.heap.size, s * 7 + 5, none⟩ (.slice none 0 0)).setCell ⟨w4.heap.size, s * 7 + 6, none⟩ (.slice none 0 0)).alloc (.cells #[.bool uop, .bool uun, .int .i64 ubg, .int .i64 ucm, .slice ka uks.length kc, .slice ta tm tc, .slice la lm lc] 47)) (nw.set s sn0) (vs.set s v30) (.slice qa ps.length qc) ps) := hid (by
         rw [<- setW7]
         have := HSI.out
         rw [stS_bad6 hss hcd h6] at this
         exact (HLL.out.put ((HLL.out.mem.below HB.out).none s) hs5 (HLL.out.pm.below HB.out) HLL.out.pn (HLL.out.bel.trans (HB.out.mono HLL.out.bel.size)) this (by simp [sn0]) (fun p hp => Nat.le_succ_of_le (HLL.out.pb p hp)) (Nat.le_succ_of_le HLL.out.pl)).bel2 (below_alloc _ _))
        subst h6
        clear hcl hsm HSI HSF HLL HB HKo HKa bb HBb hud hu hq
        as_aux_lemma =>
         go_wp2
         go_roundw
         case rel => exact ⟨k + 1, _, _, ps, qa, qc, by omega, by go_num, rfl, HN⟩
         case measure => simp [intOf]; omega
       .have h6n : (kd == 6) = false := by simpa using h6
        have HN : Hid (LL w4 w4.heap.size os (k + 1) (wd.alloc (.cells #[.bool uop, .bool uun, .int .i64 ubg, .int .i64 ucm, .slice ka uks.length kc, .slice ta tm tc, .slice la lm lc] 47)) nw vs (.slice qa ps.length qc) ps) := hid (HLL.out.same HBb.out (by have := HSI.out; rw [stS_bad hss hcd h6] at this; exact this))
        clear hcl hsm HSI HSF HLL HB HKo HKa bb HBb hud hu hq
        as_aux_lemma =>
         go_wp2
         go_roundw
         case rel => exact ⟨k + 1, nw, vs, ps, qa, qc, by omega, by go_num, rfl, HN⟩
         case measure => simp [intOf]; omega
      subst hcd
      have HSM := hid hsm
      have KB : Blk (wd.alloc (.cells #[.bool uop, .bool uun, .int .i64 ubg, .int .i64 ucm, .slice ka uks.length kc, .slice ta tm tc, .slice la lm lc] 47)) wd.heap.size (snV ⟨uop, uun, ubg, ucm, uks, utd, uls⟩ (.slice ka uks.length kc, .slice ta tm tc, .slice la lm lc)) := blk_new wd (snV ⟨uop, uun, ubg, ucm, uks, utd, uls⟩ (.slice ka uks.length kc, .slice ta tm tc, .slice la lm lc)) _
      have HLQ : Hid (LQ w4.heap.size w4 (wd.alloc (.cells #[.bool uop, .bool uun, .int .i64 ubg, .int .i64 ucm, .slice ka uks.length kc, .slice ta tm tc, .slice la lm lc] 47)) w4.heap.size nw vs s ⟨uop, uun, ubg, ucm, uks, utd, uls⟩ (.slice ka uks.length kc, .slice ta tm tc, .slice la lm lc) wd.heap.size) := hid ((HLL.out.mem.below HBb.out).box hu hq KB (tag_new _ _ _) (by omega))
      have HPM := hid (HLL.out.pm.below HBb.out)
      have HBX : Hid (Below w4.heap.size w4 (wd.alloc (.cells #[.bool uop, .bool uun, .int .i64 ubg, .int .i64 ucm, .slice ka uks.length kc, .slice ta tm tc, .slice la lm lc] 47))) := hid (HLL.out.bel.trans (HBb.out.mono HLL.out.bel.size))
      have HKo2 := hid (HKo.out.below bb (by omega))
      have HKa2 := hid (HKa.out.below bb hzc)
      have hbxl : wd.heap.size < (wd.alloc (.cells #[.bool uop, .bool uun, .int .i64 ubg, .int .i64 ucm, .slice ka uks.length kc, .slice ta tm tc, .slice la lm lc] 47)).heap.size := by simp
      have hukl : uks.length <= k := HLL.out.kb _ (List.mem_of_getElem? hu)
      have HPN := hid HLL.out.pn
      have HPB := hid HLL.out.pb
      have hpsl := HLL.out.pl
      have hgr : w4.heap.size < wr.heap.size := tag_lt HLL.out.mem.gt
      have hrd := HB.out.size
      have HDB : Hid (DB w4 w4.heap.size os k nw vs s ⟨kd, (s : Int), tb, ky, vl, md, nm⟩ wr.heap.size wd.heap.size ⟨uop, uun, ubg, ucm, uks, utd, uls⟩ (.slice ka uks.length kc, .slice ta tm tc, .slice la lm lc) (.slice qa ps.length qc) ps (wd.alloc (.cells #[.bool uop, .bool uun, .int .i64 ubg, .int .i64 ucm, .slice ka uks.length kc, .slice ta tm tc, .slice la lm lc] 47))) := hid ⟨HLQ.out, HPM.out, HLL.out.pn, fun e => by have := (HLL.out.pm.row.lt _ e).2; omega, HBX.out, HKo2.out, by simp; omega, tag_below HTo.out bb, by omega, by omega, fun e => by have := (HLL.out.pm.row.lt _ e).2; omega, by omega, hukl, HLL.out.pb, hpsl⟩
      clear hcl KB bb HKo HKa hsm HLQ HPM HBX HKo2 HPN HPB
      go_upto_block 4 with fail
      go_cut [11] (fun lv wx => ∃ (n' : Sn) (v' : Value × Value × Value) (ps' : List (Sn × (Value × Value × Value))) (qa' : Option Addr) (qc' : Nat), lv = .slice qa' ps'.length qc' /\ Hid (DN w4 w4.heap.size os k nw vs s ⟨kd, (s : Int), tb, ky, vl, md, nm⟩ wr.heap.size wd.heap.size n' v' (.slice qa' ps'.length qc') ps' wx))
      case first =>
       obtain ⟨wb, hwb⟩ : ∃ z, z = (wd.alloc (.cells #[.bool uop, .bool uun, .int .i64 ubg, .int .i64 ucm, .slice ka uks.length kc, .slice ta tm tc, .slice la lm lc] 47)) := ⟨_, rfl⟩
       rw [<- hwb] at HDB HKa2 hbxl q0 q2 ⊢
       clear hwb g0 g1 g2 g3 g4 g5 g6 y0 y1 y2 y3 y4 y5 y6 q1 n0 n1 n2 n3 n4 n5 n6 p0 p1
       obtain ⟨⟨x0, f0⟩, ⟨x1, f1⟩, ⟨x2, f2⟩, ⟨x3, f3⟩, ⟨x4, f4⟩, ⟨x5, f5⟩, ⟨x6, f6⟩⟩ := kb6 HDB.out.lq.bk
       obtain ⟨-, -, a2, -, a4⟩ := kc4 HKa2.out
       obtain ⟨-, -, o2, o3⟩ := kc3 HDB.out.ob
       have hzb : wr.heap.size + 1 < wb.heap.size := by omega
       have hza : wr.heap.size < wb.heap.size := by omega
       have hsi := HSI.out
       have HSR := hid (HLL.out.mem.sm s _ _ hu hq)
       clear HLL HSI HKa2
       by_cases h1 : kd = 1
       .subst h1
        rw [stS_1 hss rfl rfl] at hsi
        simp only [Int.toNat_natCast] at hsi
        have hmb := mk32b
        have hml := mk32l
        clear HSF o2 o3 a4
        have HNa := hid (HDB.out.arm1a hsi)
        have HNb := hid (HDB.out.arm1b hsi)
        clear HDB hsi
        go_wp2
        go_region
        .as_aux_lemma =>
          go_wp2
          go_meet
          case rel => exact ⟨_, _, ps, qa, qc, rfl, HNa⟩
        .as_aux_lemma =>
          go_wp2
          go_meet
          case rel => exact ⟨_, _, ps, qa, qc, rfl, HNb⟩
       have e1 : (kd == 1) = false := by simpa using h1
       by_cases h3 : kd = 3
       .subst h3
        rw [stS_3 hss rfl rfl hud] at hsi
        obtain ⟨hb0, hb1, hl1, hl2, hls⟩ := HSF.out hss rfl (.inl rfl)
        simp only [Int.toNat_natCast] at hsi hb0 hb1 hl1 hl2 hls
        rw [hud] at hl1 hl2 hls
        simp only at hl1 hl2 hls
        obtain ⟨t, rfl⟩ : ∃ t : Nat, tb = t := ⟨tb.toNat, by omega⟩
        have ht32 : t < 32 := by omega
        have hti : (t : Int) < 32 := by omega
        simp only [Int.toNat_natCast] at hsi hls
        obtain ⟨gt, e1, hBt, htt, hbt⟩ := HDB.out.lq.me.td hl1
        obtain ⟨gl, zv, e2, hBl, htl, hbl, hzl, hzs⟩ := HDB.out.lq.me.ls hl2
        simp only [Value.slice.injEq] at e1 e2
        obtain ⟨rfl, rfl, rfl⟩ := e1
        obtain ⟨rfl, rfl, rfl⟩ := e2
        have hz := hzs t ht32
        have htd := (hbt t (by simp; omega)).1
        have hfd := (hbt t (by simp; omega)).2
        have hlc := (hbl t (by omega)).1
        have hlf := (hbl t (by omega)).2
        obtain ⟨zw, hzw⟩ : ∃ z, zv[t]? = some z := ⟨_, List.getElem?_eq_getElem (by omega)⟩
        rw [List.getD_eq_getElem?_getD, hzw] at hz
        rw [hzw] at hlc
        obtain ⟨tv, htv⟩ : ∃ z, utd[t]? = some z := ⟨_, List.getElem?_eq_getElem (by omega)⟩
        rw [List.getElem?_map, htv] at htd
        simp only [Option.map_some, Option.getD_some] at htd hz
        rw [List.getD_eq_getElem?_getD, htv] at hls
        obtain ⟨zl, hzl2⟩ : ∃ l, l = uls.getD t [] := ⟨_, rfl⟩
        rw [<- hzl2] at hz hls
        have HZ := hid hz
        obtain ⟨za, zc, hzf, _⟩ := hz
        subst hzf
        clear hzl2
        have hgtl := tag_lt htt
        have hgll := tag_lt htl
        have HN := hid (fun (wx : World) (hb : Below wb.heap.size wb wx) => (HDB.out.below hb).arm3 rfl rfl hl1 hl2 ht32 HAP.out hsi)
        have HBL := hid HDB.out.bel
        have HDC := hid HDB.out
        have hne1 : gl ≠ gt := tag_ne htl htt (by decide)
        have hgr1 : gt < wr.heap.size := HSR.out.tf.2 gt rfl
        have hgr2 : gl < wr.heap.size := HSR.out.lf.2 gl rfl
        have hne2 : ¬ wd.heap.size = gt := by omega
        have hne3 : ¬ wd.heap.size = gl := by omega
        have hne4 : ¬ wr.heap.size = gt := by omega
        have hne5 : ¬ wr.heap.size + 1 = gt := by omega
        clear hbt hbl hzs HDB hsi HSF htt htl htv hzw
        go_upto_region 31 with fail
        go_cut [148] (fun s wx => s = .bool false /\ Hid (Below wb.heap.size wb wx))
        case first =>
         cases tv with
         | false =>
           go_quiet (fail)
           as_aux_lemma =>
            go_wp2
            go_meet
            case rel => exact ⟨rfl, hid (below_drewNt _ _)⟩
         | true =>
           have hqe := (hls trivial rfl).symm
           subst hqe
           have hcn := fun W (h : Below w4.heap.size w4 W) => sameTxn_same 0 0 0 0 false (.slice za aps.length zc) (.slice apa aps.length apc) aps W hapl (HZ.out.below liesPr h) (HAP.out.below liesPr h)
           go_region_held (fun W => W.cell? ⟨wd.heap.size, 5, none⟩ = some (.slice (some ⟨gt, 0, none⟩) 32 32) /\ W.cell? ⟨wr.heap.size, 2, none⟩ = some (.int .i64 (t : Int)) /\ W.cell? ⟨gt, t, none⟩ = some (.bool true) /\ W.cell? ⟨wd.heap.size, 6, none⟩ = some (.slice (some ⟨gl, 0, none⟩) 32 32) /\ W.cell? ⟨gl, t, none⟩ = some (.slice za aps.length zc) /\ W.cell? ⟨wr.heap.size + 1, 4, none⟩ = some (.slice apa aps.length apc)) (go_keep) ((go_at_call 11; refine (hcn _ (by exact (HBL.out.drew))).mono ?_; rintro e w6 ⟨rfl, hb6⟩; replace hb6 := undrew hb6; have s0 : w6.cell? ⟨wd.heap.size, 5, none⟩ = some (.slice (some ⟨gt, 0, none⟩) 32 32) := ct hb6 hbxl x5; have s1 : w6.cell? ⟨wr.heap.size, 2, none⟩ = some (.int .i64 (t : Int)) := ct hb6 hza o2; have s2 : w6.cell? ⟨gt, t, none⟩ = some (.bool true) := ct hb6 hgtl htd; have s3 : w6.cell? ⟨wd.heap.size, 6, none⟩ = some (.slice (some ⟨gl, 0, none⟩) 32 32) := ct hb6 hbxl x6; have s4 : w6.cell? ⟨gl, t, none⟩ = some (.slice za aps.length zc) := ct hb6 hgll hlc; have s5 : w6.cell? ⟨wr.heap.size + 1, 4, none⟩ = some (.slice apa aps.length apc) := (hb6.cell (p := ⟨wr.heap.size + 1, 4, none⟩) hzb).trans a4))
           as_aux_lemma =>
            go_wp2
            go_meet
            case rel => exact ⟨rfl, hid hb6⟩
        case rest =>
         obtain ⟨rfl, HBy⟩ := hcut
         have s0 : wc.cell? ⟨wd.heap.size, 5, none⟩ = some (.slice (some ⟨gt, 0, none⟩) 32 32) := ct HBy.out hbxl x5
         have s1 : wc.cell? ⟨wr.heap.size, 2, none⟩ = some (.int .i64 (t : Int)) := ct HBy.out hza o2
         have s2 : wc.cell? ⟨gt, t, none⟩ = some (.bool tv) := ct HBy.out hgtl htd
         have s3 : wc.cell? ⟨wd.heap.size, 6, none⟩ = some (.slice (some ⟨gl, 0, none⟩) 32 32) := ct HBy.out hbxl x6
         have s4 : wc.cell? ⟨gl, t, none⟩ = some (.slice za zl.length zc) := ct HBy.out hgll hlc
         have s5 : wc.cell? ⟨wr.heap.size + 1, 4, none⟩ = some (.slice apa aps.length apc) := ct HBy.out hzb a4
         have s6 : wc.frozen? ⟨gt, t, none⟩ = false := (HBy.out.frozen (p := ⟨gt, t, none⟩) hgtl).trans hfd
         have s7 : wc.frozen? ⟨gl, t, none⟩ = false := (HBy.out.frozen (p := ⟨gl, t, none⟩) hgll).trans hlf
         have HN2 := hid (HN.out wc HBy.out)
         clear HN HBy x0 x1 x2 x3 x4 x5 x6 f0 f1 f2 f3 f4 f5 f6 a2 a4 o2 o3 htd hfd hlc hlf q0 q2
         as_aux_lemma =>
          go_wp2
          go_meet
          case rel => exact ⟨_, _, ps, qa, qc, rfl, HN2⟩
       have e3 : (kd == 3) = false := by simpa using h3
       by_cases h45 : kd = 4 \/ kd = 5
       .rw [stS_45 hss rfl h45 hud] at hsi
        obtain ⟨hb0, hb1, hl1, hl2, _⟩ := HSF.out hss rfl (.inr h45)
        simp only [Int.toNat_natCast] at hsi hb0 hb1 hl1
        rw [hud] at hl1
        simp only at hl1
        obtain ⟨t, rfl⟩ : ∃ t : Nat, tb = t := ⟨tb.toNat, by omega⟩
        have ht32 : t < 32 := by omega
        have hti : (t : Int) < 32 := by omega
        simp only [Int.toNat_natCast] at hsi
        obtain ⟨gt, e1, hBt, htt, hbt⟩ := HDB.out.lq.me.td hl1
        simp only [Value.slice.injEq] at e1
        obtain ⟨rfl, rfl, rfl⟩ := e1
        obtain ⟨tv, htv⟩ : ∃ z, utd[t]? = some z := ⟨_, List.getElem?_eq_getElem (by omega)⟩
        have htd := (hbt t (by simp; omega)).1
        have hfd := (hbt t (by simp; omega)).2
        rw [List.getElem?_map, htv] at htd
        simp only [Option.map_some] at htd
        have hgr1 : gt < wr.heap.size := HSR.out.tf.2 gt rfl
        have hgtl := tag_lt htt
        have hne2 : ¬ wd.heap.size = gt := by omega
        have hne4 : ¬ wr.heap.size = gt := by omega
        have hne5 : ¬ gt = wd.heap.size := by omega
        have hne6 : ¬ gt = wr.heap.size := by omega
        have HQT := hid (HDB.out.lq.told rfl hl1 ht32 false)
        have HFIN := hid (fun (w7 : World) (v2 : Value) (news : List Value) hb hf ho => HDB.out.arm45 (w7 := w7) (v2 := v2) (news := news) (tb := (t : Int)) (ky := ky) rfl hl1 ht32 hb hf ho hsi)
        obtain ⟨wt, hwt⟩ : ∃ z, z = wb.setCell ⟨gt, t, none⟩ (.bool false) := ⟨_, rfl⟩
        have hwz : wt.heap.size = wb.heap.size := by rw [hwt]; simp
        rw [<- hwt] at HQT HFIN
        obtain ⟨⟨-, -⟩, ⟨-, -⟩, ⟨-, -⟩, ⟨-, -⟩, ⟨k4, kf⟩⟩ := kb4 HQT.out.bk
        have k2 : wt.cell? ⟨wr.heap.size, 2, none⟩ = some (.int .i64 (t : Int)) := by rw [hwt, World.cell?_setCell_other wb ⟨gt, t, none⟩ ⟨wr.heap.size, 2, none⟩ (.bool false) (fun e => by cases e; omega)]; exact o2
        have k3 : wt.cell? ⟨wr.heap.size, 3, none⟩ = some (.int .i64 ky) := by rw [hwt, World.cell?_setCell_other wb ⟨gt, t, none⟩ ⟨wr.heap.size, 3, none⟩ (.bool false) (fun e => by cases e; omega)]; exact o3
        have HRS := hid HQT.out.me.ks.1
        have lx : wd.heap.size < wt.heap.size := by omega
        have lo : wr.heap.size < wt.heap.size := by omega
        have HWT2 := hid hwt
        obtain ⟨i9, hi9, hz90, hz91, hz92⟩ := info_parts infoK2
        clear hsi HSF HDB HQT hbt htt htv hwt hwz hl2 a2 a4 HSR
        rcases h45 with rfl | rfl
        all_goals
         go_upto_region 38 with fail
         rw [<- HWT2.out]
         clear htd hfd x0 x1 x2 x3 x4 x5 x6 f0 f1 f2 f3 f4 f5 f6 o2 o3 q0 q2
         refine wp_region_till_drew (S := (fun W => W.cell? ⟨wd.heap.size, 4, none⟩ = some (.slice ka uks.length kc) /\ W.cell? ⟨wr.heap.size, 2, none⟩ = some (.int .i64 (t : Int)) /\ W.cell? ⟨wr.heap.size, 3, none⟩ = some (.int .i64 ky))) (late := [11, 12]) (by kernel_rfl) (by go_keep) (fun hHeld => ?_)
         refine tT 1 rfl hHeld ?_
         try simp only [Act.put, q1, q2, q3]
         refine till_ld (i := 2) (v := ?_) rfl (Or.inl ⟨by rfl, ?_⟩) hHeld ?_
         rotate_left
         .intro w hSw
          try dsimp only at hSw
          go_simp
          try with_reducible rfl
         try simp only [Act.put, q1, q2, q3]
         refine tT 4 rfl hHeld ?_
         try simp only [Act.put, q1, q2, q3]
         refine till_ld (i := 5) (v := ?_) rfl (Or.inl ⟨by rfl, ?_⟩) hHeld ?_
         rotate_left
         .intro w hSw
          try dsimp only at hSw
          go_simp
          try with_reducible rfl
         try simp only [Act.put, q1, q2, q3]
         refine tT 6 rfl hHeld ?_
         try simp only [Act.put, q1, q2, q3]
         refine till_ld (i := 7) (v := ?_) rfl (Or.inl ⟨by rfl, ?_⟩) hHeld ?_
         rotate_left
         .intro w hSw
          try dsimp only at hSw
          go_simp
          try with_reducible rfl
         try simp only [Act.put, q1, q2, q3]
         refine tT 8 rfl hHeld ?_
         try simp only [Act.put, q1, q2, q3]
         refine till_ready (rs := [0, 9]) (by kernel_rfl) (by simp) ?_
         refine TillAll.cons rfl (fun K hK => ?_) ?_
         .go_simp
          refine hK _ _ ⟨?_, ?_⟩
          .go_keep
          clear hK K
          try simp only [Act.put, q1, q2, q3]
          refine till_ready (rs := [3, 9]) (by kernel_rfl) (by simp) ?_
          refine TillAll.cons rfl (fun K hK => ?_) ?_
          .refine step_append_rs0 liesPr onePr rfl (.tmp 169) (.tmp 171) 44 rfl wt.heap.size 48 i9 _ 16 Tryz.underlying44 hi9 hz90 hz91 hz92 rfl (by decide) (.slice (some ⟨_, 0, none⟩) 0 0) 0 [] rfl ?_ ka kc uks uks.length rfl rfl wt HRS.out ?_ ?_ ?_ ?_ ?_
           .first | (simpa using (World.ownsRow_made (base := wt.heap.size) (e := 48) (size := 2) wt #[] 0 (by simp) (by unfold maxLen; omega) (by simp)).drew) | (simpa using ((World.ownsRow_made (base := wt.heap.size) (e := 48) (size := 2) wt #[] 0 (by simp) (by unfold maxLen; omega) (by simp)).alloc (.cells #[.int .i64 (t : Int), .int .i64 ky] 48)).drew) | (simpa using (World.ownsRow_made (base := wt.heap.size) (e := 48) (size := 2) (wt.alloc (.cells #[.int .i64 (t : Int), .int .i64 ky] 48)) #[] 0 (by simp) (by unfold maxLen; omega) (by simp)).drew)
           .exact bl
           .unfold maxLen; omega
           .omega
           .first | (simp; done) | (simp; omega) | omega
           intro news v1 w6 hfi1 hown1 hgrow1 _ _
           have bw6 : Below wt.heap.size wt w6 := by
            refine Below.grown ?_ hgrow1 ?_ ?_
            .exact bl
            .first | (simp; done) | (simp; omega) | omega
            .intro k hk; simp [Value.ownBlock] at hk; first | omega | (subst hk; omega)
           have j4 : w6.cell? ⟨wd.heap.size, 4, none⟩ = some (.slice ka uks.length kc) := ct bw6 lx k4
           have j2 : w6.cell? ⟨wr.heap.size, 2, none⟩ = some (.int .i64 (t : Int)) := ct bw6 lo k2
           have j3 : w6.cell? ⟨wr.heap.size, 3, none⟩ = some (.int .i64 ky) := ct bw6 lo k3
           have l6x : wd.heap.size < w6.heap.size := by have := bw6.size; omega
           have l6o : wr.heap.size < w6.heap.size := by have := bw6.size; omega
           have HBW6 := hid bw6
           have HOW6 := hid hown1
           have HFW : Hid (Fill 2 CPr 0 uks uks.length news wt) := hfi1
           skip
           clear hgrow1 hfi1 bw6 hown1
           refine hK _ _ ⟨⟨j4, j2, j3⟩, ?_⟩
           clear hK K
           try simp only [Act.put, q1, q2, q3]
           refine till_ready (rs := [9]) (by kernel_rfl) (by simp) ?_
           refine TillAll.cons rfl (fun K hK => ?_) ?_
           .go_simp
            refine hK _ _ ⟨?_, ?_⟩
            .go_keep
            clear hK K
            try simp only [Act.put, q1, q2, q3]
            refine till_ready (rs := [10]) (by kernel_rfl) (by simp) ?_
            refine TillAll.cons rfl (fun K hK => ?_) ?_
            .refine step_append_own rfl (.tmp 172) (.tmp 178) 44 rfl wt.heap.size 48 i9 _ 2 16 Tryz.underlying44 hi9 hz90 hz91 hz92 rfl (by decide) v1 (0 + uks.length) ([] ++ news) rfl ?_ ⟨_, 0, none⟩ 1 1 [.int .i64 (t : Int), .int .i64 ky] rfl rfl ?_ (by intro u hu; simp at hu; rcases hu with rfl | rfl <;> rfl) ?_ ?_ ?_ ?_
             .first | with_reducible exact HOW6.out | with_reducible exact HOW6.out.alloc _
             .exact (blk_new w6 [.int .i64 (t : Int), .int .i64 ky] 48).cells
             .unfold maxLen; omega
             .omega
             .have := HBW6.out.size; first | (simp; done) | (simp; omega) | omega
             intro v2 w7 hown2 hgrow2 _
             have bw7 : Below wt.heap.size wt w7 := by
              refine Below.grown ?_ hgrow2 ?_ ?_
              .first | with_reducible exact HBW6.out | with_reducible exact HBW6.out.alloc HBW6.out.size _
              .have := HBW6.out.size; first | (simp; done) | (simp; omega) | omega
              .intro k hk; exact (HOW6.out.lt k hk).1
             have HFI := hid (HFIN.out w7 v2 news bw7 HFW.out (by simpa using hown2))
             obtain ⟨a2, cc2, hv2⟩ := formR hown2
             subst hv2
             simp only [Nat.zero_add] at HFI
             have m4 : w7.cell? ⟨wd.heap.size, 4, none⟩ = some (.slice ka uks.length kc) := ct bw7 lx k4
             have mf : w7.frozen? ⟨wd.heap.size, 4, none⟩ = false := (bw7.frozen (p := ⟨wd.heap.size, 4, none⟩) lx).trans kf
             have m2 : w7.cell? ⟨wr.heap.size, 2, none⟩ = some (.int .i64 (t : Int)) := ct bw7 lo k2
             have m3 : w7.cell? ⟨wr.heap.size, 3, none⟩ = some (.int .i64 ky) := ct bw7 lo k3
             clear hown2 hgrow2 bw7 HOW6 HBW6 HFW
             refine hK _ _ ⟨⟨m4, m2, m3⟩, ?_⟩
             clear hK K
             try simp only [Act.put, q1, q2, q3]
             refine rL 11 rfl fun K hK => ?_
             go_simp
             refine hK _ _ ?_
             clear hK K
             try simp only [Act.put, q1, q2, q3]
             refine rL 12 rfl fun K hK => ?_
             go_simp
             refine hK _ _ ?_
             clear hK K
             try simp only [Act.put, q1, q2, q3]
             refine till_done (by kernel_rfl) ?_ _
             try simp only [Nat.zero_add]
             as_aux_lemma =>
              go_wp2
              go_meet
              case rel => exact ⟨_, _, ps, qa, qc, rfl, HFI⟩
            exact TillAll.nil
           exact TillAll.nil
          refine TillAll.cons rfl (fun K hK => ?_) ?_
          .go_simp
           refine hK _ _ ⟨?_, ?_⟩
           .go_keep
           clear hK K
           try simp only [Act.put, q1, q2, q3]
           refine till_ready (rs := [3]) (by kernel_rfl) (by simp) ?_
           refine TillAll.cons rfl (fun K hK => ?_) ?_
           .refine step_append_rs0 liesPr onePr rfl (.tmp 169) (.tmp 171) 44 rfl wt.heap.size 48 i9 _ 16 Tryz.underlying44 hi9 hz90 hz91 hz92 rfl (by decide) (.slice (some ⟨_, 0, none⟩) 0 0) 0 [] rfl ?_ ka kc uks uks.length rfl rfl wt HRS.out ?_ ?_ ?_ ?_ ?_
            .first | (simpa using (World.ownsRow_made (base := wt.heap.size) (e := 48) (size := 2) wt #[] 0 (by simp) (by unfold maxLen; omega) (by simp)).drew) | (simpa using ((World.ownsRow_made (base := wt.heap.size) (e := 48) (size := 2) wt #[] 0 (by simp) (by unfold maxLen; omega) (by simp)).alloc (.cells #[.int .i64 (t : Int), .int .i64 ky] 48)).drew) | (simpa using (World.ownsRow_made (base := wt.heap.size) (e := 48) (size := 2) (wt.alloc (.cells #[.int .i64 (t : Int), .int .i64 ky] 48)) #[] 0 (by simp) (by unfold maxLen; omega) (by simp)).drew)
            .exact bl
            .unfold maxLen; omega
            .omega
            .first | (simp; done) | (simp; omega) | omega
            intro news v1 w6 hfi1 hown1 hgrow1 _ _
            have bw6 : Below wt.heap.size wt w6 := by
             refine Below.grown ?_ hgrow1 ?_ ?_
             .exact bl
             .first | (simp; done) | (simp; omega) | omega
             .intro k hk; simp [Value.ownBlock] at hk; first | omega | (subst hk; omega)
            have j4 : w6.cell? ⟨wd.heap.size, 4, none⟩ = some (.slice ka uks.length kc) := ct bw6 lx k4
            have j2 : w6.cell? ⟨wr.heap.size, 2, none⟩ = some (.int .i64 (t : Int)) := ct bw6 lo k2
            have j3 : w6.cell? ⟨wr.heap.size, 3, none⟩ = some (.int .i64 ky) := ct bw6 lo k3
            have l6x : wd.heap.size < w6.heap.size := by have := bw6.size; omega
            have l6o : wr.heap.size < w6.heap.size := by have := bw6.size; omega
            have HBW6 := hid bw6
            have HOW6 := hid hown1
            have HFW : Hid (Fill 2 CPr 0 uks uks.length news wt) := hfi1
            have KT := hid (Blk.cells (KT2B (cs := [.int .i64 (t : Int), .int .i64 ky]) hgrow1 (by first | (simp [Value.ownBlock]; done) | (simp [Value.ownBlock]; omega))))
            clear hgrow1 hfi1 bw6 hown1
            refine hK _ _ ⟨⟨j4, j2, j3⟩, ?_⟩
            clear hK K
            try simp only [Act.put, q1, q2, q3]
            refine till_ready (rs := [10]) (by kernel_rfl) (by simp) ?_
            refine TillAll.cons rfl (fun K hK => ?_) ?_
            .refine step_append_own rfl (.tmp 172) (.tmp 178) 44 rfl wt.heap.size 48 i9 _ 2 16 Tryz.underlying44 hi9 hz90 hz91 hz92 rfl (by decide) v1 (0 + uks.length) ([] ++ news) rfl ?_ ⟨_, 0, none⟩ 1 1 [.int .i64 (t : Int), .int .i64 ky] rfl rfl ?_ (by intro u hu; simp at hu; rcases hu with rfl | rfl <;> rfl) ?_ ?_ ?_ ?_
             .first | with_reducible exact HOW6.out | with_reducible exact HOW6.out.alloc _
             .with_reducible exact KT.out
             .unfold maxLen; omega
             .omega
             .have := HBW6.out.size; first | (simp; done) | (simp; omega) | omega
             intro v2 w7 hown2 hgrow2 _
             have bw7 : Below wt.heap.size wt w7 := by
              refine Below.grown ?_ hgrow2 ?_ ?_
              .first | with_reducible exact HBW6.out | with_reducible exact HBW6.out.alloc HBW6.out.size _
              .have := HBW6.out.size; first | (simp; done) | (simp; omega) | omega
              .intro k hk; exact (HOW6.out.lt k hk).1
             have HFI := hid (HFIN.out w7 v2 news bw7 HFW.out (by simpa using hown2))
             obtain ⟨a2, cc2, hv2⟩ := formR hown2
             subst hv2
             simp only [Nat.zero_add] at HFI
             have m4 : w7.cell? ⟨wd.heap.size, 4, none⟩ = some (.slice ka uks.length kc) := ct bw7 lx k4
             have mf : w7.frozen? ⟨wd.heap.size, 4, none⟩ = false := (bw7.frozen (p := ⟨wd.heap.size, 4, none⟩) lx).trans kf
             have m2 : w7.cell? ⟨wr.heap.size, 2, none⟩ = some (.int .i64 (t : Int)) := ct bw7 lo k2
             have m3 : w7.cell? ⟨wr.heap.size, 3, none⟩ = some (.int .i64 ky) := ct bw7 lo k3
             clear hown2 hgrow2 bw7 HOW6 HBW6 HFW
             refine hK _ _ ⟨⟨m4, m2, m3⟩, ?_⟩
             clear hK K
             try simp only [Act.put, q1, q2, q3]
             refine rL 11 rfl fun K hK => ?_
             go_simp
             refine hK _ _ ?_
             clear hK K
             try simp only [Act.put, q1, q2, q3]
             refine rL 12 rfl fun K hK => ?_
             go_simp
             refine hK _ _ ?_
             clear hK K
             try simp only [Act.put, q1, q2, q3]
             refine till_done (by kernel_rfl) ?_ _
             try simp only [Nat.zero_add]
             as_aux_lemma =>
              go_wp2
              go_meet
              case rel => exact ⟨_, _, ps, qa, qc, rfl, HFI⟩
            exact TillAll.nil
           exact TillAll.nil
          exact TillAll.nil
         refine TillAll.cons rfl (fun K hK => ?_) ?_
         .go_simp
          refine hK _ _ ⟨?_, ?_⟩
          .go_keep
          clear hK K
          try simp only [Act.put, q1, q2, q3]
          refine till_ready (rs := [0]) (by kernel_rfl) (by simp) ?_
          refine TillAll.cons rfl (fun K hK => ?_) ?_
          .go_simp
           refine hK _ _ ⟨?_, ?_⟩
           .go_keep
           clear hK K
           try simp only [Act.put, q1, q2, q3]
           refine till_ready (rs := [3]) (by kernel_rfl) (by simp) ?_
           refine TillAll.cons rfl (fun K hK => ?_) ?_
           .refine step_append_rs0 liesPr onePr rfl (.tmp 169) (.tmp 171) 44 rfl wt.heap.size 48 i9 _ 16 Tryz.underlying44 hi9 hz90 hz91 hz92 rfl (by decide) (.slice (some ⟨_, 0, none⟩) 0 0) 0 [] rfl ?_ ka kc uks uks.length rfl rfl wt HRS.out ?_ ?_ ?_ ?_ ?_
            .first | (simpa using (World.ownsRow_made (base := wt.heap.size) (e := 48) (size := 2) wt #[] 0 (by simp) (by unfold maxLen; omega) (by simp)).drew) | (simpa using ((World.ownsRow_made (base := wt.heap.size) (e := 48) (size := 2) wt #[] 0 (by simp) (by unfold maxLen; omega) (by simp)).alloc (.cells #[.int .i64 (t : Int), .int .i64 ky] 48)).drew) | (simpa using (World.ownsRow_made (base := wt.heap.size) (e := 48) (size := 2) (wt.alloc (.cells #[.int .i64 (t : Int), .int .i64 ky] 48)) #[] 0 (by simp) (by unfold maxLen; omega) (by simp)).drew)
            .exact bl
            .unfold maxLen; omega
            .omega
            .first | (simp; done) | (simp; omega) | omega
            intro news v1 w6 hfi1 hown1 hgrow1 _ _
            have bw6 : Below wt.heap.size wt w6 := by
             refine Below.grown ?_ hgrow1 ?_ ?_
             .exact bl
             .first | (simp; done) | (simp; omega) | omega
             .intro k hk; simp [Value.ownBlock] at hk; first | omega | (subst hk; omega)
            have j4 : w6.cell? ⟨wd.heap.size, 4, none⟩ = some (.slice ka uks.length kc) := ct bw6 lx k4
            have j2 : w6.cell? ⟨wr.heap.size, 2, none⟩ = some (.int .i64 (t : Int)) := ct bw6 lo k2
            have j3 : w6.cell? ⟨wr.heap.size, 3, none⟩ = some (.int .i64 ky) := ct bw6 lo k3
            have l6x : wd.heap.size < w6.heap.size := by have := bw6.size; omega
            have l6o : wr.heap.size < w6.heap.size := by have := bw6.size; omega
            have HBW6 := hid bw6
            have HOW6 := hid hown1
            have HFW : Hid (Fill 2 CPr 0 uks uks.length news wt) := hfi1
            have KT := hid (Blk.cells (KT2C (cs := [.int .i64 (t : Int), .int .i64 ky]) hgrow1 (by first | (simp [Value.ownBlock]; done) | (simp [Value.ownBlock]; omega))))
            clear hgrow1 hfi1 bw6 hown1
            refine hK _ _ ⟨⟨j4, j2, j3⟩, ?_⟩
            clear hK K
            try simp only [Act.put, q1, q2, q3]
            refine till_ready (rs := [10]) (by kernel_rfl) (by simp) ?_
            refine TillAll.cons rfl (fun K hK => ?_) ?_
            .refine step_append_own rfl (.tmp 172) (.tmp 178) 44 rfl wt.heap.size 48 i9 _ 2 16 Tryz.underlying44 hi9 hz90 hz91 hz92 rfl (by decide) v1 (0 + uks.length) ([] ++ news) rfl ?_ ⟨_, 0, none⟩ 1 1 [.int .i64 (t : Int), .int .i64 ky] rfl rfl ?_ (by intro u hu; simp at hu; rcases hu with rfl | rfl <;> rfl) ?_ ?_ ?_ ?_
             .first | with_reducible exact HOW6.out | with_reducible exact HOW6.out.alloc _
             .with_reducible exact KT.out
             .unfold maxLen; omega
             .omega
             .have := HBW6.out.size; first | (simp; done) | (simp; omega) | omega
             intro v2 w7 hown2 hgrow2 _
             have bw7 : Below wt.heap.size wt w7 := by
              refine Below.grown ?_ hgrow2 ?_ ?_
              .first | with_reducible exact HBW6.out | with_reducible exact HBW6.out.alloc HBW6.out.size _
              .have := HBW6.out.size; first | (simp; done) | (simp; omega) | omega
              .intro k hk; exact (HOW6.out.lt k hk).1
             have HFI := hid (HFIN.out w7 v2 news bw7 HFW.out (by simpa using hown2))
             obtain ⟨a2, cc2, hv2⟩ := formR hown2
             subst hv2
             simp only [Nat.zero_add] at HFI
             have m4 : w7.cell? ⟨wd.heap.size, 4, none⟩ = some (.slice ka uks.length kc) := ct bw7 lx k4
             have mf : w7.frozen? ⟨wd.heap.size, 4, none⟩ = false := (bw7.frozen (p := ⟨wd.heap.size, 4, none⟩) lx).trans kf
             have m2 : w7.cell? ⟨wr.heap.size, 2, none⟩ = some (.int .i64 (t : Int)) := ct bw7 lo k2
             have m3 : w7.cell? ⟨wr.heap.size, 3, none⟩ = some (.int .i64 ky) := ct bw7 lo k3
             clear hown2 hgrow2 bw7 HOW6 HBW6 HFW
             refine hK _ _ ⟨⟨m4, m2, m3⟩, ?_⟩
             clear hK K
             try simp only [Act.put, q1, q2, q3]
             refine rL 11 rfl fun K hK => ?_
             go_simp
             refine hK _ _ ?_
             clear hK K
             try simp only [Act.put, q1, q2, q3]
             refine rL 12 rfl fun K hK => ?_
             go_simp
             refine hK _ _ ?_
             clear hK K
             try simp only [Act.put, q1, q2, q3]
             refine till_done (by kernel_rfl) ?_ _
             try simp only [Nat.zero_add]
             as_aux_lemma =>
              go_wp2
              go_meet
              case rel => exact ⟨_, _, ps, qa, qc, rfl, HFI⟩
            exact TillAll.nil
           exact TillAll.nil
          exact TillAll.nil
         exact TillAll.nil
       have e4 : (kd == 4) = false := by simp; omega
       have e5 : (kd == 5) = false := by simp; omega
       by_cases h9 : kd = 9
       .subst h9
        rw [stS_9 hss rfl rfl hud] at hsi
        simp only [Int.toNat_natCast] at hsi
        have hmb := mk32b
        have HN := hid (HDB.out.arm9 hsi)
        clear hsi HSF o2 o3 a4 a2 HDB
        as_aux_lemma =>
         go_wp2
         go_meet
         case rel => exact ⟨_, _, ps, qa, qc, rfl, HN⟩
       have e9 : (kd == 9) = false := by simpa using h9
       by_cases h6 : kd = 6
       .subst h6
        rw [stS_6 hss rfl rfl hud] at hsi
        simp only [Int.toNat_natCast] at hsi
        obtain ⟨i6, hi6, hz60, hz61, hz62⟩ := info_parts infoSn
        have f0w := Fr.setCell wb wd.heap.size 3 (.int .i64 st)
        have bal := below_alloc (wb.setCell ⟨wd.heap.size, 3, none⟩ (.int .i64 st)) (.cells #[.bool uop, .bool uun, .int .i64 ubg, .int .i64 st, .slice ka uks.length kc, .slice ta tm tc, .slice la lm lc] 47)
        have HPR := hid (own_below (own_fr HDB.out.pm.row f0w (fun g hg e => HDB.out.px (by rw [hg, e]))) bal)
        have HCN := hid (cells_new (wb.setCell ⟨wd.heap.size, 3, none⟩ (.int .i64 st)) (snV ⟨uop, uun, ubg, st, uks, utd, uls⟩ (.slice ka uks.length kc, .slice ta tm tc, .slice la lm lc)) 47 wb.heap.size (by simp))
        have hbA : w4.heap.size <= ((wb.setCell ⟨wd.heap.size, 3, none⟩ (.int .i64 st)).alloc (.cells #[.bool uop, .bool uun, .int .i64 ubg, .int .i64 st, .slice ka uks.length kc, .slice ta tm tc, .slice la lm lc] 47)).heap.size := by have := HDB.out.bel.size; simp; omega
        have KX := hid ((HDB.out.lq.bk.set 3 (.int .i64 st) (by simp [snV])).below bal (by simpa using hbxl))
        have h1c : ∀ u ∈ snV ⟨uop, uun, ubg, st, uks, utd, uls⟩ (.slice ka uks.length kc, .slice ta tm tc, .slice la lm lc), u.oneCell' = true := fun u hu => by unfold snV at hu; simp at hu; rcases hu with rfl | rfl | rfl | rfl | rfl | rfl | rfl <;> rfl
        have HFN := hid (fun (pv2 : Value) (w3 : World) hg ho hat => HDB.out.arm6 (pv' := pv2) (w3 := w3) (st := st) (ob := .cells #[.bool uop, .bool uun, .int .i64 ubg, .int .i64 st, .slice ka uks.length kc, .slice ta tm tc, .slice la lm lc] 47) hg ho hat hsi)
        have HPX := hid HDB.out.px
        clear hsi HSF o2 o3 a4 HDB f0w bal
        go_wp2_with (at_builtin; go_loud (refine wpList_append_own_at _ rfl (.tmp 191) (.tmp 193) 43 rfl w4.heap.size 47 i6 _ 7 96 Tryz.underlying43 hi6 hz60 hz61 hz62 rfl (by decide) (.slice qa ps.length qc) ps.length _ rfl HPR.out ⟨wb.heap.size, 0, none⟩ 1 1 (snV ⟨uop, uun, ubg, st, uks, utd, uls⟩ (.slice ka uks.length kc, .slice ta tm tc, .slice la lm lc)) rfl rfl HCN.out h1c (by unfold maxLen; omega) (by omega) hbA ?_; intro v9 w9 hown hgrow _ hat; obtain ⟨na, nc, hvn⟩ := formR hown; subst hvn; have HN := hid (HFN.out _ w9 hgrow hown hat); have KY := KX.out.fr (Fr.grown hgrow) (by simp; omega) (fun z => HPX.out z); have z0 : w9.cell? ⟨wd.heap.size, 0, none⟩ = some (.bool uop) := (KY 0 (by simp [snV])).1; have z1 : w9.cell? ⟨wd.heap.size, 1, none⟩ = some (.bool uun) := (KY 1 (by simp [snV])).1; have z2 : w9.cell? ⟨wd.heap.size, 2, none⟩ = some (.int .i64 ubg) := (KY 2 (by simp [snV])).1; have z3 : w9.cell? ⟨wd.heap.size, 3, none⟩ = some (.int .i64 st) := (KY 3 (by simp [snV])).1; have z4 : w9.cell? ⟨wd.heap.size, 4, none⟩ = some (.slice ka uks.length kc) := (KY 4 (by simp [snV])).1; have z5 : w9.cell? ⟨wd.heap.size, 5, none⟩ = some (.slice ta tm tc) := (KY 5 (by simp [snV])).1; have z6 : w9.cell? ⟨wd.heap.size, 6, none⟩ = some (.slice la lm lc) := (KY 6 (by simp [snV])).1; have l0 := (KY 0 (by simp [snV])).2; have l1 := (KY 1 (by simp [snV])).2; have l2 := (KY 2 (by simp [snV])).2; have l3 := (KY 3 (by simp [snV])).2; have l4 := (KY 4 (by simp [snV])).2; have l5 := (KY 5 (by simp [snV])).2; have l6 := (KY 6 (by simp [snV])).2; clear hown hgrow hat KY))
        go_meet
        case rel => exact ⟨_, _, ps ++ [(⟨uop, uun, ubg, st, uks, utd, uls⟩, (.slice ka uks.length kc, .slice ta tm tc, .slice la lm lc))], na, nc, by simp, hid (by simpa using HN.out)⟩
       have e6 : (kd == 6) = false := by simpa using h6
       by_cases h7 : kd = 7
       .subst h7
        rw [stS_7 hss rfl rfl] at hsi
        simp only [Int.toNat_natCast] at hsi
        have HN := hid (HDB.out.arm7 hsi)
        clear hsi HSF o2 o3 a4 a2 HDB
        as_aux_lemma =>
         go_wp2
         go_meet
         case rel => exact ⟨_, _, ps, qa, qc, rfl, HN⟩
       have e7 : (kd == 7) = false := by simpa using h7
       rw [stS_0 hss rfl h1 h3 (fun e => h45 (.inl e)) (fun e => h45 (.inr e)) h6 h7 h9 hud] at hsi
       simp only [Int.toNat_natCast] at hsi
       have HN := hid (HDB.out.arm0 hsi)
       clear hsi HSF o2 o3 a4 a2 HDB h1 h3 h45 h9 h6 h7
       as_aux_lemma =>
        go_wp2
        go_meet
        case rel => exact ⟨_, _, ps, qa, qc, rfl, HN⟩
      case rest =>
       obtain ⟨n, v, ps', qa', qc', rfl, HD⟩ := hcut
       clear g0 g1 g2 g3 g4 g5 g6 y0 y1 y2 y3 y4 y5 y6 q0 q1 q2 n0 n1 n2 n3 n4 n5 n6 p0 p1 HKa2 hbxl HDB
       obtain ⟨ka, kc, ta, tm, tc, la, lm, lc, hqf⟩ := HD.out.lq.me.form
       subst hqf
       obtain ⟨op, un, bg, cm, ks, td, ls⟩ := n
       have q1 : wc.cell? ⟨wr.heap.size, 1, none⟩ = some (.int .i64 (s : Int)) := (HD.out.bo 1 (by simp [opK])).1
       obtain ⟨n0, n1, n2, n3, n4, n5, n6⟩ := kc6 HD.out.lq.bk
       have hne : wd.heap.size ≠ w4.heap.size := HD.out.lq.bn
       obtain ⟨hlm, hgf⟩ : (∀ j, j < 7 -> ∃ z, wc.cell? ⟨w4.heap.size, s * 7 + j, none⟩ = some z) /\ (∀ j, j < 7 -> wc.frozen? ⟨w4.heap.size, s * 7 + j, none⟩ = false) := HD.out.lq.toLR.cells hs5
       obtain ⟨z0, g0⟩ := hlm 0 (by omega)
       have y0 : wc.frozen? ⟨w4.heap.size, s * 7, none⟩ = false := hgf 0 (by omega)
       obtain ⟨z1, g1⟩ := hlm 1 (by omega)
       have y1 : wc.frozen? ⟨w4.heap.size, s * 7 + 1, none⟩ = false := hgf 1 (by omega)
       obtain ⟨z2, g2⟩ := hlm 2 (by omega)
       have y2 : wc.frozen? ⟨w4.heap.size, s * 7 + 2, none⟩ = false := hgf 2 (by omega)
       obtain ⟨z3, g3⟩ := hlm 3 (by omega)
       have y3 : wc.frozen? ⟨w4.heap.size, s * 7 + 3, none⟩ = false := hgf 3 (by omega)
       obtain ⟨z4, g4⟩ := hlm 4 (by omega)
       have y4 : wc.frozen? ⟨w4.heap.size, s * 7 + 4, none⟩ = false := hgf 4 (by omega)
       obtain ⟨z5, g5⟩ := hlm 5 (by omega)
       have y5 : wc.frozen? ⟨w4.heap.size, s * 7 + 5, none⟩ = false := hgf 5 (by omega)
       obtain ⟨z6, g6⟩ := hlm 6 (by omega)
       have y6 : wc.frozen? ⟨w4.heap.size, s * 7 + 6, none⟩ = false := hgf 6 (by omega)
       rw [Nat.add_zero] at g0
       have HN : Hid (LL w4 w4.heap.size os (k + 1) (((((((wc.setCell ⟨w4.heap.size, s * 7, none⟩ (.bool op)).setCell ⟨w4.heap.size, s * 7 + 1, none⟩ (.bool un)).setCell ⟨w4.heap.size, s * 7 + 2, none⟩ (.int .i64 bg)).setCell ⟨w4.heap.size, s * 7 + 3, none⟩ (.int .i64 cm)).setCell ⟨w4.heap.size, s * 7 + 4, none⟩ (.slice ka ks.length kc)).setCell ⟨w4.heap.size, s * 7 + 5, none⟩ (.slice ta tm tc)).setCell ⟨w4.heap.size, s * 7 + 6, none⟩ (.slice la lm lc)) (nw.set s ⟨op, un, bg, cm, ks, td, ls⟩) (vs.set s (.slice ka ks.length kc, .slice ta tm tc, .slice la lm lc)) (.slice qa' ps'.length qc') ps') := hid (by
        exact LL.done HLL.out HD.out hs5)
       clear HD HLL HSI HSF HB HBb hlm hgf hud hu hq HSM
       as_aux_lemma =>
        go_wp2
        go_roundw
        case rel => exact ⟨k + 1, _, _, ps', qa', qc', by omega, by go_num, rfl, HN⟩
        case measure => simp [intOf]; omega
    .have hlti : ¬ (k : Int) < os.length := by omega
     obtain ⟨W5, hW5⟩ : ∃ z, z = wr := ⟨_, rfl⟩
     subst hW5
     have HPM := hid HLL.out.pm
     have HPW := hid HLL.out.si.pw
     have HBF : Hid (Below w.heap.size w W5) := hid (HB4.out.trans (HLL.out.bel.mono HB4.out.size))
     have HPB := hid HLL.out.pb
     have hpsl := HLL.out.pl
     clear HLL HOP4 HGT HWT4 HLP HLq HLl HB4
     go_wp2
     rename World => W5
     go_loopw [207] (fun iv wr => ∃ i : Nat, i <= ps.length /\ iv = .int .i64 (i : Int) /\ Hid (Below W5.heap.size W5 wr)) (fun iv _ => ps.length - (intOf iv).toNat)
     case atStart => exact ⟨0, by omega, rfl, hid (Below.refl _ _)⟩
     case round =>
      obtain ⟨i, hi, rfl, HB⟩ := hrel
      by_cases hil : i < ps.length
      .have hili : (i : Int) < ps.length := by omega
       obtain ⟨pg, qc2, hqe, hcq, _, hpgl⟩ := own_shape HPM.out.row (by omega)
       simp only [Value.slice.injEq] at hqe
       obtain ⟨rfl, _, rfl⟩ := hqe
       obtain ⟨x, hx⟩ : ∃ x, ps[i]? = some x := ⟨_, List.getElem?_eq_getElem hil⟩
       have hxm := List.mem_of_getElem? hx
       have hcx := (HPM.out.below HB.out).at rfl hx
       obtain ⟨xka, xkc, hxk, _⟩ := (HPM.out.ks x hxm).1
       obtain ⟨xa, xm, xc, xa2, xm2, xc2, hxf⟩ := HPM.out.fm x hxm
       have HXK := hid (HPM.out.ks x hxm).1
       have hxkl := HPB.out x hxm
       obtain ⟨⟨xop, xun, xbg, xcm, xks, xtd, xls⟩, xv1, xv2⟩ := x
       simp only at hxk hxf HXK hxkl
       subst hxk hxf
       have n0 : wr.cell? ⟨pg, i * 7, none⟩ = some (.bool xop) := hcx 0 (by omega)
       have n1 : wr.cell? ⟨pg, i * 7 + 1, none⟩ = some (.bool xun) := hcx 1 (by omega)
       have n2 : wr.cell? ⟨pg, i * 7 + 2, none⟩ = some (.int .i64 xbg) := hcx 2 (by omega)
       have n3 : wr.cell? ⟨pg, i * 7 + 3, none⟩ = some (.int .i64 xcm) := hcx 3 (by omega)
       have n4 : wr.cell? ⟨pg, i * 7 + 4, none⟩ = some (.slice xka xks.length xkc) := hcx 4 (by omega)
       have n5 : wr.cell? ⟨pg, i * 7 + 5, none⟩ = some (.slice xa xm xc) := hcx 5 (by omega)
       have n6 : wr.cell? ⟨pg, i * 7 + 6, none⟩ = some (.slice xa2 xm2 xc2) := hcx 6 (by omega)
       have hici : (i : Int) <= (qc : Int) := by omega
       have b1 := below_alloc wr (.cells #[.bool xop, .bool xun, .int .i64 xbg, .int .i64 xcm, .slice xka xks.length xkc, .slice xa xm xc, .slice xa2 xm2 xc2] 47)
       have HB1 : Hid (Below W5.heap.size W5 (wr.alloc (.cells #[.bool xop, .bool xun, .int .i64 xbg, .int .i64 xcm, .slice xka xks.length xkc, .slice xa xm xc, .slice xa2 xm2 xc2] 47))) := hid (HB.out.trans (b1.mono HB.out.size))
       have HK1 : Hid (Blk (wr.alloc (.cells #[.bool xop, .bool xun, .int .i64 xbg, .int .i64 xcm, .slice xka xks.length xkc, .slice xa xm xc, .slice xa2 xm2 xc2] 47)) wr.heap.size [.bool xop, .bool xun, .int .i64 xbg, .int .i64 xcm, .slice xka xks.length xkc, .slice xa xm xc, .slice xa2 xm2 xc2]) := hid (blk_new wr [.bool xop, .bool xun, .int .i64 xbg, .int .i64 xcm, .slice xka xks.length xkc, .slice xa xm xc, .slice xa2 xm2 xc2] _)
       have hz1 : wr.heap.size < (wr.alloc (.cells #[.bool xop, .bool xun, .int .i64 xbg, .int .i64 xcm, .slice xka xks.length xkc, .slice xa xm xc, .slice xa2 xm2 xc2] 47)).heap.size := by simp
       have hsW := HB.out.size
       clear hcx b1
       go_wp2
       rename World => W3
       go_loopw [216] (fun jv wr => ∃ j : Nat, j <= i /\ jv = .int .i64 (j : Int) /\ Hid (Below W5.heap.size W5 wr) /\ Hid (Blk wr W3.heap.size [.bool xop, .bool xun, .int .i64 xbg, .int .i64 xcm, .slice xka xks.length xkc, .slice xa xm xc, .slice xa2 xm2 xc2]) /\ W3.heap.size < wr.heap.size) (fun jv _ => i - (intOf jv).toNat)
       case atStart => exact ⟨0, by omega, rfl, HB1, HK1, hz1⟩
       case round =>
        clear HB1 HK1 hz1 n0 n1 n2 n3 n4 n5 n6
        obtain ⟨j, hj, rfl, HB4, HK4, hz4⟩ := hrel
        by_cases hjl : j < i
        .have hjli : (j : Int) < i := by omega
         obtain ⟨y, hy⟩ : ∃ y, ps[j]? = some y := ⟨_, List.getElem?_eq_getElem (by omega)⟩
         have hym := List.mem_of_getElem? hy
         have hcy := (HPM.out.below HB4.out).at rfl hy
         have HOK := hid (pw_at HPW.out (i := i) (j := j) (by rw [List.getElem?_map, hx]; rfl) (by rw [List.getElem?_map, hy]; rfl) hjl)
         obtain ⟨yka, ykc, hyk, _⟩ := (HPM.out.ks y hym).1
         obtain ⟨ya, ym, yc, ya2, ym2, yc2, hyf⟩ := HPM.out.fm y hym
         have HYK := hid (HPM.out.ks y hym).1
         have hykl := HPB.out y hym
         obtain ⟨⟨yop, yun, ybg, ycm, yks, ytd, yls⟩, yv1, yv2⟩ := y
         simp only at hyk hyf HYK hykl
         subst hyk hyf
         have n0 : wr.cell? ⟨pg, j * 7, none⟩ = some (.bool yop) := hcy 0 (by omega)
         have n1 : wr.cell? ⟨pg, j * 7 + 1, none⟩ = some (.bool yun) := hcy 1 (by omega)
         have n2 : wr.cell? ⟨pg, j * 7 + 2, none⟩ = some (.int .i64 ybg) := hcy 2 (by omega)
         have n3 : wr.cell? ⟨pg, j * 7 + 3, none⟩ = some (.int .i64 ycm) := hcy 3 (by omega)
         have n4 : wr.cell? ⟨pg, j * 7 + 4, none⟩ = some (.slice yka yks.length ykc) := hcy 4 (by omega)
         have n5 : wr.cell? ⟨pg, j * 7 + 5, none⟩ = some (.slice ya ym yc) := hcy 5 (by omega)
         have n6 : wr.cell? ⟨pg, j * 7 + 6, none⟩ = some (.slice ya2 ym2 yc2) := hcy 6 (by omega)
         have b2 := below_alloc wr (.cells #[.bool yop, .bool yun, .int .i64 ybg, .int .i64 ycm, .slice yka yks.length ykc, .slice ya ym yc, .slice ya2 ym2 yc2] 47)
         have HB5 : Hid (Below W5.heap.size W5 (wr.alloc (.cells #[.bool yop, .bool yun, .int .i64 ybg, .int .i64 ycm, .slice yka yks.length ykc, .slice ya ym yc, .slice ya2 ym2 yc2] 47))) := hid (HB4.out.trans (b2.mono HB4.out.size))
         have HK5 := hid (HK4.out.below b2 hz4)
         have KY : Blk (wr.alloc (.cells #[.bool yop, .bool yun, .int .i64 ybg, .int .i64 ycm, .slice yka yks.length ykc, .slice ya ym yc, .slice ya2 ym2 yc2] 47)) wr.heap.size [.bool yop, .bool yun, .int .i64 ybg, .int .i64 ycm, .slice yka yks.length ykc, .slice ya ym yc, .slice ya2 ym2 yc2] := blk_new wr [.bool yop, .bool yun, .int .i64 ybg, .int .i64 ycm, .slice yka yks.length ykc, .slice ya ym yc, .slice ya2 ym2 yc2] _
         have HKY := hid KY
         have hz5 : W3.heap.size < (wr.alloc (.cells #[.bool yop, .bool yun, .int .i64 ybg, .int .i64 ycm, .slice yka yks.length ykc, .slice ya ym yc, .slice ya2 ym2 yc2] 47)).heap.size := by simp; omega
         have hz6 : wr.heap.size < (wr.alloc (.cells #[.bool yop, .bool yun, .int .i64 ybg, .int .i64 ycm, .slice yka yks.length ykc, .slice ya ym yc, .slice ya2 ym2 yc2] 47)).heap.size := by simp
         obtain ⟨-, x1, x2, x3, x4⟩ := kc4 HK5.out
         obtain ⟨-, y1, y2, y3, y4⟩ := kc4 KY
         have hsW4 := HB4.out.size
         clear hcy b2 KY HB4 HK4
         cases xun with
         | true =>
           as_aux_lemma =>
            go_wp2
            go_roundw
            case rel => exact ⟨j + 1, by omega, by go_num, HB5, HK5, hz5⟩
            case measure => simp [intOf]; omega
         | false =>
           cases yun with
           | true =>
             as_aux_lemma =>
              go_wp2
              go_roundw
              case rel => exact ⟨j + 1, by omega, by go_num, HB5, HK5, hz5⟩
              case measure => simp [intOf]; omega
           | false =>
             by_cases hc1 : ycm <= xbg
             .as_aux_lemma =>
               go_wp2
               go_roundw
               case rel => exact ⟨j + 1, by omega, by go_num, HB5, HK5, hz5⟩
               case measure => simp [intOf]; omega
             by_cases hc2 : xcm <= ybg
             .as_aux_lemma =>
               go_wp2
               go_roundw
               case rel => exact ⟨j + 1, by omega, by go_num, HB5, HK5, hz5⟩
               case measure => simp [intOf]; omega
             have HNK : Hid (∀ k ∈ xks, k ∉ yks) := hid (by
              have := HOK.out
              unfold OKp at this
              simp only at this
              rcases this with z | z | z | z | z
              .cases z
              .cases z
              .exact absurd z hc1
              .exact absurd z hc2
              .exact z)
             clear HOK
             go_wp2
             rename World => W4
             go_loopw [243] (fun kv wr => ∃ a : Nat, a <= xks.length /\ kv = .int .i64 (a : Int) /\ Hid (Below W5.heap.size W5 wr) /\ Hid (Blk wr W3.heap.size [.bool xop, .bool false, .int .i64 xbg, .int .i64 xcm, .slice xka xks.length xkc, .slice xa xm xc, .slice xa2 xm2 xc2]) /\ Hid (Blk wr W4.heap.size [.bool yop, .bool false, .int .i64 ybg, .int .i64 ycm, .slice yka yks.length ykc, .slice ya ym yc, .slice ya2 ym2 yc2]) /\ W3.heap.size < wr.heap.size /\ W4.heap.size < wr.heap.size) (fun kv _ => xks.length - (intOf kv).toNat)
             case atStart => exact ⟨0, by omega, rfl, HB5, HK5, HKY, hz5, hz6⟩
             case round =>
              clear HB5 HK5 HKY hz5 hz6 x1 x2 x3 x4 y1 y2 y3 y4 n0 n1 n2 n3 n4 n5 n6
              obtain ⟨a, ha, rfl, HB6, HKx, HKy, hzx, hzy⟩ := hrel
              by_cases hal : a < xks.length
              .have hali : (a : Int) < xks.length := by omega
               obtain ⟨kx, hkx⟩ : ∃ z, xks[a]? = some z := ⟨_, List.getElem?_eq_getElem hal⟩
               obtain ⟨xg, xo, xcs, rfl, _, hxgl, hxC, hxc⟩ := rs_at HXK.out HB6.out hkx
               have hkm := List.mem_of_getElem? hkx
               obtain ⟨kx1, kx2⟩ := kx
               unfold CPr pairV at hxC
               subst hxC
               have c0 : wr.cell? ⟨xg, xo + a * 2, none⟩ = some (.int .i64 kx1) := hxc 0 (by omega)
               have c1 : wr.cell? ⟨xg, xo + a * 2 + 1, none⟩ = some (.int .i64 kx2) := hxc 1 (by omega)
               have b3 := below_alloc wr (.cells #[.int .i64 kx1, .int .i64 kx2] 48)
               have HB7 : Hid (Below W5.heap.size W5 (wr.alloc (.cells #[.int .i64 kx1, .int .i64 kx2] 48))) := hid (HB6.out.trans (b3.mono HB6.out.size))
               have HKx7 := hid (HKx.out.below b3 hzx)
               have HKy7 := hid (HKy.out.below b3 hzy)
               have HKz7 : Hid (Blk (wr.alloc (.cells #[.int .i64 kx1, .int .i64 kx2] 48)) wr.heap.size [.int .i64 kx1, .int .i64 kx2]) := hid (blk_new wr [.int .i64 kx1, .int .i64 kx2] _)
               have hz7 : wr.heap.size < (wr.alloc (.cells #[.int .i64 kx1, .int .i64 kx2] 48)).heap.size := by simp
               have y4 : (wr.alloc (.cells #[.int .i64 kx1, .int .i64 kx2] 48)).cell? ⟨W4.heap.size, 4, none⟩ = some (.slice yka yks.length ykc) := (HKy7.out 4 (by simp)).1
               have hsW6 := HB6.out.size
               clear b3 hxc HB6 HKx HKy
               go_wp2
               rename World => W6
               go_loopw [250] (fun lv wr => ∃ b : Nat, b <= yks.length /\ lv = .int .i64 (b : Int) /\ Hid (Below W5.heap.size W5 wr) /\ Hid (Blk wr W3.heap.size [.bool xop, .bool false, .int .i64 xbg, .int .i64 xcm, .slice (some ⟨xg, xo, none⟩) xks.length xkc, .slice xa xm xc, .slice xa2 xm2 xc2]) /\ Hid (Blk wr W4.heap.size [.bool yop, .bool false, .int .i64 ybg, .int .i64 ycm, .slice yka yks.length ykc, .slice ya ym yc, .slice ya2 ym2 yc2]) /\ Hid (Blk wr W6.heap.size [.int .i64 kx1, .int .i64 kx2]) /\ W6.heap.size < wr.heap.size) (fun lv _ => yks.length - (intOf lv).toNat)
               case atStart => exact ⟨0, by omega, rfl, HB7, HKx7, HKy7, HKz7, hz7⟩
               case round =>
                clear HB7 HKx7 HKy7 HKz7 hz7 y4 c0 c1
                obtain ⟨b, hb, rfl, HB8, HKx, HKy, HKz, hz8⟩ := hrel
                by_cases hbl : b < yks.length
                .have hbli : (b : Int) < yks.length := by omega
                 obtain ⟨ky2, hky⟩ : ∃ z, yks[b]? = some z := ⟨_, List.getElem?_eq_getElem hbl⟩
                 obtain ⟨yg, yo, ycs, rfl, _, hygl, hyC, hyc⟩ := rs_at HYK.out HB8.out hky
                 have hne := HNK.out _ hkm
                 have hkym := List.mem_of_getElem? hky
                 obtain ⟨l1, l2⟩ := ky2
                 unfold CPr pairV at hyC
                 subst hyC
                 have d0 : wr.cell? ⟨yg, yo + b * 2, none⟩ = some (.int .i64 l1) := hyc 0 (by omega)
                 have d1 : wr.cell? ⟨yg, yo + b * 2 + 1, none⟩ = some (.int .i64 l2) := hyc 1 (by omega)
                 have b4 := below_alloc wr (.cells #[.int .i64 l1, .int .i64 l2] 48)
                 have HB9 : Hid (Below W5.heap.size W5 (wr.alloc (.cells #[.int .i64 l1, .int .i64 l2] 48))) := hid (HB8.out.trans (b4.mono HB8.out.size))
                 have HKx9 := hid (HKx.out.below b4 (by omega))
                 have HKy9 := hid (HKy.out.below b4 (by omega))
                 have HKz9 := hid (HKz.out.below b4 hz8)
                 obtain ⟨e0, e1⟩ := kc1 HKz9.out
                 have hz9 : W6.heap.size < (wr.alloc (.cells #[.int .i64 l1, .int .i64 l2] 48)).heap.size := by simp; omega
                 have hsW8 := HB8.out.size
                 have hno : ¬ (kx1 = l1 /\ kx2 = l2) := fun z => hne (by rw [z.1, z.2]; exact hkym)
                 clear b4 hyc HB8 HKx HKy HKz hne
                 have hqf := fun W => eqK2 W kx1 kx2 l1 l2 hno
                 clear hno
                 as_aux_lemma =>
                  go_wp2
                  go_roundw
                  case rel => exact ⟨b + 1, by omega, by go_num, HB9, HKx9, HKy9, HKz9, hz9⟩
                  case measure => simp [intOf]; omega
                .have hbli : ¬ (b : Int) < yks.length := by omega
                 as_aux_lemma =>
                  go_wp2
                  go_roundw
                  case rel => exact ⟨a + 1, by omega, by go_num, HB8, HKx, HKy, by omega, by omega⟩
                  case measure => simp [intOf]; omega
              .have hali : ¬ (a : Int) < xks.length := by omega
               as_aux_lemma =>
                go_wp2
                go_roundw
                case rel => exact ⟨j + 1, by omega, by go_num, HB6, HKx, hzx⟩
                case measure => simp [intOf]; omega
        .have hjli : ¬ (j : Int) < i := by omega
         as_aux_lemma =>
          go_wp2
          go_roundw
          case rel => exact ⟨i + 1, by omega, by go_num, HB4⟩
          case measure => simp [intOf]; omega
      .have hili : ¬ (i : Int) < ps.length := by omega
       have HE : Hid (Below w.heap.size w wr) := hid (HBF.out.trans (HB.out.mono HBF.out.size))
       clear HPM HPW HB HBF
       as_aux_lemma =>
        go_wp2
        go_ret
        exact ⟨rfl, HE.out⟩
end Go.Proofs.YtblkgicbimflhaaGreat
