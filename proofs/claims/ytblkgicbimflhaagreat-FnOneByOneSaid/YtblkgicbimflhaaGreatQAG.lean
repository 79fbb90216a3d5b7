import Derived.Test.YtblkgicbimflhaaGreatQAF
import Derived.Deep.RegionLawGrows
import Derived.Deep.CutRange
import Derived.Deep.DeepCutAuto
import Derived.Deep.RegionHeld3
import Derived.Test.YtblkgicbimflhaaGreatQAE
namespace Go.Proofs.YtblkgicbimflhaaGreat
open Go.ChangeShapes Go.WideShapes Go.ChangeAt Go.RowKit
set_option linter.unusedVariables false
set_option linter.unusedSimpArgs false
set_option maxRecDepth 100000
set_option maxHeartbeats 16000000
theorem KT2B {Z w1 : World} {E : Obj} {cs : List Value} {ty : Nat} {row : Option Nat} (h : ((Z.alloc E).alloc (.cells cs.toArray ty)).drew.grownBy w1 row) (hr : some (Z.heap.size + 1) ≠ row) : Blk w1 (Z.heap.size + 1) cs := by
 have hb : Blk ((Z.alloc E).alloc (.cells cs.toArray ty)).drew (Z.heap.size + 1) cs := by
  have := blk_new (Z.alloc E) cs ty
  rw [show (Z.alloc E).heap.size = Z.heap.size + 1 by simp] at this
  exact this
 exact hb.grown h (by simp) hr
theorem KT2C {Z w1 : World} {E : Obj} {cs : List Value} {ty : Nat} {row : Option Nat} (h : ((Z.alloc (.cells cs.toArray ty)).alloc E).drew.grownBy w1 row) (hr : some Z.heap.size ≠ row) : Blk w1 Z.heap.size cs := by
 have hb0 : Blk ((Z.alloc (.cells cs.toArray ty)).alloc E) Z.heap.size cs := (blk_new Z cs ty).below (below_alloc _ _) (by simp)
 have hb : Blk ((Z.alloc (.cells cs.toArray ty)).alloc E).drew Z.heap.size cs := hb0
 exact hb.grown h (by simp; omega) hr
theorem saves_8 (B bb gx i : Nat) (x : Bas) (o : Opn) (cv hv : Value) (vs : List (Value × Value × Value)) (w : World) (hM : Mem B bb gx w x cv hv vs) (hi : i < 4) (hop : (x.tx.getD i tx0).op = true) (hb : Bnd x) (hB : B <= w.heap.size) (hk8 : o.kd = 8) :
 Calls Tryz.prog 41 #[.pointer (some ⟨bb, 0, none⟩), .agg #[.int .i64 o.kd, .int .i64 o.ss, .int .i64 o.tb, .int .i64 o.ky, .int .i64 o.vl, .int .i64 o.md, .string o.nm], .int .i64 (i : Int)] w fun e w' => SavesP B bb gx x i o w e w' := by
 have HK80 := hid hk8
 clear hk8
 obtain ⟨t, ⟨ov, rv, sv⟩, htx, hvx, hTM, hcell⟩ := hM.at hi
 have htD : x.tx.getD i tx0 = t := by rw [List.getD_eq_getElem?_getD, htx]; rfl
 have hmem : t ∈ x.tx := List.mem_of_getElem? htx
 rw [htD] at hop
 obtain ⟨hrl, gr, hrv, hgB, hgt, hgb⟩ := hTM.rd hop
 simp only at hrv
 subst hrv
 obtain ⟨oa, oc, hov⟩ := hTM.ow.form
 simp only at hov
 subst hov
 obtain ⟨sa, sc, hsv⟩ := hTM.sa.form
 simp only at hsv
 subst hsv
 obtain ⟨ma, mc, hcv⟩ : ∃ a c, cv = .slice a x.cms.length c := by obtain ⟨ps, _, ho, _⟩ := hM.cm; exact formR ho
 subst hcv
 obtain ⟨ha, hc, hhv⟩ : ∃ a c, hv = .slice a x.hs.length c := by obtain ⟨ps, _, ho, _⟩ := hM.hi; exact formR ho
 subst hhv
 obtain ⟨⟨q0, z0⟩, ⟨q1, z1⟩, ⟨q2, z2⟩, ⟨q3, z3⟩, ⟨q4, z4⟩, ⟨q5, z5⟩⟩ := mqb hcell
 have b3 : w.cell? ⟨bb, 3, none⟩ = some (.slice (some ⟨gx, 0, none⟩) 4 4) := (hM.bs 3 (by simp)).1
 have hgxl : gx < w.heap.size := tag_lt hM.xt
 have hbbl : bb < w.heap.size := tag_lt hM.bt
 have hii : (i : Int) < 4 := by omega
 obtain ⟨W1, hW1⟩ : ∃ z, z = ((w.alloc (.cells #[.int .i64 o.kd, .int .i64 o.ss, .int .i64 o.tb, .int .i64 o.ky, .int .i64 o.vl, .int .i64 o.md, .string o.nm] 41)).alloc (.cells #[.bool true, .int .i64 t.md, .int .i64 t.bg, .slice oa t.own.length oc, .slice (some ⟨gr, 0, none⟩) 32 32, .slice sa t.sv.length sc] 70)) := ⟨_, rfl⟩
 have bw : Below w.heap.size w W1 := by rw [hW1]; exact (below_alloc w _).alloc (by simp) _
 have HM1 := hid (hM.below bw)
 have HO1 : Hid (Blk W1 w.heap.size [.int .i64 o.kd, .int .i64 o.ss, .int .i64 o.tb, .int .i64 o.ky, .int .i64 o.vl, .int .i64 o.md, .string o.nm]) := hid (by
  rw [hW1]
  exact (blk_new w [.int .i64 o.kd, .int .i64 o.ss, .int .i64 o.tb, .int .i64 o.ky, .int .i64 o.vl, .int .i64 o.md, .string o.nm] 41).below (below_alloc _ _) (by simp))
 have HT1 : Hid (Blk W1 (w.heap.size + 1) [.bool true, .int .i64 t.md, .int .i64 t.bg, .slice oa t.own.length oc, .slice (some ⟨gr, 0, none⟩) 32 32, .slice sa t.sv.length sc]) := hid (by
  rw [hW1]
  have := blk_new (w.alloc (.cells #[.int .i64 o.kd, .int .i64 o.ss, .int .i64 o.tb, .int .i64 o.ky, .int .i64 o.vl, .int .i64 o.md, .string o.nm] 41)) [.bool true, .int .i64 t.md, .int .i64 t.bg, .slice oa t.own.length oc, .slice (some ⟨gr, 0, none⟩) 32 32, .slice sa t.sv.length sc] 70
  simpa using this)
 have hs1 : w.heap.size + 1 < W1.heap.size := by rw [hW1]; simp
 have hs0 : w.heap.size < W1.heap.size := by omega
 have hs2 : w.heap.size < W1.heap.size + 1 := by omega
 have HTM1 := hid (hTM.chg (Chg.of_below (fun _ => False) bw) (fun z => z) (fun z => z) (fun z => z))
 have HBW := hid bw
 have hn0 : ¬ gx = bb := tag_ne hM.xt hM.bt (by decide)
 have hn1 : ¬ bb = gx := fun z => hn0 z.symm
 have hn2 : ¬ gx = w.heap.size + 1 := by omega
 have hn3 : ¬ w.heap.size + 1 = gx := by omega
 have HBN := hid hb
 have HTX := hid htx
 have HVX := hid hvx
 have HTD := hid htD
 have hol := hb.ow t hmem
 have hsl := hb.sl t hmem
 have HSC := hid (hb.sc t hmem)
 have HQ5 : Hid (w.cell? ⟨gx, i * 6 + 5, none⟩ = some (.slice sa t.sv.length sc) /\ w.frozen? ⟨gx, i * 6 + 5, none⟩ = false) := ⟨q5, z5⟩
 clear hM hTM hb htx hvx hcell hmem htD bw
 go_enter Tryz.func41, Tryz.ntmps41
 go_upto_region 2 with (fail)
 rw [<- hW1]
 clear hW1 q0 q1 q2 q3 q4 q5 z0 z1 z2 z3 z4 z5 b3
 obtain ⟨k0, -, -, -, -, -, k6⟩ := kc6 HO1.out
 obtain ⟨-, -, -, t3, -, t5⟩ := kc5 HT1.out
 have hk8 := HK80.out
 clear HK80
 have hk8b : (o.kd == 8) = true := by simpa using hk8
 by_cases hfull : 8 <= t.sv.length
 .have hfi : (8 : Int) <= (t.sv.length : Int) := by omega
  have HF : Hid (SavesP B bb gx x i o w (.returned (.int .i64 5)) W1) := hid (by
   have e : savesF x i o = (x, 5) := by unfold savesF; simp only [HTD.out]; rw [if_pos hk8, if_pos hfull]
   exact ⟨_, _, _, by rw [e], by rw [e]; exact HM1.out, Keep.of_below HBW.out, HBW.out.mono hB⟩)
  clear hk8 hfull
  go_wp2
  go_ret
  exact HF.out
 .have hfi : ¬ (8 : Int) <= (t.sv.length : Int) := by omega
  have HK8 := hid hk8
  have HFU := hid hfull
  obtain ⟨j0, hj, hy0, hy1, hy2⟩ := info_parts infoCel
  have HOWN := HTM1.out.ow.1
  have HOR := hid HOWN
  have OA : Hid (((W1.alloc (.cells #[] 106)).drew).ownsRow W1.heap.size 106 4 (.slice (some ⟨W1.heap.size, 0, none⟩) 0 0) 0 []) := hid (by
   have := World.ownsRow_made (base := W1.heap.size) (e := 106) (size := 4) W1 #[] 0 (by simp) (by unfold maxLen; omega) (by simp)
   simpa using this.drew)
  have OB : Hid ((((W1.alloc (.cells #[] 106)).alloc (.cells #[.string ⟨#[]⟩, .slice none 0 0] 146)).drew).ownsRow W1.heap.size 106 4 (.slice (some ⟨W1.heap.size, 0, none⟩) 0 0) 0 []) := hid (by
   have := (World.ownsRow_made (base := W1.heap.size) (e := 106) (size := 4) W1 #[] 0 (by simp) (by unfold maxLen; omega) (by simp)).alloc (.cells #[.string ⟨#[]⟩, .slice none 0 0] 146)
   simpa using this.drew)
  have OC : Hid ((((W1.alloc (.cells #[.string ⟨#[]⟩, .slice none 0 0] 146)).alloc (.cells #[] 106)).drew).ownsRow W1.heap.size 106 4 (.slice (some ⟨W1.heap.size + 1, 0, none⟩) 0 0) 0 []) := hid (by
   have := World.ownsRow_made (base := W1.heap.size) (e := 106) (size := 4) (W1.alloc (.cells #[.string ⟨#[]⟩, .slice none 0 0] 146)) #[] 0 (by simp) (by unfold maxLen; omega) (by simp)
   simpa using this.drew)
  clear hk8 hfull HOWN
  go_upto_region 5 with (fail)
  go_cut [8] (fun s wx => Hid (SvB W1 wx o.nm t.own s))
  case first =>
   clear HM1 HO1 HT1 HTM1 HBW HBN HTX HVX HTD HSC
   go_region_law (refine step_append_rs0 liesC oneC rfl (.tmp 26) (.tmp 28) 67 rfl W1.heap.size 106 j0 _ 32 Tryz.underlying67 hj hy0 hy1 hy2 rfl (by decide) (.slice (some ⟨_, 0, none⟩) 0 0) 0 [] rfl ?_ oa oc t.own t.own.length rfl rfl W1 HOR.out ?_ ?_ ?_ ?_ ?_
                  .first | (with_reducible first | exact OA.out | exact OB.out | exact OC.out)
                  .exact bl
                  .unfold maxLen; omega
                  .omega
                  .first | (simp; done) | (simp; omega) | omega
                  intro news v8 w8 hfi8 hown8 hgrow8 _ _
                  have bw8 : Below W1.heap.size W1 w8 := by
                   refine Below.grown ?_ hgrow8 ?_ ?_
                   .exact bl
                   .first | (simp; done) | (simp; omega) | omega
                   .intro k hk; simp [Value.ownBlock] at hk; first | omega | (subst hk; omega)
                  have HT8 := hid (cel_tl (hfi8.below liesC bw8) (by simpa using hown8))
                  obtain ⟨a8, c8, hv8⟩ := HT8.out.form
                  subst hv8
                  have HB8 := hid bw8
                  have k68 : w8.cell? ⟨w.heap.size, 6, none⟩ = some (.string o.nm) := ct bw8 hs0 k6
                  have hs08 : w.heap.size < w8.heap.size := by have := bw8.size; omega
                  first
                   | (have HKZ := hid (Blk.grown (Blk.below (blk_new W1 [.string ⟨#[]⟩, .slice none 0 0] 146) bl (by simp)) hgrow8 (by first | (simp; done) | (simp; omega) | omega) (by first | (simp [Value.ownBlock]; done) | (simp [Value.ownBlock]; omega)))
                      have HTZ := hid ((Chg.grown (T := fun ty => ty = 106) hgrow8 (fun g hg => ⟨_, rfl, own_tag OC.out hg⟩)).tagk (by decide) (tag_below (tag_new W1 [.string ⟨#[]⟩, .slice none 0 0] 146) bl))
                      obtain ⟨⟨y0, x0⟩, ⟨y1, -⟩⟩ := kb1 HKZ.out
                      have x1 : w8.frozen? ⟨W1.heap.size, 1, none⟩ = false := (HKZ.out 1 (by simp)).2)
                   | (have HKZ := hid (Blk.grown (Blk.below (blk_new (W1.alloc (.cells #[] 106)) [.string ⟨#[]⟩, .slice none 0 0] 146) bl (by simp)) hgrow8 (by first | (simp; done) | (simp; omega) | omega) (by first | (simp [Value.ownBlock]; done) | (simp [Value.ownBlock]; omega)))
                      have HTZ := hid ((Chg.grown (T := fun ty => ty = 106) hgrow8 (fun g hg => ⟨_, rfl, own_tag OB.out hg⟩)).tagk (by decide) (tag_below (tag_new (W1.alloc (.cells #[] 106)) [.string ⟨#[]⟩, .slice none 0 0] 146) bl))
                      have hse : (W1.alloc (.cells #[] 106)).heap.size = W1.heap.size + 1 := by simp
                      rw [hse] at HKZ HTZ
                      clear hse
                      obtain ⟨⟨y0, x0⟩, ⟨y1, -⟩⟩ := kb1 HKZ.out
                      have x1 : w8.frozen? ⟨W1.heap.size + 1, 1, none⟩ = false := (HKZ.out 1 (by simp)).2)
                   | skip
                  clear hfi8 hown8 hgrow8 bw8)
   all_goals
    go_wp2_with (fail)
    go_meet
    case rel => first | with_reducible exact hid (svA HB8.out HT8.out) | with_reducible exact hid (svB HB8.out HT8.out HKZ.out HTZ.out (Nat.le_refl _)) | with_reducible exact hid (svB HB8.out HT8.out HKZ.out HTZ.out (Nat.le_succ _))
  case rest =>
   rename World => w5
   clear OA OB OC HOR
   obtain ⟨bx, a8, c8, hsx, hKB, hTL8, hb5, hbx, hbx1⟩ := hcut.out
   subst hsx
   obtain ⟨ps, hps, hRSp, hpt⟩ := HTM1.out.sa.flat
   have hpl : ps.length = t.sv.length := by rw [<- hps, List.length_map]
   have hRS5 := hRSp.below liesSp hb5
   simp only at hRS5
   rw [<- hpl] at hRS5
   have HRS := hid hRS5
   have HPL := hid hpl
   have HPT : Hid (∀ p ∈ ps ++ [(⟨o.nm, t.own⟩, .slice a8 t.own.length c8)], TL 106 4 CC w5 p.2 p.1.cs) := hid (fun p hp => by
    rcases List.mem_append.1 hp with h | h
    .exact (hpt p h).chg (fun z => z) (Chg.of_below (fun _ => False) hb5) (fun h => h)
    .rw [List.mem_singleton] at h; subst h; exact hTL8)
   have HPS := hid hps
   have HM5 := hid (HM1.out.below hb5)
   have HB5 := hid hb5
   have HKB := hid hKB
   have b3 : w5.cell? ⟨bb, 3, none⟩ = some (.slice (some ⟨gx, 0, none⟩) 4 4) := (HM5.out.bs 3 (by simp)).1
   have t55 : w5.cell? ⟨w.heap.size + 1, 5, none⟩ = some (.slice sa t.sv.length sc) := ct hb5 hs1 t5
   obtain ⟨s0, s1⟩ := kc1 hKB
   have hs5 : W1.heap.size <= w5.heap.size := hb5.size
   have hs6 : w.heap.size + 1 < w5.heap.size := by omega
   have hs7 : w.heap.size < w5.heap.size := by omega
   have hbb5 : bb < w5.heap.size := by omega
   have hbb6 : bb < w5.heap.size + 1 := by omega
   have hbx6 : bx < w5.heap.size + 1 := by omega
   have hs8 : w.heap.size < w5.heap.size + 1 := by omega
   obtain ⟨i0, hi0, hz0, hz1, hz2⟩ := info_parts infoSa
   rw [<- hpl] at t55
   clear hcut hKB hTL8 hb5 hRSp hpt hRS5 hps hpl k0 k6 t3 t5
   have OA : Hid (((w5.alloc (.cells #[] 146)).drew).ownsRow w5.heap.size 146 2 (.slice (some ⟨w5.heap.size, 0, none⟩) 0 0) 0 []) := hid (by
    have := World.ownsRow_made (base := w5.heap.size) (e := 146) (size := 2) w5 #[] 0 (by simp) (by unfold maxLen; omega) (by simp)
    simpa using this.drew)
   have OB : Hid ((((w5.alloc (.cells #[] 146)).alloc (.cells #[.string o.nm, .slice a8 t.own.length c8] 146)).drew).ownsRow w5.heap.size 146 2 (.slice (some ⟨w5.heap.size, 0, none⟩) 0 0) 0 []) := hid (by
    have := (World.ownsRow_made (base := w5.heap.size) (e := 146) (size := 2) w5 #[] 0 (by simp) (by unfold maxLen; omega) (by simp)).alloc (.cells #[.string o.nm, .slice a8 t.own.length c8] 146)
    simpa using this.drew)
   have OC : Hid ((((w5.alloc (.cells #[.string o.nm, .slice a8 t.own.length c8] 146)).alloc (.cells #[] 146)).drew).ownsRow w5.heap.size 146 2 (.slice (some ⟨w5.heap.size + 1, 0, none⟩) 0 0) 0 []) := hid (by
    have := World.ownsRow_made (base := w5.heap.size) (e := 146) (size := 2) (w5.alloc (.cells #[.string o.nm, .slice a8 t.own.length c8] 146)) #[] 0 (by simp) (by unfold maxLen; omega) (by simp)
    simpa using this.drew)
   have HO2 : Hid (∀ u ∈ ([.string o.nm, .slice a8 t.own.length c8] : List Value), u.oneCell' = true) := hid (by intro u hu; simp at hu; rcases hu with rfl | rfl <;> rfl)
   have hgx5 : gx < w5.heap.size := by omega
   have hn4 : ¬ gx = bx := by omega
   have hn5 : ¬ bx = gx := by omega
   have HQ55 : Hid (w5.cell? ⟨gx, i * 6 + 5, none⟩ = some (.slice sa t.sv.length sc) /\ w5.frozen? ⟨gx, i * 6 + 5, none⟩ = false) := hid (⟨(HB5.out.cell (p := ⟨gx, i * 6 + 5, none⟩) (by show gx < _; omega)).trans ((HBW.out.cell (p := ⟨gx, i * 6 + 5, none⟩) hgxl).trans HQ5.out.1), (HB5.out.frozen (p := ⟨gx, i * 6 + 5, none⟩) (by show gx < _; omega)).trans ((HBW.out.frozen (p := ⟨gx, i * 6 + 5, none⟩) hgxl).trans HQ5.out.2)⟩)
   have HFIN : Hid (∀ (w7 : World) (v2 : Value) (news : List Value), Below w5.heap.size w5 w7 -> Fill 2 CSp 0 ps ps.length news w5 -> w7.ownsRow w5.heap.size 146 2 v2 (ps.length + 1) (news ++ [.string o.nm, .slice a8 t.own.length c8]) -> SavesP B bb gx x i o w (.returned (.int .i64 0)) (w7.setCell ⟨gx, i * 6 + 5, none⟩ v2)) := hid (fun w7 v2 news bw7 hf ho => by
    have hf2 := (hf.below liesSp bw7).append (fill_one (B := 0) (w := w7) liesSp (t := ((⟨o.nm, t.own⟩ : Sav), (.slice a8 t.own.length c8 : Value))) ⟨rfl, _, _, _, rfl⟩)
    have hk7 : Chg (fun _ => False) w5 w7 := Chg.of_below _ bw7
    have hk5 : Chg (fun _ => False) W1 w5 := Chg.of_below _ HB5.out
    have tl2 := sav_tl hf2 (by simpa using ho) (fun p hp => (HPT.out p hp).chg (fun z => z) hk7 (fun h => h))
    rw [List.map_append, HPS.out] at tl2
    have tm := (HTM1.out.chg hk5 (fun z => z) (fun z => z) (fun z => z)).chg hk7 (fun z => z) (fun z => z) (fun z => z)
    have P := (HM5.out.below bw7).putc (i := i) (j := 5) (u := v2) (t' := { t with sv := t.sv ++ [⟨o.nm, t.own⟩] }) (v' := (.slice oa t.own.length oc, .slice (some ⟨gr, 0, none⟩) 32 32, v2)) hi (by omega) HTX.out HVX.out rfl ⟨tm.ow, tl2, own_cap ho, tm.rd, tm.rf⟩ rfl
    have e : savesF x i o = ({ x with tx := x.tx.set i { t with sv := t.sv ++ [⟨o.nm, t.own⟩] } }, 0) := by unfold savesF; simp only [HTD.out]; rw [if_pos HK8.out, if_neg HFU.out]
    have hB7 : Below w.heap.size w w7 := HBW.out.trans ((HB5.out.trans (bw7.mono HB5.out.size)).mono HBW.out.size)
    refine ⟨_, _, _, by rw [e], by rw [e]; exact P.1, (Keep.of_below hB7).trans (P.2.keep (fun ty h z => by subst h; exact absurd rfl z.2.1)), (hB7.mono hB).setCell (p := ⟨gx, i * 6 + 5, none⟩) HM5.out.xB _⟩)
   clear HM5 HPT HPS HTM1 HB5 HKB HM1 HO1 HT1 HBW HBN HTX HVX HTD HSC HQ5
   go_upto_region 6 with (fail)
   go_region_held3 (fun W => W.cell? ⟨bb, 3, none⟩ = some (.slice (some ⟨gx, 0, none⟩) 4 4) /\ W.cell? ⟨w.heap.size + 1, 5, none⟩ = some (.slice sa ps.length sc) /\ W.cell? ⟨bx, 0, none⟩ = some (.string o.nm) /\ W.cell? ⟨bx, 1, none⟩ = some (.slice a8 t.own.length c8)) (go_keep) (first
    | (refine step_append_rs0 liesSp oneSp rfl (.tmp 36) (.tmp 38) 68 rfl w5.heap.size 146 i0 _ 40 Tryz.underlying68 hi0 hz0 hz1 hz2 rfl (by decide) (.slice (some ⟨_, 0, none⟩) 0 0) 0 [] rfl ?_ sa sc ps ps.length rfl rfl w5 HRS.out ?_ ?_ ?_ ?_ ?_
       .first | (with_reducible first | exact OA.out | exact OB.out | exact OC.out)
       .exact bl
       .have := HPL.out; unfold maxLen; omega
       .have := HPL.out; omega
       .first | (simp; done) | (simp; omega) | omega
       intro news v1 w6 hfi1 hown1 hgrow1 _ _
       have bw6 : Below w5.heap.size w5 w6 := by
        refine Below.grown ?_ hgrow1 ?_ ?_
        .exact bl
        .first | (simp; done) | (simp; omega) | omega
        .intro k hk; simp [Value.ownBlock] at hk; first | omega | (subst hk; omega)
       have j3 : w6.cell? ⟨bb, 3, none⟩ = some (.slice (some ⟨gx, 0, none⟩) 4 4) := ct bw6 hbb5 b3
       have j5 : w6.cell? ⟨w.heap.size + 1, 5, none⟩ = some (.slice sa ps.length sc) := ct bw6 hs6 t55
       have js0 : w6.cell? ⟨bx, 0, none⟩ = some (.string o.nm) := ct bw6 hbx s0
       have js1 : w6.cell? ⟨bx, 1, none⟩ = some (.slice a8 t.own.length c8) := ct bw6 hbx s1
       have js2 : bb < w6.heap.size := by have := bw6.size; omega
       have js3 : w.heap.size + 1 < w6.heap.size := by have := bw6.size; omega
       have js4 : bx < w6.heap.size := by have := bw6.size; omega
       have HFW : Hid (Fill 2 CSp 0 ps ps.length news w5) := hfi1
       have HBW6 := hid bw6
       have HOW6 := hid hown1
       have KN : Hid (∀ j u, ([.string o.nm, .slice a8 t.own.length c8] : List Value)[j]? = some u -> (w6.alloc (.cells #[.string o.nm, .slice a8 t.own.length c8] 146)).cell? ((⟨w6.heap.size, 0, none⟩ : Addr).add j) = some u) := (blk_new w6 [.string o.nm, .slice a8 t.own.length c8] 146).cells
       first
        | have KT := hid (Blk.cells (KT2B (cs := [.string o.nm, .slice a8 t.own.length c8]) hgrow1 (by first | (simp [Value.ownBlock]; done) | (simp [Value.ownBlock]; omega))))
        | have KT := hid (Blk.cells (KT2C (cs := [.string o.nm, .slice a8 t.own.length c8]) hgrow1 (by first | (simp [Value.ownBlock]; done) | (simp [Value.ownBlock]; omega))))
        | skip
       clear hgrow1 hfi1 bw6 hown1)
    | (refine step_append_own rfl (.tmp 39) (.tmp 41) 68 rfl w5.heap.size 146 i0 _ 2 40 Tryz.underlying68 hi0 hz0 hz1 hz2 rfl (by decide) v1 (0 + ps.length) ([] ++ news) rfl ?_ ⟨_, 0, none⟩ 1 1 [.string o.nm, .slice a8 t.own.length c8] rfl rfl ?_ HO2.out ?_ ?_ ?_ ?_
       .first | with_reducible exact HOW6.out | with_reducible exact HOW6.out.alloc _
       .first | with_reducible exact KN.out | with_reducible exact KT.out
       .have := HPL.out; unfold maxLen; omega
       .have := HPL.out; omega
       .have := HBW6.out.size; first | (simp; done) | (simp; omega) | omega
       intro v2 w7 hown2 hgrow2 _
       have bw7 : Below w5.heap.size w5 w7 := by
        refine Below.grown ?_ hgrow2 ?_ ?_
        .first | with_reducible exact HBW6.out | with_reducible exact HBW6.out.alloc HBW6.out.size _
        .have := HBW6.out.size; first | (simp; done) | (simp; omega) | omega
        .intro k hk; exact (HOW6.out.lt k hk).1
       have HFI := hid (HFIN.out w7 v2 news bw7 HFW.out (by simpa using hown2))
       obtain ⟨a2, c2, hv2⟩ := formR hown2
       subst hv2
       simp only [Nat.zero_add] at HFI
       have m5 : w7.cell? ⟨gx, i * 6 + 5, none⟩ = some (.slice sa t.sv.length sc) := ct bw7 hgx5 HQ55.out.1
       have n5 : w7.frozen? ⟨gx, i * 6 + 5, none⟩ = false := (bw7.frozen (p := ⟨gx, i * 6 + 5, none⟩) hgx5).trans HQ55.out.2
       have l3 : w7.cell? ⟨bb, 3, none⟩ = some (.slice (some ⟨gx, 0, none⟩) 4 4) := ct bw7 hbb5 b3
       have l5 : w7.cell? ⟨w.heap.size + 1, 5, none⟩ = some (.slice sa ps.length sc) := ct bw7 hs6 t55
       have ls0 : w7.cell? ⟨bx, 0, none⟩ = some (.string o.nm) := ct bw7 hbx s0
       have ls1 : w7.cell? ⟨bx, 1, none⟩ = some (.slice a8 t.own.length c8) := ct bw7 hbx s1
       clear hown2 hgrow2 bw7 KN HOW6 HBW6 HFW))
   all_goals
    clear b3 t55 s0 s1
    go_wp2
    go_ret
    exact HFI.out
def BkA (B bb gx i : Nat) (x : Bas) (o : Opn) (t : Txn) (K : Nat) (w wy : World) (rv sv : Value) : Prop := ∃ (x' : Bas) (cv hv : Value) (vs' : List (Value × Value × Value)) (t' : Txn) (ov' : Value), Mem B bb gx wy x' cv hv vs' /\ x'.tx[i]? = some t' /\ vs'[i]? = some (ov', rv, sv) /\ t'.sv = t.sv /\ savesF x i o = ({ x' with tx := x'.tx.set i { t' with sv := t.sv.take K } }, 0) /\ Keep w wy /\ Below B w wy /\ wy.cell? ⟨w.heap.size + 1, 5, none⟩ = some sv /\ w.heap.size + 1 < wy.heap.size
theorem TL.take {w : World} {a : Option Addr} {c k : Nat} {ss : List Sav} (h : TL 146 2 CSt w (.slice a ss.length c) ss) (hk : k <= ss.length) : TL 146 2 CSt w (.slice a k c) (ss.take k) := by
 obtain ⟨⟨a', c', he, hh⟩, ht⟩ := h
 injection he with e1 _ e2
 subst e1 e2
 have hl : (ss.take k).length = k := by simp; omega
 refine ⟨⟨a, c, by rw [hl], fun hp => ?_⟩, fun g o n c' hv hp => ?_⟩
 .have hp' : 0 < ss.length := by omega
  obtain ⟨g, o, e2, h1, h2, h3⟩ := hh hp'
  refine ⟨g, o, e2, h1, h2, fun i hi => ?_⟩
  obtain ⟨cs, x, y⟩ := h3 i (by omega)
  exact ⟨cs, by rw [List.getElem_take]; exact x, y⟩
 .injection hv with e1 _ _
  exact ht g o ss.length c (by rw [e1]) (by omega)
theorem saves_o (B bb gx i : Nat) (x : Bas) (o : Opn) (cv hv : Value) (vs : List (Value × Value × Value)) (w : World) (hM : Mem B bb gx w x cv hv vs) (hi : i < 4) (hop : (x.tx.getD i tx0).op = true) (hb : Bnd x) (hB : B <= w.heap.size) (hk8 : ¬ o.kd = 8) :
 Calls Tryz.prog 41 #[.pointer (some ⟨bb, 0, none⟩), .agg #[.int .i64 o.kd, .int .i64 o.ss, .int .i64 o.tb, .int .i64 o.ky, .int .i64 o.vl, .int .i64 o.md, .string o.nm], .int .i64 (i : Int)] w fun e w' => SavesP B bb gx x i o w e w' := by
 have HK80 := hid hk8
 clear hk8
 obtain ⟨t, ⟨ov, rv, sv⟩, htx, hvx, hTM, hcell⟩ := hM.at hi
 have htD : x.tx.getD i tx0 = t := by rw [List.getD_eq_getElem?_getD, htx]; rfl
 have hmem : t ∈ x.tx := List.mem_of_getElem? htx
 rw [htD] at hop
 obtain ⟨hrl, gr, hrv, hgB, hgt, hgb⟩ := hTM.rd hop
 simp only at hrv
 subst hrv
 obtain ⟨oa, oc, hov⟩ := hTM.ow.form
 simp only at hov
 subst hov
 obtain ⟨sa, sc, hsv⟩ := hTM.sa.form
 simp only at hsv
 subst hsv
 obtain ⟨ma, mc, hcv⟩ : ∃ a c, cv = .slice a x.cms.length c := by obtain ⟨ps, _, ho, _⟩ := hM.cm; exact formR ho
 subst hcv
 obtain ⟨ha, hc, hhv⟩ : ∃ a c, hv = .slice a x.hs.length c := by obtain ⟨ps, _, ho, _⟩ := hM.hi; exact formR ho
 subst hhv
 obtain ⟨⟨q0, z0⟩, ⟨q1, z1⟩, ⟨q2, z2⟩, ⟨q3, z3⟩, ⟨q4, z4⟩, ⟨q5, z5⟩⟩ := mqb hcell
 have b3 : w.cell? ⟨bb, 3, none⟩ = some (.slice (some ⟨gx, 0, none⟩) 4 4) := (hM.bs 3 (by simp)).1
 have hgxl : gx < w.heap.size := tag_lt hM.xt
 have hbbl : bb < w.heap.size := tag_lt hM.bt
 have hii : (i : Int) < 4 := by omega
 obtain ⟨W1, hW1⟩ : ∃ z, z = ((w.alloc (.cells #[.int .i64 o.kd, .int .i64 o.ss, .int .i64 o.tb, .int .i64 o.ky, .int .i64 o.vl, .int .i64 o.md, .string o.nm] 41)).alloc (.cells #[.bool true, .int .i64 t.md, .int .i64 t.bg, .slice oa t.own.length oc, .slice (some ⟨gr, 0, none⟩) 32 32, .slice sa t.sv.length sc] 70)) := ⟨_, rfl⟩
 have bw : Below w.heap.size w W1 := by rw [hW1]; exact (below_alloc w _).alloc (by simp) _
 have HM1 := hid (hM.below bw)
 have HO1 : Hid (Blk W1 w.heap.size [.int .i64 o.kd, .int .i64 o.ss, .int .i64 o.tb, .int .i64 o.ky, .int .i64 o.vl, .int .i64 o.md, .string o.nm]) := hid (by
  rw [hW1]
  exact (blk_new w [.int .i64 o.kd, .int .i64 o.ss, .int .i64 o.tb, .int .i64 o.ky, .int .i64 o.vl, .int .i64 o.md, .string o.nm] 41).below (below_alloc _ _) (by simp))
 have HT1 : Hid (Blk W1 (w.heap.size + 1) [.bool true, .int .i64 t.md, .int .i64 t.bg, .slice oa t.own.length oc, .slice (some ⟨gr, 0, none⟩) 32 32, .slice sa t.sv.length sc]) := hid (by
  rw [hW1]
  have := blk_new (w.alloc (.cells #[.int .i64 o.kd, .int .i64 o.ss, .int .i64 o.tb, .int .i64 o.ky, .int .i64 o.vl, .int .i64 o.md, .string o.nm] 41)) [.bool true, .int .i64 t.md, .int .i64 t.bg, .slice oa t.own.length oc, .slice (some ⟨gr, 0, none⟩) 32 32, .slice sa t.sv.length sc] 70
  simpa using this)
 have hs1 : w.heap.size + 1 < W1.heap.size := by rw [hW1]; simp
 have hs0 : w.heap.size < W1.heap.size := by omega
 have hs2 : w.heap.size < W1.heap.size + 1 := by omega
 have HTM1 := hid (hTM.chg (Chg.of_below (fun _ => False) bw) (fun z => z) (fun z => z) (fun z => z))
 have HBW := hid bw
 have hn0 : ¬ gx = bb := tag_ne hM.xt hM.bt (by decide)
 have hn1 : ¬ bb = gx := fun z => hn0 z.symm
 have hn2 : ¬ gx = w.heap.size + 1 := by omega
 have hn3 : ¬ w.heap.size + 1 = gx := by omega
 have HBN := hid hb
 have HTX := hid htx
 have HVX := hid hvx
 have HTD := hid htD
 have hol := hb.ow t hmem
 have hsl := hb.sl t hmem
 have HSC := hid (hb.sc t hmem)
 have HQ53 : Hid (w.cell? ⟨gx, i * 6 + 3, none⟩ = some (.slice oa t.own.length oc) /\ w.frozen? ⟨gx, i * 6 + 3, none⟩ = false) := ⟨q3, z3⟩
 have HQ5 : Hid (w.cell? ⟨gx, i * 6 + 5, none⟩ = some (.slice sa t.sv.length sc) /\ w.frozen? ⟨gx, i * 6 + 5, none⟩ = false) := ⟨q5, z5⟩
 clear hM hTM hb htx hvx hcell hmem htD bw
 go_enter Tryz.func41, Tryz.ntmps41
 go_upto_region 2 with (fail)
 rw [<- hW1]
 clear hW1 q0 q1 q2 q3 q4 q5 z0 z1 z2 z3 z4 z5 b3
 obtain ⟨k0, -, -, -, -, -, k6⟩ := kc6 HO1.out
 obtain ⟨-, -, -, t3, -, t5⟩ := kc5 HT1.out
 have hk8 := HK80.out
 clear HK80
 have hk8b : (o.kd == 8) = false := by simpa using hk8
 have hsv := saved_spec true t.md t.bg (.slice oa t.own.length oc) (.slice (some ⟨gr, 0, none⟩) 32 32) sa sc t.sv o.nm W1 (by omega) (HTM1.out.sa.1.weak (fun h => h.csv))
 obtain ⟨t0, t1, t2, -, t4⟩ := kc4 HT1.out
 have HK8 := hid hk8
 clear hk8
 go_wp2_with (go_at_call 62; fail)
 refine hsv.mono ?_
 rintro e w2 ⟨rfl, hb2⟩
 have HM2 := hid (HM1.out.below hb2)
 have HB2 : Hid (Below w.heap.size w w2) := HBW.out.trans (hb2.mono HBW.out.size)
 have k02 : w2.cell? ⟨w.heap.size, 0, none⟩ = some (.int .i64 o.kd) := ct hb2 hs0 k0
 have t52 : w2.cell? ⟨w.heap.size + 1, 5, none⟩ = some (.slice sa t.sv.length sc) := ct hb2 hs1 t5
 have HTM2 := hid (HTM1.out.chg (Chg.of_below (fun _ => False) hb2) (fun z => z) (fun z => z) (fun z => z))
 have hz2 : W1.heap.size <= w2.heap.size := hb2.size
 clear hsv hb2 k0 k6 t0 t1 t2 t3 t4 t5 HO1 HT1 HM1 HTM1
 rcases hsf : savedF t.sv o.nm with _ | k
 .have HF : Hid (SavesP B bb gx x i o w (.returned (.int .i64 23)) w2) := hid (by
   have e : savesF x i o = (x, 23) := by unfold savesF; simp only [HTD.out, hsf]; rw [if_neg HK8.out]
   exact ⟨_, _, _, by rw [e], by rw [e]; exact HM2.out, Keep.of_below HB2.out, HB2.out.mono hB⟩)
  clear hsf
  simp only [savedI]
  go_wp2
  go_ret
  exact HF.out
 .have hkl : k < t.sv.length := lastK_lt hsf
  have HSF := hid hsf
  clear hsf
  simp only [savedI]
  have hki : ¬ ((k : Int) < 0) := by omega
  have hw2a : w.heap.size < w2.heap.size := by omega
  have hw2b : w.heap.size + 1 < w2.heap.size := by omega
  obtain ⟨sg, so, hse, hsg, hcs⟩ : ∃ sg so, sa = some ⟨sg, so, none⟩ /\ sg < w2.heap.size /\ ∃ cvv, TL 106 4 CC w2 cvv (t.sv[k]).cs /\ w2.cell? ⟨sg, so + k * 2 + 1, none⟩ = some cvv := by
   obtain ⟨⟨a', c', he, hh⟩, _⟩ := HTM2.out.sa
   simp only at he
   injection he with e1 _ e2
   subst e1 e2
   obtain ⟨g, o', e3, _, h2, h3⟩ := hh (by omega)
   obtain ⟨cs, ⟨cvv, e4, t4⟩, y⟩ := h3 k hkl
   subst e4
   exact ⟨g, o', e3, h2, cvv, t4, by simpa using y 1 (by omega)⟩
  subst hse
  have hn6 : ¬ gx = sg := tag_ne HM2.out.xt (HTM2.out.sa.2 sg so _ _ rfl (by omega)) (by decide)
  have hn7 : ¬ sg = gx := fun z => hn6 z.symm
  obtain ⟨cvv, hTLc, ck⟩ := hcs
  obtain ⟨ca, cc, hcv⟩ := hTLc.form
  subst hcv
  have HTLc := hid hTLc
  have hgx2 : gx < w2.heap.size := by omega
  have hbb2 : bb < w2.heap.size := by omega
  have HQ3 : Hid (w2.cell? ⟨gx, i * 6 + 3, none⟩ = some (.slice oa t.own.length oc) /\ w2.frozen? ⟨gx, i * 6 + 3, none⟩ = false) := hid (⟨(HB2.out.cell (p := ⟨gx, i * 6 + 3, none⟩) hgxl).trans HQ53.out.1, (HB2.out.frozen (p := ⟨gx, i * 6 + 3, none⟩) hgxl).trans HQ53.out.2⟩)
  have b3 : w2.cell? ⟨bb, 3, none⟩ = some (.slice (some ⟨gx, 0, none⟩) 4 4) := (HM2.out.bs 3 (by simp)).1
  have HCL : Hid ((t.sv[k]).cs.length <= 1000) := hid (HSC.out t.sv[k] (List.getElem_mem hkl))
  have HGD : Hid (t.sv.getD k sv0 = t.sv[k]) := hid (by rw [List.getD_eq_getElem?_getD, List.getElem?_eq_getElem hkl]; rfl)
  generalize hsk : t.sv[k] = sk at HTLc HCL HGD ck
  clear hsk hTLc
  go_upto_if 53 with (fail)
  clear k02
  go_cut [9] (fun s wy => ∃ K : Nat, s = .int .i64 (K : Int) /\ K <= t.sv.length /\ Hid (BkA B bb gx i x o t K w wy (.slice (some ⟨gr, 0, none⟩) 32 32) (.slice (some ⟨sg, so, none⟩) t.sv.length sc)))
  case first =>
   by_cases hk9 : o.kd = 9
   .have hk9b : (o.kd == 9) = true := by simpa using hk9
    have HK9 := hid hk9
    obtain ⟨j0, hj, hy0, hy1, hy2⟩ := info_parts infoCel
    have OA : Hid (((w2.alloc (.cells #[] 106)).drew).ownsRow w2.heap.size 106 4 (.slice (some ⟨w2.heap.size, 0, none⟩) 0 0) 0 []) := hid (by
     have := World.ownsRow_made (base := w2.heap.size) (e := 106) (size := 4) w2 #[] 0 (by simp) (by unfold maxLen; omega) (by simp)
     simpa using this.drew)
    have hcl := HCL.out
    have hki2 : (k : Int) < (t.sv.length : Int) := by omega
    have hwk : IntKind.i64.wrap ((k : Int) + 1) = (k : Int) + 1 := by simp only [IntKind.wrap_i64, wrap64]; omega
    have HFIN : Hid (∀ (w8 : World) (v8 : Value), Below w2.heap.size w2 w8 -> TL 106 4 CC w8 v8 sk.cs -> BkA B bb gx i x o t (k + 1) w (w8.setCell ⟨gx, i * 6 + 3, none⟩ v8) (.slice (some ⟨gr, 0, none⟩) 32 32) (.slice (some ⟨sg, so, none⟩) t.sv.length sc)) := hid (fun w8 v8 bw8 tl => by
     have hk8' : Chg (fun _ => False) w2 w8 := Chg.of_below _ bw8
     have tm := HTM2.out.chg hk8' (fun z => z) (fun z => z) (fun z => z)
     have P := (HM2.out.below bw8).putc (i := i) (j := 3) (u := v8) (t' := { t with own := sk.cs }) (v' := (v8, (.slice (some ⟨gr, 0, none⟩) 32 32), (.slice (some ⟨sg, so, none⟩) t.sv.length sc))) hi (by omega) HTX.out HVX.out rfl ⟨tl, tm.sa, tm.cp, tm.rd, tm.rf⟩ rfl
     have hB8 : Below w.heap.size w w8 := HB2.out.trans (bw8.mono HB2.out.size)
     have l1 : i < x.tx.length := by rw [HM2.out.n]; exact hi
     have l2 : i < vs.length := by rw [HM2.out.m]; exact hi
     refine ⟨_, _, _, _, { t with own := sk.cs }, v8, P.1, by simp [l1], by simp [l2], rfl, ?_, (Keep.of_below hB8).trans (P.2.keep (fun ty h z => by subst h; exact absurd rfl z.2.1)), (hB8.mono hB).setCell (p := ⟨gx, i * 6 + 3, none⟩) HM2.out.xB _, ?_, by have := bw8.size; simp; omega⟩
     .unfold savesF
      simp only [HTD.out, HSF.out]
      rw [if_neg HK8.out, if_pos HK9.out, HGD.out]
      simp
     .have e9 : (w8.setCell ⟨gx, i * 6 + 3, none⟩ v8).heap[(⟨w.heap.size + 1, 5, none⟩ : Addr).block]? = w8.heap[(⟨w.heap.size + 1, 5, none⟩ : Addr).block]? := heap_setCell_other w8 _ (w.heap.size + 1) v8 hn3
      exact (World.cell?_of_block e9).trans ((bw8.cell (p := ⟨w.heap.size + 1, 5, none⟩) hw2b).trans t52))
    clear hk9 HM2 HTM2 HB2 HBW HBN HTX HVX HTD HSC HQ5 HCL
    go_wp2
    go_region_held3 (fun W => W.cell? ⟨bb, 3, none⟩ = some (.slice (some ⟨gx, 0, none⟩) 4 4) /\ W.cell? ⟨w.heap.size + 1, 5, none⟩ = some (.slice (some ⟨sg, so, none⟩) t.sv.length sc) /\ W.cell? ⟨sg, so + k * 2 + 1, none⟩ = some (.slice ca sk.cs.length cc)) (go_keep) (first
     | (refine step_append_rs0 liesC oneC rfl (.tmp 59) (.tmp 65) 67 rfl w2.heap.size 106 j0 _ 32 Tryz.underlying67 hj hy0 hy1 hy2 rfl (by decide) (.slice (some ⟨_, 0, none⟩) 0 0) 0 [] rfl ?_ ca cc sk.cs sk.cs.length rfl rfl w2 HTLc.out.1 ?_ ?_ ?_ ?_ ?_
        .with_reducible exact OA.out
        .exact bl
        .unfold maxLen; omega
        .omega
        .first | (simp; done) | (simp; omega) | omega
        intro news v8 w8 hfi8 hown8 hgrow8 _ _
        have bw8 : Below w2.heap.size w2 w8 := by
         refine Below.grown ?_ hgrow8 ?_ ?_
         .exact bl
         .first | (simp; done) | (simp; omega) | omega
         .intro k hk; simp [Value.ownBlock] at hk; first | omega | (subst hk; omega)
        have HT8 := hid (cel_tl (hfi8.below liesC bw8) (by simpa using hown8))
        have HFI := hid (HFIN.out w8 v8 bw8 HT8.out)
        obtain ⟨a8, c8, hv8⟩ := HT8.out.form
        subst hv8
        have m3 : w8.cell? ⟨gx, i * 6 + 3, none⟩ = some (.slice oa t.own.length oc) := ct bw8 hgx2 HQ3.out.1
        have n3 : w8.frozen? ⟨gx, i * 6 + 3, none⟩ = false := (bw8.frozen (p := ⟨gx, i * 6 + 3, none⟩) hgx2).trans HQ3.out.2
        have l3 : w8.cell? ⟨bb, 3, none⟩ = some (.slice (some ⟨gx, 0, none⟩) 4 4) := ct bw8 hbb2 b3
        have l5 : w8.cell? ⟨w.heap.size + 1, 5, none⟩ = some (.slice (some ⟨sg, so, none⟩) t.sv.length sc) := ct bw8 hw2b t52
        have ls : w8.cell? ⟨sg, so + k * 2 + 1, none⟩ = some (.slice ca sk.cs.length cc) := ct bw8 hsg ck
        clear hfi8 hown8 hgrow8 bw8)
     | fail)
    all_goals
     clear b3 t52 ck
     go_wp2
     go_meet
     case rel => exact ⟨k + 1, by simp, by omega, HFI⟩
   .have hk9b : (o.kd == 9) = false := by simpa using hk9
    have HF : Hid (BkA B bb gx i x o t k w w2 (.slice (some ⟨gr, 0, none⟩) 32 32) (.slice (some ⟨sg, so, none⟩) t.sv.length sc)) := hid (⟨x, _, _, _, t, _, HM2.out, HTX.out, HVX.out, rfl, by unfold savesF; simp only [HTD.out, HSF.out]; rw [if_neg HK8.out, if_neg hk9], Keep.of_below HB2.out, HB2.out.mono hB, t52, hw2b⟩)
    clear hk9
    go_wp2
    go_meet
    case rel => exact ⟨k, rfl, by omega, HF⟩
  case rest =>
   rename World => w3
   obtain ⟨K, hsK, hK, HBK⟩ := hcut
   subst hsK
   obtain ⟨x', cv', hv', vs', t', ov', hM3, htx', hvx', hsv', heq, hkeep, hbel, hbox, hw3⟩ := HBK.out
   clear HM2 HTM2 HB2 HTLc HCL HGD b3 t52 ck HBK HBW HBN HTX HVX HTD HSC HQ5 HQ53 HQ3
   obtain ⟨t'', v'', e1, e2, htm3, hc3⟩ := hM3.at hi
   rw [htx'] at e1
   rw [hvx'] at e2
   injection e1 with e1
   injection e2 with e2
   subst e1 e2
   have HQ5 : Hid (w3.cell? ⟨gx, i * 6 + 5, none⟩ = some (.slice (some ⟨sg, so, none⟩) t.sv.length sc) /\ w3.frozen? ⟨gx, i * 6 + 5, none⟩ = false) := ⟨(hc3 5 (by omega)).1, (hc3 5 (by omega)).2⟩
   have hsa : TL 146 2 CSt w3 (.slice (some ⟨sg, so, none⟩) t.sv.length sc) t.sv := hsv' ▸ htm3.sa
   have hcap : t.sv.length <= sc := htm3.cp _ _ _ rfl
   obtain ⟨ps, hps, hRS, hpt⟩ := (hsa.take hK).flat
   have hpl : ps.length = K := by rw [<- List.length_map (f := Prod.fst), hps]; simp; omega
   have HRS : Hid (RS 2 CSp 0 w3 (.slice (some ⟨sg, so, none⟩) ps.length sc) ps) := hid (by rw [hpl]; exact hRS)
   subst hpl
   have HFIN : Hid (∀ (w8 : World) (v8 : Value) (news : List Value), Below w3.heap.size w3 w8 -> Fill 2 CSp 0 ps ps.length news w3 -> w8.ownsRow w3.heap.size 146 2 v8 ps.length news -> SavesP B bb gx x i o w (.returned (.int .i64 0)) (w8.setCell ⟨gx, i * 6 + 5, none⟩ v8)) := hid (fun w8 v8 news bw8 hf ho => by
    have hk8' : Chg (fun _ => False) w3 w8 := Chg.of_below _ bw8
    have tl2 := sav_tl (hf.below liesSp bw8) ho (fun p hp => (hpt p hp).chg (fun z => z) hk8' (fun h => h))
    rw [hps] at tl2
    have tm := htm3.chg hk8' (fun z => z) (fun z => z) (fun z => z)
    have P := (hM3.below bw8).putc (i := i) (j := 5) (u := v8) (t' := { t' with sv := t.sv.take ps.length }) (v' := (ov', (.slice (some ⟨gr, 0, none⟩) 32 32), v8)) hi (by omega) htx' hvx' rfl ⟨tm.ow, tl2, own_cap ho, tm.rd, tm.rf⟩ rfl
    refine ⟨_, _, _, by rw [heq], by rw [heq]; exact P.1, (hkeep.trans (Keep.of_below bw8)).trans (P.2.keep (fun ty h z => by subst h; exact absurd rfl z.2.1)), (hbel.trans (bw8.mono (by have := hbel.size; omega))).setCell (p := ⟨gx, i * 6 + 5, none⟩) hM3.xB _⟩)
   obtain ⟨i0, hi0, hz0, hz1, hz2⟩ := info_parts infoSa
   have OA : Hid (((w3.alloc (.cells #[] 146)).drew).ownsRow w3.heap.size 146 2 (.slice (some ⟨w3.heap.size, 0, none⟩) 0 0) 0 []) := hid (by
    have := World.ownsRow_made (base := w3.heap.size) (e := 146) (size := 2) w3 #[] 0 (by simp) (by unfold maxLen; omega) (by simp)
    simpa using this.drew)
   have b3 : w3.cell? ⟨bb, 3, none⟩ = some (.slice (some ⟨gx, 0, none⟩) 4 4) := (hM3.bs 3 (by simp)).1
   have hbb3 : bb < w3.heap.size := tag_lt hM3.bt
   have hgx3 : gx < w3.heap.size := tag_lt hM3.xt
   have hKs : ps.length <= sc := by omega
   have hKi : (ps.length : Int) <= (sc : Int) := by omega
   have hKn : ¬ ((ps.length : Int) < 0) := by omega
   have hw3a : w.heap.size < w3.heap.size := by omega
   clear hM3 htx' hvx' hsv' heq hkeep hbel htm3 hc3 hsa hps hRS hpt
   go_wp2
   go_region_held3 (fun W => W.cell? ⟨bb, 3, none⟩ = some (.slice (some ⟨gx, 0, none⟩) 4 4) /\ W.cell? ⟨w.heap.size + 1, 5, none⟩ = some (.slice (some ⟨sg, so, none⟩) t.sv.length sc)) (go_keep) (first
    | (refine step_append_rs0 liesSp oneSp rfl (.tmp 76) (.tmp 80) 68 rfl w3.heap.size 146 i0 _ 40 Tryz.underlying68 hi0 hz0 hz1 hz2 rfl (by decide) (.slice (some ⟨_, 0, none⟩) 0 0) 0 [] rfl ?_ (some ⟨sg, so, none⟩) sc ps ps.length rfl rfl w3 HRS.out ?_ ?_ ?_ ?_ ?_
       .with_reducible exact OA.out
       .exact bl
       .unfold maxLen; omega
       .omega
       .first | (simp; done) | (simp; omega) | omega
       intro news v8 w8 hfi8 hown8 hgrow8 _ _
       have bw8 : Below w3.heap.size w3 w8 := by
        refine Below.grown ?_ hgrow8 ?_ ?_
        .exact bl
        .first | (simp; done) | (simp; omega) | omega
        .intro k hk; simp [Value.ownBlock] at hk; first | omega | (subst hk; omega)
       have HFI := hid (HFIN.out w8 v8 news bw8 hfi8 (by simpa using hown8))
       obtain ⟨a8, c8, hv8⟩ := formR hown8
       subst hv8
       simp only [Nat.zero_add] at HFI
       have m5 : w8.cell? ⟨gx, i * 6 + 5, none⟩ = some (.slice (some ⟨sg, so, none⟩) t.sv.length sc) := ct bw8 hgx3 HQ5.out.1
       have n5 : w8.frozen? ⟨gx, i * 6 + 5, none⟩ = false := (bw8.frozen (p := ⟨gx, i * 6 + 5, none⟩) hgx3).trans HQ5.out.2
       have l3 : w8.cell? ⟨bb, 3, none⟩ = some (.slice (some ⟨gx, 0, none⟩) 4 4) := ct bw8 hbb3 b3
       have l5 : w8.cell? ⟨w.heap.size + 1, 5, none⟩ = some (.slice (some ⟨sg, so, none⟩) t.sv.length sc) := ct bw8 hw3 hbox
       clear hfi8 hown8 hgrow8 bw8)
    | fail)
   all_goals
    clear b3 hbox
    go_wp2
    go_ret
    exact HFI.out
theorem saves_spec (B bb gx i : Nat) (x : Bas) (o : Opn) (cv hv : Value) (vs : List (Value × Value × Value)) (w : World) (hM : Mem B bb gx w x cv hv vs) (hi : i < 4) (hop : (x.tx.getD i tx0).op = true) (hb : Bnd x) (hB : B <= w.heap.size) :
 Calls Tryz.prog 41 #[.pointer (some ⟨bb, 0, none⟩), .agg #[.int .i64 o.kd, .int .i64 o.ss, .int .i64 o.tb, .int .i64 o.ky, .int .i64 o.vl, .int .i64 o.md, .string o.nm], .int .i64 (i : Int)] w fun e w' => SavesP B bb gx x i o w e w' := by
 by_cases h : o.kd = 8
 .exact saves_8 B bb gx i x o cv hv vs w hM hi hop hb hB h
 .exact saves_o B bb gx i x o cv hv vs w hM hi hop hb hB h
def CommitP (B bb gx : Nat) (x : Bas) (i : Nat) (w : World) (e : Ending) (w' : World) : Prop := ∃ cv hv vs, e = .returned (.tuple #[.int .i64 (commitF x i).2.1, .int .i64 (commitF x i).2.2]) /\ Mem B bb gx w' (commitF x i).1 cv hv vs /\ Keep w w' /\ Below B w w'
theorem imHs : ∀ ty, (ty = 131 \/ ty = 65) -> ¬ Im ty := fun ty h z => by
 rcases h with h | h
 .exact z.2.2.2.1 h
 .exact z.1 h
theorem imCm : ∀ ty, (ty = 140 \/ ty = 65) -> ¬ Im ty := fun ty h z => by
 rcases h with h | h
 .exact z.2.2.1 h
 .exact z.1 h
def CmA (B bb gx i : Nat) (x : Bas) (t : Txn) (w wy : World) (cv : Value) (vs : List (Value × Value × Value)) (ov : Value) (box : List Value) : Prop := ∃ hv', Mem B bb gx wy { x with tx := x.tx.set i tx0, hs := if t.md = 2 then x.hs ++ [infoF t.bg (x.ck + 1) t.own t.rs] else x.hs } cv hv' vs /\ Chg (fun ty => ¬ Im ty) w wy /\ Below B w wy /\ TL 106 4 CC wy ov t.own /\ Blk wy w.heap.size box /\ tag wy w.heap.size 70 /\ ¬ (t.md = 2 /\ certF (x.hs ++ [infoF t.bg (x.ck + 1) t.own t.rs]) ≠ 0)
theorem infoB (t : Txn) (x : Bas) : BT 1048576 (infoF t.bg (x.ck + 1) t.own t.rs) := ⟨by have := tabsT_len (readAt t.rs) 32; show (tabsT (readAt t.rs) 32).length <= _; omega, by have := tabsT_len (wroteAt t.own) 32; show (tabsT (wroteAt t.own) 32).length <= _; omega⟩
theorem commit_spec (B bb gx i : Nat) (x : Bas) (cv hv : Value) (vs : List (Value × Value × Value)) (w : World) (hM : Mem B bb gx w x cv hv vs) (hi : i < 4) (hop : (x.tx.getD i tx0).op = true) (hb : Bnd x) (hB : B <= w.heap.size) :
 Calls Tryz.prog 40 #[.pointer (some ⟨bb, 0, none⟩), .int .i64 (i : Int)] w fun e w' => CommitP B bb gx x i w e w' := by
 obtain ⟨t, ⟨ov, rv, sv⟩, htx, hvx, hTM, hcell⟩ := hM.at hi
 have htD : x.tx.getD i tx0 = t := by rw [List.getD_eq_getElem?_getD, htx]; rfl
 have hmem : t ∈ x.tx := List.mem_of_getElem? htx
 rw [htD] at hop
 obtain ⟨hrl, gr, hrv, hgB, hgt, hgb⟩ := hTM.rd hop
 simp only at hrv
 subst hrv
 obtain ⟨oa, oc, hov⟩ := hTM.ow.form
 simp only at hov
 subst hov
 obtain ⟨sa, sc, hsv⟩ := hTM.sa.form
 simp only at hsv
 subst hsv
 obtain ⟨ma, mc, hcv⟩ : ∃ a c, cv = .slice a x.cms.length c := by obtain ⟨ps, _, ho, _⟩ := hM.cm; exact formR ho
 subst hcv
 obtain ⟨ha, hc, hhv⟩ : ∃ a c, hv = .slice a x.hs.length c := by obtain ⟨ps, _, ho, _⟩ := hM.hi; exact formR ho
 subst hhv
 obtain ⟨⟨q0, z0⟩, ⟨q1, z1⟩, ⟨q2, z2⟩, ⟨q3, z3⟩, ⟨q4, z4⟩, ⟨q5, z5⟩⟩ := mqb hcell
 have b3 : w.cell? ⟨bb, 3, none⟩ = some (.slice (some ⟨gx, 0, none⟩) 4 4) := (hM.bs 3 (by simp)).1
 have hgxl : gx < w.heap.size := tag_lt hM.xt
 have hbbl : bb < w.heap.size := tag_lt hM.bt
 have hii : (i : Int) < 4 := by omega
 -- the box
 have htop : t.op = true := hop
 have P2 := hM.put6 hi tx0 (.slice none 0 0, .slice none 0 0, .slice none 0 0) (txm0 _ _) (fun j _ _ g hg => by simp [Value.ownBlock] at hg)
 obtain ⟨W2, hW2⟩ : ∃ z, z = (set6 w gx (i * 6) (.bool false) (.int .i64 0) (.int .i64 0) (.slice none 0 0) (.slice none 0 0) (.slice none 0 0)).alloc (.cells #[.bool true, .int .i64 t.md, .int .i64 t.bg, .slice oa t.own.length oc, .slice (some ⟨gr, 0, none⟩) 32 32, .slice sa t.sv.length sc] 70) := ⟨_, rfl⟩
 have M2 : Mem B bb gx W2 { x with tx := x.tx.set i tx0 } (.slice ma x.cms.length mc) (.slice ha x.hs.length hc) (vs.set i (.slice none 0 0, .slice none 0 0, .slice none 0 0)) := by rw [hW2]; exact P2.1.below (below_alloc _ _)
 have C2 : Chg (fun ty => ty = 70) w W2 := by
  rw [hW2]
  exact P2.2.trans (Chg.of_below _ (below_alloc _ _))
 have K6 : Blk W2 w.heap.size [.bool true, .int .i64 t.md, .int .i64 t.bg, .slice oa t.own.length oc, .slice (some ⟨gr, 0, none⟩) 32 32, .slice sa t.sv.length sc] := by
  rw [hW2]
  have := blk_new (set6 w gx (i * 6) (.bool false) (.int .i64 0) (.int .i64 0) (.slice none 0 0) (.slice none 0 0) (.slice none 0 0)) [.bool true, .int .i64 t.md, .int .i64 t.bg, .slice oa t.own.length oc, .slice (some ⟨gr, 0, none⟩) 32 32, .slice sa t.sv.length sc] 70
  rw [size_set6] at this
  exact this
 have hTG2 : tag W2 w.heap.size 70 := by
  rw [hW2]
  have := tag_new (set6 w gx (i * 6) (.bool false) (.int .i64 0) (.int .i64 0) (.slice none 0 0) (.slice none 0 0) (.slice none 0 0)) [.bool true, .int .i64 t.md, .int .i64 t.bg, .slice oa t.own.length oc, .slice (some ⟨gr, 0, none⟩) 32 32, .slice sa t.sv.length sc] 70
  rw [size_set6] at this
  exact this
 have HTG := hid hTG2
 clear hTG2
 have hs2 : W2.heap.size = w.heap.size + 1 := by rw [hW2]; simp [size_set6]
 have bB2 : Below B w W2 := by rw [hW2]; exact (below_set6 (Below.refl B w) hM.xB).alloc (by rw [size_set6]; exact hB) _
 have HOW2 : Hid (TL 106 4 CC W2 (.slice oa t.own.length oc) t.own) := hTM.ow.chg (by decide) C2 (fun h => h)
 have HRD2 : Hid (RS 1 CBl 0 W2 (.slice (some ⟨gr, 0, none⟩) t.rs.length 32) t.rs) := hid (by
  have hk := hgb.chg C2 (by decide) hgt
  refine ⟨_, _, rfl, fun hp => ⟨gr, 0, rfl, Nat.zero_le _, tag_lt (C2.tagk (by decide) hgt), fun j hj => ⟨[.bool t.rs[j]], rfl, fun l hl => ?_⟩⟩⟩
  have hl0 : l = 0 := by omega
  subst hl0
  have := (hk j (by rw [List.length_map]; exact hj)).1
  rw [List.getElem?_map, List.getElem?_eq_getElem hj] at this
  simpa using this)
 have hol := hb.ow t hmem
 have hcf := conflict_spec bb x.ck ma mc (.slice ha x.hs.length hc) (.slice (some ⟨gx, 0, none⟩) 4 4) (.slice (some ⟨gr, 0, none⟩) 32 32) (.slice sa t.sv.length sc) true t.md t.bg oa oc x.cms t.own W2 hb.bm (by omega) (by omega) M2.bs M2.cm.rs HOW2.out.1
 have HM2 := hid M2
 have HC2 := hid C2
 have HK6 := hid K6
 have HB2 := hid bB2
 have HW2 := hid hW2
 have HBN := hid hb
 have HRL := hid hrl
 have HTD := hid htD
 have HOP := hid hop
 clear P2 M2 C2 htop K6 hTM hgb hgt hcell hb hrl htx hvx hmem bB2 hM
 unfold set6 at hW2
 go_enter Tryz.func40, Tryz.ntmps40
 go_upto_region 3 with (fail)
 rw [<- hW2]
 clear hW2 q0 q1 q2 q3 q4 q5 z0 z1 z2 z3 z4 z5 b3
 obtain ⟨k0, k1, k2, k3, k4, k5⟩ := kc5 HK6.out
 go_wp2_with (go_at_call 59; fail)
 refine hcf.mono ?_
 rintro e w3 ⟨rfl, hb3⟩
 clear k0 k1 k2 k3 k4 k5 hcf
 have HM3 := hid (HM2.out.below hb3)
 have HC3 := hid (HC2.out.trans (Chg.of_below _ hb3))
 have HB3 : Hid (Below B w w3) := HB2.out.trans (hb3.mono (by omega))
 have HOW3 := hid (HOW2.out.chg (T := fun _ => False) (fun z => z) (Chg.of_below _ hb3) (fun h => h))
 have HRD3 := hid (HRD2.out.below liesB hb3)
 have HK63 := hid (HK6.out.below hb3 (by omega))
 replace HTG := hid (tag_below HTG.out hb3)
 have hs3 : w.heap.size + 1 <= w3.heap.size := by have := hb3.size; omega
 have HCF : Hid (conflictF x.cms t.bg t.own = conflictF x.cms t.bg t.own) := rfl
 clear HM2 HC2 HB2 HOW2 HRD2 HK6 HW2 hb3 hs2
 obtain ⟨cb, hcb⟩ : ∃ z, conflictF x.cms t.bg t.own = z := ⟨_, rfl⟩
 rw [hcb]
 clear HCF
 rcases cb with _ | _
 rotate_left
 .have HF : Hid (CommitP B bb gx x i w (.returned (.tuple #[.int .i64 0, .int .i64 20])) w3) := hid (by
   have : commitF x i = ({ x with tx := x.tx.set i tx0 }, 0, 20) := by unfold commitF; simp only [HTD.out, hcb, if_true]
   refine ⟨_, _, _, by rw [this], by rw [this]; exact HM3.out, HC3.out.keep (fun ty h z => by subst h; exact absurd rfl z.2.1), HB3.out⟩)
  clear hcb
  go_wp2
  refine bodyPost_ret (v := .tuple #[.int .i64 0, .int .i64 20]) (by simp [results, Tryz.results40, go_sem]) rfl ?_
  exact HF.out
 have HCB := hid hcb
 clear hcb
 have hck0 : 0 <= x.ck := HBN.out.ck.1
 have hck1 : x.ck <= 1000 := HBN.out.ck.2
 have hwr : IntKind.i64.wrap (x.ck + 1) = x.ck + 1 := by simp only [IntKind.wrap_i64, wrap64]; omega
 have HIN := hid (fun (wz : World) (hz : Below w3.heap.size w3 wz) => info_spec true t.md t.bg (x.ck + 1) oa (some ⟨gr, 0, none⟩) oc 32 (.slice sa t.sv.length sc) t.own t.rs wz (by omega) HRL.out (HOW3.out.1.below liesC hz) (HRD3.out.below liesB hz))
 rw [HRL.out] at HIN
 go_upto_region 5 with (fail)
 go_cut [7] (fun s wx => Hid (InfB w3 wx t.bg (x.ck + 1) (tabsT (readAt t.rs) 32) (tabsT (wroteAt t.own) 32) s))
 case first =>
  have b0 : w3.cell? ⟨bb, 0, none⟩ = some (.int .i64 x.ck) := (HM3.out.bs 0 (by simp)).1
  obtain ⟨k0, k1, k2, k3, k4, k5⟩ := kc5 HK63.out
  have hbw3 : bb < w3.heap.size := by omega
  have hww3 : w.heap.size < w3.heap.size := by omega
  clear HM3 HC3 HB3 HOW3 HRD3 HK63
  go_region_with (go_at_call 60; refine (HIN.out _ bl).mono ?_; rintro e w4 ⟨v2, v3, rfl, hct, hb4, g2, g3⟩; obtain ⟨a2, c2, hv2⟩ := g2.form; obtain ⟨a3, c3, hv3⟩ := g3.form; subst hv2; subst hv3; have HB4 := hid hb4; have G2 := hid g2; have G3 := hid g3; have hsb := hb4.size; clear hct hb4 g2 g3; first | (have HKZ := hid ((blk_new w3.drew [.int .i64 0, .int .i64 0, .slice none 0 0, .slice none 0 0] 131).below HB4.out (by simp)); have y0 : w4.cell? ⟨w3.heap.size, 0, none⟩ = some (.int .i64 0) := (HKZ.out 0 (by simp)).1; have y1 : w4.cell? ⟨w3.heap.size, 1, none⟩ = some (.int .i64 0) := (HKZ.out 1 (by simp)).1; have y2 : w4.cell? ⟨w3.heap.size, 2, none⟩ = some (.slice none 0 0) := (HKZ.out 2 (by simp)).1; have y3 : w4.cell? ⟨w3.heap.size, 3, none⟩ = some (.slice none 0 0) := (HKZ.out 3 (by simp)).1; have x0 : w4.frozen? ⟨w3.heap.size, 0, none⟩ = false := (HKZ.out 0 (by simp)).2; have x1 : w4.frozen? ⟨w3.heap.size, 1, none⟩ = false := (HKZ.out 1 (by simp)).2; have x2 : w4.frozen? ⟨w3.heap.size, 2, none⟩ = false := (HKZ.out 2 (by simp)).2; have x3 : w4.frozen? ⟨w3.heap.size, 3, none⟩ = false := (HKZ.out 3 (by simp)).2) | skip)
  all_goals
   go_wp2_with (fail)
   go_meet
   case rel => first | with_reducible exact hid (boxA HB4.out G2.out.tl G3.out.tl) | with_reducible exact hid (boxB HB4.out G2.out.tl G3.out.tl)
 case rest =>
  rename World => w4
  clear HIN
  obtain ⟨bx, a2, c2, a3, c3, hsx, hKB, hT2, hT3, hb4, hbx, hbx3⟩ := hcut.out
  subst hsx
  have HKB := hid hKB
  have HT2 := hid hT2
  have HT3 := hid hT3
  have HM4 := hid (HM3.out.below hb4)
  have HOW4 := hid (HOW3.out.chg (T := fun _ => False) (fun z => z) (Chg.of_below _ hb4) (fun h => h))
  have HK64 := hid (HK63.out.below hb4 (by omega))
  have HTG4 := hid (tag_below HTG.out hb4)
  have HC4 := hid (HC3.out.trans (Chg.of_below _ hb4))
  have HBB4 : Hid (Below B w w4) := HB3.out.trans (hb4.mono (by have := HB3.out.size; omega))
  have hs4 : w3.heap.size <= w4.heap.size := hb4.size
  clear hcut hKB hT2 hT3 hb4 HM3 HOW3 HRD3 HK63 HC3 HB3 HTG
  have k1 : w4.cell? ⟨w.heap.size, 1, none⟩ = some (.int .i64 t.md) := (HK64.out 1 (by simp)).1
  have hwwc : w.heap.size < w4.heap.size := by omega
  have hbwc : bb < w4.heap.size := by omega
  go_upto_if 35 with (fail)
  clear k1
  go_cut [] (fun wy => Hid (CmA B bb gx i x t w wy (.slice ma x.cms.length mc) (vs.set i (.slice none 0 0, .slice none 0 0, .slice none 0 0)) (.slice oa t.own.length oc) [.bool true, .int .i64 t.md, .int .i64 t.bg, .slice oa t.own.length oc, .slice (some ⟨gr, 0, none⟩) 32 32, .slice sa t.sv.length sc]))
  case first =>
   by_cases hmd : t.md = 2
   .have hmb : (t.md == 2) = true := by simpa using hmd
    have HMD := hid hmd
    have hw2 : ({ x with tx := x.tx.set i tx0 } : Bas).hs = x.hs := rfl
    have HCE := hid (fun (wz : World) (hz : Below w4.heap.size w4 wz) => certify_any ha hc x.hs (infoF t.bg (x.ck + 1) t.own t.rs) [.int .i64 t.bg, .int .i64 (x.ck + 1), .slice a2 (tabsT (readAt t.rs) 32).length c2, .slice a3 (tabsT (wroteAt t.own) 32).length c3] wz HBN.out.bh (infoB t x) (HM4.out.hi.rs.below liesT hz) (⟨_, _, rfl, HT2.out.1.below liesI hz, HT3.out.1.below liesI hz⟩ : CT 0 wz [.int .i64 t.bg, .int .i64 (x.ck + 1), .slice a2 (tabsT (readAt t.rs) 32).length c2, .slice a3 (tabsT (wroteAt t.own) 32).length c3] (infoF t.bg (x.ck + 1) t.own t.rs)))
    obtain ⟨cz, hcz⟩ : ∃ z, certF (x.hs ++ [(infoF t.bg (x.ck + 1) t.own t.rs)]) = z := ⟨_, rfl⟩
    have HCZ := hid hcz
    have b2 : w4.cell? ⟨bb, 2, none⟩ = some (.slice ha x.hs.length hc) := (HM4.out.bs 2 (by simp)).1
    obtain ⟨p0, p1, p2, p3⟩ := kc3 HKB.out
    clear hmd hcz hw2
    go_upto_region 7 with (fail)
    go_cut [8] (fun s wx => s = .int .i64 cz /\ Hid (Below w4.heap.size w4 wx))
    case first =>
     clear HKB HT2 HT3 HM4 HOW4 HK64 HTG4 HC4 HBB4
     go_region_with (go_at_call 61; refine (HCE.out _ bl).mono ?_; rintro e w5 ⟨hr, hb5⟩; have he := certR_f hr; rw [HCZ.out] at he; subst he; have HB5 := hid hb5; clear hr hb5)
     all_goals
      go_wp2_with (fail)
      go_meet
      case rel => exact ⟨rfl, (Below.refl _ w4).drew.trans HB5.out⟩
    case rest =>
     rename World => w5
     obtain ⟨hs5, HB5⟩ := hcut
     subst hs5
     clear p0 p1 p2 p3 b2 HCE hmb
     have HM5 := hid (HM4.out.below HB5.out)
     have HKB5 := hid (HKB.out.below HB5.out hbx)
     have HT25 := hid (HT2.out.chg (T := fun _ => False) (fun z => z) (Chg.of_below _ HB5.out) (fun h => h))
     have HT35 := hid (HT3.out.chg (T := fun _ => False) (fun z => z) (Chg.of_below _ HB5.out) (fun h => h))
     have HOW5 := hid (HOW4.out.chg (T := fun _ => False) (fun z => z) (Chg.of_below _ HB5.out) (fun h => h))
     have HK65 := hid (HK64.out.below HB5.out (by omega))
     have HTG5 := hid (tag_below HTG4.out HB5.out)
     have HC5 := hid (HC4.out.trans (Chg.of_below _ HB5.out))
     have HBB5 : Hid (Below B w w5) := HBB4.out.trans (HB5.out.mono (by have := HBB4.out.size; omega))
     have hs5 : w4.heap.size <= w5.heap.size := HB5.out.size
     clear HM4 HKB HT2 HT3 HOW4 HK64 HTG4 HC4 HBB4 HB5
     by_cases hz : cz = 0
     .have hzb : (cz != 0) = false := by simp [hz]
      have HZ := hid hz
      obtain ⟨ps, hps, hho, hht⟩ := HM5.out.hi
      have b2 : w5.cell? ⟨bb, 2, none⟩ = some (.slice ha x.hs.length hc) := (HM5.out.bs 2 (by simp)).1
      obtain ⟨p0, p1, p2, p3⟩ := kc3 HKB5.out
      obtain ⟨i0, hi0, hz0, hz1, hz2⟩ := info_parts infoTI
      have hbA : Below w5.heap.size w5 ((w5.alloc (.cells #[.int .i64 t.bg, .int .i64 (x.ck + 1), .slice a2 (tabsT (readAt t.rs) 32).length c2, .slice a3 (tabsT (wroteAt t.own) 32).length c3] 131)).drew) := ((Below.refl w5.heap.size w5).alloc (Nat.le_refl _) _).drew
      have hkA : Chg (fun _ => False) w5 ((w5.alloc (.cells #[.int .i64 t.bg, .int .i64 (x.ck + 1), .slice a2 (tabsT (readAt t.rs) 32).length c2, .slice a3 (tabsT (wroteAt t.own) 32).length c3] 131)).drew) := Chg.of_below _ hbA
      have HMA := hid (HM5.out.below hbA)
      have HOA : Hid (((w5.alloc (.cells #[.int .i64 t.bg, .int .i64 (x.ck + 1), .slice a2 (tabsT (readAt t.rs) 32).length c2, .slice a3 (tabsT (wroteAt t.own) 32).length c3] 131)).drew).ownsRow B 131 4 (.slice ha x.hs.length hc) x.hs.length (ps.flatMap (fun p => [.int .i64 p.1.bgn, .int .i64 p.1.com, p.2.1, p.2.2]))) := own_below hho hbA
      have HON : Hid (∀ j u, ([.int .i64 t.bg, .int .i64 (x.ck + 1), .slice a2 (tabsT (readAt t.rs) 32).length c2, .slice a3 (tabsT (wroteAt t.own) 32).length c3] : List Value)[j]? = some u -> ((w5.alloc (.cells #[.int .i64 t.bg, .int .i64 (x.ck + 1), .slice a2 (tabsT (readAt t.rs) 32).length c2, .slice a3 (tabsT (wroteAt t.own) 32).length c3] 131)).drew).cell? ((⟨w5.heap.size, 0, none⟩ : Addr).add j) = some u) := (blk_new w5 [.int .i64 t.bg, .int .i64 (x.ck + 1), .slice a2 (tabsT (readAt t.rs) 32).length c2, .slice a3 (tabsT (wroteAt t.own) 32).length c3] 131).cells
      have HO1 : Hid (∀ u ∈ ([.int .i64 t.bg, .int .i64 (x.ck + 1), .slice a2 (tabsT (readAt t.rs) 32).length c2, .slice a3 (tabsT (wroteAt t.own) 32).length c3] : List Value), u.oneCell' = true) := hid (by intro u hu; simp at hu; rcases hu with rfl | rfl | rfl | rfl <;> rfl)
      have HGR := hid (fun (v8 : Value) (w8 : World) (ho : w8.ownsRow B 131 4 v8 (x.hs.length + 1) ((ps.flatMap (fun p => [.int .i64 p.1.bgn, .int .i64 p.1.com, p.2.1, p.2.2])) ++ [.int .i64 t.bg, .int .i64 (x.ck + 1), .slice a2 (tabsT (readAt t.rs) 32).length c2, .slice a3 (tabsT (wroteAt t.own) 32).length c3])) (hg : ((w5.alloc (.cells #[.int .i64 t.bg, .int .i64 (x.ck + 1), .slice a2 (tabsT (readAt t.rs) 32).length c2, .slice a3 (tabsT (wroteAt t.own) 32).length c3] 131)).drew).grownBy w8 (Value.slice ha x.hs.length hc).ownBlock) => Mem.hpush (c := (infoF t.bg (x.ck + 1) t.own t.rs)) HMA.out hps (fun p hp => ⟨(hht p hp).1.chg (fun z => z) hkA (fun h => h), (hht p hp).2.chg (fun z => z) hkA (fun h => h)⟩) HOA.out hg ho (HT25.out.chg (fun z => z) hkA (fun h => h)) (HT35.out.chg (fun z => z) hkA (fun h => h)))
      have HBW : Hid (∀ w8, ((w5.alloc (.cells #[.int .i64 t.bg, .int .i64 (x.ck + 1), .slice a2 (tabsT (readAt t.rs) 32).length c2, .slice a3 (tabsT (wroteAt t.own) 32).length c3] 131)).drew).grownBy w8 (Value.slice ha x.hs.length hc).ownBlock -> Below B w w8) := hid (fun w8 hg => Below.grown (HBB5.out.trans (hbA.mono (by have := HBB5.out.size; omega))) hg (Nat.le_trans (by have := HBB5.out.size; omega) hbA.size) (fun k hk => (HOA.out.lt k hk).1))
      have hsA : B <= ((w5.alloc (.cells #[.int .i64 t.bg, .int .i64 (x.ck + 1), .slice a2 (tabsT (readAt t.rs) 32).length c2, .slice a3 (tabsT (wroteAt t.own) 32).length c3] 131)).drew).heap.size := Nat.le_trans (by have := HBB5.out.size; omega) hbA.size
      have HCA := hid (HC5.out.trans (Chg.of_below _ hbA))
      have HOWA := hid (HOW5.out.chg (fun z => z) hkA (fun h => h))
      have HTGA := hid (tag_below HTG5.out hbA)
      have HK6A := hid (HK65.out.below hbA (by omega))
      have hhl : x.hs.length <= 1000 := HBN.out.hl
      have hbxw : bx < w5.heap.size := by omega
      have hbw5 : bb < w5.heap.size := by omega
      clear hz hps hho hht HM5 hkA hbA HT25 HT35 HKB5 HOW5 HTG5 HK65 HC5 HBB5
      go_wp2
      go_region_law (refine step_append_own rfl (.tmp 49) (.tmp 51) 25 rfl B 131 i0 _ 4 64 Tryz.underlying25 hi0 hz0 hz1 hz2 rfl (by decide) (.slice ha x.hs.length hc) x.hs.length (ps.flatMap (fun p => [.int .i64 p.1.bgn, .int .i64 p.1.com, p.2.1, p.2.2])) rfl HOA.out ⟨w5.heap.size, 0, none⟩ 1 1 [.int .i64 t.bg, .int .i64 (x.ck + 1), .slice a2 (tabsT (readAt t.rs) 32).length c2, .slice a3 (tabsT (wroteAt t.own) 32).length c3] rfl rfl HON.out HO1.out (by unfold maxLen; omega) (by omega) hsA ?_
                     intro v8 w8 hown hgrow hiff
                     clear hiff
                     have HG := hid (HGR.out v8 w8 hown hgrow)
                     have HBG := hid (HBW.out w8 hgrow)
                     obtain ⟨a8, c8, hv8⟩ := formR hown
                     subst hv8
                     obtain ⟨⟨-, -⟩, ⟨-, -⟩, ⟨m2, n2⟩⟩ := kb2 HG.out.2.2
                     clear hown hgrow HON HGR HBW)
      all_goals
       go_wp2_with (fail)
       go_meet
       case rel =>
        refine hid ⟨_, by rw [if_pos HMD.out]; exact HG.out.1, (HCA.out.mono (fun ty h z => by subst h; exact z.2.1 rfl)).trans (HG.out.2.1.mono imHs), HBG.out.setCell (p := ⟨bb, 2, none⟩) HMA.out.bB _, HOWA.out.chg (by decide) HG.out.2.1 (fun h => h), HK6A.out.chg HG.out.2.1 (by decide) HTGA.out, HG.out.2.1.tagk (by decide) HTGA.out, fun z => z.2 (by rw [HCZ.out]; exact HZ.out)⟩
     .have hzb : (cz != 0) = true := by simp [hz]
      have HF : Hid (CommitP B bb gx x i w (.returned (.tuple #[.int .i64 0, .int .i64 cz])) w5) := hid (by
       have : commitF x i = ({ x with tx := x.tx.set i tx0 }, 0, cz) := by
        unfold commitF
        simp only [HTD.out, HCB.out, HCZ.out]
        rw [if_neg (by decide), if_pos ⟨HMD.out, hz⟩]
       refine ⟨_, _, _, by rw [this], by rw [this]; exact HM5.out, HC5.out.keep (fun ty h z => by subst h; exact absurd rfl z.2.1), HBB5.out⟩)
      clear hz
      go_wp2
      refine bodyPost_ret (v := .tuple #[.int .i64 0, .int .i64 cz]) (by simp [results, Tryz.results40, go_sem]) rfl ?_
      exact HF.out
   .have hmb : (t.md == 2) = false := by simpa using hmd
    have HF : Hid (CmA B bb gx i x t w w4 (.slice ma x.cms.length mc) (vs.set i (.slice none 0 0, .slice none 0 0, .slice none 0 0)) (.slice oa t.own.length oc) [.bool true, .int .i64 t.md, .int .i64 t.bg, .slice oa t.own.length oc, .slice (some ⟨gr, 0, none⟩) 32 32, .slice sa t.sv.length sc]) := hid (⟨_, by rw [if_neg hmd]; exact HM4.out, HC4.out.mono (fun ty h z => by subst h; exact z.2.1 rfl), HBB4.out, HOW4.out, HK64.out, HTG4.out, fun z => hmd z.1⟩)
    clear hmd
    go_wp2
    go_meet
    case rel => exact HF
  case rest =>
   rename World => w6
   obtain ⟨hv', hM6, hC6, hBB6, hOW6, hK66, hTG6, hnot⟩ := hcut.out
   clear hcut HKB HT2 HT3 HM4 HOW4 HK64 HTG4 HC4 HBB4
   have b0 : w6.cell? ⟨bb, 0, none⟩ = some (.int .i64 x.ck) := (hM6.bs 0 (by simp)).1
   have d0 : w6.frozen? ⟨bb, 0, none⟩ = false := (hM6.bs 0 (by simp)).2
   have hs6 := hBB6.size
   obtain ⟨w7, hw7⟩ : ∃ z, z = w6.setCell ⟨bb, 0, none⟩ (.int .i64 (x.ck + 1)) := ⟨_, rfl⟩
   have P7 := hM6.clock (x.ck + 1)
   rw [<- hw7] at P7
   have HM7 := hid P7.1
   have HC7 := hid (hC6.trans (P7.2.mono (fun ty h z => by subst h; exact z.1 rfl)))
   have HBB7 : Hid (Below B w w7) := hid (by rw [hw7]; exact hBB6.setCell (p := ⟨bb, 0, none⟩) hM6.bB _)
   have HOW7 := hid (hOW6.chg (by decide) P7.2 (fun h => h))
   have HK67 := hid (hK66.chg P7.2 (by decide) hTG6)
   have HNOT := hid hnot
   have hbw7 : bb < w7.heap.size := tag_lt P7.1.bt
   have hww7 : w.heap.size < w7.heap.size := tag_lt (P7.2.tagk (by decide) hTG6)
   clear hM6 hC6 hBB6 hOW6 hK66 hTG6 hnot P7
   go_upto_region 12 with (fail)
   rw [<- hw7]
   clear hw7 b0 d0
   obtain ⟨b0, b1⟩ := kc1 HM7.out.bs
   have k3 : w7.cell? ⟨w.heap.size, 3, none⟩ = some (.slice oa t.own.length oc) := (HK67.out 3 (by simp)).1
   obtain ⟨qs, hqs, hho, hht⟩ := HM7.out.cm
   obtain ⟨i0, hi0, hz0, hz1, hz2⟩ := info_parts infoCm
   have hbA : Below w7.heap.size w7 ((w7.alloc (.cells #[.int .i64 (x.ck + 1), .slice oa t.own.length oc] 140)).drew) := ((Below.refl w7.heap.size w7).alloc (Nat.le_refl _) _).drew
   have hkA : Chg (fun _ => False) w7 ((w7.alloc (.cells #[.int .i64 (x.ck + 1), .slice oa t.own.length oc] 140)).drew) := Chg.of_below _ hbA
   have HMA := hid (HM7.out.below hbA)
   have HOA : Hid (((w7.alloc (.cells #[.int .i64 (x.ck + 1), .slice oa t.own.length oc] 140)).drew).ownsRow B 140 2 (.slice ma x.cms.length mc) x.cms.length (qs.flatMap (fun p => [.int .i64 p.1.st, p.2]))) := own_below hho hbA
   have HON : Hid (∀ j u, ([.int .i64 (x.ck + 1), .slice oa t.own.length oc] : List Value)[j]? = some u -> ((w7.alloc (.cells #[.int .i64 (x.ck + 1), .slice oa t.own.length oc] 140)).drew).cell? ((⟨w7.heap.size, 0, none⟩ : Addr).add j) = some u) := (blk_new w7 [.int .i64 (x.ck + 1), .slice oa t.own.length oc] 140).cells
   have HO1 : Hid (∀ u ∈ ([.int .i64 (x.ck + 1), .slice oa t.own.length oc] : List Value), u.oneCell' = true) := hid (by intro u hu; simp at hu; rcases hu with rfl | rfl <;> rfl)
   have HGR := hid (fun (v8 : Value) (w8 : World) (ho : w8.ownsRow B 140 2 v8 (x.cms.length + 1) ((qs.flatMap (fun p => [.int .i64 p.1.st, p.2])) ++ [.int .i64 (x.ck + 1), .slice oa t.own.length oc])) (hg : ((w7.alloc (.cells #[.int .i64 (x.ck + 1), .slice oa t.own.length oc] 140)).drew).grownBy w8 (Value.slice ma x.cms.length mc).ownBlock) => Mem.cpush (c := ⟨x.ck + 1, t.own⟩) HMA.out hqs (fun p hp => (hht p hp).chg (fun z => z) hkA (fun h => h)) HOA.out hg ho (HOW7.out.chg (fun z => z) hkA (fun h => h)))
   have HBW : Hid (∀ w8, ((w7.alloc (.cells #[.int .i64 (x.ck + 1), .slice oa t.own.length oc] 140)).drew).grownBy w8 (Value.slice ma x.cms.length mc).ownBlock -> Below B w w8) := hid (fun w8 hg => Below.grown (HBB7.out.trans (hbA.mono (by have := HBB7.out.size; omega))) hg (Nat.le_trans (by have := HBB7.out.size; omega) hbA.size) (fun k hk => (HOA.out.lt k hk).1))
   have hsA : B <= ((w7.alloc (.cells #[.int .i64 (x.ck + 1), .slice oa t.own.length oc] 140)).drew).heap.size := Nat.le_trans (by have := HBB7.out.size; omega) hbA.size
   have HCA := hid (HC7.out.trans (Chg.of_below _ hbA))
   have hcl : x.cms.length <= 1000 := HBN.out.cl
   clear hqs hho hht HM7 hkA hbA HOW7 HK67 HC7 HBB7
   go_region_law (refine step_append_own rfl (.tmp 66) (.tmp 74) 63 rfl B 140 i0 _ 2 32 Tryz.underlying63 hi0 hz0 hz1 hz2 rfl (by decide) (.slice ma x.cms.length mc) x.cms.length (qs.flatMap (fun p => [.int .i64 p.1.st, p.2])) rfl HOA.out ⟨w7.heap.size, 0, none⟩ 1 1 [.int .i64 (x.ck + 1), .slice oa t.own.length oc] rfl rfl HON.out HO1.out (by unfold maxLen; omega) (by omega) hsA ?_
                  intro v8 w8 hown hgrow hiff
                  clear hiff
                  have HG := hid (HGR.out v8 w8 hown hgrow)
                  have HBG := hid (HBW.out w8 hgrow)
                  obtain ⟨a8, c8, hv8⟩ := formR hown
                  subst hv8
                  obtain ⟨⟨m0, -⟩, ⟨m1, n1⟩⟩ := kb1 HG.out.2.2
                  clear hown hgrow HON HGR HBW)
   all_goals
    clear b0 b1 k3
    go_wp2
    refine bodyPost_ret (v := .tuple #[.int .i64 (x.ck + 1), .int .i64 0]) (by simp [results, Tryz.results40, go_sem]) rfl ?_
    have : commitF x i = ({ x with tx := x.tx.set i tx0, ck := x.ck + 1, cms := x.cms ++ [⟨x.ck + 1, t.own⟩], hs := if t.md = 2 then x.hs ++ [(infoF t.bg (x.ck + 1) t.own t.rs)] else x.hs }, x.ck + 1, 0) := by
     unfold commitF
     simp only [HTD.out, HCB.out]
     rw [if_neg (by decide), if_neg HNOT.out]
    refine ⟨_, _, _, by rw [this], by rw [this]; exact HG.out.1, (HCA.out.trans (HG.out.2.1.mono imCm)).keep (fun ty h => h), HBG.out.setCell (p := ⟨bb, 1, none⟩) HMA.out.bB _⟩
end Go.Proofs.YtblkgicbimflhaaGreat
