import Derived.Test.YtblkgicbimflhaaGreatSAI
import Derived.Deep.RegionLawGrows
import Derived.Deep.CutRange
import Derived.Deep.DeepCutAuto
import Derived.Deep.RegionHeld3
namespace Go.Proofs.YtblkgicbimflhaaGreat
open Go.ChangeShapes Go.WideShapes Go.ChangeAt Go.RowKit
set_option linter.unusedVariables false
set_option linter.unusedSimpArgs false
set_option maxRecDepth 100000
set_option maxHeartbeats 16000000
theorem KT2B {Z w1 : World} {E : Obj} {cs : List Value} {ty : Nat} {row : Option Nat} (h : ((Z.alloc E).alloc (.cells cs.toArray ty)).drew.grownBy w1 row) (hr : some (Z.heap.size + 1) ≠ row) : Blk w1 (Z.heap.size + 1) cs := by
 have hb : Blk ((Z.alloc E).alloc (.cells cs.toArray ty)).drew (Z.heap.size + 1) cs := by
  have := blk_new (Z.alloc E) cs ty
  rw [show (Z.alloc E).heap.size = Z.heap.size + 1 by simp] at this
  exact this
 exact hb.grown h (by simp) hr
theorem KT2C {Z w1 : World} {E : Obj} {cs : List Value} {ty : Nat} {row : Option Nat} (h : ((Z.alloc (.cells cs.toArray ty)).alloc E).drew.grownBy w1 row) (hr : some Z.heap.size ≠ row) : Blk w1 Z.heap.size cs := by
 have hb0 : Blk ((Z.alloc (.cells cs.toArray ty)).alloc E) Z.heap.size cs := (blk_new Z cs ty).below (below_alloc _ _) (by simp)
 have hb : Blk ((Z.alloc (.cells cs.toArray ty)).alloc E).drew Z.heap.size cs := hb0
 exact hb.grown h (by simp; omega) hr
theorem saves_8 (B bb gx i : Nat) (x : Bas) (o : Opn) (cv hv : Value) (vs : List (Value × Value × Value)) (w : World) (hM : Mem B bb gx w x cv hv vs) (hi : i < 4) (hop : (x.tx.getD i tx0).op = true) (hb : Bnd x) (hB : B <= w.heap.size) (hk8 : o.kd = 8) :
 Calls Tryz.prog 41 #[.pointer (some ⟨bb, 0, none⟩), .agg #[.int .i64 o.kd, .int .i64 o.ss, .int .i64 o.tb, .int .i64 o.ky, .int .i64 o.vl, .int .i64 o.md, .string o.nm], .int .i64 (i : Int)] w fun e w' => SavesP B bb gx x i o w e w' := by
 have HK80 := hid hk8
 clear hk8
 obtain ⟨t, ⟨ov, rv, sv⟩, htx, hvx, hTM, hcell⟩ := hM.at hi
 have htD : x.tx.getD i tx0 = t := by rw [List.getD_eq_getElem?_getD, htx]; rfl
 have hmem : t ∈ x.tx := List.mem_of_getElem? htx
 rw [htD] at hop
 obtain ⟨hrl, gr, hrv, hgB, hgt, hgb⟩ := hTM.rd hop
 simp only at hrv
 subst hrv
 obtain ⟨oa, oc, hov⟩ := hTM.ow.form
 simp only at hov
 subst hov
 obtain ⟨sa, sc, hsv⟩ := hTM.sa.form
 simp only at hsv
 subst hsv
 obtain ⟨ma, mc, hcv⟩ : ∃ a c, cv = .slice a x.cms.length c := by obtain ⟨ps, _, ho, _⟩ := hM.cm; exact formR ho
 subst hcv
 obtain ⟨ha, hc, hhv⟩ : ∃ a c, hv = .slice a x.hs.length c := by obtain ⟨ps, _, ho, _⟩ := hM.hi; exact formR ho
 subst hhv
 obtain ⟨⟨q0, z0⟩, ⟨q1, z1⟩, ⟨q2, z2⟩, ⟨q3, z3⟩, ⟨q4, z4⟩, ⟨q5, z5⟩⟩ := mqb hcell
 have b3 : w.cell? ⟨bb, 3, none⟩ = some (.slice (some ⟨gx, 0, none⟩) 4 4) := (hM.bs 3 (by simp)).1
 have hgxl : gx < w.heap.size := tag_lt hM.xt
 have hbbl : bb < w.heap.size := tag_lt hM.bt
 have hii : (i : Int) < 4 := by omega
 obtain ⟨W1, hW1⟩ : ∃ z, z = ((w.alloc (.cells #[.int .i64 o.kd, .int .i64 o.ss, .int .i64 o.tb, .int .i64 o.ky, .int .i64 o.vl, .int .i64 o.md, .string o.nm] 41)).alloc (.cells #[.bool true, .int .i64 t.md, .int .i64 t.bg, .slice oa t.own.length oc, .slice (some ⟨gr, 0, none⟩) 32 32, .slice sa t.sv.length sc] 70)) := ⟨_, rfl⟩
 have bw : Below w.heap.size w W1 := by rw [hW1]; exact (below_alloc w _).alloc (by simp) _
 have HM1 := hid (hM.below bw)
 have HO1 : Hid (Blk W1 w.heap.size [.int .i64 o.kd, .int .i64 o.ss, .int .i64 o.tb, .int .i64 o.ky, .int .i64 o.vl, .int .i64 o.md, .string o.nm]) := hid (by
  rw [hW1]
  exact (blk_new w [.int .i64 o.kd, .int .i64 o.ss, .int .i64 o.tb, .int .i64 o.ky, .int .i64 o.vl, .int .i64 o.md, .string o.nm] 41).below (below_alloc _ _) (by simp))
 have HT1 : Hid (Blk W1 (w.heap.size + 1) [.bool true, .int .i64 t.md, .int .i64 t.bg, .slice oa t.own.length oc, .slice (some ⟨gr, 0, none⟩) 32 32, .slice sa t.sv.length sc]) := hid (by
  rw [hW1]
  have := blk_new (w.alloc (.cells #[.int .i64 o.kd, .int .i64 o.ss, .int .i64 o.tb, .int .i64 o.ky, .int .i64 o.vl, .int .i64 o.md, .string o.nm] 41)) [.bool true, .int .i64 t.md, .int .i64 t.bg, .slice oa t.own.length oc, .slice (some ⟨gr, 0, none⟩) 32 32, .slice sa t.sv.length sc] 70
  simpa using this)
 have hs1 : w.heap.size + 1 < W1.heap.size := by rw [hW1]; simp
 have hs0 : w.heap.size < W1.heap.size := by omega
 have hs2 : w.heap.size < W1.heap.size + 1 := by omega
 have HTM1 := hid (hTM.chg (Chg.of_below (fun _ => False) bw) (fun z => z) (fun z => z) (fun z => z))
 have HBW := hid bw
 have hn0 : ¬ gx = bb := tag_ne hM.xt hM.bt (by decide)
 have hn1 : ¬ bb = gx := fun z => hn0 z.symm
 have hn2 : ¬ gx = w.heap.size + 1 := by omega
 have hn3 : ¬ w.heap.size + 1 = gx := by omega
 have HBN := hid hb
 have HTX := hid htx
 have HVX := hid hvx
 have HTD := hid htD
 have hol := hb.ow t hmem
 have hsl := hb.sl t hmem
 have HSC := hid (hb.sc t hmem)
 have HQ5 : Hid (w.cell? ⟨gx, i * 6 + 5, none⟩ = some (.slice sa t.sv.length sc) /\ w.frozen? ⟨gx, i * 6 + 5, none⟩ = false) := ⟨q5, z5⟩
 clear hM hTM hb htx hvx hcell hmem htD bw
 go_enter Tryz.func41, Tryz.ntmps41
 go_upto_region 2 with (fail)
 rw [<- hW1]
 clear hW1 q0 q1 q2 q3 q4 q5 z0 z1 z2 z3 z4 z5 b3
 obtain ⟨k0, -, -, -, -, -, k6⟩ := kc6 HO1.out
 obtain ⟨-, -, -, t3, -, t5⟩ := kc5 HT1.out
 have hk8 := HK80.out
 clear HK80
 have hk8b : (o.kd == 8) = true := by simpa using hk8
 by_cases hfull : 8 <= t.sv.length
 .have hfi : (8 : Int) <= (t.sv.length : Int) := by omega
  have HF : Hid (SavesP B bb gx x i o w (.returned (.int .i64 5)) W1) := hid (by
   have e : savesF x i o = (x, 5) := by unfold savesF; simp only [HTD.out]; rw [if_pos hk8, if_pos hfull]
   exact ⟨_, _, _, by rw [e], by rw [e]; exact HM1.out, Keep.of_below HBW.out, HBW.out.mono hB⟩)
  clear hk8 hfull
  go_wp2
  go_ret
  exact HF.out
 .have hfi : ¬ (8 : Int) <= (t.sv.length : Int) := by omega
  have HK8 := hid hk8
  have HFU := hid hfull
  obtain ⟨j0, hj, hy0, hy1, hy2⟩ := info_parts infoCel
  have HOWN := HTM1.out.ow.1
  have HOR := hid HOWN
  have OA : Hid (((W1.alloc (.cells #[] 106)).drew).ownsRow W1.heap.size 106 4 (.slice (some ⟨W1.heap.size, 0, none⟩) 0 0) 0 []) := hid (by
   have := World.ownsRow_made (base := W1.heap.size) (e := 106) (size := 4) W1 #[] 0 (by simp) (by unfold maxLen; omega) (by simp)
   simpa using this.drew)
  have OB : Hid ((((W1.alloc (.cells #[] 106)).alloc (.cells #[.string ⟨#[]⟩, .slice none 0 0] 146)).drew).ownsRow W1.heap.size 106 4 (.slice (some ⟨W1.heap.size, 0, none⟩) 0 0) 0 []) := hid (by
   have := (World.ownsRow_made (base := W1.heap.size) (e := 106) (size := 4) W1 #[] 0 (by simp) (by unfold maxLen; omega) (by simp)).alloc (.cells #[.string ⟨#[]⟩, .slice none 0 0] 146)
   simpa using this.drew)
  have OC : Hid ((((W1.alloc (.cells #[.string ⟨#[]⟩, .slice none 0 0] 146)).alloc (.cells #[] 106)).drew).ownsRow W1.heap.size 106 4 (.slice (some ⟨W1.heap.size + 1, 0, none⟩) 0 0) 0 []) := hid (by
   have := World.ownsRow_made (base := W1.heap.size) (e := 106) (size := 4) (W1.alloc (.cells #[.string ⟨#[]⟩, .slice none 0 0] 146)) #[] 0 (by simp) (by unfold maxLen; omega) (by simp)
   simpa using this.drew)
  clear hk8 hfull HOWN
  go_upto_region 5 with (fail)
  go_cut [8] (fun s wx => Hid (SvB W1 wx o.nm t.own s))
  case first =>
   clear HM1 HO1 HT1 HTM1 HBW HBN HTX HVX HTD HSC
   go_region_law (refine step_append_rs0 liesC oneC rfl (.tmp 26) (.tmp 28) 67 rfl W1.heap.size 106 j0 _ 32 Tryz.underlying67 hj hy0 hy1 hy2 rfl (by decide) (.slice (some ⟨_, 0, none⟩) 0 0) 0 [] rfl ?_ oa oc t.own t.own.length rfl rfl W1 HOR.out ?_ ?_ ?_ ?_ ?_
                  .first | (with_reducible first | exact OA.out | exact OB.out | exact OC.out)
                  .exact bl
                  .unfold maxLen; omega
                  .omega
                  .first | (simp; done) | (simp; omega) | omega
                  intro news v8 w8 hfi8 hown8 hgrow8 _ _
                  have bw8 : Below W1.heap.size W1 w8 := by
                   refine Below.grown ?_ hgrow8 ?_ ?_
                   .exact bl
                   .first | (simp; done) | (simp; omega) | omega
                   .intro k hk; simp [Value.ownBlock] at hk; first | omega | (subst hk; omega)
                  have HT8 := hid (cel_tl (hfi8.below liesC bw8) (by simpa using hown8))
                  obtain ⟨a8, c8, hv8⟩ := HT8.out.form
                  subst hv8
                  have HB8 := hid bw8
                  have k68 : w8.cell? ⟨w.heap.size, 6, none⟩ = some (.string o.nm) := ct bw8 hs0 k6
                  have hs08 : w.heap.size < w8.heap.size := by have := bw8.size; omega
                  first
                   | (have HKZ := hid (Blk.grown (Blk.below (blk_new W1 [.string ⟨#[]⟩, .slice none 0 0] 146) bl (by simp)) hgrow8 (by first | (simp; done) | (simp; omega) | omega) (by first | (simp [Value.ownBlock]; done) | (simp [Value.ownBlock]; omega)))
                      have HTZ := hid ((Chg.grown (T := fun ty => ty = 106) hgrow8 (fun g hg => ⟨_, rfl, own_tag OC.out hg⟩)).tagk (by decide) (tag_below (tag_new W1 [.string ⟨#[]⟩, .slice none 0 0] 146) bl))
                      obtain ⟨⟨y0, x0⟩, ⟨y1, -⟩⟩ := kb1 HKZ.out
                      have x1 : w8.frozen? ⟨W1.heap.size, 1, none⟩ = false := (HKZ.out 1 (by simp)).2)
                   | (have HKZ := hid (Blk.grown (Blk.below (blk_new (W1.alloc (.cells #[] 106)) [.string ⟨#[]⟩, .slice none 0 0] 146) bl (by simp)) hgrow8 (by first | (simp; done) | (simp; omega) | omega) (by first | (simp [Value.ownBlock]; done) | (simp [Value.ownBlock]; omega)))
                      have HTZ := hid ((Chg.grown (T := fun ty => ty = 106) hgrow8 (fun g hg => ⟨_, rfl, own_tag OB.out hg⟩)).tagk (by decide) (tag_below (tag_new (W1.alloc (.cells #[] 106)) [.string ⟨#[]⟩, .slice none 0 0] 146) bl))
                      have hse : (W1.alloc (.cells #[] 106)).heap.size = W1.heap.size + 1 := by simp
                      rw [hse] at HKZ HTZ
                      clear hse
                      obtain ⟨⟨y0, x0⟩, ⟨y1, -⟩⟩ := kb1 HKZ.out
                      have x1 : w8.frozen? ⟨W1.heap.size + 1, 1, none⟩ = false := (HKZ.out 1 (by simp)).2)
                   | skip
                  clear hfi8 hown8 hgrow8 bw8)
   all_goals
    go_wp2_with (fail)
    go_meet
    case rel => first | with_reducible exact hid (svA HB8.out HT8.out) | with_reducible exact hid (svB HB8.out HT8.out HKZ.out HTZ.out (Nat.le_refl _)) | with_reducible exact hid (svB HB8.out HT8.out HKZ.out HTZ.out (Nat.le_succ _))
  case rest =>
   rename World => w5
   clear OA OB OC HOR
   obtain ⟨bx, a8, c8, hsx, hKB, hTL8, hb5, hbx, hbx1⟩ := hcut.out
   subst hsx
   obtain ⟨ps, hps, hRSp, hpt⟩ := HTM1.out.sa.flat
   have hpl : ps.length = t.sv.length := by rw [<- hps, List.length_map]
   have hRS5 := hRSp.below liesSp hb5
   simp only at hRS5
   rw [<- hpl] at hRS5
   have HRS := hid hRS5
   have HPL := hid hpl
   have HPT : Hid (∀ p ∈ ps ++ [(⟨o.nm, t.own⟩, .slice a8 t.own.length c8)], TL 106 4 CC w5 p.2 p.1.cs) := hid (fun p hp => by
    rcases List.mem_append.1 hp with h | h
    .exact (hpt p h).chg (fun z => z) (Chg.of_below (fun _ => False) hb5) (fun h => h)
    .rw [List.mem_singleton] at h; subst h; exact hTL8)
   have HPS := hid hps
   have HM5 := hid (HM1.out.below hb5)
   have HB5 := hid hb5
   have HKB := hid hKB
   have b3 : w5.cell? ⟨bb, 3, none⟩ = some (.slice (some ⟨gx, 0, none⟩) 4 4) := (HM5.out.bs 3 (by simp)).1
   have t55 : w5.cell? ⟨w.heap.size + 1, 5, none⟩ = some (.slice sa t.sv.length sc) := ct hb5 hs1 t5
   obtain ⟨s0, s1⟩ := kc1 hKB
   have hs5 : W1.heap.size <= w5.heap.size := hb5.size
   have hs6 : w.heap.size + 1 < w5.heap.size := by omega
   have hs7 : w.heap.size < w5.heap.size := by omega
   have hbb5 : bb < w5.heap.size := by omega
   have hbb6 : bb < w5.heap.size + 1 := by omega
   have hbx6 : bx < w5.heap.size + 1 := by omega
   have hs8 : w.heap.size < w5.heap.size + 1 := by omega
   obtain ⟨i0, hi0, hz0, hz1, hz2⟩ := info_parts infoSa
   rw [<- hpl] at t55
   clear hcut hKB hTL8 hb5 hRSp hpt hRS5 hps hpl k0 k6 t3 t5
   have OA : Hid (((w5.alloc (.cells #[] 146)).drew).ownsRow w5.heap.size 146 2 (.slice (some ⟨w5.heap.size, 0, none⟩) 0 0) 0 []) := hid (by
    have := World.ownsRow_made (base := w5.heap.size) (e := 146) (size := 2) w5 #[] 0 (by simp) (by unfold maxLen; omega) (by simp)
    simpa using this.drew)
   have OB : Hid ((((w5.alloc (.cells #[] 146)).alloc (.cells #[.string o.nm, .slice a8 t.own.length c8] 146)).drew).ownsRow w5.heap.size 146 2 (.slice (some ⟨w5.heap.size, 0, none⟩) 0 0) 0 []) := hid (by
    have := (World.ownsRow_made (base := w5.heap.size) (e := 146) (size := 2) w5 #[] 0 (by simp) (by unfold maxLen; omega) (by simp)).alloc (.cells #[.string o.nm, .slice a8 t.own.length c8] 146)
    simpa using this.drew)
   have OC : Hid ((((w5.alloc (.cells #[.string o.nm, .slice a8 t.own.length c8] 146)).alloc (.cells #[] 146)).drew).ownsRow w5.heap.size 146 2 (.slice (some ⟨w5.heap.size + 1, 0, none⟩) 0 0) 0 []) := hid (by
    have := World.ownsRow_made (base := w5.heap.size) (e := 146) (size := 2) (w5.alloc (.cells #[.string o.nm, .slice a8 t.own.length c8] 146)) #[] 0 (by simp) (by unfold maxLen; omega) (by simp)
    simpa using this.drew)
   have HO2 : Hid (∀ u ∈ ([.string o.nm, .slice a8 t.own.length c8] : List Value), u.oneCell' = true) := hid (by intro u hu; simp at hu; rcases hu with rfl | rfl <;> rfl)
   have hgx5 : gx < w5.heap.size := by omega
   have hn4 : ¬ gx = bx := by omega
   have hn5 : ¬ bx = gx := by omega
   have HQ55 : Hid (w5.cell? ⟨gx, i * 6 + 5, none⟩ = some (.slice sa t.sv.length sc) /\ w5.frozen? ⟨gx, i * 6 + 5, none⟩ = false) := hid (⟨(HB5.out.cell (p := ⟨gx, i * 6 + 5, none⟩) (by show gx < _; omega)).trans ((HBW.out.cell (p := ⟨gx, i * 6 + 5, none⟩) hgxl).trans HQ5.out.1), (HB5.out.frozen (p := ⟨gx, i * 6 + 5, none⟩) (by show gx < _; omega)).trans ((HBW.out.frozen (p := ⟨gx, i * 6 + 5, none⟩) hgxl).trans HQ5.out.2)⟩)
   have HFIN : Hid (∀ (w7 : World) (v2 : Value) (news : List Value), Below w5.heap.size w5 w7 -> Fill 2 CSp 0 ps ps.length news w5 -> w7.ownsRow w5.heap.size 146 2 v2 (ps.length + 1) (news ++ [.string o.nm, .slice a8 t.own.length c8]) -> SavesP B bb gx x i o w (.returned (.int .i64 0)) (w7.setCell ⟨gx, i * 6 + 5, none⟩ v2)) := hid (fun w7 v2 news bw7 hf ho => by
    have hf2 := (hf.below liesSp bw7).append (fill_one (B := 0) (w := w7) liesSp (t := ((⟨o.nm, t.own⟩ : Sav), (.slice a8 t.own.length c8 : Value))) ⟨rfl, _, _, _, rfl⟩)
    have hk7 : Chg (fun _ => False) w5 w7 := Chg.of_below _ bw7
    have hk5 : Chg (fun _ => False) W1 w5 := Chg.of_below _ HB5.out
    have tl2 := sav_tl hf2 (by simpa using ho) (fun p hp => (HPT.out p hp).chg (fun z => z) hk7 (fun h => h))
    rw [List.map_append, HPS.out] at tl2
    have tm := (HTM1.out.chg hk5 (fun z => z) (fun z => z) (fun z => z)).chg hk7 (fun z => z) (fun z => z) (fun z => z)
    have P := (HM5.out.below bw7).putc (i := i) (j := 5) (u := v2) (t' := { t with sv := t.sv ++ [⟨o.nm, t.own⟩] }) (v' := (.slice oa t.own.length oc, .slice (some ⟨gr, 0, none⟩) 32 32, v2)) hi (by omega) HTX.out HVX.out rfl ⟨tm.ow, tl2, own_cap ho, tm.rd, tm.rf⟩ rfl
    have e : savesF x i o = ({ x with tx := x.tx.set i { t with sv := t.sv ++ [⟨o.nm, t.own⟩] } }, 0) := by unfold savesF; simp only [HTD.out]; rw [if_pos HK8.out, if_neg HFU.out]
    have hB7 : Below w.heap.size w w7 := HBW.out.trans ((HB5.out.trans (bw7.mono HB5.out.size)).mono HBW.out.size)
    refine ⟨_, _, _, by rw [e], by rw [e]; exact P.1, (Keep.of_below hB7).trans (P.2.keep (fun ty h z => by subst h; exact absurd rfl z.2.1)), (hB7.mono hB).setCell (p := ⟨gx, i * 6 + 5, none⟩) HM5.out.xB _⟩)
   clear HM5 HPT HPS HTM1 HB5 HKB HM1 HO1 HT1 HBW HBN HTX HVX HTD HSC HQ5
   go_upto_region 6 with (fail)
   go_region_held3 (fun W => W.cell? ⟨bb, 3, none⟩ = some (.slice (some ⟨gx, 0, none⟩) 4 4) /\ W.cell? ⟨w.heap.size + 1, 5, none⟩ = some (.slice sa ps.length sc) /\ W.cell? ⟨bx, 0, none⟩ = some (.string o.nm) /\ W.cell? ⟨bx, 1, none⟩ = some (.slice a8 t.own.length c8)) (go_keep) (first
    | (refine step_append_rs0 liesSp oneSp rfl (.tmp 36) (.tmp 38) 68 rfl w5.heap.size 146 i0 _ 40 Tryz.underlying68 hi0 hz0 hz1 hz2 rfl (by decide) (.slice (some ⟨_, 0, none⟩) 0 0) 0 [] rfl ?_ sa sc ps ps.length rfl rfl w5 HRS.out ?_ ?_ ?_ ?_ ?_
       .first | (with_reducible first | exact OA.out | exact OB.out | exact OC.out)
       .exact bl
       .have := HPL.out; unfold maxLen; omega
       .have := HPL.out; omega
       .first | (simp; done) | (simp; omega) | omega
       intro news v1 w6 hfi1 hown1 hgrow1 _ _
       have bw6 : Below w5.heap.size w5 w6 := by
        refine Below.grown ?_ hgrow1 ?_ ?_
        .exact bl
        .first | (simp; done) | (simp; omega) | omega
        .intro k hk; simp [Value.ownBlock] at hk; first | omega | (subst hk; omega)
       have j3 : w6.cell? ⟨bb, 3, none⟩ = some (.slice (some ⟨gx, 0, none⟩) 4 4) := ct bw6 hbb5 b3
       have j5 : w6.cell? ⟨w.heap.size + 1, 5, none⟩ = some (.slice sa ps.length sc) := ct bw6 hs6 t55
       have js0 : w6.cell? ⟨bx, 0, none⟩ = some (.string o.nm) := ct bw6 hbx s0
       have js1 : w6.cell? ⟨bx, 1, none⟩ = some (.slice a8 t.own.length c8) := ct bw6 hbx s1
       have js2 : bb < w6.heap.size := by have := bw6.size; omega
       have js3 : w.heap.size + 1 < w6.heap.size := by have := bw6.size; omega
       have js4 : bx < w6.heap.size := by have := bw6.size; omega
       have HFW : Hid (Fill 2 CSp 0 ps ps.length news w5) := hfi1
       have HBW6 := hid bw6
       have HOW6 := hid hown1
       have KN : Hid (∀ j u, ([.string o.nm, .slice a8 t.own.length c8] : List Value)[j]? = some u -> (w6.alloc (.cells #[.string o.nm, .slice a8 t.own.length c8] 146)).cell? ((⟨w6.heap.size, 0, none⟩ : Addr).add j) = some u) := (blk_new w6 [.string o.nm, .slice a8 t.own.length c8] 146).cells
       first
        | have KT := hid (Blk.cells (KT2B (cs := [.string o.nm, .slice a8 t.own.length c8]) hgrow1 (by first | (simp [Value.ownBlock]; done) | (simp [Value.ownBlock]; omega))))
        | have KT := hid (Blk.cells (KT2C (cs := [.string o.nm, .slice a8 t.own.length c8]) hgrow1 (by first | (simp [Value.ownBlock]; done) | (simp [Value.ownBlock]; omega))))
        | skip
       clear hgrow1 hfi1 bw6 hown1)
    | (refine step_append_own rfl (.tmp 39) (.tmp 41) 68 rfl w5.heap.size 146 i0 _ 2 40 Tryz.underlying68 hi0 hz0 hz1 hz2 rfl (by decide) v1 (0 + ps.length) ([] ++ news) rfl ?_ ⟨_, 0, none⟩ 1 1 [.string o.nm, .slice a8 t.own.length c8] rfl rfl ?_ HO2.out ?_ ?_ ?_ ?_
       .first | with_reducible exact HOW6.out | with_reducible exact HOW6.out.alloc _
       .first | with_reducible exact KN.out | with_reducible exact KT.out
       .have := HPL.out; unfold maxLen; omega
       .have := HPL.out; omega
       .have := HBW6.out.size; first | (simp; done) | (simp; omega) | omega
       intro v2 w7 hown2 hgrow2 _
       have bw7 : Below w5.heap.size w5 w7 := by
        refine Below.grown ?_ hgrow2 ?_ ?_
        .first | with_reducible exact HBW6.out | with_reducible exact HBW6.out.alloc HBW6.out.size _
        .have := HBW6.out.size; first | (simp; done) | (simp; omega) | omega
        .intro k hk; exact (HOW6.out.lt k hk).1
       have HFI := hid (HFIN.out w7 v2 news bw7 HFW.out (by simpa using hown2))
       obtain ⟨a2, c2, hv2⟩ := formR hown2
       subst hv2
       simp only [Nat.zero_add] at HFI
       have m5 : w7.cell? ⟨gx, i * 6 + 5, none⟩ = some (.slice sa t.sv.length sc) := ct bw7 hgx5 HQ55.out.1
       have n5 : w7.frozen? ⟨gx, i * 6 + 5, none⟩ = false := (bw7.frozen (p := ⟨gx, i * 6 + 5, none⟩) hgx5).trans HQ55.out.2
       have l3 : w7.cell? ⟨bb, 3, none⟩ = some (.slice (some ⟨gx, 0, none⟩) 4 4) := ct bw7 hbb5 b3
       have l5 : w7.cell? ⟨w.heap.size + 1, 5, none⟩ = some (.slice sa ps.length sc) := ct bw7 hs6 t55
       have ls0 : w7.cell? ⟨bx, 0, none⟩ = some (.string o.nm) := ct bw7 hbx s0
       have ls1 : w7.cell? ⟨bx, 1, none⟩ = some (.slice a8 t.own.length c8) := ct bw7 hbx s1
       clear hown2 hgrow2 bw7 KN HOW6 HBW6 HFW))
   all_goals
    clear b3 t55 s0 s1
    go_wp2
    go_ret
    exact HFI.out
end Go.Proofs.YtblkgicbimflhaaGreat
