import Derived.Test.YtblkgicbimflhaaGreatSAJ
namespace Go.Proofs.YtblkgicbimflhaaGreat
open Go.ChangeShapes Go.WideShapes Go.ChangeAt Go.RowKit
set_option linter.unusedVariables false
set_option linter.unusedSimpArgs false
set_option maxRecDepth 100000
set_option maxHeartbeats 16000000
def BkA (B bb gx i : Nat) (x : Bas) (o : Opn) (t : Txn) (K : Nat) (w wy : World) (rv sv : Value) : Prop := ∃ (x' : Bas) (cv hv : Value) (vs' : List (Value × Value × Value)) (t' : Txn) (ov' : Value), Mem B bb gx wy x' cv hv vs' /\ x'.tx[i]? = some t' /\ vs'[i]? = some (ov', rv, sv) /\ t'.sv = t.sv /\ savesF x i o = ({ x' with tx := x'.tx.set i { t' with sv := t.sv.take K } }, 0) /\ Keep w wy /\ Below B w wy /\ wy.cell? ⟨w.heap.size + 1, 5, none⟩ = some sv /\ w.heap.size + 1 < wy.heap.size
theorem TL.take {w : World} {a : Option Addr} {c k : Nat} {ss : List Sav} (h : TL 146 2 CSt w (.slice a ss.length c) ss) (hk : k <= ss.length) : TL 146 2 CSt w (.slice a k c) (ss.take k) := by
 obtain ⟨⟨a', c', he, hh⟩, ht⟩ := h
 injection he with e1 _ e2
 subst e1 e2
 have hl : (ss.take k).length = k := by simp; omega
 refine ⟨⟨a, c, by rw [hl], fun hp => ?_⟩, fun g o n c' hv hp => ?_⟩
 .have hp' : 0 < ss.length := by omega
  obtain ⟨g, o, e2, h1, h2, h3⟩ := hh hp'
  refine ⟨g, o, e2, h1, h2, fun i hi => ?_⟩
  obtain ⟨cs, x, y⟩ := h3 i (by omega)
  exact ⟨cs, by rw [List.getElem_take]; exact x, y⟩
 .injection hv with e1 _ _
  exact ht g o ss.length c (by rw [e1]) (by omega)
theorem saves_o (B bb gx i : Nat) (x : Bas) (o : Opn) (cv hv : Value) (vs : List (Value × Value × Value)) (w : World) (hM : Mem B bb gx w x cv hv vs) (hi : i < 4) (hop : (x.tx.getD i tx0).op = true) (hb : Bnd x) (hB : B <= w.heap.size) (hk8 : ¬ o.kd = 8) :
 Calls Tryz.prog 41 #[.pointer (some ⟨bb, 0, none⟩), .agg #[.int .i64 o.kd, .int .i64 o.ss, .int .i64 o.tb, .int .i64 o.ky, .int .i64 o.vl, .int .i64 o.md, .string o.nm], .int .i64 (i : Int)] w fun e w' => SavesP B bb gx x i o w e w' := by
 have HK80 := hid hk8
 clear hk8
 obtain ⟨t, ⟨ov, rv, sv⟩, htx, hvx, hTM, hcell⟩ := hM.at hi
 have htD : x.tx.getD i tx0 = t := by rw [List.getD_eq_getElem?_getD, htx]; rfl
 have hmem : t ∈ x.tx := List.mem_of_getElem? htx
 rw [htD] at hop
 obtain ⟨hrl, gr, hrv, hgB, hgt, hgb⟩ := hTM.rd hop
 simp only at hrv
 subst hrv
 obtain ⟨oa, oc, hov⟩ := hTM.ow.form
 simp only at hov
 subst hov
 obtain ⟨sa, sc, hsv⟩ := hTM.sa.form
 simp only at hsv
 subst hsv
 obtain ⟨ma, mc, hcv⟩ : ∃ a c, cv = .slice a x.cms.length c := by obtain ⟨ps, _, ho, _⟩ := hM.cm; exact formR ho
 subst hcv
 obtain ⟨ha, hc, hhv⟩ : ∃ a c, hv = .slice a x.hs.length c := by obtain ⟨ps, _, ho, _⟩ := hM.hi; exact formR ho
 subst hhv
 obtain ⟨⟨q0, z0⟩, ⟨q1, z1⟩, ⟨q2, z2⟩, ⟨q3, z3⟩, ⟨q4, z4⟩, ⟨q5, z5⟩⟩ := mqb hcell
 have b3 : w.cell? ⟨bb, 3, none⟩ = some (.slice (some ⟨gx, 0, none⟩) 4 4) := (hM.bs 3 (by simp)).1
 have hgxl : gx < w.heap.size := tag_lt hM.xt
 have hbbl : bb < w.heap.size := tag_lt hM.bt
 have hii : (i : Int) < 4 := by omega
 obtain ⟨W1, hW1⟩ : ∃ z, z = ((w.alloc (.cells #[.int .i64 o.kd, .int .i64 o.ss, .int .i64 o.tb, .int .i64 o.ky, .int .i64 o.vl, .int .i64 o.md, .string o.nm] 41)).alloc (.cells #[.bool true, .int .i64 t.md, .int .i64 t.bg, .slice oa t.own.length oc, .slice (some ⟨gr, 0, none⟩) 32 32, .slice sa t.sv.length sc] 70)) := ⟨_, rfl⟩
 have bw : Below w.heap.size w W1 := by rw [hW1]; exact (below_alloc w _).alloc (by simp) _
 have HM1 := hid (hM.below bw)
 have HO1 : Hid (Blk W1 w.heap.size [.int .i64 o.kd, .int .i64 o.ss, .int .i64 o.tb, .int .i64 o.ky, .int .i64 o.vl, .int .i64 o.md, .string o.nm]) := hid (by
  rw [hW1]
  exact (blk_new w [.int .i64 o.kd, .int .i64 o.ss, .int .i64 o.tb, .int .i64 o.ky, .int .i64 o.vl, .int .i64 o.md, .string o.nm] 41).below (below_alloc _ _) (by simp))
 have HT1 : Hid (Blk W1 (w.heap.size + 1) [.bool true, .int .i64 t.md, .int .i64 t.bg, .slice oa t.own.length oc, .slice (some ⟨gr, 0, none⟩) 32 32, .slice sa t.sv.length sc]) := hid (by
  rw [hW1]
  have := blk_new (w.alloc (.cells #[.int .i64 o.kd, .int .i64 o.ss, .int .i64 o.tb, .int .i64 o.ky, .int .i64 o.vl, .int .i64 o.md, .string o.nm] 41)) [.bool true, .int .i64 t.md, .int .i64 t.bg, .slice oa t.own.length oc, .slice (some ⟨gr, 0, none⟩) 32 32, .slice sa t.sv.length sc] 70
  simpa using this)
 have hs1 : w.heap.size + 1 < W1.heap.size := by rw [hW1]; simp
 have hs0 : w.heap.size < W1.heap.size := by omega
 have hs2 : w.heap.size < W1.heap.size + 1 := by omega
 have HTM1 := hid (hTM.chg (Chg.of_below (fun _ => False) bw) (fun z => z) (fun z => z) (fun z => z))
 have HBW := hid bw
 have hn0 : ¬ gx = bb := tag_ne hM.xt hM.bt (by decide)
 have hn1 : ¬ bb = gx := fun z => hn0 z.symm
 have hn2 : ¬ gx = w.heap.size + 1 := by omega
 have hn3 : ¬ w.heap.size + 1 = gx := by omega
 have HBN := hid hb
 have HTX := hid htx
 have HVX := hid hvx
 have HTD := hid htD
 have hol := hb.ow t hmem
 have hsl := hb.sl t hmem
 have HSC := hid (hb.sc t hmem)
 have HQ53 : Hid (w.cell? ⟨gx, i * 6 + 3, none⟩ = some (.slice oa t.own.length oc) /\ w.frozen? ⟨gx, i * 6 + 3, none⟩ = false) := ⟨q3, z3⟩
 have HQ5 : Hid (w.cell? ⟨gx, i * 6 + 5, none⟩ = some (.slice sa t.sv.length sc) /\ w.frozen? ⟨gx, i * 6 + 5, none⟩ = false) := ⟨q5, z5⟩
 clear hM hTM hb htx hvx hcell hmem htD bw
 go_enter Tryz.func41, Tryz.ntmps41
 go_upto_region 2 with (fail)
 rw [<- hW1]
 clear hW1 q0 q1 q2 q3 q4 q5 z0 z1 z2 z3 z4 z5 b3
 obtain ⟨k0, -, -, -, -, -, k6⟩ := kc6 HO1.out
 obtain ⟨-, -, -, t3, -, t5⟩ := kc5 HT1.out
 have hk8 := HK80.out
 clear HK80
 have hk8b : (o.kd == 8) = false := by simpa using hk8
 have hsv := saved_spec true t.md t.bg (.slice oa t.own.length oc) (.slice (some ⟨gr, 0, none⟩) 32 32) sa sc t.sv o.nm W1 (by omega) (HTM1.out.sa.1.weak (fun h => h.csv))
 obtain ⟨t0, t1, t2, -, t4⟩ := kc4 HT1.out
 have HK8 := hid hk8
 clear hk8
 go_wp2_with (go_at_call 62; fail)
 refine hsv.mono ?_
 rintro e w2 ⟨rfl, hb2⟩
 have HM2 := hid (HM1.out.below hb2)
 have HB2 : Hid (Below w.heap.size w w2) := HBW.out.trans (hb2.mono HBW.out.size)
 have k02 : w2.cell? ⟨w.heap.size, 0, none⟩ = some (.int .i64 o.kd) := ct hb2 hs0 k0
 have t52 : w2.cell? ⟨w.heap.size + 1, 5, none⟩ = some (.slice sa t.sv.length sc) := ct hb2 hs1 t5
 have HTM2 := hid (HTM1.out.chg (Chg.of_below (fun _ => False) hb2) (fun z => z) (fun z => z) (fun z => z))
 have hz2 : W1.heap.size <= w2.heap.size := hb2.size
 clear hsv hb2 k0 k6 t0 t1 t2 t3 t4 t5 HO1 HT1 HM1 HTM1
 rcases hsf : savedF t.sv o.nm with _ | k
 .have HF : Hid (SavesP B bb gx x i o w (.returned (.int .i64 23)) w2) := hid (by
   have e : savesF x i o = (x, 23) := by unfold savesF; simp only [HTD.out, hsf]; rw [if_neg HK8.out]
   exact ⟨_, _, _, by rw [e], by rw [e]; exact HM2.out, Keep.of_below HB2.out, HB2.out.mono hB⟩)
  clear hsf
  simp only [savedI]
  go_wp2
  go_ret
  exact HF.out
 .have hkl : k < t.sv.length := lastK_lt hsf
  have HSF := hid hsf
  clear hsf
  simp only [savedI]
  have hki : ¬ ((k : Int) < 0) := by omega
  have hw2a : w.heap.size < w2.heap.size := by omega
  have hw2b : w.heap.size + 1 < w2.heap.size := by omega
  obtain ⟨sg, so, hse, hsg, hcs⟩ : ∃ sg so, sa = some ⟨sg, so, none⟩ /\ sg < w2.heap.size /\ ∃ cvv, TL 106 4 CC w2 cvv (t.sv[k]).cs /\ w2.cell? ⟨sg, so + k * 2 + 1, none⟩ = some cvv := by
   obtain ⟨⟨a', c', he, hh⟩, _⟩ := HTM2.out.sa
   simp only at he
   injection he with e1 _ e2
   subst e1 e2
   obtain ⟨g, o', e3, _, h2, h3⟩ := hh (by omega)
   obtain ⟨cs, ⟨cvv, e4, t4⟩, y⟩ := h3 k hkl
   subst e4
   exact ⟨g, o', e3, h2, cvv, t4, by simpa using y 1 (by omega)⟩
  subst hse
  have hn6 : ¬ gx = sg := tag_ne HM2.out.xt (HTM2.out.sa.2 sg so _ _ rfl (by omega)) (by decide)
  have hn7 : ¬ sg = gx := fun z => hn6 z.symm
  obtain ⟨cvv, hTLc, ck⟩ := hcs
  obtain ⟨ca, cc, hcv⟩ := hTLc.form
  subst hcv
  have HTLc := hid hTLc
  have hgx2 : gx < w2.heap.size := by omega
  have hbb2 : bb < w2.heap.size := by omega
  have HQ3 : Hid (w2.cell? ⟨gx, i * 6 + 3, none⟩ = some (.slice oa t.own.length oc) /\ w2.frozen? ⟨gx, i * 6 + 3, none⟩ = false) := hid (⟨(HB2.out.cell (p := ⟨gx, i * 6 + 3, none⟩) hgxl).trans HQ53.out.1, (HB2.out.frozen (p := ⟨gx, i * 6 + 3, none⟩) hgxl).trans HQ53.out.2⟩)
  have b3 : w2.cell? ⟨bb, 3, none⟩ = some (.slice (some ⟨gx, 0, none⟩) 4 4) := (HM2.out.bs 3 (by simp)).1
  have HCL : Hid ((t.sv[k]).cs.length <= 1000) := hid (HSC.out t.sv[k] (List.getElem_mem hkl))
  have HGD : Hid (t.sv.getD k sv0 = t.sv[k]) := hid (by rw [List.getD_eq_getElem?_getD, List.getElem?_eq_getElem hkl]; rfl)
  generalize hsk : t.sv[k] = sk at HTLc HCL HGD ck
  clear hsk hTLc
  go_upto_if 53 with (fail)
  clear k02
  go_cut [9] (fun s wy => ∃ K : Nat, s = .int .i64 (K : Int) /\ K <= t.sv.length /\ Hid (BkA B bb gx i x o t K w wy (.slice (some ⟨gr, 0, none⟩) 32 32) (.slice (some ⟨sg, so, none⟩) t.sv.length sc)))
  case first =>
   by_cases hk9 : o.kd = 9
   .have hk9b : (o.kd == 9) = true := by simpa using hk9
    have HK9 := hid hk9
    obtain ⟨j0, hj, hy0, hy1, hy2⟩ := info_parts infoCel
    have OA : Hid (((w2.alloc (.cells #[] 106)).drew).ownsRow w2.heap.size 106 4 (.slice (some ⟨w2.heap.size, 0, none⟩) 0 0) 0 []) := hid (by
     have := World.ownsRow_made (base := w2.heap.size) (e := 106) (size := 4) w2 #[] 0 (by simp) (by unfold maxLen; omega) (by simp)
     simpa using this.drew)
    have hcl := HCL.out
    have hki2 : (k : Int) < (t.sv.length : Int) := by omega
    have hwk : IntKind.i64.wrap ((k : Int) + 1) = (k : Int) + 1 := by simp only [IntKind.wrap_i64, wrap64]; omega
    have HFIN : Hid (∀ (w8 : World) (v8 : Value), Below w2.heap.size w2 w8 -> TL 106 4 CC w8 v8 sk.cs -> BkA B bb gx i x o t (k + 1) w (w8.setCell ⟨gx, i * 6 + 3, none⟩ v8) (.slice (some ⟨gr, 0, none⟩) 32 32) (.slice (some ⟨sg, so, none⟩) t.sv.length sc)) := hid (fun w8 v8 bw8 tl => by
     have hk8' : Chg (fun _ => False) w2 w8 := Chg.of_below _ bw8
     have tm := HTM2.out.chg hk8' (fun z => z) (fun z => z) (fun z => z)
     have P := (HM2.out.below bw8).putc (i := i) (j := 3) (u := v8) (t' := { t with own := sk.cs }) (v' := (v8, (.slice (some ⟨gr, 0, none⟩) 32 32), (.slice (some ⟨sg, so, none⟩) t.sv.length sc))) hi (by omega) HTX.out HVX.out rfl ⟨tl, tm.sa, tm.cp, tm.rd, tm.rf⟩ rfl
     have hB8 : Below w.heap.size w w8 := HB2.out.trans (bw8.mono HB2.out.size)
     have l1 : i < x.tx.length := by rw [HM2.out.n]; exact hi
     have l2 : i < vs.length := by rw [HM2.out.m]; exact hi
     refine ⟨_, _, _, _, { t with own := sk.cs }, v8, P.1, by simp [l1], by simp [l2], rfl, ?_, (Keep.of_below hB8).trans (P.2.keep (fun ty h z => by subst h; exact absurd rfl z.2.1)), (hB8.mono hB).setCell (p := ⟨gx, i * 6 + 3, none⟩) HM2.out.xB _, ?_, by have := bw8.size; simp; omega⟩
     .unfold savesF
      simp only [HTD.out, HSF.out]
      rw [if_neg HK8.out, if_pos HK9.out, HGD.out]
      simp
     .have e9 : (w8.setCell ⟨gx, i * 6 + 3, none⟩ v8).heap[(⟨w.heap.size + 1, 5, none⟩ : Addr).block]? = w8.heap[(⟨w.heap.size + 1, 5, none⟩ : Addr).block]? := heap_setCell_other w8 _ (w.heap.size + 1) v8 hn3
      exact (World.cell?_of_block e9).trans ((bw8.cell (p := ⟨w.heap.size + 1, 5, none⟩) hw2b).trans t52))
    clear hk9 HM2 HTM2 HB2 HBW HBN HTX HVX HTD HSC HQ5 HCL
    go_wp2
    go_region_held3 (fun W => W.cell? ⟨bb, 3, none⟩ = some (.slice (some ⟨gx, 0, none⟩) 4 4) /\ W.cell? ⟨w.heap.size + 1, 5, none⟩ = some (.slice (some ⟨sg, so, none⟩) t.sv.length sc) /\ W.cell? ⟨sg, so + k * 2 + 1, none⟩ = some (.slice ca sk.cs.length cc)) (go_keep) (first
     | (refine step_append_rs0 liesC oneC rfl (.tmp 59) (.tmp 65) 67 rfl w2.heap.size 106 j0 _ 32 Tryz.underlying67 hj hy0 hy1 hy2 rfl (by decide) (.slice (some ⟨_, 0, none⟩) 0 0) 0 [] rfl ?_ ca cc sk.cs sk.cs.length rfl rfl w2 HTLc.out.1 ?_ ?_ ?_ ?_ ?_
        .with_reducible exact OA.out
        .exact bl
        .unfold maxLen; omega
        .omega
        .first | (simp; done) | (simp; omega) | omega
        intro news v8 w8 hfi8 hown8 hgrow8 _ _
        have bw8 : Below w2.heap.size w2 w8 := by
         refine Below.grown ?_ hgrow8 ?_ ?_
         .exact bl
         .first | (simp; done) | (simp; omega) | omega
         .intro k hk; simp [Value.ownBlock] at hk; first | omega | (subst hk; omega)
        have HT8 := hid (cel_tl (hfi8.below liesC bw8) (by simpa using hown8))
        have HFI := hid (HFIN.out w8 v8 bw8 HT8.out)
        obtain ⟨a8, c8, hv8⟩ := HT8.out.form
        subst hv8
        have m3 : w8.cell? ⟨gx, i * 6 + 3, none⟩ = some (.slice oa t.own.length oc) := ct bw8 hgx2 HQ3.out.1
        have n3 : w8.frozen? ⟨gx, i * 6 + 3, none⟩ = false := (bw8.frozen (p := ⟨gx, i * 6 + 3, none⟩) hgx2).trans HQ3.out.2
        have l3 : w8.cell? ⟨bb, 3, none⟩ = some (.slice (some ⟨gx, 0, none⟩) 4 4) := ct bw8 hbb2 b3
        have l5 : w8.cell? ⟨w.heap.size + 1, 5, none⟩ = some (.slice (some ⟨sg, so, none⟩) t.sv.length sc) := ct bw8 hw2b t52
        have ls : w8.cell? ⟨sg, so + k * 2 + 1, none⟩ = some (.slice ca sk.cs.length cc) := ct bw8 hsg ck
        clear hfi8 hown8 hgrow8 bw8)
     | fail)
    all_goals
     clear b3 t52 ck
     go_wp2
     go_meet
     case rel => exact ⟨k + 1, by simp, by omega, HFI⟩
   .have hk9b : (o.kd == 9) = false := by simpa using hk9
    have HF : Hid (BkA B bb gx i x o t k w w2 (.slice (some ⟨gr, 0, none⟩) 32 32) (.slice (some ⟨sg, so, none⟩) t.sv.length sc)) := hid (⟨x, _, _, _, t, _, HM2.out, HTX.out, HVX.out, rfl, by unfold savesF; simp only [HTD.out, HSF.out]; rw [if_neg HK8.out, if_neg hk9], Keep.of_below HB2.out, HB2.out.mono hB, t52, hw2b⟩)
    clear hk9
    go_wp2
    go_meet
    case rel => exact ⟨k, rfl, by omega, HF⟩
  case rest =>
   rename World => w3
   obtain ⟨K, hsK, hK, HBK⟩ := hcut
   subst hsK
   obtain ⟨x', cv', hv', vs', t', ov', hM3, htx', hvx', hsv', heq, hkeep, hbel, hbox, hw3⟩ := HBK.out
   clear HM2 HTM2 HB2 HTLc HCL HGD b3 t52 ck HBK HBW HBN HTX HVX HTD HSC HQ5 HQ53 HQ3
   obtain ⟨t'', v'', e1, e2, htm3, hc3⟩ := hM3.at hi
   rw [htx'] at e1
   rw [hvx'] at e2
   injection e1 with e1
   injection e2 with e2
   subst e1 e2
   have HQ5 : Hid (w3.cell? ⟨gx, i * 6 + 5, none⟩ = some (.slice (some ⟨sg, so, none⟩) t.sv.length sc) /\ w3.frozen? ⟨gx, i * 6 + 5, none⟩ = false) := ⟨(hc3 5 (by omega)).1, (hc3 5 (by omega)).2⟩
   have hsa : TL 146 2 CSt w3 (.slice (some ⟨sg, so, none⟩) t.sv.length sc) t.sv := hsv' ▸ htm3.sa
   have hcap : t.sv.length <= sc := htm3.cp _ _ _ rfl
   obtain ⟨ps, hps, hRS, hpt⟩ := (hsa.take hK).flat
   have hpl : ps.length = K := by rw [<- List.length_map (f := Prod.fst), hps]; simp; omega
   have HRS : Hid (RS 2 CSp 0 w3 (.slice (some ⟨sg, so, none⟩) ps.length sc) ps) := hid (by rw [hpl]; exact hRS)
   subst hpl
   have HFIN : Hid (∀ (w8 : World) (v8 : Value) (news : List Value), Below w3.heap.size w3 w8 -> Fill 2 CSp 0 ps ps.length news w3 -> w8.ownsRow w3.heap.size 146 2 v8 ps.length news -> SavesP B bb gx x i o w (.returned (.int .i64 0)) (w8.setCell ⟨gx, i * 6 + 5, none⟩ v8)) := hid (fun w8 v8 news bw8 hf ho => by
    have hk8' : Chg (fun _ => False) w3 w8 := Chg.of_below _ bw8
    have tl2 := sav_tl (hf.below liesSp bw8) ho (fun p hp => (hpt p hp).chg (fun z => z) hk8' (fun h => h))
    rw [hps] at tl2
    have tm := htm3.chg hk8' (fun z => z) (fun z => z) (fun z => z)
    have P := (hM3.below bw8).putc (i := i) (j := 5) (u := v8) (t' := { t' with sv := t.sv.take ps.length }) (v' := (ov', (.slice (some ⟨gr, 0, none⟩) 32 32), v8)) hi (by omega) htx' hvx' rfl ⟨tm.ow, tl2, own_cap ho, tm.rd, tm.rf⟩ rfl
    refine ⟨_, _, _, by rw [heq], by rw [heq]; exact P.1, (hkeep.trans (Keep.of_below bw8)).trans (P.2.keep (fun ty h z => by subst h; exact absurd rfl z.2.1)), (hbel.trans (bw8.mono (by have := hbel.size; omega))).setCell (p := ⟨gx, i * 6 + 5, none⟩) hM3.xB _⟩)
   obtain ⟨i0, hi0, hz0, hz1, hz2⟩ := info_parts infoSa
   have OA : Hid (((w3.alloc (.cells #[] 146)).drew).ownsRow w3.heap.size 146 2 (.slice (some ⟨w3.heap.size, 0, none⟩) 0 0) 0 []) := hid (by
    have := World.ownsRow_made (base := w3.heap.size) (e := 146) (size := 2) w3 #[] 0 (by simp) (by unfold maxLen; omega) (by simp)
    simpa using this.drew)
   have b3 : w3.cell? ⟨bb, 3, none⟩ = some (.slice (some ⟨gx, 0, none⟩) 4 4) := (hM3.bs 3 (by simp)).1
   have hbb3 : bb < w3.heap.size := tag_lt hM3.bt
   have hgx3 : gx < w3.heap.size := tag_lt hM3.xt
   have hKs : ps.length <= sc := by omega
   have hKi : (ps.length : Int) <= (sc : Int) := by omega
   have hKn : ¬ ((ps.length : Int) < 0) := by omega
   have hw3a : w.heap.size < w3.heap.size := by omega
   clear hM3 htx' hvx' hsv' heq hkeep hbel htm3 hc3 hsa hps hRS hpt
   go_wp2
   go_region_held3 (fun W => W.cell? ⟨bb, 3, none⟩ = some (.slice (some ⟨gx, 0, none⟩) 4 4) /\ W.cell? ⟨w.heap.size + 1, 5, none⟩ = some (.slice (some ⟨sg, so, none⟩) t.sv.length sc)) (go_keep) (first
    | (refine step_append_rs0 liesSp oneSp rfl (.tmp 76) (.tmp 80) 68 rfl w3.heap.size 146 i0 _ 40 Tryz.underlying68 hi0 hz0 hz1 hz2 rfl (by decide) (.slice (some ⟨_, 0, none⟩) 0 0) 0 [] rfl ?_ (some ⟨sg, so, none⟩) sc ps ps.length rfl rfl w3 HRS.out ?_ ?_ ?_ ?_ ?_
       .with_reducible exact OA.out
       .exact bl
       .unfold maxLen; omega
       .omega
       .first | (simp; done) | (simp; omega) | omega
       intro news v8 w8 hfi8 hown8 hgrow8 _ _
       have bw8 : Below w3.heap.size w3 w8 := by
        refine Below.grown ?_ hgrow8 ?_ ?_
        .exact bl
        .first | (simp; done) | (simp; omega) | omega
        .intro k hk; simp [Value.ownBlock] at hk; first | omega | (subst hk; omega)
       have HFI := hid (HFIN.out w8 v8 news bw8 hfi8 (by simpa using hown8))
       obtain ⟨a8, c8, hv8⟩ := formR hown8
       subst hv8
       simp only [Nat.zero_add] at HFI
       have m5 : w8.cell? ⟨gx, i * 6 + 5, none⟩ = some (.slice (some ⟨sg, so, none⟩) t.sv.length sc) := ct bw8 hgx3 HQ5.out.1
       have n5 : w8.frozen? ⟨gx, i * 6 + 5, none⟩ = false := (bw8.frozen (p := ⟨gx, i * 6 + 5, none⟩) hgx3).trans HQ5.out.2
       have l3 : w8.cell? ⟨bb, 3, none⟩ = some (.slice (some ⟨gx, 0, none⟩) 4 4) := ct bw8 hbb3 b3
       have l5 : w8.cell? ⟨w.heap.size + 1, 5, none⟩ = some (.slice (some ⟨sg, so, none⟩) t.sv.length sc) := ct bw8 hw3 hbox
       clear hfi8 hown8 hgrow8 bw8)
    | fail)
   all_goals
    clear b3 hbox
    go_wp2
    go_ret
    exact HFI.out
theorem saves_spec (B bb gx i : Nat) (x : Bas) (o : Opn) (cv hv : Value) (vs : List (Value × Value × Value)) (w : World) (hM : Mem B bb gx w x cv hv vs) (hi : i < 4) (hop : (x.tx.getD i tx0).op = true) (hb : Bnd x) (hB : B <= w.heap.size) :
 Calls Tryz.prog 41 #[.pointer (some ⟨bb, 0, none⟩), .agg #[.int .i64 o.kd, .int .i64 o.ss, .int .i64 o.tb, .int .i64 o.ky, .int .i64 o.vl, .int .i64 o.md, .string o.nm], .int .i64 (i : Int)] w fun e w' => SavesP B bb gx x i o w e w' := by
 by_cases h : o.kd = 8
 .exact saves_8 B bb gx i x o cv hv vs w hM hi hop hb hB h
 .exact saves_o B bb gx i x o cv hv vs w hM hi hop hb hB h
end Go.Proofs.YtblkgicbimflhaaGreat
