import Derived.Test.YtblkgicbimflhaaGreatSAO
namespace Go.Proofs.YtblkgicbimflhaaGreat
open Go.ChangeShapes Go.WideShapes Go.ChangeAt Go.RowKit
set_option linter.unusedVariables false
set_option linter.unusedSimpArgs false
set_option maxRecDepth 100000
set_option maxHeartbeats 16000000
theorem Mem.setrd {B bb gx : Nat} {w : World} {x : Bas} {cv hv : Value} {vs : List (Value × Value × Value)} (h : Mem B bb gx w x cv hv vs) {i : Nat} (hi : i < 4) {t : Txn} {v : Value × Value × Value} (htx : x.tx[i]? = some t) (hvx : vs[i]? = some v) (hop : t.op = true) {gr k : Nat} (hv2 : v.2.1 = .slice (some ⟨gr, 0, none⟩) 32 32) (hk : k < 32) :
 Mem B bb gx (w.setCell ⟨gr, k, none⟩ (.bool true)) { x with tx := x.tx.set i { t with rs := t.rs.set k true } } cv hv vs /\ Chg (fun ty => ty = 4) w (w.setCell ⟨gr, k, none⟩ (.bool true)) := by
 have h1 : i < x.tx.length := by rw [h.n]; exact hi
 have h2 : i < vs.length := by rw [h.m]; exact hi
 have e1 : x.tx[i] = t := by rw [List.getElem?_eq_getElem h1] at htx; injection htx
 have e2 : vs[i] = v := by rw [List.getElem?_eq_getElem h2] at hvx; injection hvx
 have htm := h.tm i h1 h2
 rw [e1, e2] at htm
 obtain ⟨hl, g, eg, hBg, htg, hbg⟩ := htm.rd hop
 have eg2 : g = gr := by
  rw [hv2] at eg
  injection eg with eg _ _
  injection eg with eg
  injection eg with eg _ _
  exact eg.symm
 subst eg2
 have hkc : Chg (fun ty => ty = 4) w (w.setCell ⟨g, k, none⟩ (.bool true)) := Chg.set _ rfl htg
 have hz : List.zipWith txV (x.tx.set i { t with rs := t.rs.set k true }) vs = List.zipWith txV x.tx vs := by
  have q := zip_set (ts := x.tx) (vs := vs) (i := i) { t with rs := t.rs.set k true } v
  rw [show vs.set i v = vs by rw [<- e2]; exact List.set_getElem_self h2] at q
  rw [<- q]
  have e3 : txV { t with rs := t.rs.set k true } v = (List.zipWith txV x.tx vs)[i]'(by rw [List.length_zipWith, h.n, h.m]; omega) := by rw [List.getElem_zipWith, e1, e2]; rfl
  rw [e3]
  exact List.set_getElem_self _
 refine ⟨⟨by simpa using h.n, h.m, h.bs.chg hkc (by decide) h.bt, hkc.tagk (by decide) h.bt, h.bB, ?_, hkc.tagk (by decide) h.xt, h.xB, fun j hj hj' => ?_, h.ds, h.cm.chg hkc (by decide) (by decide), h.hi.chg hkc (by decide) (by decide)⟩, hkc⟩
 .rw [hz]
  exact h.xs.chg hkc (by decide) h.xt
 .by_cases e : j = i
  .subst e
   simp only [List.getElem_set_self]
   rw [e2]
   refine ⟨htm.ow.chg (by decide) hkc (fun h => h), htm.sa.chg (by decide) hkc (fun h => h.chg (by decide) hkc), htm.cp, fun _ => ⟨by simpa using hl, g, eg, hBg, tag_set _ htg, ?_⟩, htm.rf.1, fun c hc => by simpa using htm.rf.2 c hc⟩
   have := hbg.set k (.bool true) (by rw [List.length_map, hl]; exact hk)
   rw [show (t.rs.set k true).map Value.bool = (t.rs.map Value.bool).set k (.bool true) by rw [List.map_set]]
   exact this
  .have e' : i ≠ j := fun z => e z.symm
   simp only [List.getElem_set_ne e']
   have hjx : j < x.tx.length := by simpa using hj
   have tm := h.tm j hjx hj'
   refine ⟨tm.ow.chg (by decide) hkc (fun h => h), tm.sa.chg (by decide) hkc (fun h => h.chg (by decide) hkc), tm.cp, fun ho => ?_, tm.rf.1, fun c hc => by simpa using tm.rf.2 c hc⟩
   obtain ⟨hl2, g2, eg2, hB2, ht2, hb2⟩ := tm.rd ho
   have hne : g ≠ g2 := fun z => by
    subst z
    refine h.ds i j h2 hj' e' g ?_ ?_
    .rw [e2, eg]; rfl
    .rw [eg2]; rfl
   exact ⟨hl2, g2, eg2, hB2, tag_set _ ht2, hb2.other hne⟩
theorem run_2 (B bb gx i : Nat) (x : Bas) (tb ky vl md : Int) (nm : ByteArray) (cv hv : Value) (vs : List (Value × Value × Value)) (w : World) (hM : Mem B bb gx w x cv hv vs) (hi : i < 4) (hop : (x.tx.getD i tx0).op = true) (hb : Bnd x) (hB : B <= w.heap.size) (ht0 : ¬ tb < 0) (ht32 : ¬ 32 <= tb) :
 Calls Tryz.prog 21 #[.pointer (some ⟨bb, 0, none⟩), .agg #[.int .i64 2, .int .i64 ((i : Int) + 1), .int .i64 tb, .int .i64 ky, .int .i64 vl, .int .i64 md, .string nm]] w fun e w' => RunP B bb gx w (runF x ⟨2, (i : Int) + 1, tb, ky, vl, md, nm⟩) e w' := by
 have hin0 : ((i : Int) + 1 - 1).toNat = i := by omega
 obtain ⟨k, rfl⟩ : ∃ k : Nat, tb = k := ⟨tb.toNat, by omega⟩
 have hk32 : k < 32 := by omega
 have er : runF x ⟨2, (i : Int) + 1, (k : Int), ky, vl, md, nm⟩ = ({ x with tx := x.tx.set i { (x.tx.getD i tx0) with rs := (x.tx.getD i tx0).rs.set k true } }, (if (seesF x.cms (x.tx.getD i tx0).bg (x.tx.getD i tx0).own (k : Int) ky).2 then ⟨0, (seesF x.cms (x.tx.getD i tx0).bg (x.tx.getD i tx0).own (k : Int) ky).1, 0, true, []⟩ else ⟨0, 0, 0, false, []⟩)) := by
  unfold runF
  simp only [hin0, hop, Int.toNat_natCast]
  rw [if_neg (by omega), if_neg (by decide), if_neg (by omega)]
  simp
 rw [er]
 clear er hin0
 obtain ⟨t, gr, oa, oc, sa, sc, ma, mc, ha, hc, rfl, rfl, htx, hvx, hTM, hcell, htD, hmem, hop, hrl, hgB, hgt, hgb, q0, q1, q2, q3, q4, q5, b3, hgxl, hbbl⟩ := hM.opn hi hop
 rw [htD]
 obtain ⟨sf, hsf⟩ : ∃ z, z = seesF x.cms t.bg t.own (k : Int) ky := ⟨_, rfl⟩
 rw [<- hsf]
 obtain ⟨sx, fd⟩ := sf
 have HG := hid hsf
 clear hsf
 simp only
 obtain ⟨hii, hs1, hs2, hwr⟩ := iok hi
 have hin : ((i : Int) + 1 - 1).toNat = i := by omega
 have HIN := hid hin
 clear hin
 have hgl1 : gx < w.heap.size + 1 := by omega
 have hbl1 : bb < w.heap.size + 1 := by omega
 obtain ⟨W1, hW1, PR⟩ := pre5 w 2 ((i : Int) + 1) (k : Int) ky vl md nm true t.md t.bg (.slice oa t.own.length oc) (.slice (some ⟨gr, 0, none⟩) 32 32) (.slice sa t.sv.length sc)
 have HM1 := hid (hM.below PR.out.be)
 have HTM1 := hid (hTM.chg (Chg.of_below (fun _ => False) PR.out.be) (fun z => z) (fun z => z) (fun z => z))
 have HBN := hid hb
 have HTX := hid htx
 have HVX := hid hvx
 have HTD := hid htD
 have HMEM := hid hmem
 have HOP := hid hop
 have HRL := hid hrl
 have HGT := hid hgt
 have HGB := hid hgb
 have HCL := hid hcell
 clear hM hTM hb htx hvx hcell hmem htD hop hrl hgt hgb
 go_enter Tryz.func21, Tryz.ntmps21
 go_upto_region 11 with (fail)
 rw [<- hW1]
 clear hW1 q0 q1 q2 q3 q4 q5 b3
 obtain ⟨k0, k1, k2, k3, k4, k5, k6⟩ := kc6 PR.out.ka
 have b3 : W1.cell? ⟨bb, 3, none⟩ = some (.slice (some ⟨gx, 0, none⟩) 4 4) := (HM1.out.bs 3 (by simp)).1
 have q4 : W1.cell? ⟨gx, i * 6 + 4, none⟩ = some (.slice (some ⟨gr, 0, none⟩) 32 32) := (PR.out.be.cell (p := ⟨gx, i * 6 + 4, none⟩) hgxl).trans (HCL.out 4 (by omega)).1
 have hg4 := HTM1.out.rd HOP.out
 obtain ⟨hl4, gr4, e4, hB4, ht4, hb4⟩ := hg4
 have e44 : gr4 = gr := by
  simp only at e4
  injection e4 with e4 _ _
  injection e4 with e4
  injection e4 with e4 _ _
  exact e4.symm
 subst e44
 obtain ⟨b4, hb40⟩ : ∃ b4 : Bool, W1.cell? ⟨gr4, k, none⟩ = some (.bool b4) := by
  have := (hb4 k (by rw [List.length_map, hl4]; exact hk32)).1
  rw [List.getElem?_map, List.getElem?_eq_getElem (by rw [hl4]; exact hk32)] at this
  exact ⟨_, this⟩
 have hf40 : W1.frozen? ⟨gr4, k, none⟩ = false := (hb4 k (by rw [List.length_map, hl4]; exact hk32)).2
 have hsz : W1.heap.size = w.heap.size + 1 + 1 + 1 + 1 := PR.out.sz
 have hgrl : gr4 < w.heap.size := tag_lt HGT.out
 have hm1 : ¬ bb = gr4 := tag_ne HM1.out.bt (tag_below HGT.out PR.out.be) (by decide)
 have hm2 : ¬ gr4 = bb := fun z => hm1 z.symm
 have hm3 : ¬ gx = gr4 := tag_ne HM1.out.xt (tag_below HGT.out PR.out.be) (by decide)
 have hm4 : ¬ gr4 = gx := fun z => hm3 z.symm
 have hm5 : ¬ w.heap.size = gr4 := by omega
 have hm6 : ¬ gr4 = w.heap.size := by omega
 have HMD : Hid (MidP B bb gx w { x with tx := x.tx.set i { t with rs := t.rs.set k true } } (.slice ma x.cms.length mc) (.slice ha x.hs.length hc) vs [.int .i64 2, .int .i64 ((i : Int) + 1), .int .i64 (k : Int), .int .i64 ky, .int .i64 vl, .int .i64 md, .string nm] [.bool true, .int .i64 t.md, .int .i64 t.bg, .slice oa t.own.length oc, .slice (some ⟨gr4, 0, none⟩) 32 32, .slice sa t.sv.length sc] (W1.setCell ⟨gr4, k, none⟩ (.bool true)).drew) := hid (by
  have P2 := HM1.out.setrd hi HTX.out HVX.out HOP.out (gr := gr4) (k := k) rfl hk32
  have key : MidP B bb gx w { x with tx := x.tx.set i { t with rs := t.rs.set k true } } (.slice ma x.cms.length mc) (.slice ha x.hs.length hc) vs [.int .i64 2, .int .i64 ((i : Int) + 1), .int .i64 (k : Int), .int .i64 ky, .int .i64 vl, .int .i64 md, .string nm] [.bool true, .int .i64 t.md, .int .i64 t.bg, .slice oa t.own.length oc, .slice (some ⟨gr4, 0, none⟩) 32 32, .slice sa t.sv.length sc] (W1.setCell ⟨gr4, k, none⟩ (.bool true)) := ⟨P2.1, (Keep.of_below PR.out.be).trans (P2.2.keep (fun ty h z => by subst h; exact z.2.2.2.2 rfl)), (PR.out.be.mono hB).setCell (p := ⟨gr4, k, none⟩) hgB _, PR.out.ka.chg P2.2 (by decide) PR.out.ga, PR.out.kb.chg P2.2 (by decide) PR.out.gb, PR.out.kc.chg P2.2 (by decide) PR.out.gc, PR.out.kd.chg P2.2 (by decide) PR.out.gd, P2.2.tagk (by decide) PR.out.gb, P2.2.tagk (by decide) PR.out.gd⟩
  exact key.below ((Below.refl _ _).drew) hB)
 have hol := HBN.out.ow t HMEM.out
 have hkk : (k : Int) < 32 := by omega
 have hk0 : ¬ (k : Int) < 0 := by omega
 have hk1 : ¬ (32 : Int) <= (k : Int) := by omega
 clear hl4 hb4 ht4 e4 hB4 hsz PR HM1 HTM1
 go_upto_region 19 with (fail)
 go_cut [] (fun wx => Hid (MidP B bb gx w { x with tx := x.tx.set i { t with rs := t.rs.set k true } } (.slice ma x.cms.length mc) (.slice ha x.hs.length hc) vs [.int .i64 2, .int .i64 ((i : Int) + 1), .int .i64 (k : Int), .int .i64 ky, .int .i64 vl, .int .i64 md, .string nm] [.bool true, .int .i64 t.md, .int .i64 t.bg, .slice oa t.own.length oc, .slice (some ⟨gr4, 0, none⟩) 32 32, .slice sa t.sv.length sc] wx))
 case first =>
  go_region_held3 (fun W => W.cell? ⟨bb, 3, none⟩ = some (.slice (some ⟨gx, 0, none⟩) 4 4) /\ W.cell? ⟨gx, i * 6 + 4, none⟩ = some (.slice (some ⟨gr4, 0, none⟩) 32 32) /\ W.cell? ⟨w.heap.size, 2, none⟩ = some (.int .i64 (k : Int))) (go_keep) (fail)
  go_wp2
  go_meet
  case rel => with_reducible exact HMD
 rename World => wx
 clear HMD k0 k1 k2 k3 k4 k5 k6 q4 b3 hb40 hf40 hm1 hm2 hm3 hm4 hm5 hm6
 have HMD := hcut
 clear hcut
 have hlx := HMD.out.lt
 have hgxx : gx < wx.heap.size := by omega
 have hbbx : bb < wx.heap.size := by omega
 obtain ⟨k0, k1, k2, k3, k4, k5, k6⟩ := kc6 HMD.out.ka
 obtain ⟨t0, t1, t2, t3, t4, t5⟩ := kc5 HMD.out.kc
 have htm : TxM B wx { t with rs := t.rs.set k true } (.slice oa t.own.length oc, .slice (some ⟨gr4, 0, none⟩) 32 32, .slice sa t.sv.length sc) := by
  obtain ⟨t9, v9, h9, h8, h7, _⟩ := HMD.out.m.at hi
  have hl9 : i < x.tx.length := by have := List.getElem?_eq_some_iff.1 HTX.out; exact this.1
  rw [List.getElem?_set_self hl9] at h9
  rw [HVX.out] at h8
  injection h9 with h9
  injection h8 with h8
  subst h9 h8
  exact h7
 have hsee := sees_spec bb x.ck ma mc (.slice ha x.hs.length hc) (.slice (some ⟨gx, 0, none⟩) 4 4) (.slice (some ⟨gr4, 0, none⟩) 32 32) (.slice sa t.sv.length sc) true t.md t.bg oa oc x.cms t.own (k : Int) ky wx HBN.out.bm (by omega) hbbx HMD.out.m.bs HMD.out.m.cm.rs htm.ow.1
 rw [<- HG.out] at hsee
 simp only at hsee
 clear HG htm
 go_wp2_with (go_at_call 38; fail)
 refine hsee.mono ?_
 rintro e w2 ⟨rfl, hb2⟩
 have HMD2 := hid (HMD.out.below hb2 hB)
 clear hsee hb2 HMD t0 t1 t2 t3 t4 t5
 have x0 : w2.cell? ⟨w.heap.size + 1 + 1 + 1, 0, none⟩ = some (.int .i64 0) := (HMD2.out.kd 0 (by simp)).1
 have y0 : w2.frozen? ⟨w.heap.size + 1 + 1 + 1, 0, none⟩ = false := (HMD2.out.kd 0 (by simp)).2
 have r0 : w2.cell? ⟨w.heap.size + 1, 0, none⟩ = some (.int .i64 0) := (HMD2.out.kb 0 (by simp)).1
 have s0 : w2.frozen? ⟨w.heap.size + 1, 0, none⟩ = false := (HMD2.out.kb 0 (by simp)).2
 obtain ⟨⟨-, -⟩, ⟨x1, y1⟩⟩ := kb1 HMD2.out.kd
 obtain ⟨⟨-, -⟩, ⟨r1, s1⟩⟩ := kb1 HMD2.out.kb
 obtain ⟨⟨-, -⟩, ⟨-, -⟩, ⟨x2, y2⟩⟩ := kb2 HMD2.out.kd
 obtain ⟨⟨-, -⟩, ⟨-, -⟩, ⟨r2, s2⟩⟩ := kb2 HMD2.out.kb
 obtain ⟨⟨-, -⟩, ⟨-, -⟩, ⟨-, -⟩, ⟨x3, y3⟩⟩ := kb3 HMD2.out.kd
 obtain ⟨⟨-, -⟩, ⟨-, -⟩, ⟨-, -⟩, ⟨r3, s3⟩⟩ := kb3 HMD2.out.kb
 obtain ⟨⟨-, -⟩, ⟨-, -⟩, ⟨-, -⟩, ⟨-, -⟩, ⟨x4, y4⟩⟩ := kb4 HMD2.out.kd
 obtain ⟨⟨-, -⟩, ⟨-, -⟩, ⟨-, -⟩, ⟨-, -⟩, ⟨r4, s4⟩⟩ := kb4 HMD2.out.kb
 cases fd
 .have HF : Hid (RunP B bb gx w ({ x with tx := x.tx.set i { t with rs := t.rs.set k true } }, ⟨0, 0, 0, false, []⟩) (.returned (.agg #[.int .i64 0, .int .i64 0, .int .i64 0, .bool false, .slice none 0 0])) (set5 w2 (w.heap.size + 1) (.int .i64 0) (.int .i64 0) (.int .i64 0) (.bool false) (.slice none 0 0))) := hid (run_fin (r := ({ x with tx := x.tx.set i { t with rs := t.rs.set k true } }, ⟨0, 0, 0, false, []⟩)) HMD2.out.m HMD2.out.k HMD2.out.b hB (Nat.le_succ _) (HMD2.out.gb) (gr_nil _ _ _ _ _))
  unfold set5 at HF
  have hn1 : ¬ (w.heap.size + 1 + 1 + 1) = w.heap.size + 1 := by omega
  have hn2 : ¬ w.heap.size + 1 = w.heap.size + 1 + 1 + 1 := by omega
  clear HMD2 HCL HBN HTX HVX HTD HMEM HOP HRL HGT HGB k0 k1 k2 k3 k4 k5 k6
  go_wp2
  refine bodyPost_ret (v := .agg #[.int .i64 0, .int .i64 0, .int .i64 0, .bool false, .slice none 0 0]) (by simp [results, Tryz.results21, go_sem, r0, r1, r2, r3, r4, s0, s1, s2, s3, s4]) rfl ?_
  with_reducible exact HF.out
 .have HF : Hid (RunP B bb gx w ({ x with tx := x.tx.set i { t with rs := t.rs.set k true } }, ⟨0, sx, 0, true, []⟩) (.returned (.agg #[.int .i64 0, .int .i64 sx, .int .i64 0, .bool true, .slice none 0 0])) (set5 ((w2.setCell ⟨w.heap.size + 1 + 1 + 1, 1, none⟩ (.int .i64 sx)).setCell ⟨w.heap.size + 1 + 1 + 1, 3, none⟩ (.bool true)) (w.heap.size + 1) (.int .i64 0) (.int .i64 sx) (.int .i64 0) (.bool true) (.slice none 0 0))) := hid (run_fin (r := ({ x with tx := x.tx.set i { t with rs := t.rs.set k true } }, ⟨0, sx, 0, true, []⟩)) (HMD2.out.m.chg ((Chg.set (T := fun ty => ty = 38) (.int .i64 sx) rfl (HMD2.out.gd)).trans (Chg.set (T := fun ty => ty = 38) (.bool true) rfl (tag_set _ (HMD2.out.gd)))) (fun ty h => .inl h)) ((HMD2.out.k.newset (c := w.heap.size + 1 + 1 + 1) (j := 1) (u := .int .i64 sx) (by omega)).newset (c := w.heap.size + 1 + 1 + 1) (j := 3) (u := .bool true) (by omega)) ((HMD2.out.b.setCell (p := ⟨w.heap.size + 1 + 1 + 1, 1, none⟩) (by show B <= w.heap.size + 1 + 1 + 1; omega) (.int .i64 sx)).setCell (p := ⟨w.heap.size + 1 + 1 + 1, 3, none⟩) (by show B <= w.heap.size + 1 + 1 + 1; omega) (.bool true)) hB (Nat.le_succ _) (tag_set _ (tag_set _ (HMD2.out.gb))) (gr_nil _ _ _ _ _))
  unfold set5 at HF
  have hn1 : ¬ (w.heap.size + 1 + 1 + 1) = w.heap.size + 1 := by omega
  have hn2 : ¬ w.heap.size + 1 = w.heap.size + 1 + 1 + 1 := by omega
  clear HMD2 HCL HBN HTX HVX HTD HMEM HOP HRL HGT HGB k0 k1 k2 k3 k4 k5 k6
  go_wp2
  refine bodyPost_ret (v := .agg #[.int .i64 0, .int .i64 sx, .int .i64 0, .bool true, .slice none 0 0]) (by simp [results, Tryz.results21, go_sem, r0, r1, r2, r3, r4, s0, s1, s2, s3, s4]) rfl ?_
  with_reducible exact HF.out
theorem run_3 (B bb gx i : Nat) (x : Bas) (tb ky vl md : Int) (nm : ByteArray) (cv hv : Value) (vs : List (Value × Value × Value)) (w : World) (hM : Mem B bb gx w x cv hv vs) (hi : i < 4) (hop : (x.tx.getD i tx0).op = true) (hb : Bnd x) (hB : B <= w.heap.size) (ht0 : ¬ tb < 0) (ht32 : ¬ 32 <= tb) :
 Calls Tryz.prog 21 #[.pointer (some ⟨bb, 0, none⟩), .agg #[.int .i64 3, .int .i64 ((i : Int) + 1), .int .i64 tb, .int .i64 ky, .int .i64 vl, .int .i64 md, .string nm]] w fun e w' => RunP B bb gx w (runF x ⟨3, (i : Int) + 1, tb, ky, vl, md, nm⟩) e w' := by
 have hin0 : ((i : Int) + 1 - 1).toNat = i := by omega
 obtain ⟨k, rfl⟩ : ∃ k : Nat, tb = k := ⟨tb.toNat, by omega⟩
 have hk32 : k < 32 := by omega
 have er : runF x ⟨3, (i : Int) + 1, (k : Int), ky, vl, md, nm⟩ = ({ x with tx := x.tx.set i { (x.tx.getD i tx0) with rs := (x.tx.getD i tx0).rs.set k true } }, ⟨0, 0, 0, false, listF x.cms (x.tx.getD i tx0).bg (x.tx.getD i tx0).own (k : Int)⟩) := by
  unfold runF
  simp only [hin0, hop, Int.toNat_natCast]
  rw [if_neg (by omega), if_neg (by decide), if_neg (by omega)]
  simp
 rw [er]
 clear er hin0
 obtain ⟨t, gr, oa, oc, sa, sc, ma, mc, ha, hc, rfl, rfl, htx, hvx, hTM, hcell, htD, hmem, hop, hrl, hgB, hgt, hgb, q0, q1, q2, q3, q4, q5, b3, hgxl, hbbl⟩ := hM.opn hi hop
 rw [htD]
 obtain ⟨lf, hlf⟩ : ∃ z, z = listF x.cms t.bg t.own (k : Int) := ⟨_, rfl⟩
 rw [<- hlf]
 have HG := hid hlf
 clear hlf
 obtain ⟨hii, hs1, hs2, hwr⟩ := iok hi
 have hin : ((i : Int) + 1 - 1).toNat = i := by omega
 have HIN := hid hin
 clear hin
 have hgl1 : gx < w.heap.size + 1 := by omega
 have hbl1 : bb < w.heap.size + 1 := by omega
 obtain ⟨W1, hW1, PR⟩ := pre5 w 3 ((i : Int) + 1) (k : Int) ky vl md nm true t.md t.bg (.slice oa t.own.length oc) (.slice (some ⟨gr, 0, none⟩) 32 32) (.slice sa t.sv.length sc)
 have HM1 := hid (hM.below PR.out.be)
 have HTM1 := hid (hTM.chg (Chg.of_below (fun _ => False) PR.out.be) (fun z => z) (fun z => z) (fun z => z))
 have HBN := hid hb
 have HTX := hid htx
 have HVX := hid hvx
 have HTD := hid htD
 have HMEM := hid hmem
 have HOP := hid hop
 have HRL := hid hrl
 have HGT := hid hgt
 have HGB := hid hgb
 have HCL := hid hcell
 clear hM hTM hb htx hvx hcell hmem htD hop hrl hgt hgb
 go_enter Tryz.func21, Tryz.ntmps21
 go_upto_region 11 with (fail)
 rw [<- hW1]
 clear hW1 q0 q1 q2 q3 q4 q5 b3
 obtain ⟨k0, k1, k2, k3, k4, k5, k6⟩ := kc6 PR.out.ka
 have b3 : W1.cell? ⟨bb, 3, none⟩ = some (.slice (some ⟨gx, 0, none⟩) 4 4) := (HM1.out.bs 3 (by simp)).1
 have q4 : W1.cell? ⟨gx, i * 6 + 4, none⟩ = some (.slice (some ⟨gr, 0, none⟩) 32 32) := (PR.out.be.cell (p := ⟨gx, i * 6 + 4, none⟩) hgxl).trans (HCL.out 4 (by omega)).1
 have hg4 := HTM1.out.rd HOP.out
 obtain ⟨hl4, gr4, e4, hB4, ht4, hb4⟩ := hg4
 have e44 : gr4 = gr := by
  simp only at e4
  injection e4 with e4 _ _
  injection e4 with e4
  injection e4 with e4 _ _
  exact e4.symm
 subst e44
 obtain ⟨b4, hb40⟩ : ∃ b4 : Bool, W1.cell? ⟨gr4, k, none⟩ = some (.bool b4) := by
  have := (hb4 k (by rw [List.length_map, hl4]; exact hk32)).1
  rw [List.getElem?_map, List.getElem?_eq_getElem (by rw [hl4]; exact hk32)] at this
  exact ⟨_, this⟩
 have hf40 : W1.frozen? ⟨gr4, k, none⟩ = false := (hb4 k (by rw [List.length_map, hl4]; exact hk32)).2
 have hsz : W1.heap.size = w.heap.size + 1 + 1 + 1 + 1 := PR.out.sz
 have hgrl : gr4 < w.heap.size := tag_lt HGT.out
 have hm1 : ¬ bb = gr4 := tag_ne HM1.out.bt (tag_below HGT.out PR.out.be) (by decide)
 have hm2 : ¬ gr4 = bb := fun z => hm1 z.symm
 have hm3 : ¬ gx = gr4 := tag_ne HM1.out.xt (tag_below HGT.out PR.out.be) (by decide)
 have hm4 : ¬ gr4 = gx := fun z => hm3 z.symm
 have hm5 : ¬ w.heap.size = gr4 := by omega
 have hm6 : ¬ gr4 = w.heap.size := by omega
 have HMD : Hid (MidP B bb gx w { x with tx := x.tx.set i { t with rs := t.rs.set k true } } (.slice ma x.cms.length mc) (.slice ha x.hs.length hc) vs [.int .i64 3, .int .i64 ((i : Int) + 1), .int .i64 (k : Int), .int .i64 ky, .int .i64 vl, .int .i64 md, .string nm] [.bool true, .int .i64 t.md, .int .i64 t.bg, .slice oa t.own.length oc, .slice (some ⟨gr4, 0, none⟩) 32 32, .slice sa t.sv.length sc] (W1.setCell ⟨gr4, k, none⟩ (.bool true)).drew) := hid (by
  have P2 := HM1.out.setrd hi HTX.out HVX.out HOP.out (gr := gr4) (k := k) rfl hk32
  have key : MidP B bb gx w { x with tx := x.tx.set i { t with rs := t.rs.set k true } } (.slice ma x.cms.length mc) (.slice ha x.hs.length hc) vs [.int .i64 3, .int .i64 ((i : Int) + 1), .int .i64 (k : Int), .int .i64 ky, .int .i64 vl, .int .i64 md, .string nm] [.bool true, .int .i64 t.md, .int .i64 t.bg, .slice oa t.own.length oc, .slice (some ⟨gr4, 0, none⟩) 32 32, .slice sa t.sv.length sc] (W1.setCell ⟨gr4, k, none⟩ (.bool true)) := ⟨P2.1, (Keep.of_below PR.out.be).trans (P2.2.keep (fun ty h z => by subst h; exact z.2.2.2.2 rfl)), (PR.out.be.mono hB).setCell (p := ⟨gr4, k, none⟩) hgB _, PR.out.ka.chg P2.2 (by decide) PR.out.ga, PR.out.kb.chg P2.2 (by decide) PR.out.gb, PR.out.kc.chg P2.2 (by decide) PR.out.gc, PR.out.kd.chg P2.2 (by decide) PR.out.gd, P2.2.tagk (by decide) PR.out.gb, P2.2.tagk (by decide) PR.out.gd⟩
  exact key.below ((Below.refl _ _).drew) hB)
 have hol := HBN.out.ow t HMEM.out
 have hkk : (k : Int) < 32 := by omega
 have hk0 : ¬ (k : Int) < 0 := by omega
 have hk1 : ¬ (32 : Int) <= (k : Int) := by omega
 clear hl4 hb4 ht4 e4 hB4 hsz PR HM1 HTM1
 go_upto_region 25 with (fail)
 go_cut [] (fun wx => Hid (MidP B bb gx w { x with tx := x.tx.set i { t with rs := t.rs.set k true } } (.slice ma x.cms.length mc) (.slice ha x.hs.length hc) vs [.int .i64 3, .int .i64 ((i : Int) + 1), .int .i64 (k : Int), .int .i64 ky, .int .i64 vl, .int .i64 md, .string nm] [.bool true, .int .i64 t.md, .int .i64 t.bg, .slice oa t.own.length oc, .slice (some ⟨gr4, 0, none⟩) 32 32, .slice sa t.sv.length sc] wx))
 case first =>
  go_region_held3 (fun W => W.cell? ⟨bb, 3, none⟩ = some (.slice (some ⟨gx, 0, none⟩) 4 4) /\ W.cell? ⟨gx, i * 6 + 4, none⟩ = some (.slice (some ⟨gr4, 0, none⟩) 32 32) /\ W.cell? ⟨w.heap.size, 2, none⟩ = some (.int .i64 (k : Int))) (go_keep) (fail)
  go_wp2
  go_meet
  case rel => with_reducible exact HMD
 rename World => wx
 clear HMD k0 k1 k2 k3 k4 k5 k6 q4 b3 hb40 hf40 hm1 hm2 hm3 hm4 hm5 hm6
 have HMD := hcut
 clear hcut
 have hlx := HMD.out.lt
 have hgxx : gx < wx.heap.size := by omega
 have hbbx : bb < wx.heap.size := by omega
 obtain ⟨k0, k1, k2, k3, k4, k5, k6⟩ := kc6 HMD.out.ka
 obtain ⟨t0, t1, t2, t3, t4, t5⟩ := kc5 HMD.out.kc
 have htm : TxM B wx { t with rs := t.rs.set k true } (.slice oa t.own.length oc, .slice (some ⟨gr4, 0, none⟩) 32 32, .slice sa t.sv.length sc) := by
  obtain ⟨t9, v9, h9, h8, h7, _⟩ := HMD.out.m.at hi
  have hl9 : i < x.tx.length := by have := List.getElem?_eq_some_iff.1 HTX.out; exact this.1
  rw [List.getElem?_set_self hl9] at h9
  rw [HVX.out] at h8
  injection h9 with h9
  injection h8 with h8
  subst h9 h8
  exact h7
 have hls := list_spec bb x.ck ma mc (.slice ha x.hs.length hc) (.slice (some ⟨gx, 0, none⟩) 4 4) (.slice (some ⟨gr4, 0, none⟩) 32 32) (.slice sa t.sv.length sc) true t.md t.bg oa oc x.cms t.own (k : Int) wx HBN.out.bm (HBN.out.all HMEM.out) hbbx HMD.out.m.bs HMD.out.m.cm.rs htm.ow.1
 rw [<- HG.out] at hls
 clear HG htm
 go_wp2_with (go_at_call 39; fail)
 refine hls.mono ?_
 rintro e w2 ⟨pa, pc, rfl, hgr, hb2⟩
 have HMD2 := hid (HMD.out.below hb2 hB)
 have HGR : Hid (Gr pairV 92 2 w.heap.size w2 (.slice pa lf.length pc) lf) := hid (own_bs hgr (by omega))
 clear hls hb2 HMD t0 t1 t2 t3 t4 t5 hgr
 have x0 : w2.cell? ⟨w.heap.size + 1 + 1 + 1, 0, none⟩ = some (.int .i64 0) := (HMD2.out.kd 0 (by simp)).1
 have y0 : w2.frozen? ⟨w.heap.size + 1 + 1 + 1, 0, none⟩ = false := (HMD2.out.kd 0 (by simp)).2
 have r0 : w2.cell? ⟨w.heap.size + 1, 0, none⟩ = some (.int .i64 0) := (HMD2.out.kb 0 (by simp)).1
 have s0 : w2.frozen? ⟨w.heap.size + 1, 0, none⟩ = false := (HMD2.out.kb 0 (by simp)).2
 obtain ⟨⟨-, -⟩, ⟨x1, y1⟩⟩ := kb1 HMD2.out.kd
 obtain ⟨⟨-, -⟩, ⟨r1, s1⟩⟩ := kb1 HMD2.out.kb
 obtain ⟨⟨-, -⟩, ⟨-, -⟩, ⟨x2, y2⟩⟩ := kb2 HMD2.out.kd
 obtain ⟨⟨-, -⟩, ⟨-, -⟩, ⟨r2, s2⟩⟩ := kb2 HMD2.out.kb
 obtain ⟨⟨-, -⟩, ⟨-, -⟩, ⟨-, -⟩, ⟨x3, y3⟩⟩ := kb3 HMD2.out.kd
 obtain ⟨⟨-, -⟩, ⟨-, -⟩, ⟨-, -⟩, ⟨r3, s3⟩⟩ := kb3 HMD2.out.kb
 obtain ⟨⟨-, -⟩, ⟨-, -⟩, ⟨-, -⟩, ⟨-, -⟩, ⟨x4, y4⟩⟩ := kb4 HMD2.out.kd
 obtain ⟨⟨-, -⟩, ⟨-, -⟩, ⟨-, -⟩, ⟨-, -⟩, ⟨r4, s4⟩⟩ := kb4 HMD2.out.kb
 have HF : Hid (RunP B bb gx w ({ x with tx := x.tx.set i { t with rs := t.rs.set k true } }, ⟨0, 0, 0, false, lf⟩) (.returned (.agg #[.int .i64 0, .int .i64 0, .int .i64 0, .bool false, .slice pa lf.length pc])) (set5 (w2.setCell ⟨w.heap.size + 1 + 1 + 1, 4, none⟩ (.slice pa lf.length pc)) (w.heap.size + 1) (.int .i64 0) (.int .i64 0) (.int .i64 0) (.bool false) (.slice pa lf.length pc))) := hid (run_fin (r := ({ x with tx := x.tx.set i { t with rs := t.rs.set k true } }, ⟨0, 0, 0, false, lf⟩)) (HMD2.out.m.chg (Chg.set (T := fun ty => ty = 38) (.slice pa lf.length pc) rfl (HMD2.out.gd)) (fun ty h => .inl h)) (HMD2.out.k.newset (c := w.heap.size + 1 + 1 + 1) (j := 4) (u := .slice pa lf.length pc) (by omega)) (HMD2.out.b.setCell (p := ⟨w.heap.size + 1 + 1 + 1, 4, none⟩) (by show B <= w.heap.size + 1 + 1 + 1; omega) (.slice pa lf.length pc)) hB (Nat.le_succ _) (tag_set _ (HMD2.out.gb)) (own_chg (HGR.out) (Chg.set (T := fun ty => ty = 38) (.slice pa lf.length pc) rfl (HMD2.out.gd)) (by decide)))
 unfold set5 at HF
 have hn1 : ¬ (w.heap.size + 1 + 1 + 1) = w.heap.size + 1 := by omega
 have hn2 : ¬ w.heap.size + 1 = w.heap.size + 1 + 1 + 1 := by omega
 clear HMD2 HCL HBN HTX HVX HTD HMEM HOP HRL HGT HGB k0 k1 k2 k3 k4 k5 k6 HGR
 go_wp2
 refine bodyPost_ret (v := .agg #[.int .i64 0, .int .i64 0, .int .i64 0, .bool false, .slice pa lf.length pc]) (by simp [results, Tryz.results21, go_sem, r0, r1, r2, r3, r4, s0, s1, s2, s3, s4]) rfl ?_
 with_reducible exact HF.out
end Go.Proofs.YtblkgicbimflhaaGreat
