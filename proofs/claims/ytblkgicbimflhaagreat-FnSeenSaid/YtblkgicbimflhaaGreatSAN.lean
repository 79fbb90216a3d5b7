import Derived.Test.YtblkgicbimflhaaGreatSAM
namespace Go.Proofs.YtblkgicbimflhaaGreat
open Go.ChangeShapes Go.WideShapes Go.ChangeAt Go.RowKit
set_option linter.unusedVariables false
set_option linter.unusedSimpArgs false
set_option maxRecDepth 100000
set_option maxHeartbeats 16000000
theorem Blk.keep {w w' : World} {b ty : Nat} {cs : List Value} (h : Blk w b cs) (hk : Keep w w') (hi : Im ty) (ht : tag w b ty) : Blk w' b cs := fun j hj => by
 have hb : w'.heap[(⟨b, j, none⟩ : Addr).block]? = w.heap[(⟨b, j, none⟩ : Addr).block]? := hk.2 b ty hi ht
 exact ⟨(World.cell?_of_block hb).trans (h j hj).1, (World.frozen?_of_block hb).trans (h j hj).2⟩
theorem imO : Im 38 := by unfold Im; decide
theorem run_6 (B bb gx i : Nat) (x : Bas) (tb ky vl md : Int) (nm : ByteArray) (cv hv : Value) (vs : List (Value × Value × Value)) (w : World) (hM : Mem B bb gx w x cv hv vs) (hi : i < 4) (hop : (x.tx.getD i tx0).op = true) (hb : Bnd x) (hB : B <= w.heap.size) :
 Calls Tryz.prog 21 #[.pointer (some ⟨bb, 0, none⟩), .agg #[.int .i64 6, .int .i64 ((i : Int) + 1), .int .i64 tb, .int .i64 ky, .int .i64 vl, .int .i64 md, .string nm]] w fun e w' => RunP B bb gx w (runF x ⟨6, (i : Int) + 1, tb, ky, vl, md, nm⟩) e w' := by
 have hin0 : ((i : Int) + 1 - 1).toNat = i := by omega
 have er : runF x ⟨6, (i : Int) + 1, tb, ky, vl, md, nm⟩ = ((commitF x i).1, ⟨(commitF x i).2.2, 0, (commitF x i).2.1, false, []⟩) := by
  unfold runF
  simp only [hin0, hop]
  rw [if_neg (by omega), if_neg (by decide)]
  simp
 rw [er]
 clear er hin0
 obtain ⟨cm, hcm0⟩ : ∃ z, z = commitF x i := ⟨_, rfl⟩
 rw [<- hcm0]
 obtain ⟨xb, st, cd⟩ := cm
 have HG := hid hcm0
 clear hcm0
 simp only
 obtain ⟨t, gr, oa, oc, sa, sc, ma, mc, ha, hc, rfl, rfl, htx, hvx, hTM, hcell, htD, hmem, hop, hrl, hgB, hgt, hgb, q0, q1, q2, q3, q4, q5, b3, hgxl, hbbl⟩ := hM.opn hi hop
 obtain ⟨hii, hs1, hs2, hwr⟩ := iok hi
 have hin : ((i : Int) + 1 - 1).toNat = i := by omega
 have HIN := hid hin
 clear hin
 have hgl1 : gx < w.heap.size + 1 := by omega
 have hbl1 : bb < w.heap.size + 1 := by omega
 obtain ⟨W1, hW1, PR⟩ := pre5 w 6 ((i : Int) + 1) tb ky vl md nm true t.md t.bg (.slice oa t.own.length oc) (.slice (some ⟨gr, 0, none⟩) 32 32) (.slice sa t.sv.length sc)
 have HM1 := hid (hM.below PR.out.be)
 have HTM1 := hid (hTM.chg (Chg.of_below (fun _ => False) PR.out.be) (fun z => z) (fun z => z) (fun z => z))
 have HBN := hid hb
 have HTX := hid htx
 have HVX := hid hvx
 have HTD := hid htD
 have HMEM := hid hmem
 have HOP := hid hop
 have HRL := hid hrl
 have HGT := hid hgt
 have HGB := hid hgb
 have HCL := hid hcell
 clear hM hTM hb htx hvx hcell hmem htD hop hrl hgt hgb
 go_enter Tryz.func21, Tryz.ntmps21
 go_upto_region 11 with (fail)
 rw [<- hW1]
 clear hW1 q0 q1 q2 q3 q4 q5 b3
 obtain ⟨k0, k1, k2, k3, k4, k5, k6⟩ := kc6 PR.out.ka
 have hBW : B <= W1.heap.size := by have := PR.out.sz; omega
 have hcm := commit_spec B bb gx i x (.slice ma x.cms.length mc) (.slice ha x.hs.length hc) vs W1 HM1.out hi (by rw [HTD.out]; exact HOP.out) HBN.out hBW
 unfold CommitP at hcm
 rw [<- HG.out] at hcm
 simp only at hcm
 clear HG
 go_wp2_with (go_at_call 40; fail)
 refine hcm.mono ?_
 rintro e w2 ⟨cv2, hv2, vs2, rfl, hM2, hK2, hB2⟩
 clear hcm
 have KS := hid (PR.out.kd.keep hK2 imO PR.out.gd)
 have KQ := hid (PR.out.kb.keep hK2 imO PR.out.gb)
 have TS := hid (hK2.tagk imO PR.out.gd)
 have TQ := hid (hK2.tagk imO PR.out.gb)
 have x0 : w2.cell? ⟨w.heap.size + 1 + 1 + 1, 0, none⟩ = some (.int .i64 0) := (KS.out 0 (by simp)).1
 have y0 : w2.frozen? ⟨w.heap.size + 1 + 1 + 1, 0, none⟩ = false := (KS.out 0 (by simp)).2
 have r0 : w2.cell? ⟨w.heap.size + 1, 0, none⟩ = some (.int .i64 0) := (KQ.out 0 (by simp)).1
 have s0 : w2.frozen? ⟨w.heap.size + 1, 0, none⟩ = false := (KQ.out 0 (by simp)).2
 obtain ⟨⟨-, -⟩, ⟨x1, y1⟩⟩ := kb1 KS.out
 obtain ⟨⟨-, -⟩, ⟨r1, s1⟩⟩ := kb1 KQ.out
 obtain ⟨⟨-, -⟩, ⟨-, -⟩, ⟨x2, y2⟩⟩ := kb2 KS.out
 obtain ⟨⟨-, -⟩, ⟨-, -⟩, ⟨r2, s2⟩⟩ := kb2 KQ.out
 obtain ⟨⟨-, -⟩, ⟨-, -⟩, ⟨-, -⟩, ⟨x3, y3⟩⟩ := kb3 KS.out
 obtain ⟨⟨-, -⟩, ⟨-, -⟩, ⟨-, -⟩, ⟨r3, s3⟩⟩ := kb3 KQ.out
 obtain ⟨⟨-, -⟩, ⟨-, -⟩, ⟨-, -⟩, ⟨-, -⟩, ⟨x4, y4⟩⟩ := kb4 KS.out
 obtain ⟨⟨-, -⟩, ⟨-, -⟩, ⟨-, -⟩, ⟨-, -⟩, ⟨r4, s4⟩⟩ := kb4 KQ.out
 have T2 : tag (w2.setCell ⟨w.heap.size + 1 + 1 + 1, 2, none⟩ (.int .i64 st)) (w.heap.size + 1 + 1 + 1) 38 := tag_set _ TS.out
 have C2 : Chg (fun ty => ty = 38) w2 ((w2.setCell ⟨w.heap.size + 1 + 1 + 1, 2, none⟩ (.int .i64 st)).setCell ⟨w.heap.size + 1 + 1 + 1, 0, none⟩ (.int .i64 cd)) := (Chg.set (T := fun ty => ty = 38) _ rfl TS.out).trans (Chg.set _ rfl T2)
 have HF : Hid (RunP B bb gx w (xb, ⟨cd, 0, st, false, []⟩) (.returned (.agg #[.int .i64 cd, .int .i64 0, .int .i64 st, .bool false, .slice none 0 0])) (set5 ((w2.setCell ⟨w.heap.size + 1 + 1 + 1, 2, none⟩ (.int .i64 st)).setCell ⟨w.heap.size + 1 + 1 + 1, 0, none⟩ (.int .i64 cd)) (w.heap.size + 1) (.int .i64 cd) (.int .i64 0) (.int .i64 st) (.bool false) (.slice none 0 0))) := hid (run_fin (r := (xb, ⟨cd, 0, st, false, []⟩)) (hM2.chg C2 (fun ty h => .inl h)) ((((Keep.of_below PR.out.be).trans hK2).newset (by omega)).newset (by omega)) ((((PR.out.be.mono hB).trans hB2).setCell (p := ⟨w.heap.size + 1 + 1 + 1, 2, none⟩) (by show B <= w.heap.size + 1 + 1 + 1; omega) _).setCell (p := ⟨w.heap.size + 1 + 1 + 1, 0, none⟩) (by show B <= w.heap.size + 1 + 1 + 1; omega) _) hB (Nat.le_succ _) (tag_set _ (tag_set _ TQ.out)) (gr_nil _ _ _ _ _))
 unfold set5 at HF
 have hn1 : ¬ (w.heap.size + 1 + 1 + 1) = w.heap.size + 1 := by omega
 have hn2 : ¬ w.heap.size + 1 = w.heap.size + 1 + 1 + 1 := by omega
 clear KS KQ TS TQ T2 C2 hM2 hK2 hB2 PR HM1 HTM1 HCL HBN HTX HVX HTD HMEM HOP HRL HGT HGB k0 k1 k2 k3 k4 k5 k6
 go_wp2
 refine bodyPost_ret (v := .agg #[.int .i64 cd, .int .i64 0, .int .i64 st, .bool false, .slice none 0 0]) (by simp [results, Tryz.results21, go_sem, r0, r1, r2, r3, r4, s0, s1, s2, s3, s4]) rfl ?_
 exact HF.out
theorem run_8 (B bb gx i : Nat) (x : Bas) (tb ky vl md : Int) (nm : ByteArray) (cv hv : Value) (vs : List (Value × Value × Value)) (w : World) (hM : Mem B bb gx w x cv hv vs) (hi : i < 4) (hop : (x.tx.getD i tx0).op = true) (hb : Bnd x) (hB : B <= w.heap.size) :
 Calls Tryz.prog 21 #[.pointer (some ⟨bb, 0, none⟩), .agg #[.int .i64 8, .int .i64 ((i : Int) + 1), .int .i64 tb, .int .i64 ky, .int .i64 vl, .int .i64 md, .string nm]] w fun e w' => RunP B bb gx w (runF x ⟨8, (i : Int) + 1, tb, ky, vl, md, nm⟩) e w' := by
 have hin0 : ((i : Int) + 1 - 1).toNat = i := by omega
 have er : runF x ⟨8, (i : Int) + 1, tb, ky, vl, md, nm⟩ = ((savesF x i ⟨8, (i : Int) + 1, tb, ky, vl, md, nm⟩).1, ⟨(savesF x i ⟨8, (i : Int) + 1, tb, ky, vl, md, nm⟩).2, 0, 0, false, []⟩) := by
  unfold runF
  simp only [hin0, hop]
  rw [if_neg (by omega), if_neg (by decide)]
  simp
 rw [er]
 clear er hin0
 obtain ⟨cm, hcm0⟩ : ∃ z, z = savesF x i ⟨8, (i : Int) + 1, tb, ky, vl, md, nm⟩ := ⟨_, rfl⟩
 rw [<- hcm0]
 obtain ⟨xb, cd⟩ := cm
 have HG := hid hcm0
 clear hcm0
 simp only
 obtain ⟨t, gr, oa, oc, sa, sc, ma, mc, ha, hc, rfl, rfl, htx, hvx, hTM, hcell, htD, hmem, hop, hrl, hgB, hgt, hgb, q0, q1, q2, q3, q4, q5, b3, hgxl, hbbl⟩ := hM.opn hi hop
 obtain ⟨hii, hs1, hs2, hwr⟩ := iok hi
 have hin : ((i : Int) + 1 - 1).toNat = i := by omega
 have HIN := hid hin
 clear hin
 have hgl1 : gx < w.heap.size + 1 := by omega
 have hbl1 : bb < w.heap.size + 1 := by omega
 obtain ⟨W1, hW1, PR⟩ := pre5 w 8 ((i : Int) + 1) tb ky vl md nm true t.md t.bg (.slice oa t.own.length oc) (.slice (some ⟨gr, 0, none⟩) 32 32) (.slice sa t.sv.length sc)
 have HM1 := hid (hM.below PR.out.be)
 have HTM1 := hid (hTM.chg (Chg.of_below (fun _ => False) PR.out.be) (fun z => z) (fun z => z) (fun z => z))
 have HBN := hid hb
 have HTX := hid htx
 have HVX := hid hvx
 have HTD := hid htD
 have HMEM := hid hmem
 have HOP := hid hop
 have HRL := hid hrl
 have HGT := hid hgt
 have HGB := hid hgb
 have HCL := hid hcell
 clear hM hTM hb htx hvx hcell hmem htD hop hrl hgt hgb
 go_enter Tryz.func21, Tryz.ntmps21
 go_upto_region 11 with (fail)
 rw [<- hW1]
 clear hW1 q0 q1 q2 q3 q4 q5 b3
 obtain ⟨k0, k1, k2, k3, k4, k5, k6⟩ := kc6 PR.out.ka
 have hBW : B <= W1.heap.size := by have := PR.out.sz; omega
 have hcm := saves_spec B bb gx i x ⟨8, (i : Int) + 1, tb, ky, vl, md, nm⟩ (.slice ma x.cms.length mc) (.slice ha x.hs.length hc) vs W1 HM1.out hi (by rw [HTD.out]; exact HOP.out) HBN.out hBW
 unfold SavesP at hcm
 rw [<- HG.out] at hcm
 simp only at hcm
 clear HG
 go_wp2_with (go_at_call 41; fail)
 refine hcm.mono ?_
 rintro e w2 ⟨cv2, hv2, vs2, rfl, hM2, hK2, hB2⟩
 clear hcm
 have KS := hid (PR.out.kd.keep hK2 imO PR.out.gd)
 have KQ := hid (PR.out.kb.keep hK2 imO PR.out.gb)
 have TS := hid (hK2.tagk imO PR.out.gd)
 have TQ := hid (hK2.tagk imO PR.out.gb)
 have x0 : w2.cell? ⟨w.heap.size + 1 + 1 + 1, 0, none⟩ = some (.int .i64 0) := (KS.out 0 (by simp)).1
 have y0 : w2.frozen? ⟨w.heap.size + 1 + 1 + 1, 0, none⟩ = false := (KS.out 0 (by simp)).2
 have r0 : w2.cell? ⟨w.heap.size + 1, 0, none⟩ = some (.int .i64 0) := (KQ.out 0 (by simp)).1
 have s0 : w2.frozen? ⟨w.heap.size + 1, 0, none⟩ = false := (KQ.out 0 (by simp)).2
 obtain ⟨⟨-, -⟩, ⟨x1, y1⟩⟩ := kb1 KS.out
 obtain ⟨⟨-, -⟩, ⟨r1, s1⟩⟩ := kb1 KQ.out
 obtain ⟨⟨-, -⟩, ⟨-, -⟩, ⟨x2, y2⟩⟩ := kb2 KS.out
 obtain ⟨⟨-, -⟩, ⟨-, -⟩, ⟨r2, s2⟩⟩ := kb2 KQ.out
 obtain ⟨⟨-, -⟩, ⟨-, -⟩, ⟨-, -⟩, ⟨x3, y3⟩⟩ := kb3 KS.out
 obtain ⟨⟨-, -⟩, ⟨-, -⟩, ⟨-, -⟩, ⟨r3, s3⟩⟩ := kb3 KQ.out
 obtain ⟨⟨-, -⟩, ⟨-, -⟩, ⟨-, -⟩, ⟨-, -⟩, ⟨x4, y4⟩⟩ := kb4 KS.out
 obtain ⟨⟨-, -⟩, ⟨-, -⟩, ⟨-, -⟩, ⟨-, -⟩, ⟨r4, s4⟩⟩ := kb4 KQ.out
 have C2 : Chg (fun ty => ty = 38) w2 (w2.setCell ⟨w.heap.size + 1 + 1 + 1, 0, none⟩ (.int .i64 cd)) := Chg.set (T := fun ty => ty = 38) _ rfl TS.out
 have HF : Hid (RunP B bb gx w (xb, ⟨cd, 0, 0, false, []⟩) (.returned (.agg #[.int .i64 cd, .int .i64 0, .int .i64 0, .bool false, .slice none 0 0])) (set5 (w2.setCell ⟨w.heap.size + 1 + 1 + 1, 0, none⟩ (.int .i64 cd)) (w.heap.size + 1) (.int .i64 cd) (.int .i64 0) (.int .i64 0) (.bool false) (.slice none 0 0))) := hid (run_fin (r := (xb, ⟨cd, 0, 0, false, []⟩)) (hM2.chg C2 (fun ty h => .inl h)) (((Keep.of_below PR.out.be).trans hK2).newset (by omega)) (((PR.out.be.mono hB).trans hB2).setCell (p := ⟨w.heap.size + 1 + 1 + 1, 0, none⟩) (by show B <= w.heap.size + 1 + 1 + 1; omega) _) hB (Nat.le_succ _) (tag_set _ TQ.out) (gr_nil _ _ _ _ _))
 unfold set5 at HF
 have hn1 : ¬ (w.heap.size + 1 + 1 + 1) = w.heap.size + 1 := by omega
 have hn2 : ¬ w.heap.size + 1 = w.heap.size + 1 + 1 + 1 := by omega
 clear KS KQ TS TQ C2 hM2 hK2 hB2 PR HM1 HTM1 HCL HBN HTX HVX HTD HMEM HOP HRL HGT HGB k0 k1 k2 k3 k4 k5 k6
 go_wp2
 refine bodyPost_ret (v := .agg #[.int .i64 cd, .int .i64 0, .int .i64 0, .bool false, .slice none 0 0]) (by simp [results, Tryz.results21, go_sem, r0, r1, r2, r3, r4, s0, s1, s2, s3, s4]) rfl ?_
 exact HF.out
theorem run_9 (B bb gx i : Nat) (x : Bas) (tb ky vl md : Int) (nm : ByteArray) (cv hv : Value) (vs : List (Value × Value × Value)) (w : World) (hM : Mem B bb gx w x cv hv vs) (hi : i < 4) (hop : (x.tx.getD i tx0).op = true) (hb : Bnd x) (hB : B <= w.heap.size) :
 Calls Tryz.prog 21 #[.pointer (some ⟨bb, 0, none⟩), .agg #[.int .i64 9, .int .i64 ((i : Int) + 1), .int .i64 tb, .int .i64 ky, .int .i64 vl, .int .i64 md, .string nm]] w fun e w' => RunP B bb gx w (runF x ⟨9, (i : Int) + 1, tb, ky, vl, md, nm⟩) e w' := by
 have hin0 : ((i : Int) + 1 - 1).toNat = i := by omega
 have er : runF x ⟨9, (i : Int) + 1, tb, ky, vl, md, nm⟩ = ((savesF x i ⟨9, (i : Int) + 1, tb, ky, vl, md, nm⟩).1, ⟨(savesF x i ⟨9, (i : Int) + 1, tb, ky, vl, md, nm⟩).2, 0, 0, false, []⟩) := by
  unfold runF
  simp only [hin0, hop]
  rw [if_neg (by omega), if_neg (by decide)]
  simp
 rw [er]
 clear er hin0
 obtain ⟨cm, hcm0⟩ : ∃ z, z = savesF x i ⟨9, (i : Int) + 1, tb, ky, vl, md, nm⟩ := ⟨_, rfl⟩
 rw [<- hcm0]
 obtain ⟨xb, cd⟩ := cm
 have HG := hid hcm0
 clear hcm0
 simp only
 obtain ⟨t, gr, oa, oc, sa, sc, ma, mc, ha, hc, rfl, rfl, htx, hvx, hTM, hcell, htD, hmem, hop, hrl, hgB, hgt, hgb, q0, q1, q2, q3, q4, q5, b3, hgxl, hbbl⟩ := hM.opn hi hop
 obtain ⟨hii, hs1, hs2, hwr⟩ := iok hi
 have hin : ((i : Int) + 1 - 1).toNat = i := by omega
 have HIN := hid hin
 clear hin
 have hgl1 : gx < w.heap.size + 1 := by omega
 have hbl1 : bb < w.heap.size + 1 := by omega
 obtain ⟨W1, hW1, PR⟩ := pre5 w 9 ((i : Int) + 1) tb ky vl md nm true t.md t.bg (.slice oa t.own.length oc) (.slice (some ⟨gr, 0, none⟩) 32 32) (.slice sa t.sv.length sc)
 have HM1 := hid (hM.below PR.out.be)
 have HTM1 := hid (hTM.chg (Chg.of_below (fun _ => False) PR.out.be) (fun z => z) (fun z => z) (fun z => z))
 have HBN := hid hb
 have HTX := hid htx
 have HVX := hid hvx
 have HTD := hid htD
 have HMEM := hid hmem
 have HOP := hid hop
 have HRL := hid hrl
 have HGT := hid hgt
 have HGB := hid hgb
 have HCL := hid hcell
 clear hM hTM hb htx hvx hcell hmem htD hop hrl hgt hgb
 go_enter Tryz.func21, Tryz.ntmps21
 go_upto_region 11 with (fail)
 rw [<- hW1]
 clear hW1 q0 q1 q2 q3 q4 q5 b3
 obtain ⟨k0, k1, k2, k3, k4, k5, k6⟩ := kc6 PR.out.ka
 have hBW : B <= W1.heap.size := by have := PR.out.sz; omega
 have hcm := saves_spec B bb gx i x ⟨9, (i : Int) + 1, tb, ky, vl, md, nm⟩ (.slice ma x.cms.length mc) (.slice ha x.hs.length hc) vs W1 HM1.out hi (by rw [HTD.out]; exact HOP.out) HBN.out hBW
 unfold SavesP at hcm
 rw [<- HG.out] at hcm
 simp only at hcm
 clear HG
 go_wp2_with (go_at_call 41; fail)
 refine hcm.mono ?_
 rintro e w2 ⟨cv2, hv2, vs2, rfl, hM2, hK2, hB2⟩
 clear hcm
 have KS := hid (PR.out.kd.keep hK2 imO PR.out.gd)
 have KQ := hid (PR.out.kb.keep hK2 imO PR.out.gb)
 have TS := hid (hK2.tagk imO PR.out.gd)
 have TQ := hid (hK2.tagk imO PR.out.gb)
 have x0 : w2.cell? ⟨w.heap.size + 1 + 1 + 1, 0, none⟩ = some (.int .i64 0) := (KS.out 0 (by simp)).1
 have y0 : w2.frozen? ⟨w.heap.size + 1 + 1 + 1, 0, none⟩ = false := (KS.out 0 (by simp)).2
 have r0 : w2.cell? ⟨w.heap.size + 1, 0, none⟩ = some (.int .i64 0) := (KQ.out 0 (by simp)).1
 have s0 : w2.frozen? ⟨w.heap.size + 1, 0, none⟩ = false := (KQ.out 0 (by simp)).2
 obtain ⟨⟨-, -⟩, ⟨x1, y1⟩⟩ := kb1 KS.out
 obtain ⟨⟨-, -⟩, ⟨r1, s1⟩⟩ := kb1 KQ.out
 obtain ⟨⟨-, -⟩, ⟨-, -⟩, ⟨x2, y2⟩⟩ := kb2 KS.out
 obtain ⟨⟨-, -⟩, ⟨-, -⟩, ⟨r2, s2⟩⟩ := kb2 KQ.out
 obtain ⟨⟨-, -⟩, ⟨-, -⟩, ⟨-, -⟩, ⟨x3, y3⟩⟩ := kb3 KS.out
 obtain ⟨⟨-, -⟩, ⟨-, -⟩, ⟨-, -⟩, ⟨r3, s3⟩⟩ := kb3 KQ.out
 obtain ⟨⟨-, -⟩, ⟨-, -⟩, ⟨-, -⟩, ⟨-, -⟩, ⟨x4, y4⟩⟩ := kb4 KS.out
 obtain ⟨⟨-, -⟩, ⟨-, -⟩, ⟨-, -⟩, ⟨-, -⟩, ⟨r4, s4⟩⟩ := kb4 KQ.out
 have C2 : Chg (fun ty => ty = 38) w2 (w2.setCell ⟨w.heap.size + 1 + 1 + 1, 0, none⟩ (.int .i64 cd)) := Chg.set (T := fun ty => ty = 38) _ rfl TS.out
 have HF : Hid (RunP B bb gx w (xb, ⟨cd, 0, 0, false, []⟩) (.returned (.agg #[.int .i64 cd, .int .i64 0, .int .i64 0, .bool false, .slice none 0 0])) (set5 (w2.setCell ⟨w.heap.size + 1 + 1 + 1, 0, none⟩ (.int .i64 cd)) (w.heap.size + 1) (.int .i64 cd) (.int .i64 0) (.int .i64 0) (.bool false) (.slice none 0 0))) := hid (run_fin (r := (xb, ⟨cd, 0, 0, false, []⟩)) (hM2.chg C2 (fun ty h => .inl h)) (((Keep.of_below PR.out.be).trans hK2).newset (by omega)) (((PR.out.be.mono hB).trans hB2).setCell (p := ⟨w.heap.size + 1 + 1 + 1, 0, none⟩) (by show B <= w.heap.size + 1 + 1 + 1; omega) _) hB (Nat.le_succ _) (tag_set _ TQ.out) (gr_nil _ _ _ _ _))
 unfold set5 at HF
 have hn1 : ¬ (w.heap.size + 1 + 1 + 1) = w.heap.size + 1 := by omega
 have hn2 : ¬ w.heap.size + 1 = w.heap.size + 1 + 1 + 1 := by omega
 clear KS KQ TS TQ C2 hM2 hK2 hB2 PR HM1 HTM1 HCL HBN HTX HVX HTD HMEM HOP HRL HGT HGB k0 k1 k2 k3 k4 k5 k6
 go_wp2
 refine bodyPost_ret (v := .agg #[.int .i64 cd, .int .i64 0, .int .i64 0, .bool false, .slice none 0 0]) (by simp [results, Tryz.results21, go_sem, r0, r1, r2, r3, r4, s0, s1, s2, s3, s4]) rfl ?_
 exact HF.out
theorem run_10 (B bb gx i : Nat) (x : Bas) (tb ky vl md : Int) (nm : ByteArray) (cv hv : Value) (vs : List (Value × Value × Value)) (w : World) (hM : Mem B bb gx w x cv hv vs) (hi : i < 4) (hop : (x.tx.getD i tx0).op = true) (hb : Bnd x) (hB : B <= w.heap.size) :
 Calls Tryz.prog 21 #[.pointer (some ⟨bb, 0, none⟩), .agg #[.int .i64 10, .int .i64 ((i : Int) + 1), .int .i64 tb, .int .i64 ky, .int .i64 vl, .int .i64 md, .string nm]] w fun e w' => RunP B bb gx w (runF x ⟨10, (i : Int) + 1, tb, ky, vl, md, nm⟩) e w' := by
 have hin0 : ((i : Int) + 1 - 1).toNat = i := by omega
 have er : runF x ⟨10, (i : Int) + 1, tb, ky, vl, md, nm⟩ = ((savesF x i ⟨10, (i : Int) + 1, tb, ky, vl, md, nm⟩).1, ⟨(savesF x i ⟨10, (i : Int) + 1, tb, ky, vl, md, nm⟩).2, 0, 0, false, []⟩) := by
  unfold runF
  simp only [hin0, hop]
  rw [if_neg (by omega), if_neg (by decide)]
  simp
 rw [er]
 clear er hin0
 obtain ⟨cm, hcm0⟩ : ∃ z, z = savesF x i ⟨10, (i : Int) + 1, tb, ky, vl, md, nm⟩ := ⟨_, rfl⟩
 rw [<- hcm0]
 obtain ⟨xb, cd⟩ := cm
 have HG := hid hcm0
 clear hcm0
 simp only
 obtain ⟨t, gr, oa, oc, sa, sc, ma, mc, ha, hc, rfl, rfl, htx, hvx, hTM, hcell, htD, hmem, hop, hrl, hgB, hgt, hgb, q0, q1, q2, q3, q4, q5, b3, hgxl, hbbl⟩ := hM.opn hi hop
 obtain ⟨hii, hs1, hs2, hwr⟩ := iok hi
 have hin : ((i : Int) + 1 - 1).toNat = i := by omega
 have HIN := hid hin
 clear hin
 have hgl1 : gx < w.heap.size + 1 := by omega
 have hbl1 : bb < w.heap.size + 1 := by omega
 obtain ⟨W1, hW1, PR⟩ := pre5 w 10 ((i : Int) + 1) tb ky vl md nm true t.md t.bg (.slice oa t.own.length oc) (.slice (some ⟨gr, 0, none⟩) 32 32) (.slice sa t.sv.length sc)
 have HM1 := hid (hM.below PR.out.be)
 have HTM1 := hid (hTM.chg (Chg.of_below (fun _ => False) PR.out.be) (fun z => z) (fun z => z) (fun z => z))
 have HBN := hid hb
 have HTX := hid htx
 have HVX := hid hvx
 have HTD := hid htD
 have HMEM := hid hmem
 have HOP := hid hop
 have HRL := hid hrl
 have HGT := hid hgt
 have HGB := hid hgb
 have HCL := hid hcell
 clear hM hTM hb htx hvx hcell hmem htD hop hrl hgt hgb
 go_enter Tryz.func21, Tryz.ntmps21
 go_upto_region 11 with (fail)
 rw [<- hW1]
 clear hW1 q0 q1 q2 q3 q4 q5 b3
 obtain ⟨k0, k1, k2, k3, k4, k5, k6⟩ := kc6 PR.out.ka
 have hBW : B <= W1.heap.size := by have := PR.out.sz; omega
 have hcm := saves_spec B bb gx i x ⟨10, (i : Int) + 1, tb, ky, vl, md, nm⟩ (.slice ma x.cms.length mc) (.slice ha x.hs.length hc) vs W1 HM1.out hi (by rw [HTD.out]; exact HOP.out) HBN.out hBW
 unfold SavesP at hcm
 rw [<- HG.out] at hcm
 simp only at hcm
 clear HG
 go_wp2_with (go_at_call 41; fail)
 refine hcm.mono ?_
 rintro e w2 ⟨cv2, hv2, vs2, rfl, hM2, hK2, hB2⟩
 clear hcm
 have KS := hid (PR.out.kd.keep hK2 imO PR.out.gd)
 have KQ := hid (PR.out.kb.keep hK2 imO PR.out.gb)
 have TS := hid (hK2.tagk imO PR.out.gd)
 have TQ := hid (hK2.tagk imO PR.out.gb)
 have x0 : w2.cell? ⟨w.heap.size + 1 + 1 + 1, 0, none⟩ = some (.int .i64 0) := (KS.out 0 (by simp)).1
 have y0 : w2.frozen? ⟨w.heap.size + 1 + 1 + 1, 0, none⟩ = false := (KS.out 0 (by simp)).2
 have r0 : w2.cell? ⟨w.heap.size + 1, 0, none⟩ = some (.int .i64 0) := (KQ.out 0 (by simp)).1
 have s0 : w2.frozen? ⟨w.heap.size + 1, 0, none⟩ = false := (KQ.out 0 (by simp)).2
 obtain ⟨⟨-, -⟩, ⟨x1, y1⟩⟩ := kb1 KS.out
 obtain ⟨⟨-, -⟩, ⟨r1, s1⟩⟩ := kb1 KQ.out
 obtain ⟨⟨-, -⟩, ⟨-, -⟩, ⟨x2, y2⟩⟩ := kb2 KS.out
 obtain ⟨⟨-, -⟩, ⟨-, -⟩, ⟨r2, s2⟩⟩ := kb2 KQ.out
 obtain ⟨⟨-, -⟩, ⟨-, -⟩, ⟨-, -⟩, ⟨x3, y3⟩⟩ := kb3 KS.out
 obtain ⟨⟨-, -⟩, ⟨-, -⟩, ⟨-, -⟩, ⟨r3, s3⟩⟩ := kb3 KQ.out
 obtain ⟨⟨-, -⟩, ⟨-, -⟩, ⟨-, -⟩, ⟨-, -⟩, ⟨x4, y4⟩⟩ := kb4 KS.out
 obtain ⟨⟨-, -⟩, ⟨-, -⟩, ⟨-, -⟩, ⟨-, -⟩, ⟨r4, s4⟩⟩ := kb4 KQ.out
 have C2 : Chg (fun ty => ty = 38) w2 (w2.setCell ⟨w.heap.size + 1 + 1 + 1, 0, none⟩ (.int .i64 cd)) := Chg.set (T := fun ty => ty = 38) _ rfl TS.out
 have HF : Hid (RunP B bb gx w (xb, ⟨cd, 0, 0, false, []⟩) (.returned (.agg #[.int .i64 cd, .int .i64 0, .int .i64 0, .bool false, .slice none 0 0])) (set5 (w2.setCell ⟨w.heap.size + 1 + 1 + 1, 0, none⟩ (.int .i64 cd)) (w.heap.size + 1) (.int .i64 cd) (.int .i64 0) (.int .i64 0) (.bool false) (.slice none 0 0))) := hid (run_fin (r := (xb, ⟨cd, 0, 0, false, []⟩)) (hM2.chg C2 (fun ty h => .inl h)) (((Keep.of_below PR.out.be).trans hK2).newset (by omega)) (((PR.out.be.mono hB).trans hB2).setCell (p := ⟨w.heap.size + 1 + 1 + 1, 0, none⟩) (by show B <= w.heap.size + 1 + 1 + 1; omega) _) hB (Nat.le_succ _) (tag_set _ TQ.out) (gr_nil _ _ _ _ _))
 unfold set5 at HF
 have hn1 : ¬ (w.heap.size + 1 + 1 + 1) = w.heap.size + 1 := by omega
 have hn2 : ¬ w.heap.size + 1 = w.heap.size + 1 + 1 + 1 := by omega
 clear KS KQ TS TQ C2 hM2 hK2 hB2 PR HM1 HTM1 HCL HBN HTX HVX HTD HMEM HOP HRL HGT HGB k0 k1 k2 k3 k4 k5 k6
 go_wp2
 refine bodyPost_ret (v := .agg #[.int .i64 cd, .int .i64 0, .int .i64 0, .bool false, .slice none 0 0]) (by simp [results, Tryz.results21, go_sem, r0, r1, r2, r3, r4, s0, s1, s2, s3, s4]) rfl ?_
 exact HF.out
end Go.Proofs.YtblkgicbimflhaaGreat
