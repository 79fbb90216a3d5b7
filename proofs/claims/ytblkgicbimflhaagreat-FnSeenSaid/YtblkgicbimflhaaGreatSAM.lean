import Derived.Test.YtblkgicbimflhaaGreatSAL
namespace Go.Proofs.YtblkgicbimflhaaGreat
open Go.ChangeShapes Go.WideShapes Go.ChangeAt Go.RowKit
set_option linter.unusedVariables false
set_option linter.unusedSimpArgs false
set_option maxRecDepth 100000
set_option maxHeartbeats 16000000
theorem run_7 (B bb gx i : Nat) (x : Bas) (tb ky vl md : Int) (nm : ByteArray) (cv hv : Value) (vs : List (Value × Value × Value)) (w : World) (hM : Mem B bb gx w x cv hv vs) (hi : i < 4) (hop : (x.tx.getD i tx0).op = true) (hb : Bnd x) (hB : B <= w.heap.size) :
 Calls Tryz.prog 21 #[.pointer (some ⟨bb, 0, none⟩), .agg #[.int .i64 7, .int .i64 ((i : Int) + 1), .int .i64 tb, .int .i64 ky, .int .i64 vl, .int .i64 md, .string nm]] w fun e w' => RunP B bb gx w (runF x ⟨7, (i : Int) + 1, tb, ky, vl, md, nm⟩) e w' := by
 have hin0 : ((i : Int) + 1 - 1).toNat = i := by omega
 have er : runF x ⟨7, (i : Int) + 1, tb, ky, vl, md, nm⟩ = ({ x with tx := x.tx.set i tx0 }, ⟨0, 0, 0, false, []⟩) := by
  unfold runF
  simp only [hin0, hop]
  rw [if_neg (by omega), if_neg (by decide)]
  simp
 rw [er]
 clear er hin0
 obtain ⟨t, gr, oa, oc, sa, sc, ma, mc, ha, hc, rfl, rfl, htx, hvx, hTM, hcell, htD, hmem, hop, hrl, hgB, hgt, hgb, q0, q1, q2, q3, q4, q5, b3, hgxl, hbbl⟩ := hM.opn hi hop
 obtain ⟨hii, hs1, hs2, hwr⟩ := iok hi
 have hin : ((i : Int) + 1 - 1).toNat = i := by omega
 have HIN := hid hin
 clear hin
 have hgl1 : gx < w.heap.size + 1 := by omega
 have hbl1 : bb < w.heap.size + 1 := by omega
 obtain ⟨W1, hW1, PR⟩ := pre5 w 7 ((i : Int) + 1) tb ky vl md nm true t.md t.bg (.slice oa t.own.length oc) (.slice (some ⟨gr, 0, none⟩) 32 32) (.slice sa t.sv.length sc)
 have HM1 := hid (hM.below PR.out.be)
 have HTM1 := hid (hTM.chg (Chg.of_below (fun _ => False) PR.out.be) (fun z => z) (fun z => z) (fun z => z))
 have HBN := hid hb
 have HTX := hid htx
 have HVX := hid hvx
 have HTD := hid htD
 have HMEM := hid hmem
 have HOP := hid hop
 have HRL := hid hrl
 have HGT := hid hgt
 have HGB := hid hgb
 have HCL := hid hcell
 clear hM hTM hb htx hvx hcell hmem htD hop hrl hgt hgb
 go_enter Tryz.func21, Tryz.ntmps21
 go_upto_region 11 with (fail)
 rw [<- hW1]
 clear hW1 q0 q1 q2 q3 q4 q5 b3
 obtain ⟨k0, k1, k2, k3, k4, k5, k6⟩ := kc6 PR.out.ka
 have x0 : W1.cell? ⟨w.heap.size + 1 + 1 + 1, 0, none⟩ = some (.int .i64 0) := (PR.out.kd 0 (by simp)).1
 have y0 : W1.frozen? ⟨w.heap.size + 1 + 1 + 1, 0, none⟩ = false := (PR.out.kd 0 (by simp)).2
 have r0 : W1.cell? ⟨w.heap.size + 1, 0, none⟩ = some (.int .i64 0) := (PR.out.kb 0 (by simp)).1
 have s0 : W1.frozen? ⟨w.heap.size + 1, 0, none⟩ = false := (PR.out.kb 0 (by simp)).2
 obtain ⟨⟨-, -⟩, ⟨x1, y1⟩⟩ := kb1 PR.out.kd
 obtain ⟨⟨-, -⟩, ⟨r1, s1⟩⟩ := kb1 PR.out.kb
 obtain ⟨⟨-, -⟩, ⟨-, -⟩, ⟨x2, y2⟩⟩ := kb2 PR.out.kd
 obtain ⟨⟨-, -⟩, ⟨-, -⟩, ⟨r2, s2⟩⟩ := kb2 PR.out.kb
 obtain ⟨⟨-, -⟩, ⟨-, -⟩, ⟨-, -⟩, ⟨x3, y3⟩⟩ := kb3 PR.out.kd
 obtain ⟨⟨-, -⟩, ⟨-, -⟩, ⟨-, -⟩, ⟨r3, s3⟩⟩ := kb3 PR.out.kb
 obtain ⟨⟨-, -⟩, ⟨-, -⟩, ⟨-, -⟩, ⟨-, -⟩, ⟨x4, y4⟩⟩ := kb4 PR.out.kd
 obtain ⟨⟨-, -⟩, ⟨-, -⟩, ⟨-, -⟩, ⟨-, -⟩, ⟨r4, s4⟩⟩ := kb4 PR.out.kb
 obtain ⟨W2, hW2⟩ : ∃ z, z = set6 W1 gx (i * 6) (.bool false) (.int .i64 0) (.int .i64 0) (.slice none 0 0) (.slice none 0 0) (.slice none 0 0) := ⟨_, rfl⟩
 have P2 := HM1.out.put6 hi tx0 (.slice none 0 0, .slice none 0 0, .slice none 0 0) (txm0 _ _) (fun j _ _ g hg => by simp [Value.ownBlock] at hg)
 have HF : Hid (RunP B bb gx w ({ x with tx := x.tx.set i tx0 }, ⟨0, 0, 0, false, []⟩) (.returned (.agg #[.int .i64 0, .int .i64 0, .int .i64 0, .bool false, .slice none 0 0])) (set5 (set6 W1 gx (i * 6) (.bool false) (.int .i64 0) (.int .i64 0) (.slice none 0 0) (.slice none 0 0) (.slice none 0 0)) (w.heap.size + 1) (.int .i64 0) (.int .i64 0) (.int .i64 0) (.bool false) (.slice none 0 0))) := hid (by
  exact run_fin (r := ({ x with tx := x.tx.set i tx0 }, ⟨0, 0, 0, false, []⟩)) P2.1 ((Keep.of_below PR.out.be).trans (P2.2.keep (fun ty h z => by subst h; exact z.2.1 rfl))) (below_set6 (PR.out.be.mono hB) HM1.out.xB) hB (Nat.le_succ _) (tag_set6 PR.out.gb) (gr_nil _ _ _ _ _))
 have b3 : W1.cell? ⟨bb, 3, none⟩ = some (.slice (some ⟨gx, 0, none⟩) 4 4) := (HM1.out.bs 3 (by simp)).1
 have hsz : W1.heap.size = w.heap.size + 1 + 1 + 1 + 1 := PR.out.sz
 have q0 : W1.cell? ⟨gx, i * 6, none⟩ = some (.bool true) := (PR.out.be.cell (p := ⟨gx, i * 6, none⟩) hgxl).trans ((HCL.out 0 (by omega)).1.trans (by show some (Value.bool t.op) = _; rw [HOP.out]))
 have z0 : W1.frozen? ⟨gx, i * 6, none⟩ = false := (PR.out.be.frozen (p := ⟨gx, i * 6, none⟩) hgxl).trans (HCL.out 0 (by omega)).2
 have q1 : W1.cell? ⟨gx, i * 6 + 1, none⟩ = some (.int .i64 t.md) := ct PR.out.be hgxl ((HCL.out 1 (by omega)).1)
 have z1 : W1.frozen? ⟨gx, i * 6 + 1, none⟩ = false := (PR.out.be.frozen (p := ⟨gx, i * 6 + 1, none⟩) hgxl).trans (HCL.out 1 (by omega)).2
 have q2 : W1.cell? ⟨gx, i * 6 + 2, none⟩ = some (.int .i64 t.bg) := ct PR.out.be hgxl ((HCL.out 2 (by omega)).1)
 have z2 : W1.frozen? ⟨gx, i * 6 + 2, none⟩ = false := (PR.out.be.frozen (p := ⟨gx, i * 6 + 2, none⟩) hgxl).trans (HCL.out 2 (by omega)).2
 have q3 : W1.cell? ⟨gx, i * 6 + 3, none⟩ = some (.slice oa t.own.length oc) := ct PR.out.be hgxl ((HCL.out 3 (by omega)).1)
 have z3 : W1.frozen? ⟨gx, i * 6 + 3, none⟩ = false := (PR.out.be.frozen (p := ⟨gx, i * 6 + 3, none⟩) hgxl).trans (HCL.out 3 (by omega)).2
 have q4 : W1.cell? ⟨gx, i * 6 + 4, none⟩ = some (.slice (some ⟨gr, 0, none⟩) 32 32) := ct PR.out.be hgxl ((HCL.out 4 (by omega)).1)
 have z4 : W1.frozen? ⟨gx, i * 6 + 4, none⟩ = false := (PR.out.be.frozen (p := ⟨gx, i * 6 + 4, none⟩) hgxl).trans (HCL.out 4 (by omega)).2
 have q5 : W1.cell? ⟨gx, i * 6 + 5, none⟩ = some (.slice sa t.sv.length sc) := ct PR.out.be hgxl ((HCL.out 5 (by omega)).1)
 have z5 : W1.frozen? ⟨gx, i * 6 + 5, none⟩ = false := (PR.out.be.frozen (p := ⟨gx, i * 6 + 5, none⟩) hgxl).trans (HCL.out 5 (by omega)).2
 have hn1 : ¬ gx = w.heap.size + 1 := by omega
 have hn3 : ¬ gx = w.heap.size + 1 + 1 + 1 := by omega
 have hn4 : ¬ w.heap.size + 1 = gx := by omega
 have hn5 : ¬ w.heap.size + 1 + 1 + 1 = gx := by omega
 unfold set5 set6 at HF
 clear P2 hW2 hsz PR HM1 HTM1 HCL
 go_wp2
 refine bodyPost_ret (v := .agg #[.int .i64 0, .int .i64 0, .int .i64 0, .bool false, .slice none 0 0]) (by simp [results, Tryz.results21, go_sem, r0, r1, r2, r3, r4, s0, s1, s2, s3, s4]) rfl ?_
 exact HF.out
theorem pre3 (w : World) (a b c : List Value) (ta tb tc : Nat) : Below w.heap.size w (((w.alloc (.cells a.toArray ta)).alloc (.cells b.toArray tb)).alloc (.cells c.toArray tc)) /\ tag (((w.alloc (.cells a.toArray ta)).alloc (.cells b.toArray tb)).alloc (.cells c.toArray tc)) (w.heap.size + 1) tb /\ Blk (((w.alloc (.cells a.toArray ta)).alloc (.cells b.toArray tb)).alloc (.cells c.toArray tc)) (w.heap.size + 1) b := by
 have e1 : (w.alloc (.cells a.toArray ta)).heap.size = w.heap.size + 1 := by simp
 have k1 := blk_new (w.alloc (.cells a.toArray ta)) b tb
 have g1 := tag_new (w.alloc (.cells a.toArray ta)) b tb
 rw [e1] at k1 g1
 exact ⟨((below_alloc w _).alloc (by simp) _).alloc (by simp; omega) _, tag_below g1 (below_alloc _ _), k1.below (below_alloc _ _) (by simp)⟩
theorem pre2 (w : World) (a b : List Value) (ta tb : Nat) : Below w.heap.size w ((w.alloc (.cells a.toArray ta)).alloc (.cells b.toArray tb)) /\ tag ((w.alloc (.cells a.toArray ta)).alloc (.cells b.toArray tb)) (w.heap.size + 1) tb := by
 have e1 : (w.alloc (.cells a.toArray ta)).heap.size = w.heap.size + 1 := by simp
 have g1 := tag_new (w.alloc (.cells a.toArray ta)) b tb
 rw [e1] at g1
 exact ⟨(below_alloc w _).alloc (by simp) _, g1⟩
theorem run_bad (B bb gx : Nat) (x : Bas) (o : Opn) (cv hv : Value) (vs : List (Value × Value × Value)) (w : World) (hM : Mem B bb gx w x cv hv vs) (hB : B <= w.heap.size) (hbad : o.kd < 1 \/ 10 < o.kd \/ o.ss < 1 \/ 4 < o.ss) :
 Calls Tryz.prog 21 #[.pointer (some ⟨bb, 0, none⟩), .agg #[.int .i64 o.kd, .int .i64 o.ss, .int .i64 o.tb, .int .i64 o.ky, .int .i64 o.vl, .int .i64 o.md, .string o.nm]] w fun e w' => RunP B bb gx w (runF x o) e w' := by
 have er : runF x o = (x, ⟨1, 0, 0, false, []⟩) := by unfold runF; rw [if_pos hbad]
 rw [er]
 clear er
 have P := pre2 w [.int .i64 o.kd, .int .i64 o.ss, .int .i64 o.tb, .int .i64 o.ky, .int .i64 o.vl, .int .i64 o.md, .string o.nm] [.int .i64 1, .int .i64 0, .int .i64 0, .bool false, .slice none 0 0] 41 38
 have HF : Hid (RunP B bb gx w (x, ⟨1, 0, 0, false, []⟩) (.returned (.agg #[.int .i64 1, .int .i64 0, .int .i64 0, .bool false, .slice none 0 0])) ((w.alloc (.cells #[.int .i64 o.kd, .int .i64 o.ss, .int .i64 o.tb, .int .i64 o.ky, .int .i64 o.vl, .int .i64 o.md, .string o.nm] 41)).alloc (.cells #[.int .i64 1, .int .i64 0, .int .i64 0, .bool false, .slice none 0 0] 38))) := hid (⟨cv, hv, vs, _, rfl, gr_nil _ _ _ _ _, hM.below P.1, Keep.of_below P.1, P.1.mono hB⟩)
 clear P hM
 by_cases h1 : o.kd < 1
 .clear hbad
  go_enter Tryz.func21, Tryz.ntmps21
  go_wp2
  refine bodyPost_ret (v := .agg #[.int .i64 1, .int .i64 0, .int .i64 0, .bool false, .slice none 0 0]) (by simp [results, Tryz.results21, go_sem]) rfl ?_
  with_reducible exact HF.out
 .by_cases h2 : 10 < o.kd
  .clear hbad
   go_enter Tryz.func21, Tryz.ntmps21
   go_wp2
   refine bodyPost_ret (v := .agg #[.int .i64 1, .int .i64 0, .int .i64 0, .bool false, .slice none 0 0]) (by simp [results, Tryz.results21, go_sem]) rfl ?_
   with_reducible exact HF.out
  .by_cases h3 : o.ss < 1
   .clear hbad
    go_enter Tryz.func21, Tryz.ntmps21
    go_wp2
    refine bodyPost_ret (v := .agg #[.int .i64 1, .int .i64 0, .int .i64 0, .bool false, .slice none 0 0]) (by simp [results, Tryz.results21, go_sem]) rfl ?_
    with_reducible exact HF.out
   .have h4 : 4 < o.ss := by omega
    clear hbad
    go_enter Tryz.func21, Tryz.ntmps21
    go_wp2
    refine bodyPost_ret (v := .agg #[.int .i64 1, .int .i64 0, .int .i64 0, .bool false, .slice none 0 0]) (by simp [results, Tryz.results21, go_sem]) rfl ?_
    with_reducible exact HF.out
theorem run_st1 (B bb gx i : Nat) (x : Bas) (tb ky vl md : Int) (nm : ByteArray) (cv hv : Value) (vs : List (Value × Value × Value)) (w : World) (hM : Mem B bb gx w x cv hv vs) (hi : i < 4) (hop : (x.tx.getD i tx0).op = true) (hb : Bnd x) (hB : B <= w.heap.size) :
 Calls Tryz.prog 21 #[.pointer (some ⟨bb, 0, none⟩), .agg #[.int .i64 1, .int .i64 ((i : Int) + 1), .int .i64 tb, .int .i64 ky, .int .i64 vl, .int .i64 md, .string nm]] w fun e w' => RunP B bb gx w (runF x ⟨1, (i : Int) + 1, tb, ky, vl, md, nm⟩) e w' := by
 obtain ⟨t, ⟨ov, rv, sv⟩, htx, hvx, hTM, hcell⟩ := hM.at hi
 have htD : x.tx.getD i tx0 = t := by rw [List.getD_eq_getElem?_getD, htx]; rfl
 have hin : ((i : Int) + 1 - 1).toNat = i := by omega
 have er : runF x ⟨1, (i : Int) + 1, tb, ky, vl, md, nm⟩ = (x, ⟨22, 0, 0, false, []⟩) := by
  unfold runF
  simp only [hin, hop]
  rw [if_neg (by omega), if_pos (by decide)]
 rw [er]
 clear er hin
 rw [htD] at hop
 obtain ⟨ra, rn, rc, hrv⟩ := hTM.rf.1
 simp only at hrv
 subst hrv
 obtain ⟨oa, oc, hov⟩ := hTM.ow.form
 simp only at hov
 subst hov
 obtain ⟨sa, sc, hsv⟩ := hTM.sa.form
 simp only at hsv
 subst hsv
 have q0 : w.cell? ⟨gx, i * 6, none⟩ = some (.bool true) := (hcell 0 (by omega)).1.trans (by show some (Value.bool t.op) = _; rw [hop])
 obtain ⟨-, q1, q2, q3, q4, q5⟩ := mqc hcell
 have b3 : w.cell? ⟨bb, 3, none⟩ = some (.slice (some ⟨gx, 0, none⟩) 4 4) := (hM.bs 3 (by simp)).1
 have hgxl : gx < w.heap.size := tag_lt hM.xt
 have hbbl : bb < w.heap.size := tag_lt hM.bt
 obtain ⟨hii, hs1, hs2, hwr⟩ := iok hi
 have hgl1 : gx < w.heap.size + 1 := by omega
 have hbl1 : bb < w.heap.size + 1 := by omega
 have P := pre3 w [.int .i64 1, .int .i64 ((i : Int) + 1), .int .i64 tb, .int .i64 ky, .int .i64 vl, .int .i64 md, .string nm] [.int .i64 22, .int .i64 0, .int .i64 0, .bool false, .slice none 0 0] [.bool true, .int .i64 t.md, .int .i64 t.bg, .slice oa t.own.length oc, .slice ra rn rc, .slice sa t.sv.length sc] 41 38 70
 have HF : Hid (RunP B bb gx w (x, ⟨22, 0, 0, false, []⟩) (.returned (.agg #[.int .i64 22, .int .i64 0, .int .i64 0, .bool false, .slice none 0 0])) (((w.alloc (.cells #[.int .i64 1, .int .i64 ((i : Int) + 1), .int .i64 tb, .int .i64 ky, .int .i64 vl, .int .i64 md, .string nm] 41)).alloc (.cells #[.int .i64 22, .int .i64 0, .int .i64 0, .bool false, .slice none 0 0] 38)).alloc (.cells #[.bool true, .int .i64 t.md, .int .i64 t.bg, .slice oa t.own.length oc, .slice ra rn rc, .slice sa t.sv.length sc] 70))) := hid (⟨cv, hv, vs, _, rfl, gr_nil _ _ _ _ _, hM.below P.1, Keep.of_below P.1, P.1.mono hB⟩)
 clear P hM hTM hcell htx hvx htD hop hb
 go_enter Tryz.func21, Tryz.ntmps21
 go_wp2
 refine bodyPost_ret (v := .agg #[.int .i64 22, .int .i64 0, .int .i64 0, .bool false, .slice none 0 0]) (by simp [results, Tryz.results21, go_sem]) rfl ?_
 with_reducible exact HF.out
theorem run_st2 (B bb gx i : Nat) (x : Bas) (kd tb ky vl md : Int) (nm : ByteArray) (cv hv : Value) (vs : List (Value × Value × Value)) (w : World) (hM : Mem B bb gx w x cv hv vs) (hi : i < 4) (hop : (x.tx.getD i tx0).op = false) (hb : Bnd x) (hB : B <= w.heap.size) (h1 : ¬ kd < 1) (h10 : ¬ 10 < kd) (hk1 : (kd == 1) = false) :
 Calls Tryz.prog 21 #[.pointer (some ⟨bb, 0, none⟩), .agg #[.int .i64 kd, .int .i64 ((i : Int) + 1), .int .i64 tb, .int .i64 ky, .int .i64 vl, .int .i64 md, .string nm]] w fun e w' => RunP B bb gx w (runF x ⟨kd, (i : Int) + 1, tb, ky, vl, md, nm⟩) e w' := by
 obtain ⟨t, ⟨ov, rv, sv⟩, htx, hvx, hTM, hcell⟩ := hM.at hi
 have htD : x.tx.getD i tx0 = t := by rw [List.getD_eq_getElem?_getD, htx]; rfl
 have hin : ((i : Int) + 1 - 1).toNat = i := by omega
 have er : runF x ⟨kd, (i : Int) + 1, tb, ky, vl, md, nm⟩ = (x, ⟨22, 0, 0, false, []⟩) := by
  unfold runF
  simp only [hin, hop]
  rw [if_neg (by omega), if_pos hk1]
 rw [er]
 clear er hin
 rw [htD] at hop
 obtain ⟨ra, rn, rc, hrv⟩ := hTM.rf.1
 simp only at hrv
 subst hrv
 obtain ⟨oa, oc, hov⟩ := hTM.ow.form
 simp only at hov
 subst hov
 obtain ⟨sa, sc, hsv⟩ := hTM.sa.form
 simp only at hsv
 subst hsv
 have q0 : w.cell? ⟨gx, i * 6, none⟩ = some (.bool false) := (hcell 0 (by omega)).1.trans (by show some (Value.bool t.op) = _; rw [hop])
 obtain ⟨-, q1, q2, q3, q4, q5⟩ := mqc hcell
 have b3 : w.cell? ⟨bb, 3, none⟩ = some (.slice (some ⟨gx, 0, none⟩) 4 4) := (hM.bs 3 (by simp)).1
 have hgxl : gx < w.heap.size := tag_lt hM.xt
 have hbbl : bb < w.heap.size := tag_lt hM.bt
 obtain ⟨hii, hs1, hs2, hwr⟩ := iok hi
 have hgl1 : gx < w.heap.size + 1 := by omega
 have hbl1 : bb < w.heap.size + 1 := by omega
 have P := pre3 w [.int .i64 kd, .int .i64 ((i : Int) + 1), .int .i64 tb, .int .i64 ky, .int .i64 vl, .int .i64 md, .string nm] [.int .i64 22, .int .i64 0, .int .i64 0, .bool false, .slice none 0 0] [.bool false, .int .i64 t.md, .int .i64 t.bg, .slice oa t.own.length oc, .slice ra rn rc, .slice sa t.sv.length sc] 41 38 70
 have HF : Hid (RunP B bb gx w (x, ⟨22, 0, 0, false, []⟩) (.returned (.agg #[.int .i64 22, .int .i64 0, .int .i64 0, .bool false, .slice none 0 0])) (((w.alloc (.cells #[.int .i64 kd, .int .i64 ((i : Int) + 1), .int .i64 tb, .int .i64 ky, .int .i64 vl, .int .i64 md, .string nm] 41)).alloc (.cells #[.int .i64 22, .int .i64 0, .int .i64 0, .bool false, .slice none 0 0] 38)).alloc (.cells #[.bool false, .int .i64 t.md, .int .i64 t.bg, .slice oa t.own.length oc, .slice ra rn rc, .slice sa t.sv.length sc] 70))) := hid (⟨cv, hv, vs, _, rfl, gr_nil _ _ _ _ _, hM.below P.1, Keep.of_below P.1, P.1.mono hB⟩)
 clear P hM hTM hcell htx hvx htD hop hb
 go_enter Tryz.func21, Tryz.ntmps21
 go_wp2
 refine bodyPost_ret (v := .agg #[.int .i64 22, .int .i64 0, .int .i64 0, .bool false, .slice none 0 0]) (by simp [results, Tryz.results21, go_sem]) rfl ?_
 with_reducible exact HF.out
theorem run_tb (B bb gx i : Nat) (x : Bas) (kd tb ky vl md : Int) (nm : ByteArray) (cv hv : Value) (vs : List (Value × Value × Value)) (w : World) (hM : Mem B bb gx w x cv hv vs) (hi : i < 4) (hop : (x.tx.getD i tx0).op = true) (hb : Bnd x) (hB : B <= w.heap.size) (h1 : 2 <= kd) (h10 : kd <= 5) (htb : tb < 0 \/ 32 <= tb) :
 Calls Tryz.prog 21 #[.pointer (some ⟨bb, 0, none⟩), .agg #[.int .i64 kd, .int .i64 ((i : Int) + 1), .int .i64 tb, .int .i64 ky, .int .i64 vl, .int .i64 md, .string nm]] w fun e w' => RunP B bb gx w (runF x ⟨kd, (i : Int) + 1, tb, ky, vl, md, nm⟩) e w' := by
 obtain ⟨t, ⟨ov, rv, sv⟩, htx, hvx, hTM, hcell⟩ := hM.at hi
 have htD : x.tx.getD i tx0 = t := by rw [List.getD_eq_getElem?_getD, htx]; rfl
 have hin : ((i : Int) + 1 - 1).toNat = i := by omega
 have er : runF x ⟨kd, (i : Int) + 1, tb, ky, vl, md, nm⟩ = (x, ⟨6, 0, 0, false, []⟩) := by
  unfold runF
  simp only [hin, hop]
  rw [if_neg (by omega), if_neg (by have : (kd == 1) = false := beq_eq_false_iff_ne.2 (by omega); rw [this]; decide), if_pos ⟨⟨h1, h10⟩, htb⟩]
 rw [er]
 clear er hin
 rw [htD] at hop
 obtain ⟨ra, rn, rc, hrv⟩ := hTM.rf.1
 simp only at hrv
 subst hrv
 obtain ⟨oa, oc, hov⟩ := hTM.ow.form
 simp only at hov
 subst hov
 obtain ⟨sa, sc, hsv⟩ := hTM.sa.form
 simp only at hsv
 subst hsv
 have q0 : w.cell? ⟨gx, i * 6, none⟩ = some (.bool true) := (hcell 0 (by omega)).1.trans (by show some (Value.bool t.op) = _; rw [hop])
 obtain ⟨-, q1, q2, q3, q4, q5⟩ := mqc hcell
 have b3 : w.cell? ⟨bb, 3, none⟩ = some (.slice (some ⟨gx, 0, none⟩) 4 4) := (hM.bs 3 (by simp)).1
 have hgxl : gx < w.heap.size := tag_lt hM.xt
 have hbbl : bb < w.heap.size := tag_lt hM.bt
 obtain ⟨hii, hs1, hs2, hwr⟩ := iok hi
 have hgl1 : gx < w.heap.size + 1 := by omega
 have hbl1 : bb < w.heap.size + 1 := by omega
 have P := pre3 w [.int .i64 kd, .int .i64 ((i : Int) + 1), .int .i64 tb, .int .i64 ky, .int .i64 vl, .int .i64 md, .string nm] [.int .i64 6, .int .i64 0, .int .i64 0, .bool false, .slice none 0 0] [.bool true, .int .i64 t.md, .int .i64 t.bg, .slice oa t.own.length oc, .slice ra rn rc, .slice sa t.sv.length sc] 41 38 70
 have HF : Hid (RunP B bb gx w (x, ⟨6, 0, 0, false, []⟩) (.returned (.agg #[.int .i64 6, .int .i64 0, .int .i64 0, .bool false, .slice none 0 0])) (((w.alloc (.cells #[.int .i64 kd, .int .i64 ((i : Int) + 1), .int .i64 tb, .int .i64 ky, .int .i64 vl, .int .i64 md, .string nm] 41)).alloc (.cells #[.int .i64 6, .int .i64 0, .int .i64 0, .bool false, .slice none 0 0] 38)).alloc (.cells #[.bool true, .int .i64 t.md, .int .i64 t.bg, .slice oa t.own.length oc, .slice ra rn rc, .slice sa t.sv.length sc] 70))) := hid (⟨cv, hv, vs, _, rfl, gr_nil _ _ _ _ _, hM.below P.1, Keep.of_below P.1, P.1.mono hB⟩)
 clear P hM hTM hcell htx hvx htD hop hb
 have k1 : (kd == 1) = false := beq_eq_false_iff_ne.2 (by omega)
 have k2 : ¬ kd < 1 := by omega
 have k3 : ¬ 10 < kd := by omega
 by_cases h5 : tb < 0
 .clear htb
  go_enter Tryz.func21, Tryz.ntmps21
  go_wp2
  refine bodyPost_ret (v := .agg #[.int .i64 6, .int .i64 0, .int .i64 0, .bool false, .slice none 0 0]) (by simp [results, Tryz.results21, go_sem]) rfl ?_
  with_reducible exact HF.out
 .have h6 : 32 <= tb := by omega
  clear htb
  go_enter Tryz.func21, Tryz.ntmps21
  go_wp2
  refine bodyPost_ret (v := .agg #[.int .i64 6, .int .i64 0, .int .i64 0, .bool false, .slice none 0 0]) (by simp [results, Tryz.results21, go_sem]) rfl ?_
  with_reducible exact HF.out
end Go.Proofs.YtblkgicbimflhaaGreat
