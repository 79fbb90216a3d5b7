import Derived.Test.YtblkgicbimflhaaGreatSAM
import Derived.Deep.RegionHeld3
import Derived.Deep.CutRange
import Derived.Deep.DeepCutAuto
namespace Go.Proofs.YtblkgicbimflhaaGreat
open Go.ChangeShapes Go.WideShapes Go.ChangeAt Go.RowKit
set_option linter.unusedVariables false
set_option linter.unusedSimpArgs false
set_option maxRecDepth 100000
set_option maxHeartbeats 16000000
structure MidP (B bb gx : Nat) (w : World) (y : Bas) (cv hv : Value) (vs : List (Value × Value × Value)) (op tv : List Value) (wx : World) : Prop where
 m : Mem B bb gx wx y cv hv vs
 k : Keep w wx
 b : Below B w wx
 ka : Blk wx w.heap.size op
 kb : Blk wx (w.heap.size + 1) [.int .i64 0, .int .i64 0, .int .i64 0, .bool false, .slice none 0 0]
 kc : Blk wx (w.heap.size + 1 + 1) tv
 kd : Blk wx (w.heap.size + 1 + 1 + 1) [.int .i64 0, .int .i64 0, .int .i64 0, .bool false, .slice none 0 0]
 gb : tag wx (w.heap.size + 1) 38
 gd : tag wx (w.heap.size + 1 + 1 + 1) 38
theorem MidP.lt {B bb gx : Nat} {w : World} {y : Bas} {cv hv : Value} {vs : List (Value × Value × Value)} {op tv : List Value} {wx : World} (h : MidP B bb gx w y cv hv vs op tv wx) : w.heap.size + 1 + 1 + 1 < wx.heap.size := tag_lt h.gd
theorem MidP.below {B bb gx : Nat} {w : World} {y : Bas} {cv hv : Value} {vs : List (Value × Value × Value)} {op tv : List Value} {wx w' : World} (h : MidP B bb gx w y cv hv vs op tv wx) (hb : Below wx.heap.size wx w') (hB : B <= w.heap.size) : MidP B bb gx w y cv hv vs op tv w' := by
 have hl := h.lt
 exact ⟨h.m.below hb, h.k.trans (Keep.of_below hb), h.b.trans (hb.mono (by omega)), h.ka.below hb (by omega), h.kb.below hb (by omega), h.kc.below hb (by omega), h.kd.below hb hl, tag_below h.gb hb, tag_below h.gd hb⟩
theorem infoBo : (Tryz.prog.info? 4).map (fun i => (i.zero, i.size, i.bytes)) = some (some (.bool false), 1, 1) := by kernel_rfl
theorem mk32 (W : World) : (Instr.makeSlice 39 (.int .i64 32) (.int .i64 32)).run Tryz.prog W = .ok (.slice (some ⟨W.heap.size, 0, none⟩) 32 32) (W.alloc (.cells #[.bool false, .bool false, .bool false, .bool false, .bool false, .bool false, .bool false, .bool false, .bool false, .bool false, .bool false, .bool false, .bool false, .bool false, .bool false, .bool false, .bool false, .bool false, .bool false, .bool false, .bool false, .bool false, .bool false, .bool false, .bool false, .bool false, .bool false, .bool false, .bool false, .bool false, .bool false, .bool false] 4)) := by
 obtain ⟨i0, hi, hz0, hz1, hz2⟩ := info_parts infoBo
 have h := run_makeSlice W 39 4 i0 _ Tryz.underlying39 hi hz0 .i64 .i64 32 32 (by decide) (by decide) (by rw [hz1]; decide) (by rw [hz2]; decide) (by decide)
 rw [hz1] at h
 have e : madeCells (Value.bool false).cells (Int.toNat 32 * 1) = #[.bool false, .bool false, .bool false, .bool false, .bool false, .bool false, .bool false, .bool false, .bool false, .bool false, .bool false, .bool false, .bool false, .bool false, .bool false, .bool false, .bool false, .bool false, .bool false, .bool false, .bool false, .bool false, .bool false, .bool false, .bool false, .bool false, .bool false, .bool false, .bool false, .bool false, .bool false, .bool false] := by first | rfl | kernel_rfl | decide
 rw [e] at h
 exact h
theorem run_1bad (B bb gx i : Nat) (x : Bas) (tb ky vl md : Int) (nm : ByteArray) (cv hv : Value) (vs : List (Value × Value × Value)) (w : World) (hM : Mem B bb gx w x cv hv vs) (hi : i < 4) (hop : (x.tx.getD i tx0).op = false) (hb : Bnd x) (hB : B <= w.heap.size) (hm1 : md ≠ 1) (hm2 : md ≠ 2) :
 Calls Tryz.prog 21 #[.pointer (some ⟨bb, 0, none⟩), .agg #[.int .i64 1, .int .i64 ((i : Int) + 1), .int .i64 tb, .int .i64 ky, .int .i64 vl, .int .i64 md, .string nm]] w fun e w' => RunP B bb gx w (runF x ⟨1, (i : Int) + 1, tb, ky, vl, md, nm⟩) e w' := by
 have hin0 : ((i : Int) + 1 - 1).toNat = i := by omega
 have er : runF x ⟨1, (i : Int) + 1, tb, ky, vl, md, nm⟩ = (x, ⟨1, 0, 0, false, []⟩) := by
  unfold runF
  simp only [hin0, hop]
  rw [if_neg (by omega), if_neg (by decide), if_neg (by omega), if_pos trivial, if_pos ⟨hm1, hm2⟩]
 rw [er]
 clear er hin0
 obtain ⟨t, ⟨ov, rv, sv⟩, htx, hvx, hTM, hcell⟩ := hM.at hi
 have htD : x.tx.getD i tx0 = t := by rw [List.getD_eq_getElem?_getD, htx]; rfl
 have hmem : t ∈ x.tx := List.mem_of_getElem? htx
 rw [htD] at hop
 obtain ⟨ra, rn, rc, hrv⟩ := hTM.rf.1
 simp only at hrv
 subst hrv
 obtain ⟨oa, oc, hov⟩ := hTM.ow.form
 simp only at hov
 subst hov
 obtain ⟨sa, sc, hsv⟩ := hTM.sa.form
 simp only at hsv
 subst hsv
 obtain ⟨ma, mc, hcv⟩ : ∃ a c, cv = .slice a x.cms.length c := by obtain ⟨ps, _, ho, _⟩ := hM.cm; exact formR ho
 subst hcv
 obtain ⟨ha, hc, hhv⟩ : ∃ a c, hv = .slice a x.hs.length c := by obtain ⟨ps, _, ho, _⟩ := hM.hi; exact formR ho
 subst hhv
 have q0 : w.cell? ⟨gx, i * 6, none⟩ = some (.bool false) := (hcell 0 (by omega)).1.trans (by show some (Value.bool t.op) = _; rw [hop])
 obtain ⟨-, q1, q2, q3, q4, q5⟩ := mqc hcell
 have b3 : w.cell? ⟨bb, 3, none⟩ = some (.slice (some ⟨gx, 0, none⟩) 4 4) := (hM.bs 3 (by simp)).1
 have hgxl : gx < w.heap.size := tag_lt hM.xt
 have hbbl : bb < w.heap.size := tag_lt hM.bt
 obtain ⟨hii, hs1, hs2, hwr⟩ := iok hi
 have hin : ((i : Int) + 1 - 1).toNat = i := by omega
 have HIN := hid hin
 clear hin
 have hgl1 : gx < w.heap.size + 1 := by omega
 have hbl1 : bb < w.heap.size + 1 := by omega
 obtain ⟨W1, hW1, PR⟩ := pre5 w 1 ((i : Int) + 1) tb ky vl md nm false t.md t.bg (.slice oa t.own.length oc) (.slice ra rn rc) (.slice sa t.sv.length sc)
 have HM1 := hid (hM.below PR.out.be)
 have HTM1 := hid (hTM.chg (Chg.of_below (fun _ => False) PR.out.be) (fun z => z) (fun z => z) (fun z => z))
 have HBN := hid hb
 have HTX := hid htx
 have HVX := hid hvx
 have HTD := hid htD
 have HMEM := hid hmem
 have HOP := hid hop
 have HCL := hid hcell
 clear hM hTM hb htx hvx hcell hmem htD hop
 go_enter Tryz.func21, Tryz.ntmps21
 go_upto_region 11 with (fail)
 rw [<- hW1]
 clear hW1 q0 q1 q2 q3 q4 q5 b3
 obtain ⟨k0, k1, k2, k3, k4, k5, k6⟩ := kc6 PR.out.ka
 have x0 : W1.cell? ⟨w.heap.size + 1 + 1 + 1, 0, none⟩ = some (.int .i64 0) := (PR.out.kd 0 (by simp)).1
 have y0 : W1.frozen? ⟨w.heap.size + 1 + 1 + 1, 0, none⟩ = false := (PR.out.kd 0 (by simp)).2
 have r0 : W1.cell? ⟨w.heap.size + 1, 0, none⟩ = some (.int .i64 0) := (PR.out.kb 0 (by simp)).1
 have s0 : W1.frozen? ⟨w.heap.size + 1, 0, none⟩ = false := (PR.out.kb 0 (by simp)).2
 obtain ⟨⟨-, -⟩, ⟨x1, y1⟩⟩ := kb1 PR.out.kd
 obtain ⟨⟨-, -⟩, ⟨r1, s1⟩⟩ := kb1 PR.out.kb
 obtain ⟨⟨-, -⟩, ⟨-, -⟩, ⟨x2, y2⟩⟩ := kb2 PR.out.kd
 obtain ⟨⟨-, -⟩, ⟨-, -⟩, ⟨r2, s2⟩⟩ := kb2 PR.out.kb
 obtain ⟨⟨-, -⟩, ⟨-, -⟩, ⟨-, -⟩, ⟨x3, y3⟩⟩ := kb3 PR.out.kd
 obtain ⟨⟨-, -⟩, ⟨-, -⟩, ⟨-, -⟩, ⟨r3, s3⟩⟩ := kb3 PR.out.kb
 obtain ⟨⟨-, -⟩, ⟨-, -⟩, ⟨-, -⟩, ⟨-, -⟩, ⟨x4, y4⟩⟩ := kb4 PR.out.kd
 obtain ⟨⟨-, -⟩, ⟨-, -⟩, ⟨-, -⟩, ⟨-, -⟩, ⟨r4, s4⟩⟩ := kb4 PR.out.kb
 have HF : Hid (RunP B bb gx w (x, ⟨1, 0, 0, false, []⟩) (.returned (.agg #[.int .i64 1, .int .i64 0, .int .i64 0, .bool false, .slice none 0 0])) (set5 W1 (w.heap.size + 1) (.int .i64 1) (.int .i64 0) (.int .i64 0) (.bool false) (.slice none 0 0))) := hid (run_fin (r := (x, ⟨1, 0, 0, false, []⟩)) HM1.out (Keep.of_below PR.out.be) (PR.out.be.mono hB) hB (Nat.le_succ _) PR.out.gb (gr_nil _ _ _ _ _))
 unfold set5 at HF
 have hm1b : (md != 1) = true := by simpa using hm1
 have hm2b : (md != 2) = true := by simpa using hm2
 clear PR HM1 HTM1 HCL HBN HTX HVX HTD HMEM HOP
 go_wp2
 refine bodyPost_ret (v := .agg #[.int .i64 1, .int .i64 0, .int .i64 0, .bool false, .slice none 0 0]) (by simp [results, Tryz.results21, go_sem, r0, r1, r2, r3, r4, s0, s1, s2, s3, s4]) rfl ?_
 exact HF.out
theorem run_1 (B bb gx i : Nat) (x : Bas) (tb ky vl md : Int) (nm : ByteArray) (cv hv : Value) (vs : List (Value × Value × Value)) (w : World) (hM : Mem B bb gx w x cv hv vs) (hi : i < 4) (hop : (x.tx.getD i tx0).op = false) (hb : Bnd x) (hB : B <= w.heap.size) (hmd : md = 1 \/ md = 2) :
 Calls Tryz.prog 21 #[.pointer (some ⟨bb, 0, none⟩), .agg #[.int .i64 1, .int .i64 ((i : Int) + 1), .int .i64 tb, .int .i64 ky, .int .i64 vl, .int .i64 md, .string nm]] w fun e w' => RunP B bb gx w (runF x ⟨1, (i : Int) + 1, tb, ky, vl, md, nm⟩) e w' := by
 have hin0 : ((i : Int) + 1 - 1).toNat = i := by omega
 have er : runF x ⟨1, (i : Int) + 1, tb, ky, vl, md, nm⟩ = ({ x with tx := x.tx.set i ⟨true, md, x.ck, [], rd0, []⟩ }, ⟨0, 0, x.ck, false, []⟩) := by
  unfold runF
  simp only [hin0, hop]
  rw [if_neg (by omega), if_neg (by decide), if_neg (by omega), if_pos trivial, if_neg (by rcases hmd with h | h <;> simp [h])]
 rw [er]
 clear er hin0
 obtain ⟨t, ⟨ov, rv, sv⟩, htx, hvx, hTM, hcell⟩ := hM.at hi
 have htD : x.tx.getD i tx0 = t := by rw [List.getD_eq_getElem?_getD, htx]; rfl
 have hmem : t ∈ x.tx := List.mem_of_getElem? htx
 rw [htD] at hop
 obtain ⟨ra, rn, rc, hrv⟩ := hTM.rf.1
 simp only at hrv
 subst hrv
 obtain ⟨oa, oc, hov⟩ := hTM.ow.form
 simp only at hov
 subst hov
 obtain ⟨sa, sc, hsv⟩ := hTM.sa.form
 simp only at hsv
 subst hsv
 obtain ⟨ma, mc, hcv⟩ : ∃ a c, cv = .slice a x.cms.length c := by obtain ⟨ps, _, ho, _⟩ := hM.cm; exact formR ho
 subst hcv
 obtain ⟨ha, hc, hhv⟩ : ∃ a c, hv = .slice a x.hs.length c := by obtain ⟨ps, _, ho, _⟩ := hM.hi; exact formR ho
 subst hhv
 have q0 : w.cell? ⟨gx, i * 6, none⟩ = some (.bool false) := (hcell 0 (by omega)).1.trans (by show some (Value.bool t.op) = _; rw [hop])
 obtain ⟨-, q1, q2, q3, q4, q5⟩ := mqc hcell
 have b3 : w.cell? ⟨bb, 3, none⟩ = some (.slice (some ⟨gx, 0, none⟩) 4 4) := (hM.bs 3 (by simp)).1
 have hgxl : gx < w.heap.size := tag_lt hM.xt
 have hbbl : bb < w.heap.size := tag_lt hM.bt
 obtain ⟨hii, hs1, hs2, hwr⟩ := iok hi
 have hin : ((i : Int) + 1 - 1).toNat = i := by omega
 have HIN := hid hin
 clear hin
 have hgl1 : gx < w.heap.size + 1 := by omega
 have hbl1 : bb < w.heap.size + 1 := by omega
 obtain ⟨W1, hW1, PR⟩ := pre5 w 1 ((i : Int) + 1) tb ky vl md nm false t.md t.bg (.slice oa t.own.length oc) (.slice ra rn rc) (.slice sa t.sv.length sc)
 have HM1 := hid (hM.below PR.out.be)
 have HTM1 := hid (hTM.chg (Chg.of_below (fun _ => False) PR.out.be) (fun z => z) (fun z => z) (fun z => z))
 have HBN := hid hb
 have HTX := hid htx
 have HVX := hid hvx
 have HTD := hid htD
 have HMEM := hid hmem
 have HOP := hid hop
 have HCL := hid hcell
 clear hM hTM hb htx hvx hcell hmem htD hop
 go_enter Tryz.func21, Tryz.ntmps21
 go_upto_region 11 with (fail)
 rw [<- hW1]
 clear hW1 q0 q1 q2 q3 q4 q5 b3
 obtain ⟨k0, k1, k2, k3, k4, k5, k6⟩ := kc6 PR.out.ka
 have q0 : W1.cell? ⟨gx, i * 6, none⟩ = some (.bool false) := (PR.out.be.cell (p := ⟨gx, i * 6, none⟩) hgxl).trans ((HCL.out 0 (by omega)).1.trans (by show some (Value.bool t.op) = _; rw [HOP.out]))
 have z0 : W1.frozen? ⟨gx, i * 6, none⟩ = false := (PR.out.be.frozen (p := ⟨gx, i * 6, none⟩) hgxl).trans (HCL.out 0 (by omega)).2
 have q1 : W1.cell? ⟨gx, i * 6 + 1, none⟩ = some (.int .i64 t.md) := ct PR.out.be hgxl ((HCL.out 1 (by omega)).1)
 have z1 : W1.frozen? ⟨gx, i * 6 + 1, none⟩ = false := (PR.out.be.frozen (p := ⟨gx, i * 6 + 1, none⟩) hgxl).trans (HCL.out 1 (by omega)).2
 have q2 : W1.cell? ⟨gx, i * 6 + 2, none⟩ = some (.int .i64 t.bg) := ct PR.out.be hgxl ((HCL.out 2 (by omega)).1)
 have z2 : W1.frozen? ⟨gx, i * 6 + 2, none⟩ = false := (PR.out.be.frozen (p := ⟨gx, i * 6 + 2, none⟩) hgxl).trans (HCL.out 2 (by omega)).2
 have q3 : W1.cell? ⟨gx, i * 6 + 3, none⟩ = some (.slice oa t.own.length oc) := ct PR.out.be hgxl ((HCL.out 3 (by omega)).1)
 have z3 : W1.frozen? ⟨gx, i * 6 + 3, none⟩ = false := (PR.out.be.frozen (p := ⟨gx, i * 6 + 3, none⟩) hgxl).trans (HCL.out 3 (by omega)).2
 have q4 : W1.cell? ⟨gx, i * 6 + 4, none⟩ = some (.slice ra rn rc) := ct PR.out.be hgxl ((HCL.out 4 (by omega)).1)
 have z4 : W1.frozen? ⟨gx, i * 6 + 4, none⟩ = false := (PR.out.be.frozen (p := ⟨gx, i * 6 + 4, none⟩) hgxl).trans (HCL.out 4 (by omega)).2
 have q5 : W1.cell? ⟨gx, i * 6 + 5, none⟩ = some (.slice sa t.sv.length sc) := ct PR.out.be hgxl ((HCL.out 5 (by omega)).1)
 have z5 : W1.frozen? ⟨gx, i * 6 + 5, none⟩ = false := (PR.out.be.frozen (p := ⟨gx, i * 6 + 5, none⟩) hgxl).trans (HCL.out 5 (by omega)).2
 obtain ⟨b0, -, -, b3⟩ := kc3 HM1.out.bs
 have hn1 : ¬ gx = w.heap.size + 1 := by omega
 have hn4 : ¬ w.heap.size + 1 = gx := by omega
 have hn6 : ¬ bb = gx := tag_ne HM1.out.bt HM1.out.xt (by decide)
 have hn7 : ¬ gx = bb := fun z => hn6 z.symm
 have HMD : Hid (MidP B bb gx w { x with tx := x.tx.set i ⟨true, md, x.ck, [], rd0, []⟩ } (.slice ma x.cms.length mc) (.slice ha x.hs.length hc) (vs.set i (.slice none 0 0, .slice (some ⟨W1.heap.size, 0, none⟩) 32 32, .slice none 0 0)) [.int .i64 1, .int .i64 ((i : Int) + 1), .int .i64 tb, .int .i64 ky, .int .i64 vl, .int .i64 md, .string nm] [.bool false, .int .i64 t.md, .int .i64 t.bg, .slice oa t.own.length oc, .slice ra rn rc, .slice sa t.sv.length sc] (((set6 W1 gx (i * 6) (.bool true) (.int .i64 md) (.int .i64 x.ck) (.slice none 0 0) (.slice (some ⟨W1.heap.size, 0, none⟩) 32 32) (.slice none 0 0)).alloc (.cells #[.bool false, .bool false, .bool false, .bool false, .bool false, .bool false, .bool false, .bool false, .bool false, .bool false, .bool false, .bool false, .bool false, .bool false, .bool false, .bool false, .bool false, .bool false, .bool false, .bool false, .bool false, .bool false, .bool false, .bool false, .bool false, .bool false, .bool false, .bool false, .bool false, .bool false, .bool false, .bool false] 4))).drew) := hid (by
  have hgx1 : gx < W1.heap.size := by have := PR.out.sz; omega
  have eW : (set6 (W1.alloc (.cells #[.bool false, .bool false, .bool false, .bool false, .bool false, .bool false, .bool false, .bool false, .bool false, .bool false, .bool false, .bool false, .bool false, .bool false, .bool false, .bool false, .bool false, .bool false, .bool false, .bool false, .bool false, .bool false, .bool false, .bool false, .bool false, .bool false, .bool false, .bool false, .bool false, .bool false, .bool false, .bool false] 4)) gx (i * 6) (.bool true) (.int .i64 md) (.int .i64 x.ck) (.slice none 0 0) (.slice (some ⟨W1.heap.size, 0, none⟩) 32 32) (.slice none 0 0)) = ((set6 W1 gx (i * 6) (.bool true) (.int .i64 md) (.int .i64 x.ck) (.slice none 0 0) (.slice (some ⟨W1.heap.size, 0, none⟩) 32 32) (.slice none 0 0)).alloc (.cells #[.bool false, .bool false, .bool false, .bool false, .bool false, .bool false, .bool false, .bool false, .bool false, .bool false, .bool false, .bool false, .bool false, .bool false, .bool false, .bool false, .bool false, .bool false, .bool false, .bool false, .bool false, .bool false, .bool false, .bool false, .bool false, .bool false, .bool false, .bool false, .bool false, .bool false, .bool false, .bool false] 4)) := by
   unfold set6
   simp [World.setCell_alloc_past, hgx1]
  have hk0 : Below W1.heap.size W1 (W1.alloc (.cells #[.bool false, .bool false, .bool false, .bool false, .bool false, .bool false, .bool false, .bool false, .bool false, .bool false, .bool false, .bool false, .bool false, .bool false, .bool false, .bool false, .bool false, .bool false, .bool false, .bool false, .bool false, .bool false, .bool false, .bool false, .bool false, .bool false, .bool false, .bool false, .bool false, .bool false, .bool false, .bool false] 4)) := below_alloc _ _
  have htm : TxM B (W1.alloc (.cells #[.bool false, .bool false, .bool false, .bool false, .bool false, .bool false, .bool false, .bool false, .bool false, .bool false, .bool false, .bool false, .bool false, .bool false, .bool false, .bool false, .bool false, .bool false, .bool false, .bool false, .bool false, .bool false, .bool false, .bool false, .bool false, .bool false, .bool false, .bool false, .bool false, .bool false, .bool false, .bool false] 4)) ⟨true, md, x.ck, [], rd0, []⟩ (.slice none 0 0, .slice (some ⟨W1.heap.size, 0, none⟩) 32 32, .slice none 0 0) := ⟨TL.nil _ _ _ _, TL.nil _ _ _ _, fun a n c h => by injection h with _ h1 h2; omega, fun _ => ⟨rfl, W1.heap.size, rfl, by have := PR.out.sz; omega, tag_new W1 (List.replicate 32 (Value.bool false)) _, by simpa [rd0] using blk_new W1 (List.replicate 32 (Value.bool false)) 4⟩, ⟨_, _, _, rfl⟩, fun g hg => by simp [Value.ownBlock] at hg; subst hg; simp⟩
  have P2 := (HM1.out.below hk0).put6 hi ⟨true, md, x.ck, [], rd0, []⟩ (.slice none 0 0, .slice (some ⟨W1.heap.size, 0, none⟩) 32 32, .slice none 0 0) htm (fun j hj hne g hg hg2 => by
   simp [Value.ownBlock] at hg
   subst hg
   have h1 : j < x.tx.length := by rw [HM1.out.n, <- HM1.out.m]; exact hj
   have hrf := (HM1.out.tm j h1 hj).rf.2 _ hg2
   omega)
  have ck : Chg (fun ty => ty = 70) W1 (set6 (W1.alloc (.cells #[.bool false, .bool false, .bool false, .bool false, .bool false, .bool false, .bool false, .bool false, .bool false, .bool false, .bool false, .bool false, .bool false, .bool false, .bool false, .bool false, .bool false, .bool false, .bool false, .bool false, .bool false, .bool false, .bool false, .bool false, .bool false, .bool false, .bool false, .bool false, .bool false, .bool false, .bool false, .bool false] 4)) gx (i * 6) (.bool true) (.int .i64 md) (.int .i64 x.ck) (.slice none 0 0) (.slice (some ⟨W1.heap.size, 0, none⟩) 32 32) (.slice none 0 0)) := (Chg.of_below _ hk0).trans P2.2
  have hsz := PR.out.sz
  have hr : ¬ w.heap.size + 1 + 1 = gx := by omega
  have hBB : Below B w (set6 (W1.alloc (.cells #[.bool false, .bool false, .bool false, .bool false, .bool false, .bool false, .bool false, .bool false, .bool false, .bool false, .bool false, .bool false, .bool false, .bool false, .bool false, .bool false, .bool false, .bool false, .bool false, .bool false, .bool false, .bool false, .bool false, .bool false, .bool false, .bool false, .bool false, .bool false, .bool false, .bool false, .bool false, .bool false] 4)) gx (i * 6) (.bool true) (.int .i64 md) (.int .i64 x.ck) (.slice none 0 0) (.slice (some ⟨W1.heap.size, 0, none⟩) 32 32) (.slice none 0 0)) := below_set6 ((PR.out.be.mono hB).trans (hk0.mono (by omega))) HM1.out.xB
  have key : MidP B bb gx w { x with tx := x.tx.set i ⟨true, md, x.ck, [], rd0, []⟩ } (.slice ma x.cms.length mc) (.slice ha x.hs.length hc) (vs.set i (.slice none 0 0, .slice (some ⟨W1.heap.size, 0, none⟩) 32 32, .slice none 0 0)) [.int .i64 1, .int .i64 ((i : Int) + 1), .int .i64 tb, .int .i64 ky, .int .i64 vl, .int .i64 md, .string nm] [.bool false, .int .i64 t.md, .int .i64 t.bg, .slice oa t.own.length oc, .slice ra rn rc, .slice sa t.sv.length sc] (set6 (W1.alloc (.cells #[.bool false, .bool false, .bool false, .bool false, .bool false, .bool false, .bool false, .bool false, .bool false, .bool false, .bool false, .bool false, .bool false, .bool false, .bool false, .bool false, .bool false, .bool false, .bool false, .bool false, .bool false, .bool false, .bool false, .bool false, .bool false, .bool false, .bool false, .bool false, .bool false, .bool false, .bool false, .bool false] 4)) gx (i * 6) (.bool true) (.int .i64 md) (.int .i64 x.ck) (.slice none 0 0) (.slice (some ⟨W1.heap.size, 0, none⟩) 32 32) (.slice none 0 0)) := ⟨P2.1, ((Keep.of_below PR.out.be).trans (ck.keep (fun ty h z => by subst h; exact z.2.1 rfl))), hBB, PR.out.ka.chg ck (by decide) PR.out.ga, PR.out.kb.chg ck (by decide) PR.out.gb, by
   have h6 : Blk (W1.alloc (.cells #[.bool false, .bool false, .bool false, .bool false, .bool false, .bool false, .bool false, .bool false, .bool false, .bool false, .bool false, .bool false, .bool false, .bool false, .bool false, .bool false, .bool false, .bool false, .bool false, .bool false, .bool false, .bool false, .bool false, .bool false, .bool false, .bool false, .bool false, .bool false, .bool false, .bool false, .bool false, .bool false] 4)) (w.heap.size + 1 + 1) [.bool false, .int .i64 t.md, .int .i64 t.bg, .slice oa t.own.length oc, .slice ra rn rc, .slice sa t.sv.length sc] := PR.out.kc.below hk0 (by omega)
   unfold set6
   exact (((((h6.other (fun z => hr z.symm)).other (fun z => hr z.symm)).other (fun z => hr z.symm)).other (fun z => hr z.symm)).other (fun z => hr z.symm)).other (fun z => hr z.symm), PR.out.kd.chg ck (by decide) PR.out.gd, ck.tagk (by decide) PR.out.gb, ck.tagk (by decide) PR.out.gd⟩
  rw [eW] at key
  exact key.below ((Below.refl _ _).drew) hB)
 unfold set6 at HMD
 have hsz : W1.heap.size = w.heap.size + 1 + 1 + 1 + 1 := PR.out.sz
 have hgx1 : gx < W1.heap.size := by omega
 have hbb1 : bb < W1.heap.size := by omega
 have hp1 : w.heap.size < W1.heap.size := by omega
 have hmdb : (md != 1) = false \/ ((md != 1) = true /\ (md != 2) = false) := by rcases hmd with h | h <;> simp [h]
 have hmk := mk32
 have hn8 : ¬ w.heap.size = gx := by omega
 have hn9 : ¬ gx = w.heap.size := by omega
 clear PR HM1 HTM1 HCL HBN HTX HVX HTD HMEM HOP hsz hmd
 rcases hmdb with hmb | ⟨hmb, hmb2⟩
 .go_upto_region 16 with (fail)
  go_cut [] (fun wx => Hid (MidP B bb gx w { x with tx := x.tx.set i ⟨true, md, x.ck, [], rd0, []⟩ } (.slice ma x.cms.length mc) (.slice ha x.hs.length hc) (vs.set i (.slice none 0 0, .slice (some ⟨W1.heap.size, 0, none⟩) 32 32, .slice none 0 0)) [.int .i64 1, .int .i64 ((i : Int) + 1), .int .i64 tb, .int .i64 ky, .int .i64 vl, .int .i64 md, .string nm] [.bool false, .int .i64 t.md, .int .i64 t.bg, .slice oa t.own.length oc, .slice ra rn rc, .slice sa t.sv.length sc] wx))
  case first =>
   go_region_held3 (fun W => W.cell? ⟨bb, 3, none⟩ = some (.slice (some ⟨gx, 0, none⟩) 4 4) /\ W.cell? ⟨bb, 0, none⟩ = some (.int .i64 x.ck) /\ W.cell? ⟨w.heap.size, 5, none⟩ = some (.int .i64 md)) (go_keep) (fail)
   go_wp2
   go_meet
   case rel => with_reducible exact HMD
  case rest =>
   rename World => wx
   clear HMD hmk k0 k1 k2 k3 k4 k5 k6 q0 q1 q2 q3 q4 q5 z0 z1 z2 z3 z4 z5 b3 b0
   have HMD := hcut
   clear hcut
   have b0 : wx.cell? ⟨bb, 0, none⟩ = some (.int .i64 x.ck) := (HMD.out.m.bs 0 (by simp)).1
   have x0 : wx.cell? ⟨w.heap.size + 1 + 1 + 1, 0, none⟩ = some (.int .i64 0) := (HMD.out.kd 0 (by simp)).1
   have y0 : wx.frozen? ⟨w.heap.size + 1 + 1 + 1, 0, none⟩ = false := (HMD.out.kd 0 (by simp)).2
   have r0 : wx.cell? ⟨w.heap.size + 1, 0, none⟩ = some (.int .i64 0) := (HMD.out.kb 0 (by simp)).1
   have s0 : wx.frozen? ⟨w.heap.size + 1, 0, none⟩ = false := (HMD.out.kb 0 (by simp)).2
   obtain ⟨⟨-, -⟩, ⟨x1, y1⟩⟩ := kb1 HMD.out.kd
   obtain ⟨⟨-, -⟩, ⟨r1, s1⟩⟩ := kb1 HMD.out.kb
   obtain ⟨⟨-, -⟩, ⟨-, -⟩, ⟨x2, y2⟩⟩ := kb2 HMD.out.kd
   obtain ⟨⟨-, -⟩, ⟨-, -⟩, ⟨r2, s2⟩⟩ := kb2 HMD.out.kb
   obtain ⟨⟨-, -⟩, ⟨-, -⟩, ⟨-, -⟩, ⟨x3, y3⟩⟩ := kb3 HMD.out.kd
   obtain ⟨⟨-, -⟩, ⟨-, -⟩, ⟨-, -⟩, ⟨r3, s3⟩⟩ := kb3 HMD.out.kb
   obtain ⟨⟨-, -⟩, ⟨-, -⟩, ⟨-, -⟩, ⟨-, -⟩, ⟨x4, y4⟩⟩ := kb4 HMD.out.kd
   obtain ⟨⟨-, -⟩, ⟨-, -⟩, ⟨-, -⟩, ⟨-, -⟩, ⟨r4, s4⟩⟩ := kb4 HMD.out.kb
   have HF : Hid (RunP B bb gx w ({ x with tx := x.tx.set i ⟨true, md, x.ck, [], rd0, []⟩ }, ⟨0, 0, x.ck, false, []⟩) (.returned (.agg #[.int .i64 0, .int .i64 0, .int .i64 x.ck, .bool false, .slice none 0 0])) (set5 (wx.setCell ⟨w.heap.size + 1 + 1 + 1, 2, none⟩ (.int .i64 x.ck)) (w.heap.size + 1) (.int .i64 0) (.int .i64 0) (.int .i64 x.ck) (.bool false) (.slice none 0 0))) := hid (run_fin (r := ({ x with tx := x.tx.set i ⟨true, md, x.ck, [], rd0, []⟩ }, ⟨0, 0, x.ck, false, []⟩)) (HMD.out.m.chg (Chg.set (T := fun ty => ty = 38) (.int .i64 x.ck) rfl (HMD.out.gd)) (fun ty h => .inl h)) (HMD.out.k.newset (c := w.heap.size + 1 + 1 + 1) (j := 2) (u := .int .i64 x.ck) (by omega)) (HMD.out.b.setCell (p := ⟨w.heap.size + 1 + 1 + 1, 2, none⟩) (by show B <= w.heap.size + 1 + 1 + 1; omega) (.int .i64 x.ck)) hB (Nat.le_succ _) (tag_set _ (HMD.out.gb)) (gr_nil _ _ _ _ _))
   unfold set5 at HF
   have hn1 : ¬ (w.heap.size + 1 + 1 + 1) = w.heap.size + 1 := by omega
   have hn2 : ¬ w.heap.size + 1 = w.heap.size + 1 + 1 + 1 := by omega
   clear HMD 
   go_wp2
   refine bodyPost_ret (v := .agg #[.int .i64 0, .int .i64 0, .int .i64 x.ck, .bool false, .slice none 0 0]) (by simp [results, Tryz.results21, go_sem, r0, r1, r2, r3, r4, s0, s1, s2, s3, s4]) rfl ?_
   with_reducible exact HF.out
 .go_upto_region 16 with (fail)
  go_cut [] (fun wx => Hid (MidP B bb gx w { x with tx := x.tx.set i ⟨true, md, x.ck, [], rd0, []⟩ } (.slice ma x.cms.length mc) (.slice ha x.hs.length hc) (vs.set i (.slice none 0 0, .slice (some ⟨W1.heap.size, 0, none⟩) 32 32, .slice none 0 0)) [.int .i64 1, .int .i64 ((i : Int) + 1), .int .i64 tb, .int .i64 ky, .int .i64 vl, .int .i64 md, .string nm] [.bool false, .int .i64 t.md, .int .i64 t.bg, .slice oa t.own.length oc, .slice ra rn rc, .slice sa t.sv.length sc] wx))
  case first =>
   go_region_held3 (fun W => W.cell? ⟨bb, 3, none⟩ = some (.slice (some ⟨gx, 0, none⟩) 4 4) /\ W.cell? ⟨bb, 0, none⟩ = some (.int .i64 x.ck) /\ W.cell? ⟨w.heap.size, 5, none⟩ = some (.int .i64 md)) (go_keep) (fail)
   go_wp2
   go_meet
   case rel => with_reducible exact HMD
  case rest =>
   rename World => wx
   clear HMD hmk k0 k1 k2 k3 k4 k5 k6 q0 q1 q2 q3 q4 q5 z0 z1 z2 z3 z4 z5 b3 b0
   have HMD := hcut
   clear hcut
   have b0 : wx.cell? ⟨bb, 0, none⟩ = some (.int .i64 x.ck) := (HMD.out.m.bs 0 (by simp)).1
   have x0 : wx.cell? ⟨w.heap.size + 1 + 1 + 1, 0, none⟩ = some (.int .i64 0) := (HMD.out.kd 0 (by simp)).1
   have y0 : wx.frozen? ⟨w.heap.size + 1 + 1 + 1, 0, none⟩ = false := (HMD.out.kd 0 (by simp)).2
   have r0 : wx.cell? ⟨w.heap.size + 1, 0, none⟩ = some (.int .i64 0) := (HMD.out.kb 0 (by simp)).1
   have s0 : wx.frozen? ⟨w.heap.size + 1, 0, none⟩ = false := (HMD.out.kb 0 (by simp)).2
   obtain ⟨⟨-, -⟩, ⟨x1, y1⟩⟩ := kb1 HMD.out.kd
   obtain ⟨⟨-, -⟩, ⟨r1, s1⟩⟩ := kb1 HMD.out.kb
   obtain ⟨⟨-, -⟩, ⟨-, -⟩, ⟨x2, y2⟩⟩ := kb2 HMD.out.kd
   obtain ⟨⟨-, -⟩, ⟨-, -⟩, ⟨r2, s2⟩⟩ := kb2 HMD.out.kb
   obtain ⟨⟨-, -⟩, ⟨-, -⟩, ⟨-, -⟩, ⟨x3, y3⟩⟩ := kb3 HMD.out.kd
   obtain ⟨⟨-, -⟩, ⟨-, -⟩, ⟨-, -⟩, ⟨r3, s3⟩⟩ := kb3 HMD.out.kb
   obtain ⟨⟨-, -⟩, ⟨-, -⟩, ⟨-, -⟩, ⟨-, -⟩, ⟨x4, y4⟩⟩ := kb4 HMD.out.kd
   obtain ⟨⟨-, -⟩, ⟨-, -⟩, ⟨-, -⟩, ⟨-, -⟩, ⟨r4, s4⟩⟩ := kb4 HMD.out.kb
   have HF : Hid (RunP B bb gx w ({ x with tx := x.tx.set i ⟨true, md, x.ck, [], rd0, []⟩ }, ⟨0, 0, x.ck, false, []⟩) (.returned (.agg #[.int .i64 0, .int .i64 0, .int .i64 x.ck, .bool false, .slice none 0 0])) (set5 (wx.setCell ⟨w.heap.size + 1 + 1 + 1, 2, none⟩ (.int .i64 x.ck)) (w.heap.size + 1) (.int .i64 0) (.int .i64 0) (.int .i64 x.ck) (.bool false) (.slice none 0 0))) := hid (run_fin (r := ({ x with tx := x.tx.set i ⟨true, md, x.ck, [], rd0, []⟩ }, ⟨0, 0, x.ck, false, []⟩)) (HMD.out.m.chg (Chg.set (T := fun ty => ty = 38) (.int .i64 x.ck) rfl (HMD.out.gd)) (fun ty h => .inl h)) (HMD.out.k.newset (c := w.heap.size + 1 + 1 + 1) (j := 2) (u := .int .i64 x.ck) (by omega)) (HMD.out.b.setCell (p := ⟨w.heap.size + 1 + 1 + 1, 2, none⟩) (by show B <= w.heap.size + 1 + 1 + 1; omega) (.int .i64 x.ck)) hB (Nat.le_succ _) (tag_set _ (HMD.out.gb)) (gr_nil _ _ _ _ _))
   unfold set5 at HF
   have hn1 : ¬ (w.heap.size + 1 + 1 + 1) = w.heap.size + 1 := by omega
   have hn2 : ¬ w.heap.size + 1 = w.heap.size + 1 + 1 + 1 := by omega
   clear HMD 
   go_wp2
   refine bodyPost_ret (v := .agg #[.int .i64 0, .int .i64 0, .int .i64 x.ck, .bool false, .slice none 0 0]) (by simp [results, Tryz.results21, go_sem, r0, r1, r2, r3, r4, s0, s1, s2, s3, s4]) rfl ?_
   with_reducible exact HF.out
end Go.Proofs.YtblkgicbimflhaaGreat
