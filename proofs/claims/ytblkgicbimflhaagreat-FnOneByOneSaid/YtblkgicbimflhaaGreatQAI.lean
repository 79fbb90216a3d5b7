import Derived.Test.YtblkgicbimflhaaGreatQAH
import Derived.Deep.RegionHeld3
import Derived.Deep.CutRange
import Derived.Deep.DeepCutAuto
namespace Go.Proofs.YtblkgicbimflhaaGreat
open Go.ChangeShapes Go.WideShapes Go.ChangeAt Go.RowKit
set_option linter.unusedVariables false
set_option linter.unusedSimpArgs false
set_option maxRecDepth 100000
set_option maxHeartbeats 16000000
structure MidP (B bb gx : Nat) (w : World) (y : Bas) (cv hv : Value) (vs : List (Value × Value × Value)) (op tv : List Value) (wx : World) : Prop where
 m : Mem B bb gx wx y cv hv vs
 k : Keep w wx
 b : Below B w wx
 ka : Blk wx w.heap.size op
 kb : Blk wx (w.heap.size + 1) [.int .i64 0, .int .i64 0, .int .i64 0, .bool false, .slice none 0 0]
 kc : Blk wx (w.heap.size + 1 + 1) tv
 kd : Blk wx (w.heap.size + 1 + 1 + 1) [.int .i64 0, .int .i64 0, .int .i64 0, .bool false, .slice none 0 0]
 gb : tag wx (w.heap.size + 1) 38
 gd : tag wx (w.heap.size + 1 + 1 + 1) 38
theorem MidP.lt {B bb gx : Nat} {w : World} {y : Bas} {cv hv : Value} {vs : List (Value × Value × Value)} {op tv : List Value} {wx : World} (h : MidP B bb gx w y cv hv vs op tv wx) : w.heap.size + 1 + 1 + 1 < wx.heap.size := tag_lt h.gd
theorem MidP.below {B bb gx : Nat} {w : World} {y : Bas} {cv hv : Value} {vs : List (Value × Value × Value)} {op tv : List Value} {wx w' : World} (h : MidP B bb gx w y cv hv vs op tv wx) (hb : Below wx.heap.size wx w') (hB : B <= w.heap.size) : MidP B bb gx w y cv hv vs op tv w' := by
 have hl := h.lt
 exact ⟨h.m.below hb, h.k.trans (Keep.of_below hb), h.b.trans (hb.mono (by omega)), h.ka.below hb (by omega), h.kb.below hb (by omega), h.kc.below hb (by omega), h.kd.below hb hl, tag_below h.gb hb, tag_below h.gd hb⟩
theorem infoBo : (Tryz.prog.info? 4).map (fun i => (i.zero, i.size, i.bytes)) = some (some (.bool false), 1, 1) := by kernel_rfl
theorem mk32 (W : World) : (Instr.makeSlice 39 (.int .i64 32) (.int .i64 32)).run Tryz.prog W = .ok (.slice (some ⟨W.heap.size, 0, none⟩) 32 32) (W.alloc (.cells #[.bool false, .bool false, .bool false, .bool false, .bool false, .bool false, .bool false, .bool false, .bool false, .bool false, .bool false, .bool false, .bool false, .bool false, .bool false, .bool false, .bool false, .bool false, .bool false, .bool false, .bool false, .bool false, .bool false, .bool false, .bool false, .bool false, .bool false, .bool false, .bool false, .bool false, .bool false, .bool false] 4)) := by
 obtain ⟨i0, hi, hz0, hz1, hz2⟩ := info_parts infoBo
 have h := run_makeSlice W 39 4 i0 _ Tryz.underlying39 hi hz0 .i64 .i64 32 32 (by decide) (by decide) (by rw [hz1]; decide) (by rw [hz2]; decide) (by decide)
 rw [hz1] at h
 have e : madeCells (Value.bool false).cells (Int.toNat 32 * 1) = #[.bool false, .bool false, .bool false, .bool false, .bool false, .bool false, .bool false, .bool false, .bool false, .bool false, .bool false, .bool false, .bool false, .bool false, .bool false, .bool false, .bool false, .bool false, .bool false, .bool false, .bool false, .bool false, .bool false, .bool false, .bool false, .bool false, .bool false, .bool false, .bool false, .bool false, .bool false, .bool false] := by first | rfl | kernel_rfl | decide
 rw [e] at h
 exact h
theorem run_1bad (B bb gx i : Nat) (x : Bas) (tb ky vl md : Int) (nm : ByteArray) (cv hv : Value) (vs : List (Value × Value × Value)) (w : World) (hM : Mem B bb gx w x cv hv vs) (hi : i < 4) (hop : (x.tx.getD i tx0).op = false) (hb : Bnd x) (hB : B <= w.heap.size) (hm1 : md ≠ 1) (hm2 : md ≠ 2) :
 Calls Tryz.prog 21 #[.pointer (some ⟨bb, 0, none⟩), .agg #[.int .i64 1, .int .i64 ((i : Int) + 1), .int .i64 tb, .int .i64 ky, .int .i64 vl, .int .i64 md, .string nm]] w fun e w' => RunP B bb gx w (runF x ⟨1, (i : Int) + 1, tb, ky, vl, md, nm⟩) e w' := by
 have hin0 : ((i : Int) + 1 - 1).toNat = i := by omega
 have er : runF x ⟨1, (i : Int) + 1, tb, ky, vl, md, nm⟩ = (x, ⟨1, 0, 0, false, []⟩) := by
  unfold runF
  simp only [hin0, hop]
  rw [if_neg (by omega), if_neg (by decide), if_neg (by omega), if_pos trivial, if_pos ⟨hm1, hm2⟩]
 rw [er]
 clear er hin0
 obtain ⟨t, ⟨ov, rv, sv⟩, htx, hvx, hTM, hcell⟩ := hM.at hi
 have htD : x.tx.getD i tx0 = t := by rw [List.getD_eq_getElem?_getD, htx]; rfl
 have hmem : t ∈ x.tx := List.mem_of_getElem? htx
 rw [htD] at hop
 obtain ⟨ra, rn, rc, hrv⟩ := hTM.rf.1
 simp only at hrv
 subst hrv
 obtain ⟨oa, oc, hov⟩ := hTM.ow.form
 simp only at hov
 subst hov
 obtain ⟨sa, sc, hsv⟩ := hTM.sa.form
 simp only at hsv
 subst hsv
 obtain ⟨ma, mc, hcv⟩ : ∃ a c, cv = .slice a x.cms.length c := by obtain ⟨ps, _, ho, _⟩ := hM.cm; exact formR ho
 subst hcv
 obtain ⟨ha, hc, hhv⟩ : ∃ a c, hv = .slice a x.hs.length c := by obtain ⟨ps, _, ho, _⟩ := hM.hi; exact formR ho
 subst hhv
 have q0 : w.cell? ⟨gx, i * 6, none⟩ = some (.bool false) := (hcell 0 (by omega)).1.trans (by show some (Value.bool t.op) = _; rw [hop])
 obtain ⟨-, q1, q2, q3, q4, q5⟩ := mqc hcell
 have b3 : w.cell? ⟨bb, 3, none⟩ = some (.slice (some ⟨gx, 0, none⟩) 4 4) := (hM.bs 3 (by simp)).1
 have hgxl : gx < w.heap.size := tag_lt hM.xt
 have hbbl : bb < w.heap.size := tag_lt hM.bt
 obtain ⟨hii, hs1, hs2, hwr⟩ := iok hi
 have hin : ((i : Int) + 1 - 1).toNat = i := by omega
 have HIN := hid hin
 clear hin
 have hgl1 : gx < w.heap.size + 1 := by omega
 have hbl1 : bb < w.heap.size + 1 := by omega
 obtain ⟨W1, hW1, PR⟩ := pre5 w 1 ((i : Int) + 1) tb ky vl md nm false t.md t.bg (.slice oa t.own.length oc) (.slice ra rn rc) (.slice sa t.sv.length sc)
 have HM1 := hid (hM.below PR.out.be)
 have HTM1 := hid (hTM.chg (Chg.of_below (fun _ => False) PR.out.be) (fun z => z) (fun z => z) (fun z => z))
 have HBN := hid hb
 have HTX := hid htx
 have HVX := hid hvx
 have HTD := hid htD
 have HMEM := hid hmem
 have HOP := hid hop
 have HCL := hid hcell
 clear hM hTM hb htx hvx hcell hmem htD hop
 go_enter Tryz.func21, Tryz.ntmps21
 go_upto_region 11 with (fail)
 rw [<- hW1]
 clear hW1 q0 q1 q2 q3 q4 q5 b3
 obtain ⟨k0, k1, k2, k3, k4, k5, k6⟩ := kc6 PR.out.ka
 have x0 : W1.cell? ⟨w.heap.size + 1 + 1 + 1, 0, none⟩ = some (.int .i64 0) := (PR.out.kd 0 (by simp)).1
 have y0 : W1.frozen? ⟨w.heap.size + 1 + 1 + 1, 0, none⟩ = false := (PR.out.kd 0 (by simp)).2
 have r0 : W1.cell? ⟨w.heap.size + 1, 0, none⟩ = some (.int .i64 0) := (PR.out.kb 0 (by simp)).1
 have s0 : W1.frozen? ⟨w.heap.size + 1, 0, none⟩ = false := (PR.out.kb 0 (by simp)).2
 obtain ⟨⟨-, -⟩, ⟨x1, y1⟩⟩ := kb1 PR.out.kd
 obtain ⟨⟨-, -⟩, ⟨r1, s1⟩⟩ := kb1 PR.out.kb
 obtain ⟨⟨-, -⟩, ⟨-, -⟩, ⟨x2, y2⟩⟩ := kb2 PR.out.kd
 obtain ⟨⟨-, -⟩, ⟨-, -⟩, ⟨r2, s2⟩⟩ := kb2 PR.out.kb
 obtain ⟨⟨-, -⟩, ⟨-, -⟩, ⟨-, -⟩, ⟨x3, y3⟩⟩ := kb3 PR.out.kd
 obtain ⟨⟨-, -⟩, ⟨-, -⟩, ⟨-, -⟩, ⟨r3, s3⟩⟩ := kb3 PR.out.kb
 obtain ⟨⟨-, -⟩, ⟨-, -⟩, ⟨-, -⟩, ⟨-, -⟩, ⟨x4, y4⟩⟩ := kb4 PR.out.kd
 obtain ⟨⟨-, -⟩, ⟨-, -⟩, ⟨-, -⟩, ⟨-, -⟩, ⟨r4, s4⟩⟩ := kb4 PR.out.kb
 have HF : Hid (RunP B bb gx w (x, ⟨1, 0, 0, false, []⟩) (.returned (.agg #[.int .i64 1, .int .i64 0, .int .i64 0, .bool false, .slice none 0 0])) (set5 W1 (w.heap.size + 1) (.int .i64 1) (.int .i64 0) (.int .i64 0) (.bool false) (.slice none 0 0))) := hid (run_fin (r := (x, ⟨1, 0, 0, false, []⟩)) HM1.out (Keep.of_below PR.out.be) (PR.out.be.mono hB) hB (Nat.le_succ _) PR.out.gb (gr_nil _ _ _ _ _))
 unfold set5 at HF
 have hm1b : (md != 1) = true := by simpa using hm1
 have hm2b : (md != 2) = true := by simpa using hm2
 clear PR HM1 HTM1 HCL HBN HTX HVX HTD HMEM HOP
 go_wp2
 refine bodyPost_ret (v := .agg #[.int .i64 1, .int .i64 0, .int .i64 0, .bool false, .slice none 0 0]) (by simp [results, Tryz.results21, go_sem, r0, r1, r2, r3, r4, s0, s1, s2, s3, s4]) rfl ?_
 exact HF.out
theorem run_1 (B bb gx i : Nat) (x : Bas) (tb ky vl md : Int) (nm : ByteArray) (cv hv : Value) (vs : List (Value × Value × Value)) (w : World) (hM : Mem B bb gx w x cv hv vs) (hi : i < 4) (hop : (x.tx.getD i tx0).op = false) (hb : Bnd x) (hB : B <= w.heap.size) (hmd : md = 1 \/ md = 2) :
 Calls Tryz.prog 21 #[.pointer (some ⟨bb, 0, none⟩), .agg #[.int .i64 1, .int .i64 ((i : Int) + 1), .int .i64 tb, .int .i64 ky, .int .i64 vl, .int .i64 md, .string nm]] w fun e w' => RunP B bb gx w (runF x ⟨1, (i : Int) + 1, tb, ky, vl, md, nm⟩) e w' := by
 have hin0 : ((i : Int) + 1 - 1).toNat = i := by omega
 have er : runF x ⟨1, (i : Int) + 1, tb, ky, vl, md, nm⟩ = ({ x with tx := x.tx.set i ⟨true, md, x.ck, [], rd0, []⟩ }, ⟨0, 0, x.ck, false, []⟩) := by
  unfold runF
  simp only [hin0, hop]
  rw [if_neg (by omega), if_neg (by decide), if_neg (by omega), if_pos trivial, if_neg (by rcases hmd with h | h <;> simp [h])]
 rw [er]
 clear er hin0
 obtain ⟨t, ⟨ov, rv, sv⟩, htx, hvx, hTM, hcell⟩ := hM.at hi
 have htD : x.tx.getD i tx0 = t := by rw [List.getD_eq_getElem?_getD, htx]; rfl
 have hmem : t ∈ x.tx := List.mem_of_getElem? htx
 rw [htD] at hop
 obtain ⟨ra, rn, rc, hrv⟩ := hTM.rf.1
 simp only at hrv
 subst hrv
 obtain ⟨oa, oc, hov⟩ := hTM.ow.form
 simp only at hov
 subst hov
 obtain ⟨sa, sc, hsv⟩ := hTM.sa.form
 simp only at hsv
 subst hsv
 obtain ⟨ma, mc, hcv⟩ : ∃ a c, cv = .slice a x.cms.length c := by obtain ⟨ps, _, ho, _⟩ := hM.cm; exact formR ho
 subst hcv
 obtain ⟨ha, hc, hhv⟩ : ∃ a c, hv = .slice a x.hs.length c := by obtain ⟨ps, _, ho, _⟩ := hM.hi; exact formR ho
 subst hhv
 have q0 : w.cell? ⟨gx, i * 6, none⟩ = some (.bool false) := (hcell 0 (by omega)).1.trans (by show some (Value.bool t.op) = _; rw [hop])
 obtain ⟨-, q1, q2, q3, q4, q5⟩ := mqc hcell
 have b3 : w.cell? ⟨bb, 3, none⟩ = some (.slice (some ⟨gx, 0, none⟩) 4 4) := (hM.bs 3 (by simp)).1
 have hgxl : gx < w.heap.size := tag_lt hM.xt
 have hbbl : bb < w.heap.size := tag_lt hM.bt
 obtain ⟨hii, hs1, hs2, hwr⟩ := iok hi
 have hin : ((i : Int) + 1 - 1).toNat = i := by omega
 have HIN := hid hin
 clear hin
 have hgl1 : gx < w.heap.size + 1 := by omega
 have hbl1 : bb < w.heap.size + 1 := by omega
 obtain ⟨W1, hW1, PR⟩ := pre5 w 1 ((i : Int) + 1) tb ky vl md nm false t.md t.bg (.slice oa t.own.length oc) (.slice ra rn rc) (.slice sa t.sv.length sc)
 have HM1 := hid (hM.below PR.out.be)
 have HTM1 := hid (hTM.chg (Chg.of_below (fun _ => False) PR.out.be) (fun z => z) (fun z => z) (fun z => z))
 have HBN := hid hb
 have HTX := hid htx
 have HVX := hid hvx
 have HTD := hid htD
 have HMEM := hid hmem
 have HOP := hid hop
 have HCL := hid hcell
 clear hM hTM hb htx hvx hcell hmem htD hop
 go_enter Tryz.func21, Tryz.ntmps21
 go_upto_region 11 with (fail)
 rw [<- hW1]
 clear hW1 q0 q1 q2 q3 q4 q5 b3
 obtain ⟨k0, k1, k2, k3, k4, k5, k6⟩ := kc6 PR.out.ka
 have q0 : W1.cell? ⟨gx, i * 6, none⟩ = some (.bool false) := (PR.out.be.cell (p := ⟨gx, i * 6, none⟩) hgxl).trans ((HCL.out 0 (by omega)).1.trans (by show some (Value.bool t.op) = _; rw [HOP.out]))
 have z0 : W1.frozen? ⟨gx, i * 6, none⟩ = false := (PR.out.be.frozen (p := ⟨gx, i * 6, none⟩) hgxl).trans (HCL.out 0 (by omega)).2
 have q1 : W1.cell? ⟨gx, i * 6 + 1, none⟩ = some (.int .i64 t.md) := ct PR.out.be hgxl ((HCL.out 1 (by omega)).1)
 have z1 : W1.frozen? ⟨gx, i * 6 + 1, none⟩ = false := (PR.out.be.frozen (p := ⟨gx, i * 6 + 1, none⟩) hgxl).trans (HCL.out 1 (by omega)).2
 have q2 : W1.cell? ⟨gx, i * 6 + 2, none⟩ = some (.int .i64 t.bg) := ct PR.out.be hgxl ((HCL.out 2 (by omega)).1)
 have z2 : W1.frozen? ⟨gx, i * 6 + 2, none⟩ = false := (PR.out.be.frozen (p := ⟨gx, i * 6 + 2, none⟩) hgxl).trans (HCL.out 2 (by omega)).2
 have q3 : W1.cell? ⟨gx, i * 6 + 3, none⟩ = some (.slice oa t.own.length oc) := ct PR.out.be hgxl ((HCL.out 3 (by omega)).1)
 have z3 : W1.frozen? ⟨gx, i * 6 + 3, none⟩ = false := (PR.out.be.frozen (p := ⟨gx, i * 6 + 3, none⟩) hgxl).trans (HCL.out 3 (by omega)).2
 have q4 : W1.cell? ⟨gx, i * 6 + 4, none⟩ = some (.slice ra rn rc) := ct PR.out.be hgxl ((HCL.out 4 (by omega)).1)
 have z4 : W1.frozen? ⟨gx, i * 6 + 4, none⟩ = false := (PR.out.be.frozen (p := ⟨gx, i * 6 + 4, none⟩) hgxl).trans (HCL.out 4 (by omega)).2
 have q5 : W1.cell? ⟨gx, i * 6 + 5, none⟩ = some (.slice sa t.sv.length sc) := ct PR.out.be hgxl ((HCL.out 5 (by omega)).1)
 have z5 : W1.frozen? ⟨gx, i * 6 + 5, none⟩ = false := (PR.out.be.frozen (p := ⟨gx, i * 6 + 5, none⟩) hgxl).trans (HCL.out 5 (by omega)).2
 obtain ⟨b0, -, -, b3⟩ := kc3 HM1.out.bs
 have hn1 : ¬ gx = w.heap.size + 1 := by omega
 have hn4 : ¬ w.heap.size + 1 = gx := by omega
 have hn6 : ¬ bb = gx := tag_ne HM1.out.bt HM1.out.xt (by decide)
 have hn7 : ¬ gx = bb := fun z => hn6 z.symm
 have HMD : Hid (MidP B bb gx w { x with tx := x.tx.set i ⟨true, md, x.ck, [], rd0, []⟩ } (.slice ma x.cms.length mc) (.slice ha x.hs.length hc) (vs.set i (.slice none 0 0, .slice (some ⟨W1.heap.size, 0, none⟩) 32 32, .slice none 0 0)) [.int .i64 1, .int .i64 ((i : Int) + 1), .int .i64 tb, .int .i64 ky, .int .i64 vl, .int .i64 md, .string nm] [.bool false, .int .i64 t.md, .int .i64 t.bg, .slice oa t.own.length oc, .slice ra rn rc, .slice sa t.sv.length sc] (((set6 W1 gx (i * 6) (.bool true) (.int .i64 md) (.int .i64 x.ck) (.slice none 0 0) (.slice (some ⟨W1.heap.size, 0, none⟩) 32 32) (.slice none 0 0)).alloc (.cells #[.bool false, .bool false, .bool false, .bool false, .bool false, .bool false, .bool false, .bool false, .bool false, .bool false, .bool false, .bool false, .bool false, .bool false, .bool false, .bool false, .bool false, .bool false, .bool false, .bool false, .bool false, .bool false, .bool false, .bool false, .bool false, .bool false, .bool false, .bool false, .bool false, .bool false, .bool false, .bool false] 4))).drew) := hid (by
  have hgx1 : gx < W1.heap.size := by have := PR.out.sz; omega
  have eW : (set6 (W1.alloc (.cells #[.bool false, .bool false, .bool false, .bool false, .bool false, .bool false, .bool false, .bool false, .bool false, .bool false, .bool false, .bool false, .bool false, .bool false, .bool false, .bool false, .bool false, .bool false, .bool false, .bool false, .bool false, .bool false, .bool false, .bool false, .bool false, .bool false, .bool false, .bool false, .bool false, .bool false, .bool false, .bool false] 4)) gx (i * 6) (.bool true) (.int .i64 md) (.int .i64 x.ck) (.slice none 0 0) (.slice (some ⟨W1.heap.size, 0, none⟩) 32 32) (.slice none 0 0)) = ((set6 W1 gx (i * 6) (.bool true) (.int .i64 md) (.int .i64 x.ck) (.slice none 0 0) (.slice (some ⟨W1.heap.size, 0, none⟩) 32 32) (.slice none 0 0)).alloc (.cells #[.bool false, .bool false, .bool false, .bool false, .bool false, .bool false, .bool false, .bool false, .bool false, .bool false, .bool false, .bool false, .bool false, .bool false, .bool false, .bool false, .bool false, .bool false, .bool false, .bool false, .bool false, .bool false, .bool false, .bool false, .bool false, .bool false, .bool false, .bool false, .bool false, .bool false, .bool false, .bool false] 4)) := by
   unfold set6
   simp [World.setCell_alloc_past, hgx1]
  have hk0 : Below W1.heap.size W1 (W1.alloc (.cells #[.bool false, .bool false, .bool false, .bool false, .bool false, .bool false, .bool false, .bool false, .bool false, .bool false, .bool false, .bool false, .bool false, .bool false, .bool false, .bool false, .bool false, .bool false, .bool false, .bool false, .bool false, .bool false, .bool false, .bool false, .bool false, .bool false, .bool false, .bool false, .bool false, .bool false, .bool false, .bool false] 4)) := below_alloc _ _
  have htm : TxM B (W1.alloc (.cells #[.bool false, .bool false, .bool false, .bool false, .bool false, .bool false, .bool false, .bool false, .bool false, .bool false, .bool false, .bool false, .bool false, .bool false, .bool false, .bool false, .bool false, .bool false, .bool false, .bool false, .bool false, .bool false, .bool false, .bool false, .bool false, .bool false, .bool false, .bool false, .bool false, .bool false, .bool false, .bool false] 4)) ⟨true, md, x.ck, [], rd0, []⟩ (.slice none 0 0, .slice (some ⟨W1.heap.size, 0, none⟩) 32 32, .slice none 0 0) := ⟨TL.nil _ _ _ _, TL.nil _ _ _ _, fun a n c h => by injection h with _ h1 h2; omega, fun _ => ⟨rfl, W1.heap.size, rfl, by have := PR.out.sz; omega, tag_new W1 (List.replicate 32 (Value.bool false)) _, by simpa [rd0] using blk_new W1 (List.replicate 32 (Value.bool false)) 4⟩, ⟨_, _, _, rfl⟩, fun g hg => by simp [Value.ownBlock] at hg; subst hg; simp⟩
  have P2 := (HM1.out.below hk0).put6 hi ⟨true, md, x.ck, [], rd0, []⟩ (.slice none 0 0, .slice (some ⟨W1.heap.size, 0, none⟩) 32 32, .slice none 0 0) htm (fun j hj hne g hg hg2 => by
   simp [Value.ownBlock] at hg
   subst hg
   have h1 : j < x.tx.length := by rw [HM1.out.n, <- HM1.out.m]; exact hj
   have hrf := (HM1.out.tm j h1 hj).rf.2 _ hg2
   omega)
  have ck : Chg (fun ty => ty = 70) W1 (set6 (W1.alloc (.cells #[.bool false, .bool false, .bool false, .bool false, .bool false, .bool false, .bool false, .bool false, .bool false, .bool false, .bool false, .bool false, .bool false, .bool false, .bool false, .bool false, .bool false, .bool false, .bool false, .bool false, .bool false, .bool false, .bool false, .bool false, .bool false, .bool false, .bool false, .bool false, .bool false, .bool false, .bool false, .bool false] 4)) gx (i * 6) (.bool true) (.int .i64 md) (.int .i64 x.ck) (.slice none 0 0) (.slice (some ⟨W1.heap.size, 0, none⟩) 32 32) (.slice none 0 0)) := (Chg.of_below _ hk0).trans P2.2
  have hsz := PR.out.sz
  have hr : ¬ w.heap.size + 1 + 1 = gx := by omega
  have hBB : Below B w (set6 (W1.alloc (.cells #[.bool false, .bool false, .bool false, .bool false, .bool false, .bool false, .bool false, .bool false, .bool false, .bool false, .bool false, .bool false, .bool false, .bool false, .bool false, .bool false, .bool false, .bool false, .bool false, .bool false, .bool false, .bool false, .bool false, .bool false, .bool false, .bool false, .bool false, .bool false, .bool false, .bool false, .bool false, .bool false] 4)) gx (i * 6) (.bool true) (.int .i64 md) (.int .i64 x.ck) (.slice none 0 0) (.slice (some ⟨W1.heap.size, 0, none⟩) 32 32) (.slice none 0 0)) := below_set6 ((PR.out.be.mono hB).trans (hk0.mono (by omega))) HM1.out.xB
  have key : MidP B bb gx w { x with tx := x.tx.set i ⟨true, md, x.ck, [], rd0, []⟩ } (.slice ma x.cms.length mc) (.slice ha x.hs.length hc) (vs.set i (.slice none 0 0, .slice (some ⟨W1.heap.size, 0, none⟩) 32 32, .slice none 0 0)) [.int .i64 1, .int .i64 ((i : Int) + 1), .int .i64 tb, .int .i64 ky, .int .i64 vl, .int .i64 md, .string nm] [.bool false, .int .i64 t.md, .int .i64 t.bg, .slice oa t.own.length oc, .slice ra rn rc, .slice sa t.sv.length sc] (set6 (W1.alloc (.cells #[.bool false, .bool false, .bool false, .bool false, .bool false, .bool false, .bool false, .bool false, .bool false, .bool false, .bool false, .bool false, .bool false, .bool false, .bool false, .bool false, .bool false, .bool false, .bool false, .bool false, .bool false, .bool false, .bool false, .bool false, .bool false, .bool false, .bool false, .bool false, .bool false, .bool false, .bool false, .bool false] 4)) gx (i * 6) (.bool true) (.int .i64 md) (.int .i64 x.ck) (.slice none 0 0) (.slice (some ⟨W1.heap.size, 0, none⟩) 32 32) (.slice none 0 0)) := ⟨P2.1, ((Keep.of_below PR.out.be).trans (ck.keep (fun ty h z => by subst h; exact z.2.1 rfl))), hBB, PR.out.ka.chg ck (by decide) PR.out.ga, PR.out.kb.chg ck (by decide) PR.out.gb, by
   have h6 : Blk (W1.alloc (.cells #[.bool false, .bool false, .bool false, .bool false, .bool false, .bool false, .bool false, .bool false, .bool false, .bool false, .bool false, .bool false, .bool false, .bool false, .bool false, .bool false, .bool false, .bool false, .bool false, .bool false, .bool false, .bool false, .bool false, .bool false, .bool false, .bool false, .bool false, .bool false, .bool false, .bool false, .bool false, .bool false] 4)) (w.heap.size + 1 + 1) [.bool false, .int .i64 t.md, .int .i64 t.bg, .slice oa t.own.length oc, .slice ra rn rc, .slice sa t.sv.length sc] := PR.out.kc.below hk0 (by omega)
   unfold set6
   exact (((((h6.other (fun z => hr z.symm)).other (fun z => hr z.symm)).other (fun z => hr z.symm)).other (fun z => hr z.symm)).other (fun z => hr z.symm)).other (fun z => hr z.symm), PR.out.kd.chg ck (by decide) PR.out.gd, ck.tagk (by decide) PR.out.gb, ck.tagk (by decide) PR.out.gd⟩
  rw [eW] at key
  exact key.below ((Below.refl _ _).drew) hB)
 unfold set6 at HMD
 have hsz : W1.heap.size = w.heap.size + 1 + 1 + 1 + 1 := PR.out.sz
 have hgx1 : gx < W1.heap.size := by omega
 have hbb1 : bb < W1.heap.size := by omega
 have hp1 : w.heap.size < W1.heap.size := by omega
 have hmdb : (md != 1) = false \/ ((md != 1) = true /\ (md != 2) = false) := by rcases hmd with h | h <;> simp [h]
 have hmk := mk32
 have hn8 : ¬ w.heap.size = gx := by omega
 have hn9 : ¬ gx = w.heap.size := by omega
 clear PR HM1 HTM1 HCL HBN HTX HVX HTD HMEM HOP hsz hmd
 rcases hmdb with hmb | ⟨hmb, hmb2⟩
 .go_upto_region 16 with (fail)
  go_cut [] (fun wx => Hid (MidP B bb gx w { x with tx := x.tx.set i ⟨true, md, x.ck, [], rd0, []⟩ } (.slice ma x.cms.length mc) (.slice ha x.hs.length hc) (vs.set i (.slice none 0 0, .slice (some ⟨W1.heap.size, 0, none⟩) 32 32, .slice none 0 0)) [.int .i64 1, .int .i64 ((i : Int) + 1), .int .i64 tb, .int .i64 ky, .int .i64 vl, .int .i64 md, .string nm] [.bool false, .int .i64 t.md, .int .i64 t.bg, .slice oa t.own.length oc, .slice ra rn rc, .slice sa t.sv.length sc] wx))
  case first =>
   go_region_held3 (fun W => W.cell? ⟨bb, 3, none⟩ = some (.slice (some ⟨gx, 0, none⟩) 4 4) /\ W.cell? ⟨bb, 0, none⟩ = some (.int .i64 x.ck) /\ W.cell? ⟨w.heap.size, 5, none⟩ = some (.int .i64 md)) (go_keep) (fail)
   go_wp2
   go_meet
   case rel => with_reducible exact HMD
  case rest =>
   rename World => wx
   clear HMD hmk k0 k1 k2 k3 k4 k5 k6 q0 q1 q2 q3 q4 q5 z0 z1 z2 z3 z4 z5 b3 b0
   have HMD := hcut
   clear hcut
   have b0 : wx.cell? ⟨bb, 0, none⟩ = some (.int .i64 x.ck) := (HMD.out.m.bs 0 (by simp)).1
   have x0 : wx.cell? ⟨w.heap.size + 1 + 1 + 1, 0, none⟩ = some (.int .i64 0) := (HMD.out.kd 0 (by simp)).1
   have y0 : wx.frozen? ⟨w.heap.size + 1 + 1 + 1, 0, none⟩ = false := (HMD.out.kd 0 (by simp)).2
   have r0 : wx.cell? ⟨w.heap.size + 1, 0, none⟩ = some (.int .i64 0) := (HMD.out.kb 0 (by simp)).1
   have s0 : wx.frozen? ⟨w.heap.size + 1, 0, none⟩ = false := (HMD.out.kb 0 (by simp)).2
   obtain ⟨⟨-, -⟩, ⟨x1, y1⟩⟩ := kb1 HMD.out.kd
   obtain ⟨⟨-, -⟩, ⟨r1, s1⟩⟩ := kb1 HMD.out.kb
   obtain ⟨⟨-, -⟩, ⟨-, -⟩, ⟨x2, y2⟩⟩ := kb2 HMD.out.kd
   obtain ⟨⟨-, -⟩, ⟨-, -⟩, ⟨r2, s2⟩⟩ := kb2 HMD.out.kb
   obtain ⟨⟨-, -⟩, ⟨-, -⟩, ⟨-, -⟩, ⟨x3, y3⟩⟩ := kb3 HMD.out.kd
   obtain ⟨⟨-, -⟩, ⟨-, -⟩, ⟨-, -⟩, ⟨r3, s3⟩⟩ := kb3 HMD.out.kb
   obtain ⟨⟨-, -⟩, ⟨-, -⟩, ⟨-, -⟩, ⟨-, -⟩, ⟨x4, y4⟩⟩ := kb4 HMD.out.kd
   obtain ⟨⟨-, -⟩, ⟨-, -⟩, ⟨-, -⟩, ⟨-, -⟩, ⟨r4, s4⟩⟩ := kb4 HMD.out.kb
   have HF : Hid (RunP B bb gx w ({ x with tx := x.tx.set i ⟨true, md, x.ck, [], rd0, []⟩ }, ⟨0, 0, x.ck, false, []⟩) (.returned (.agg #[.int .i64 0, .int .i64 0, .int .i64 x.ck, .bool false, .slice none 0 0])) (set5 (wx.setCell ⟨w.heap.size + 1 + 1 + 1, 2, none⟩ (.int .i64 x.ck)) (w.heap.size + 1) (.int .i64 0) (.int .i64 0) (.int .i64 x.ck) (.bool false) (.slice none 0 0))) := hid (run_fin (r := ({ x with tx := x.tx.set i ⟨true, md, x.ck, [], rd0, []⟩ }, ⟨0, 0, x.ck, false, []⟩)) (HMD.out.m.chg (Chg.set (T := fun ty => ty = 38) (.int .i64 x.ck) rfl (HMD.out.gd)) (fun ty h => .inl h)) (HMD.out.k.newset (c := w.heap.size + 1 + 1 + 1) (j := 2) (u := .int .i64 x.ck) (by omega)) (HMD.out.b.setCell (p := ⟨w.heap.size + 1 + 1 + 1, 2, none⟩) (by show B <= w.heap.size + 1 + 1 + 1; omega) (.int .i64 x.ck)) hB (Nat.le_succ _) (tag_set _ (HMD.out.gb)) (gr_nil _ _ _ _ _))
   unfold set5 at HF
   have hn1 : ¬ (w.heap.size + 1 + 1 + 1) = w.heap.size + 1 := by omega
   have hn2 : ¬ w.heap.size + 1 = w.heap.size + 1 + 1 + 1 := by omega
   clear HMD 
   go_wp2
   refine bodyPost_ret (v := .agg #[.int .i64 0, .int .i64 0, .int .i64 x.ck, .bool false, .slice none 0 0]) (by simp [results, Tryz.results21, go_sem, r0, r1, r2, r3, r4, s0, s1, s2, s3, s4]) rfl ?_
   with_reducible exact HF.out
 .go_upto_region 16 with (fail)
  go_cut [] (fun wx => Hid (MidP B bb gx w { x with tx := x.tx.set i ⟨true, md, x.ck, [], rd0, []⟩ } (.slice ma x.cms.length mc) (.slice ha x.hs.length hc) (vs.set i (.slice none 0 0, .slice (some ⟨W1.heap.size, 0, none⟩) 32 32, .slice none 0 0)) [.int .i64 1, .int .i64 ((i : Int) + 1), .int .i64 tb, .int .i64 ky, .int .i64 vl, .int .i64 md, .string nm] [.bool false, .int .i64 t.md, .int .i64 t.bg, .slice oa t.own.length oc, .slice ra rn rc, .slice sa t.sv.length sc] wx))
  case first =>
   go_region_held3 (fun W => W.cell? ⟨bb, 3, none⟩ = some (.slice (some ⟨gx, 0, none⟩) 4 4) /\ W.cell? ⟨bb, 0, none⟩ = some (.int .i64 x.ck) /\ W.cell? ⟨w.heap.size, 5, none⟩ = some (.int .i64 md)) (go_keep) (fail)
   go_wp2
   go_meet
   case rel => with_reducible exact HMD
  case rest =>
   rename World => wx
   clear HMD hmk k0 k1 k2 k3 k4 k5 k6 q0 q1 q2 q3 q4 q5 z0 z1 z2 z3 z4 z5 b3 b0
   have HMD := hcut
   clear hcut
   have b0 : wx.cell? ⟨bb, 0, none⟩ = some (.int .i64 x.ck) := (HMD.out.m.bs 0 (by simp)).1
   have x0 : wx.cell? ⟨w.heap.size + 1 + 1 + 1, 0, none⟩ = some (.int .i64 0) := (HMD.out.kd 0 (by simp)).1
   have y0 : wx.frozen? ⟨w.heap.size + 1 + 1 + 1, 0, none⟩ = false := (HMD.out.kd 0 (by simp)).2
   have r0 : wx.cell? ⟨w.heap.size + 1, 0, none⟩ = some (.int .i64 0) := (HMD.out.kb 0 (by simp)).1
   have s0 : wx.frozen? ⟨w.heap.size + 1, 0, none⟩ = false := (HMD.out.kb 0 (by simp)).2
   obtain ⟨⟨-, -⟩, ⟨x1, y1⟩⟩ := kb1 HMD.out.kd
   obtain ⟨⟨-, -⟩, ⟨r1, s1⟩⟩ := kb1 HMD.out.kb
   obtain ⟨⟨-, -⟩, ⟨-, -⟩, ⟨x2, y2⟩⟩ := kb2 HMD.out.kd
   obtain ⟨⟨-, -⟩, ⟨-, -⟩, ⟨r2, s2⟩⟩ := kb2 HMD.out.kb
   obtain ⟨⟨-, -⟩, ⟨-, -⟩, ⟨-, -⟩, ⟨x3, y3⟩⟩ := kb3 HMD.out.kd
   obtain ⟨⟨-, -⟩, ⟨-, -⟩, ⟨-, -⟩, ⟨r3, s3⟩⟩ := kb3 HMD.out.kb
   obtain ⟨⟨-, -⟩, ⟨-, -⟩, ⟨-, -⟩, ⟨-, -⟩, ⟨x4, y4⟩⟩ := kb4 HMD.out.kd
   obtain ⟨⟨-, -⟩, ⟨-, -⟩, ⟨-, -⟩, ⟨-, -⟩, ⟨r4, s4⟩⟩ := kb4 HMD.out.kb
   have HF : Hid (RunP B bb gx w ({ x with tx := x.tx.set i ⟨true, md, x.ck, [], rd0, []⟩ }, ⟨0, 0, x.ck, false, []⟩) (.returned (.agg #[.int .i64 0, .int .i64 0, .int .i64 x.ck, .bool false, .slice none 0 0])) (set5 (wx.setCell ⟨w.heap.size + 1 + 1 + 1, 2, none⟩ (.int .i64 x.ck)) (w.heap.size + 1) (.int .i64 0) (.int .i64 0) (.int .i64 x.ck) (.bool false) (.slice none 0 0))) := hid (run_fin (r := ({ x with tx := x.tx.set i ⟨true, md, x.ck, [], rd0, []⟩ }, ⟨0, 0, x.ck, false, []⟩)) (HMD.out.m.chg (Chg.set (T := fun ty => ty = 38) (.int .i64 x.ck) rfl (HMD.out.gd)) (fun ty h => .inl h)) (HMD.out.k.newset (c := w.heap.size + 1 + 1 + 1) (j := 2) (u := .int .i64 x.ck) (by omega)) (HMD.out.b.setCell (p := ⟨w.heap.size + 1 + 1 + 1, 2, none⟩) (by show B <= w.heap.size + 1 + 1 + 1; omega) (.int .i64 x.ck)) hB (Nat.le_succ _) (tag_set _ (HMD.out.gb)) (gr_nil _ _ _ _ _))
   unfold set5 at HF
   have hn1 : ¬ (w.heap.size + 1 + 1 + 1) = w.heap.size + 1 := by omega
   have hn2 : ¬ w.heap.size + 1 = w.heap.size + 1 + 1 + 1 := by omega
   clear HMD 
   go_wp2
   refine bodyPost_ret (v := .agg #[.int .i64 0, .int .i64 0, .int .i64 x.ck, .bool false, .slice none 0 0]) (by simp [results, Tryz.results21, go_sem, r0, r1, r2, r3, r4, s0, s1, s2, s3, s4]) rfl ?_
   with_reducible exact HF.out
theorem Mem.setrd {B bb gx : Nat} {w : World} {x : Bas} {cv hv : Value} {vs : List (Value × Value × Value)} (h : Mem B bb gx w x cv hv vs) {i : Nat} (hi : i < 4) {t : Txn} {v : Value × Value × Value} (htx : x.tx[i]? = some t) (hvx : vs[i]? = some v) (hop : t.op = true) {gr k : Nat} (hv2 : v.2.1 = .slice (some ⟨gr, 0, none⟩) 32 32) (hk : k < 32) :
 Mem B bb gx (w.setCell ⟨gr, k, none⟩ (.bool true)) { x with tx := x.tx.set i { t with rs := t.rs.set k true } } cv hv vs /\ Chg (fun ty => ty = 4) w (w.setCell ⟨gr, k, none⟩ (.bool true)) := by
 have h1 : i < x.tx.length := by rw [h.n]; exact hi
 have h2 : i < vs.length := by rw [h.m]; exact hi
 have e1 : x.tx[i] = t := by rw [List.getElem?_eq_getElem h1] at htx; injection htx
 have e2 : vs[i] = v := by rw [List.getElem?_eq_getElem h2] at hvx; injection hvx
 have htm := h.tm i h1 h2
 rw [e1, e2] at htm
 obtain ⟨hl, g, eg, hBg, htg, hbg⟩ := htm.rd hop
 have eg2 : g = gr := by
  rw [hv2] at eg
  injection eg with eg _ _
  injection eg with eg
  injection eg with eg _ _
  exact eg.symm
 subst eg2
 have hkc : Chg (fun ty => ty = 4) w (w.setCell ⟨g, k, none⟩ (.bool true)) := Chg.set _ rfl htg
 have hz : List.zipWith txV (x.tx.set i { t with rs := t.rs.set k true }) vs = List.zipWith txV x.tx vs := by
  have q := zip_set (ts := x.tx) (vs := vs) (i := i) { t with rs := t.rs.set k true } v
  rw [show vs.set i v = vs by rw [<- e2]; exact List.set_getElem_self h2] at q
  rw [<- q]
  have e3 : txV { t with rs := t.rs.set k true } v = (List.zipWith txV x.tx vs)[i]'(by rw [List.length_zipWith, h.n, h.m]; omega) := by rw [List.getElem_zipWith, e1, e2]; rfl
  rw [e3]
  exact List.set_getElem_self _
 refine ⟨⟨by simpa using h.n, h.m, h.bs.chg hkc (by decide) h.bt, hkc.tagk (by decide) h.bt, h.bB, ?_, hkc.tagk (by decide) h.xt, h.xB, fun j hj hj' => ?_, h.ds, h.cm.chg hkc (by decide) (by decide), h.hi.chg hkc (by decide) (by decide)⟩, hkc⟩
 .rw [hz]
  exact h.xs.chg hkc (by decide) h.xt
 .by_cases e : j = i
  .subst e
   simp only [List.getElem_set_self]
   rw [e2]
   refine ⟨htm.ow.chg (by decide) hkc (fun h => h), htm.sa.chg (by decide) hkc (fun h => h.chg (by decide) hkc), htm.cp, fun _ => ⟨by simpa using hl, g, eg, hBg, tag_set _ htg, ?_⟩, htm.rf.1, fun c hc => by simpa using htm.rf.2 c hc⟩
   have := hbg.set k (.bool true) (by rw [List.length_map, hl]; exact hk)
   rw [show (t.rs.set k true).map Value.bool = (t.rs.map Value.bool).set k (.bool true) by rw [List.map_set]]
   exact this
  .have e' : i ≠ j := fun z => e z.symm
   simp only [List.getElem_set_ne e']
   have hjx : j < x.tx.length := by simpa using hj
   have tm := h.tm j hjx hj'
   refine ⟨tm.ow.chg (by decide) hkc (fun h => h), tm.sa.chg (by decide) hkc (fun h => h.chg (by decide) hkc), tm.cp, fun ho => ?_, tm.rf.1, fun c hc => by simpa using tm.rf.2 c hc⟩
   obtain ⟨hl2, g2, eg2, hB2, ht2, hb2⟩ := tm.rd ho
   have hne : g ≠ g2 := fun z => by
    subst z
    refine h.ds i j h2 hj' e' g ?_ ?_
    .rw [e2, eg]; rfl
    .rw [eg2]; rfl
   exact ⟨hl2, g2, eg2, hB2, tag_set _ ht2, hb2.other hne⟩
theorem run_2 (B bb gx i : Nat) (x : Bas) (tb ky vl md : Int) (nm : ByteArray) (cv hv : Value) (vs : List (Value × Value × Value)) (w : World) (hM : Mem B bb gx w x cv hv vs) (hi : i < 4) (hop : (x.tx.getD i tx0).op = true) (hb : Bnd x) (hB : B <= w.heap.size) (ht0 : ¬ tb < 0) (ht32 : ¬ 32 <= tb) :
 Calls Tryz.prog 21 #[.pointer (some ⟨bb, 0, none⟩), .agg #[.int .i64 2, .int .i64 ((i : Int) + 1), .int .i64 tb, .int .i64 ky, .int .i64 vl, .int .i64 md, .string nm]] w fun e w' => RunP B bb gx w (runF x ⟨2, (i : Int) + 1, tb, ky, vl, md, nm⟩) e w' := by
 have hin0 : ((i : Int) + 1 - 1).toNat = i := by omega
 obtain ⟨k, rfl⟩ : ∃ k : Nat, tb = k := ⟨tb.toNat, by omega⟩
 have hk32 : k < 32 := by omega
 have er : runF x ⟨2, (i : Int) + 1, (k : Int), ky, vl, md, nm⟩ = ({ x with tx := x.tx.set i { (x.tx.getD i tx0) with rs := (x.tx.getD i tx0).rs.set k true } }, (if (seesF x.cms (x.tx.getD i tx0).bg (x.tx.getD i tx0).own (k : Int) ky).2 then ⟨0, (seesF x.cms (x.tx.getD i tx0).bg (x.tx.getD i tx0).own (k : Int) ky).1, 0, true, []⟩ else ⟨0, 0, 0, false, []⟩)) := by
  unfold runF
  simp only [hin0, hop, Int.toNat_natCast]
  rw [if_neg (by omega), if_neg (by decide), if_neg (by omega)]
  simp
 rw [er]
 clear er hin0
 obtain ⟨t, gr, oa, oc, sa, sc, ma, mc, ha, hc, rfl, rfl, htx, hvx, hTM, hcell, htD, hmem, hop, hrl, hgB, hgt, hgb, q0, q1, q2, q3, q4, q5, b3, hgxl, hbbl⟩ := hM.opn hi hop
 rw [htD]
 obtain ⟨sf, hsf⟩ : ∃ z, z = seesF x.cms t.bg t.own (k : Int) ky := ⟨_, rfl⟩
 rw [<- hsf]
 obtain ⟨sx, fd⟩ := sf
 have HG := hid hsf
 clear hsf
 simp only
 obtain ⟨hii, hs1, hs2, hwr⟩ := iok hi
 have hin : ((i : Int) + 1 - 1).toNat = i := by omega
 have HIN := hid hin
 clear hin
 have hgl1 : gx < w.heap.size + 1 := by omega
 have hbl1 : bb < w.heap.size + 1 := by omega
 obtain ⟨W1, hW1, PR⟩ := pre5 w 2 ((i : Int) + 1) (k : Int) ky vl md nm true t.md t.bg (.slice oa t.own.length oc) (.slice (some ⟨gr, 0, none⟩) 32 32) (.slice sa t.sv.length sc)
 have HM1 := hid (hM.below PR.out.be)
 have HTM1 := hid (hTM.chg (Chg.of_below (fun _ => False) PR.out.be) (fun z => z) (fun z => z) (fun z => z))
 have HBN := hid hb
 have HTX := hid htx
 have HVX := hid hvx
 have HTD := hid htD
 have HMEM := hid hmem
 have HOP := hid hop
 have HRL := hid hrl
 have HGT := hid hgt
 have HGB := hid hgb
 have HCL := hid hcell
 clear hM hTM hb htx hvx hcell hmem htD hop hrl hgt hgb
 go_enter Tryz.func21, Tryz.ntmps21
 go_upto_region 11 with (fail)
 rw [<- hW1]
 clear hW1 q0 q1 q2 q3 q4 q5 b3
 obtain ⟨k0, k1, k2, k3, k4, k5, k6⟩ := kc6 PR.out.ka
 have b3 : W1.cell? ⟨bb, 3, none⟩ = some (.slice (some ⟨gx, 0, none⟩) 4 4) := (HM1.out.bs 3 (by simp)).1
 have q4 : W1.cell? ⟨gx, i * 6 + 4, none⟩ = some (.slice (some ⟨gr, 0, none⟩) 32 32) := (PR.out.be.cell (p := ⟨gx, i * 6 + 4, none⟩) hgxl).trans (HCL.out 4 (by omega)).1
 have hg4 := HTM1.out.rd HOP.out
 obtain ⟨hl4, gr4, e4, hB4, ht4, hb4⟩ := hg4
 have e44 : gr4 = gr := by
  simp only at e4
  injection e4 with e4 _ _
  injection e4 with e4
  injection e4 with e4 _ _
  exact e4.symm
 subst e44
 obtain ⟨b4, hb40⟩ : ∃ b4 : Bool, W1.cell? ⟨gr4, k, none⟩ = some (.bool b4) := by
  have := (hb4 k (by rw [List.length_map, hl4]; exact hk32)).1
  rw [List.getElem?_map, List.getElem?_eq_getElem (by rw [hl4]; exact hk32)] at this
  exact ⟨_, this⟩
 have hf40 : W1.frozen? ⟨gr4, k, none⟩ = false := (hb4 k (by rw [List.length_map, hl4]; exact hk32)).2
 have hsz : W1.heap.size = w.heap.size + 1 + 1 + 1 + 1 := PR.out.sz
 have hgrl : gr4 < w.heap.size := tag_lt HGT.out
 have hm1 : ¬ bb = gr4 := tag_ne HM1.out.bt (tag_below HGT.out PR.out.be) (by decide)
 have hm2 : ¬ gr4 = bb := fun z => hm1 z.symm
 have hm3 : ¬ gx = gr4 := tag_ne HM1.out.xt (tag_below HGT.out PR.out.be) (by decide)
 have hm4 : ¬ gr4 = gx := fun z => hm3 z.symm
 have hm5 : ¬ w.heap.size = gr4 := by omega
 have hm6 : ¬ gr4 = w.heap.size := by omega
 have HMD : Hid (MidP B bb gx w { x with tx := x.tx.set i { t with rs := t.rs.set k true } } (.slice ma x.cms.length mc) (.slice ha x.hs.length hc) vs [.int .i64 2, .int .i64 ((i : Int) + 1), .int .i64 (k : Int), .int .i64 ky, .int .i64 vl, .int .i64 md, .string nm] [.bool true, .int .i64 t.md, .int .i64 t.bg, .slice oa t.own.length oc, .slice (some ⟨gr4, 0, none⟩) 32 32, .slice sa t.sv.length sc] (W1.setCell ⟨gr4, k, none⟩ (.bool true)).drew) := hid (by
  have P2 := HM1.out.setrd hi HTX.out HVX.out HOP.out (gr := gr4) (k := k) rfl hk32
  have key : MidP B bb gx w { x with tx := x.tx.set i { t with rs := t.rs.set k true } } (.slice ma x.cms.length mc) (.slice ha x.hs.length hc) vs [.int .i64 2, .int .i64 ((i : Int) + 1), .int .i64 (k : Int), .int .i64 ky, .int .i64 vl, .int .i64 md, .string nm] [.bool true, .int .i64 t.md, .int .i64 t.bg, .slice oa t.own.length oc, .slice (some ⟨gr4, 0, none⟩) 32 32, .slice sa t.sv.length sc] (W1.setCell ⟨gr4, k, none⟩ (.bool true)) := ⟨P2.1, (Keep.of_below PR.out.be).trans (P2.2.keep (fun ty h z => by subst h; exact z.2.2.2.2 rfl)), (PR.out.be.mono hB).setCell (p := ⟨gr4, k, none⟩) hgB _, PR.out.ka.chg P2.2 (by decide) PR.out.ga, PR.out.kb.chg P2.2 (by decide) PR.out.gb, PR.out.kc.chg P2.2 (by decide) PR.out.gc, PR.out.kd.chg P2.2 (by decide) PR.out.gd, P2.2.tagk (by decide) PR.out.gb, P2.2.tagk (by decide) PR.out.gd⟩
  exact key.below ((Below.refl _ _).drew) hB)
 have hol := HBN.out.ow t HMEM.out
 have hkk : (k : Int) < 32 := by omega
 have hk0 : ¬ (k : Int) < 0 := by omega
 have hk1 : ¬ (32 : Int) <= (k : Int) := by omega
 clear hl4 hb4 ht4 e4 hB4 hsz PR HM1 HTM1
 go_upto_region 19 with (fail)
 go_cut [] (fun wx => Hid (MidP B bb gx w { x with tx := x.tx.set i { t with rs := t.rs.set k true } } (.slice ma x.cms.length mc) (.slice ha x.hs.length hc) vs [.int .i64 2, .int .i64 ((i : Int) + 1), .int .i64 (k : Int), .int .i64 ky, .int .i64 vl, .int .i64 md, .string nm] [.bool true, .int .i64 t.md, .int .i64 t.bg, .slice oa t.own.length oc, .slice (some ⟨gr4, 0, none⟩) 32 32, .slice sa t.sv.length sc] wx))
 case first =>
  go_region_held3 (fun W => W.cell? ⟨bb, 3, none⟩ = some (.slice (some ⟨gx, 0, none⟩) 4 4) /\ W.cell? ⟨gx, i * 6 + 4, none⟩ = some (.slice (some ⟨gr4, 0, none⟩) 32 32) /\ W.cell? ⟨w.heap.size, 2, none⟩ = some (.int .i64 (k : Int))) (go_keep) (fail)
  go_wp2
  go_meet
  case rel => with_reducible exact HMD
 rename World => wx
 clear HMD k0 k1 k2 k3 k4 k5 k6 q4 b3 hb40 hf40 hm1 hm2 hm3 hm4 hm5 hm6
 have HMD := hcut
 clear hcut
 have hlx := HMD.out.lt
 have hgxx : gx < wx.heap.size := by omega
 have hbbx : bb < wx.heap.size := by omega
 obtain ⟨k0, k1, k2, k3, k4, k5, k6⟩ := kc6 HMD.out.ka
 obtain ⟨t0, t1, t2, t3, t4, t5⟩ := kc5 HMD.out.kc
 have htm : TxM B wx { t with rs := t.rs.set k true } (.slice oa t.own.length oc, .slice (some ⟨gr4, 0, none⟩) 32 32, .slice sa t.sv.length sc) := by
  obtain ⟨t9, v9, h9, h8, h7, _⟩ := HMD.out.m.at hi
  have hl9 : i < x.tx.length := by have := List.getElem?_eq_some_iff.1 HTX.out; exact this.1
  rw [List.getElem?_set_self hl9] at h9
  rw [HVX.out] at h8
  injection h9 with h9
  injection h8 with h8
  subst h9 h8
  exact h7
 have hsee := sees_spec bb x.ck ma mc (.slice ha x.hs.length hc) (.slice (some ⟨gx, 0, none⟩) 4 4) (.slice (some ⟨gr4, 0, none⟩) 32 32) (.slice sa t.sv.length sc) true t.md t.bg oa oc x.cms t.own (k : Int) ky wx HBN.out.bm (by omega) hbbx HMD.out.m.bs HMD.out.m.cm.rs htm.ow.1
 rw [<- HG.out] at hsee
 simp only at hsee
 clear HG htm
 go_wp2_with (go_at_call 38; fail)
 refine hsee.mono ?_
 rintro e w2 ⟨rfl, hb2⟩
 have HMD2 := hid (HMD.out.below hb2 hB)
 clear hsee hb2 HMD t0 t1 t2 t3 t4 t5
 have x0 : w2.cell? ⟨w.heap.size + 1 + 1 + 1, 0, none⟩ = some (.int .i64 0) := (HMD2.out.kd 0 (by simp)).1
 have y0 : w2.frozen? ⟨w.heap.size + 1 + 1 + 1, 0, none⟩ = false := (HMD2.out.kd 0 (by simp)).2
 have r0 : w2.cell? ⟨w.heap.size + 1, 0, none⟩ = some (.int .i64 0) := (HMD2.out.kb 0 (by simp)).1
 have s0 : w2.frozen? ⟨w.heap.size + 1, 0, none⟩ = false := (HMD2.out.kb 0 (by simp)).2
 obtain ⟨⟨-, -⟩, ⟨x1, y1⟩⟩ := kb1 HMD2.out.kd
 obtain ⟨⟨-, -⟩, ⟨r1, s1⟩⟩ := kb1 HMD2.out.kb
 obtain ⟨⟨-, -⟩, ⟨-, -⟩, ⟨x2, y2⟩⟩ := kb2 HMD2.out.kd
 obtain ⟨⟨-, -⟩, ⟨-, -⟩, ⟨r2, s2⟩⟩ := kb2 HMD2.out.kb
 obtain ⟨⟨-, -⟩, ⟨-, -⟩, ⟨-, -⟩, ⟨x3, y3⟩⟩ := kb3 HMD2.out.kd
 obtain ⟨⟨-, -⟩, ⟨-, -⟩, ⟨-, -⟩, ⟨r3, s3⟩⟩ := kb3 HMD2.out.kb
 obtain ⟨⟨-, -⟩, ⟨-, -⟩, ⟨-, -⟩, ⟨-, -⟩, ⟨x4, y4⟩⟩ := kb4 HMD2.out.kd
 obtain ⟨⟨-, -⟩, ⟨-, -⟩, ⟨-, -⟩, ⟨-, -⟩, ⟨r4, s4⟩⟩ := kb4 HMD2.out.kb
 cases fd
 .have HF : Hid (RunP B bb gx w ({ x with tx := x.tx.set i { t with rs := t.rs.set k true } }, ⟨0, 0, 0, false, []⟩) (.returned (.agg #[.int .i64 0, .int .i64 0, .int .i64 0, .bool false, .slice none 0 0])) (set5 w2 (w.heap.size + 1) (.int .i64 0) (.int .i64 0) (.int .i64 0) (.bool false) (.slice none 0 0))) := hid (run_fin (r := ({ x with tx := x.tx.set i { t with rs := t.rs.set k true } }, ⟨0, 0, 0, false, []⟩)) HMD2.out.m HMD2.out.k HMD2.out.b hB (Nat.le_succ _) (HMD2.out.gb) (gr_nil _ _ _ _ _))
  unfold set5 at HF
  have hn1 : ¬ (w.heap.size + 1 + 1 + 1) = w.heap.size + 1 := by omega
  have hn2 : ¬ w.heap.size + 1 = w.heap.size + 1 + 1 + 1 := by omega
  clear HMD2 HCL HBN HTX HVX HTD HMEM HOP HRL HGT HGB k0 k1 k2 k3 k4 k5 k6
  go_wp2
  refine bodyPost_ret (v := .agg #[.int .i64 0, .int .i64 0, .int .i64 0, .bool false, .slice none 0 0]) (by simp [results, Tryz.results21, go_sem, r0, r1, r2, r3, r4, s0, s1, s2, s3, s4]) rfl ?_
  with_reducible exact HF.out
 .have HF : Hid (RunP B bb gx w ({ x with tx := x.tx.set i { t with rs := t.rs.set k true } }, ⟨0, sx, 0, true, []⟩) (.returned (.agg #[.int .i64 0, .int .i64 sx, .int .i64 0, .bool true, .slice none 0 0])) (set5 ((w2.setCell ⟨w.heap.size + 1 + 1 + 1, 1, none⟩ (.int .i64 sx)).setCell ⟨w.heap.size + 1 + 1 + 1, 3, none⟩ (.bool true)) (w.heap.size + 1) (.int .i64 0) (.int .i64 sx) (.int .i64 0) (.bool true) (.slice none 0 0))) := hid (run_fin (r := ({ x with tx := x.tx.set i { t with rs := t.rs.set k true } }, ⟨0, sx, 0, true, []⟩)) (HMD2.out.m.chg ((Chg.set (T := fun ty => ty = 38) (.int .i64 sx) rfl (HMD2.out.gd)).trans (Chg.set (T := fun ty => ty = 38) (.bool true) rfl (tag_set _ (HMD2.out.gd)))) (fun ty h => .inl h)) ((HMD2.out.k.newset (c := w.heap.size + 1 + 1 + 1) (j := 1) (u := .int .i64 sx) (by omega)).newset (c := w.heap.size + 1 + 1 + 1) (j := 3) (u := .bool true) (by omega)) ((HMD2.out.b.setCell (p := ⟨w.heap.size + 1 + 1 + 1, 1, none⟩) (by show B <= w.heap.size + 1 + 1 + 1; omega) (.int .i64 sx)).setCell (p := ⟨w.heap.size + 1 + 1 + 1, 3, none⟩) (by show B <= w.heap.size + 1 + 1 + 1; omega) (.bool true)) hB (Nat.le_succ _) (tag_set _ (tag_set _ (HMD2.out.gb))) (gr_nil _ _ _ _ _))
  unfold set5 at HF
  have hn1 : ¬ (w.heap.size + 1 + 1 + 1) = w.heap.size + 1 := by omega
  have hn2 : ¬ w.heap.size + 1 = w.heap.size + 1 + 1 + 1 := by omega
  clear HMD2 HCL HBN HTX HVX HTD HMEM HOP HRL HGT HGB k0 k1 k2 k3 k4 k5 k6
  go_wp2
  refine bodyPost_ret (v := .agg #[.int .i64 0, .int .i64 sx, .int .i64 0, .bool true, .slice none 0 0]) (by simp [results, Tryz.results21, go_sem, r0, r1, r2, r3, r4, s0, s1, s2, s3, s4]) rfl ?_
  with_reducible exact HF.out
theorem run_3 (B bb gx i : Nat) (x : Bas) (tb ky vl md : Int) (nm : ByteArray) (cv hv : Value) (vs : List (Value × Value × Value)) (w : World) (hM : Mem B bb gx w x cv hv vs) (hi : i < 4) (hop : (x.tx.getD i tx0).op = true) (hb : Bnd x) (hB : B <= w.heap.size) (ht0 : ¬ tb < 0) (ht32 : ¬ 32 <= tb) :
 Calls Tryz.prog 21 #[.pointer (some ⟨bb, 0, none⟩), .agg #[.int .i64 3, .int .i64 ((i : Int) + 1), .int .i64 tb, .int .i64 ky, .int .i64 vl, .int .i64 md, .string nm]] w fun e w' => RunP B bb gx w (runF x ⟨3, (i : Int) + 1, tb, ky, vl, md, nm⟩) e w' := by
 have hin0 : ((i : Int) + 1 - 1).toNat = i := by omega
 obtain ⟨k, rfl⟩ : ∃ k : Nat, tb = k := ⟨tb.toNat, by omega⟩
 have hk32 : k < 32 := by omega
 have er : runF x ⟨3, (i : Int) + 1, (k : Int), ky, vl, md, nm⟩ = ({ x with tx := x.tx.set i { (x.tx.getD i tx0) with rs := (x.tx.getD i tx0).rs.set k true } }, ⟨0, 0, 0, false, listF x.cms (x.tx.getD i tx0).bg (x.tx.getD i tx0).own (k : Int)⟩) := by
  unfold runF
  simp only [hin0, hop, Int.toNat_natCast]
  rw [if_neg (by omega), if_neg (by decide), if_neg (by omega)]
  simp
 rw [er]
 clear er hin0
 obtain ⟨t, gr, oa, oc, sa, sc, ma, mc, ha, hc, rfl, rfl, htx, hvx, hTM, hcell, htD, hmem, hop, hrl, hgB, hgt, hgb, q0, q1, q2, q3, q4, q5, b3, hgxl, hbbl⟩ := hM.opn hi hop
 rw [htD]
 obtain ⟨lf, hlf⟩ : ∃ z, z = listF x.cms t.bg t.own (k : Int) := ⟨_, rfl⟩
 rw [<- hlf]
 have HG := hid hlf
 clear hlf
 obtain ⟨hii, hs1, hs2, hwr⟩ := iok hi
 have hin : ((i : Int) + 1 - 1).toNat = i := by omega
 have HIN := hid hin
 clear hin
 have hgl1 : gx < w.heap.size + 1 := by omega
 have hbl1 : bb < w.heap.size + 1 := by omega
 obtain ⟨W1, hW1, PR⟩ := pre5 w 3 ((i : Int) + 1) (k : Int) ky vl md nm true t.md t.bg (.slice oa t.own.length oc) (.slice (some ⟨gr, 0, none⟩) 32 32) (.slice sa t.sv.length sc)
 have HM1 := hid (hM.below PR.out.be)
 have HTM1 := hid (hTM.chg (Chg.of_below (fun _ => False) PR.out.be) (fun z => z) (fun z => z) (fun z => z))
 have HBN := hid hb
 have HTX := hid htx
 have HVX := hid hvx
 have HTD := hid htD
 have HMEM := hid hmem
 have HOP := hid hop
 have HRL := hid hrl
 have HGT := hid hgt
 have HGB := hid hgb
 have HCL := hid hcell
 clear hM hTM hb htx hvx hcell hmem htD hop hrl hgt hgb
 go_enter Tryz.func21, Tryz.ntmps21
 go_upto_region 11 with (fail)
 rw [<- hW1]
 clear hW1 q0 q1 q2 q3 q4 q5 b3
 obtain ⟨k0, k1, k2, k3, k4, k5, k6⟩ := kc6 PR.out.ka
 have b3 : W1.cell? ⟨bb, 3, none⟩ = some (.slice (some ⟨gx, 0, none⟩) 4 4) := (HM1.out.bs 3 (by simp)).1
 have q4 : W1.cell? ⟨gx, i * 6 + 4, none⟩ = some (.slice (some ⟨gr, 0, none⟩) 32 32) := (PR.out.be.cell (p := ⟨gx, i * 6 + 4, none⟩) hgxl).trans (HCL.out 4 (by omega)).1
 have hg4 := HTM1.out.rd HOP.out
 obtain ⟨hl4, gr4, e4, hB4, ht4, hb4⟩ := hg4
 have e44 : gr4 = gr := by
  simp only at e4
  injection e4 with e4 _ _
  injection e4 with e4
  injection e4 with e4 _ _
  exact e4.symm
 subst e44
 obtain ⟨b4, hb40⟩ : ∃ b4 : Bool, W1.cell? ⟨gr4, k, none⟩ = some (.bool b4) := by
  have := (hb4 k (by rw [List.length_map, hl4]; exact hk32)).1
  rw [List.getElem?_map, List.getElem?_eq_getElem (by rw [hl4]; exact hk32)] at this
  exact ⟨_, this⟩
 have hf40 : W1.frozen? ⟨gr4, k, none⟩ = false := (hb4 k (by rw [List.length_map, hl4]; exact hk32)).2
 have hsz : W1.heap.size = w.heap.size + 1 + 1 + 1 + 1 := PR.out.sz
 have hgrl : gr4 < w.heap.size := tag_lt HGT.out
 have hm1 : ¬ bb = gr4 := tag_ne HM1.out.bt (tag_below HGT.out PR.out.be) (by decide)
 have hm2 : ¬ gr4 = bb := fun z => hm1 z.symm
 have hm3 : ¬ gx = gr4 := tag_ne HM1.out.xt (tag_below HGT.out PR.out.be) (by decide)
 have hm4 : ¬ gr4 = gx := fun z => hm3 z.symm
 have hm5 : ¬ w.heap.size = gr4 := by omega
 have hm6 : ¬ gr4 = w.heap.size := by omega
 have HMD : Hid (MidP B bb gx w { x with tx := x.tx.set i { t with rs := t.rs.set k true } } (.slice ma x.cms.length mc) (.slice ha x.hs.length hc) vs [.int .i64 3, .int .i64 ((i : Int) + 1), .int .i64 (k : Int), .int .i64 ky, .int .i64 vl, .int .i64 md, .string nm] [.bool true, .int .i64 t.md, .int .i64 t.bg, .slice oa t.own.length oc, .slice (some ⟨gr4, 0, none⟩) 32 32, .slice sa t.sv.length sc] (W1.setCell ⟨gr4, k, none⟩ (.bool true)).drew) := hid (by
  have P2 := HM1.out.setrd hi HTX.out HVX.out HOP.out (gr := gr4) (k := k) rfl hk32
  have key : MidP B bb gx w { x with tx := x.tx.set i { t with rs := t.rs.set k true } } (.slice ma x.cms.length mc) (.slice ha x.hs.length hc) vs [.int .i64 3, .int .i64 ((i : Int) + 1), .int .i64 (k : Int), .int .i64 ky, .int .i64 vl, .int .i64 md, .string nm] [.bool true, .int .i64 t.md, .int .i64 t.bg, .slice oa t.own.length oc, .slice (some ⟨gr4, 0, none⟩) 32 32, .slice sa t.sv.length sc] (W1.setCell ⟨gr4, k, none⟩ (.bool true)) := ⟨P2.1, (Keep.of_below PR.out.be).trans (P2.2.keep (fun ty h z => by subst h; exact z.2.2.2.2 rfl)), (PR.out.be.mono hB).setCell (p := ⟨gr4, k, none⟩) hgB _, PR.out.ka.chg P2.2 (by decide) PR.out.ga, PR.out.kb.chg P2.2 (by decide) PR.out.gb, PR.out.kc.chg P2.2 (by decide) PR.out.gc, PR.out.kd.chg P2.2 (by decide) PR.out.gd, P2.2.tagk (by decide) PR.out.gb, P2.2.tagk (by decide) PR.out.gd⟩
  exact key.below ((Below.refl _ _).drew) hB)
 have hol := HBN.out.ow t HMEM.out
 have hkk : (k : Int) < 32 := by omega
 have hk0 : ¬ (k : Int) < 0 := by omega
 have hk1 : ¬ (32 : Int) <= (k : Int) := by omega
 clear hl4 hb4 ht4 e4 hB4 hsz PR HM1 HTM1
 go_upto_region 25 with (fail)
 go_cut [] (fun wx => Hid (MidP B bb gx w { x with tx := x.tx.set i { t with rs := t.rs.set k true } } (.slice ma x.cms.length mc) (.slice ha x.hs.length hc) vs [.int .i64 3, .int .i64 ((i : Int) + 1), .int .i64 (k : Int), .int .i64 ky, .int .i64 vl, .int .i64 md, .string nm] [.bool true, .int .i64 t.md, .int .i64 t.bg, .slice oa t.own.length oc, .slice (some ⟨gr4, 0, none⟩) 32 32, .slice sa t.sv.length sc] wx))
 case first =>
  go_region_held3 (fun W => W.cell? ⟨bb, 3, none⟩ = some (.slice (some ⟨gx, 0, none⟩) 4 4) /\ W.cell? ⟨gx, i * 6 + 4, none⟩ = some (.slice (some ⟨gr4, 0, none⟩) 32 32) /\ W.cell? ⟨w.heap.size, 2, none⟩ = some (.int .i64 (k : Int))) (go_keep) (fail)
  go_wp2
  go_meet
  case rel => with_reducible exact HMD
 rename World => wx
 clear HMD k0 k1 k2 k3 k4 k5 k6 q4 b3 hb40 hf40 hm1 hm2 hm3 hm4 hm5 hm6
 have HMD := hcut
 clear hcut
 have hlx := HMD.out.lt
 have hgxx : gx < wx.heap.size := by omega
 have hbbx : bb < wx.heap.size := by omega
 obtain ⟨k0, k1, k2, k3, k4, k5, k6⟩ := kc6 HMD.out.ka
 obtain ⟨t0, t1, t2, t3, t4, t5⟩ := kc5 HMD.out.kc
 have htm : TxM B wx { t with rs := t.rs.set k true } (.slice oa t.own.length oc, .slice (some ⟨gr4, 0, none⟩) 32 32, .slice sa t.sv.length sc) := by
  obtain ⟨t9, v9, h9, h8, h7, _⟩ := HMD.out.m.at hi
  have hl9 : i < x.tx.length := by have := List.getElem?_eq_some_iff.1 HTX.out; exact this.1
  rw [List.getElem?_set_self hl9] at h9
  rw [HVX.out] at h8
  injection h9 with h9
  injection h8 with h8
  subst h9 h8
  exact h7
 have hls := list_spec bb x.ck ma mc (.slice ha x.hs.length hc) (.slice (some ⟨gx, 0, none⟩) 4 4) (.slice (some ⟨gr4, 0, none⟩) 32 32) (.slice sa t.sv.length sc) true t.md t.bg oa oc x.cms t.own (k : Int) wx HBN.out.bm (HBN.out.all HMEM.out) hbbx HMD.out.m.bs HMD.out.m.cm.rs htm.ow.1
 rw [<- HG.out] at hls
 clear HG htm
 go_wp2_with (go_at_call 39; fail)
 refine hls.mono ?_
 rintro e w2 ⟨pa, pc, rfl, hgr, hb2⟩
 have HMD2 := hid (HMD.out.below hb2 hB)
 have HGR : Hid (Gr pairV 92 2 w.heap.size w2 (.slice pa lf.length pc) lf) := hid (own_bs hgr (by omega))
 clear hls hb2 HMD t0 t1 t2 t3 t4 t5 hgr
 have x0 : w2.cell? ⟨w.heap.size + 1 + 1 + 1, 0, none⟩ = some (.int .i64 0) := (HMD2.out.kd 0 (by simp)).1
 have y0 : w2.frozen? ⟨w.heap.size + 1 + 1 + 1, 0, none⟩ = false := (HMD2.out.kd 0 (by simp)).2
 have r0 : w2.cell? ⟨w.heap.size + 1, 0, none⟩ = some (.int .i64 0) := (HMD2.out.kb 0 (by simp)).1
 have s0 : w2.frozen? ⟨w.heap.size + 1, 0, none⟩ = false := (HMD2.out.kb 0 (by simp)).2
 obtain ⟨⟨-, -⟩, ⟨x1, y1⟩⟩ := kb1 HMD2.out.kd
 obtain ⟨⟨-, -⟩, ⟨r1, s1⟩⟩ := kb1 HMD2.out.kb
 obtain ⟨⟨-, -⟩, ⟨-, -⟩, ⟨x2, y2⟩⟩ := kb2 HMD2.out.kd
 obtain ⟨⟨-, -⟩, ⟨-, -⟩, ⟨r2, s2⟩⟩ := kb2 HMD2.out.kb
 obtain ⟨⟨-, -⟩, ⟨-, -⟩, ⟨-, -⟩, ⟨x3, y3⟩⟩ := kb3 HMD2.out.kd
 obtain ⟨⟨-, -⟩, ⟨-, -⟩, ⟨-, -⟩, ⟨r3, s3⟩⟩ := kb3 HMD2.out.kb
 obtain ⟨⟨-, -⟩, ⟨-, -⟩, ⟨-, -⟩, ⟨-, -⟩, ⟨x4, y4⟩⟩ := kb4 HMD2.out.kd
 obtain ⟨⟨-, -⟩, ⟨-, -⟩, ⟨-, -⟩, ⟨-, -⟩, ⟨r4, s4⟩⟩ := kb4 HMD2.out.kb
 have HF : Hid (RunP B bb gx w ({ x with tx := x.tx.set i { t with rs := t.rs.set k true } }, ⟨0, 0, 0, false, lf⟩) (.returned (.agg #[.int .i64 0, .int .i64 0, .int .i64 0, .bool false, .slice pa lf.length pc])) (set5 (w2.setCell ⟨w.heap.size + 1 + 1 + 1, 4, none⟩ (.slice pa lf.length pc)) (w.heap.size + 1) (.int .i64 0) (.int .i64 0) (.int .i64 0) (.bool false) (.slice pa lf.length pc))) := hid (run_fin (r := ({ x with tx := x.tx.set i { t with rs := t.rs.set k true } }, ⟨0, 0, 0, false, lf⟩)) (HMD2.out.m.chg (Chg.set (T := fun ty => ty = 38) (.slice pa lf.length pc) rfl (HMD2.out.gd)) (fun ty h => .inl h)) (HMD2.out.k.newset (c := w.heap.size + 1 + 1 + 1) (j := 4) (u := .slice pa lf.length pc) (by omega)) (HMD2.out.b.setCell (p := ⟨w.heap.size + 1 + 1 + 1, 4, none⟩) (by show B <= w.heap.size + 1 + 1 + 1; omega) (.slice pa lf.length pc)) hB (Nat.le_succ _) (tag_set _ (HMD2.out.gb)) (own_chg (HGR.out) (Chg.set (T := fun ty => ty = 38) (.slice pa lf.length pc) rfl (HMD2.out.gd)) (by decide)))
 unfold set5 at HF
 have hn1 : ¬ (w.heap.size + 1 + 1 + 1) = w.heap.size + 1 := by omega
 have hn2 : ¬ w.heap.size + 1 = w.heap.size + 1 + 1 + 1 := by omega
 clear HMD2 HCL HBN HTX HVX HTD HMEM HOP HRL HGT HGB k0 k1 k2 k3 k4 k5 k6 HGR
 go_wp2
 refine bodyPost_ret (v := .agg #[.int .i64 0, .int .i64 0, .int .i64 0, .bool false, .slice pa lf.length pc]) (by simp [results, Tryz.results21, go_sem, r0, r1, r2, r3, r4, s0, s1, s2, s3, s4]) rfl ?_
 with_reducible exact HF.out
end Go.Proofs.YtblkgicbimflhaaGreat
