import Derived.Test.YtblkgicbimflhaaGreatSAO
import Derived.Deep.RegionLawGrows
import Derived.Deep.CutRange
import Derived.Deep.DeepCutAuto
import Derived.Deep.RegionHeld3
namespace Go.Proofs.YtblkgicbimflhaaGreat
open Go.ChangeShapes Go.WideShapes Go.ChangeAt Go.RowKit
set_option linter.unusedVariables false
set_option linter.unusedSimpArgs false
set_option maxRecDepth 100000
set_option maxHeartbeats 16000000
theorem run_4 (B bb gx i : Nat) (x : Bas) (tb ky vl md : Int) (nm : ByteArray) (cv hv : Value) (vs : List (Value × Value × Value)) (w : World) (hM : Mem B bb gx w x cv hv vs) (hi : i < 4) (hop : (x.tx.getD i tx0).op = true) (hb : Bnd x) (hB : B <= w.heap.size) (ht0 : ¬ tb < 0) (ht32 : ¬ 32 <= tb) :
 Calls Tryz.prog 21 #[.pointer (some ⟨bb, 0, none⟩), .agg #[.int .i64 4, .int .i64 ((i : Int) + 1), .int .i64 tb, .int .i64 ky, .int .i64 vl, .int .i64 md, .string nm]] w fun e w' => RunP B bb gx w (runF x ⟨4, (i : Int) + 1, tb, ky, vl, md, nm⟩) e w' := by
 have hin0 : ((i : Int) + 1 - 1).toNat = i := by omega
 obtain ⟨k, rfl⟩ : ∃ k : Nat, tb = k := ⟨tb.toNat, by omega⟩
 have hk32 : k < 32 := by omega
 have er : runF x ⟨4, (i : Int) + 1, (k : Int), ky, vl, md, nm⟩ = ({ x with tx := x.tx.set i { (x.tx.getD i tx0) with own := (x.tx.getD i tx0).own ++ [⟨(k : Int), ky, vl, false⟩] } }, ⟨0, 0, 0, false, []⟩) := by
  unfold runF
  simp only [hin0, hop, Int.toNat_natCast]
  rw [if_neg (by omega), if_neg (by decide), if_neg (by omega)]
  simp
 rw [er]
 clear er hin0
 obtain ⟨t, gr, oa, oc, sa, sc, ma, mc, ha, hc, rfl, rfl, htx, hvx, hTM, hcell, htD, hmem, hop, hrl, hgB, hgt, hgb, q0, q1, q2, q3, q4, q5, b3, hgxl, hbbl⟩ := hM.opn hi hop
 rw [htD]
 obtain ⟨hii, hs1, hs2, hwr⟩ := iok hi
 have hin : ((i : Int) + 1 - 1).toNat = i := by omega
 have HIN := hid hin
 clear hin
 have hgl1 : gx < w.heap.size + 1 := by omega
 have hbl1 : bb < w.heap.size + 1 := by omega
 obtain ⟨W1, hW1, PR⟩ := pre5 w 4 ((i : Int) + 1) (k : Int) ky vl md nm true t.md t.bg (.slice oa t.own.length oc) (.slice (some ⟨gr, 0, none⟩) 32 32) (.slice sa t.sv.length sc)
 have HM1 := hid (hM.below PR.out.be)
 have HTM1 := hid (hTM.chg (Chg.of_below (fun _ => False) PR.out.be) (fun z => z) (fun z => z) (fun z => z))
 have HBN := hid hb
 have HTX := hid htx
 have HVX := hid hvx
 have HTD := hid htD
 have HMEM := hid hmem
 have HOP := hid hop
 have HRL := hid hrl
 have HGT := hid hgt
 have HGB := hid hgb
 have HCL := hid hcell
 clear hM hTM hb htx hvx hcell hmem htD hop hrl hgt hgb
 go_enter Tryz.func21, Tryz.ntmps21
 go_upto_region 11 with (fail)
 rw [<- hW1]
 clear hW1 q0 q1 q2 q3 q4 q5 b3
 obtain ⟨k0, k1, k2, k3, k4, k5, k6⟩ := kc6 PR.out.ka
 have hkk : (k : Int) < 32 := by omega
 have hk0 : ¬ (k : Int) < 0 := by omega
 have hk1 : ¬ (32 : Int) <= (k : Int) := by omega
 have hsz : W1.heap.size = w.heap.size + 1 + 1 + 1 + 1 := PR.out.sz
 have hol := HBN.out.ow t HMEM.out
 obtain ⟨w5, hw5⟩ : ∃ z, z = W1.alloc (.cells #[.int .i64 (k : Int), .int .i64 ky, .int .i64 vl, .bool false] 106) := ⟨_, rfl⟩
 have hb5 : Below W1.heap.size W1 w5 := by rw [hw5]; exact below_alloc _ _
 have hKB : Blk w5 W1.heap.size [.int .i64 (k : Int), .int .i64 ky, .int .i64 vl, .bool false] := by rw [hw5]; exact blk_new W1 _ _
 have hs5 : w5.heap.size = W1.heap.size + 1 := by rw [hw5]; simp
 have HM5 := hid (HM1.out.below hb5)
 have HTM5 := hid (HTM1.out.chg (Chg.of_below (fun _ => False) hb5) (fun z => z) (fun z => z) (fun z => z))
 have HRS := hid HTM5.out.ow.1
 have KS := hid (PR.out.kd.below hb5 (by omega))
 have KQ := hid (PR.out.kb.below hb5 (by omega))
 have KT := hid (PR.out.kc.below hb5 (by omega))
 have TS := hid (tag_below PR.out.gd hb5)
 have TQ := hid (tag_below PR.out.gb hb5)
 have HB5 : Hid (Below w.heap.size w w5) := hid (PR.out.be.trans (hb5.mono (by omega)))
 have HQ3 : Hid (w5.cell? ⟨gx, i * 6 + 3, none⟩ = some (.slice oa t.own.length oc) /\ w5.frozen? ⟨gx, i * 6 + 3, none⟩ = false) := hid (⟨(HB5.out.cell (p := ⟨gx, i * 6 + 3, none⟩) hgxl).trans (HCL.out 3 (by omega)).1, (HB5.out.frozen (p := ⟨gx, i * 6 + 3, none⟩) hgxl).trans (HCL.out 3 (by omega)).2⟩)
 have hszs : w5.heap.size = w.heap.size + 1 + 1 + 1 + 1 + 1 := by omega
 have HHW := hid hw5
 clear hw5
 have HFIN : Hid (∀ (w7 : World) (v2 : Value) (news : List Value), Below w5.heap.size w5 w7 -> Fill 4 CC 0 t.own t.own.length news w5 -> w7.ownsRow w5.heap.size 106 4 v2 (t.own.length + 1) (news ++ [.int .i64 (k : Int), .int .i64 ky, .int .i64 vl, .bool false]) -> RunP B bb gx w ({ x with tx := x.tx.set i { t with own := t.own ++ [⟨(k : Int), ky, vl, false⟩] } }, ⟨0, 0, 0, false, []⟩) (.returned (.agg #[.int .i64 0, .int .i64 0, .int .i64 0, .bool false, .slice none 0 0])) (set5 (w7.setCell ⟨gx, i * 6 + 3, none⟩ v2) (w.heap.size + 1) (.int .i64 0) (.int .i64 0) (.int .i64 0) (.bool false) (.slice none 0 0))) := hid (fun w7 v2 news bw7 hf ho => by
  have hf2 := (hf.below liesC bw7).append (fill_one (B := 0) (w := w7) liesC (t := (⟨(k : Int), ky, vl, false⟩ : Cel)) rfl)
  have hk7 : Chg (fun _ => False) w5 w7 := Chg.of_below _ bw7
  have tl2 : TL 106 4 CC w7 v2 (t.own ++ [⟨(k : Int), ky, vl, false⟩]) := cel_tl hf2 (by simpa [celV] using ho)
  have tm := HTM5.out.chg hk7 (fun z => z) (fun z => z) (fun z => z)
  have P := (HM5.out.below bw7).putc (i := i) (j := 3) (u := v2) (t' := { t with own := t.own ++ [⟨(k : Int), ky, vl, false⟩] }) (v' := (v2, .slice (some ⟨gr, 0, none⟩) 32 32, .slice sa t.sv.length sc)) hi (by omega) HTX.out HVX.out rfl ⟨tl2, tm.sa, tm.cp, tm.rd, tm.rf⟩ rfl
  have hB7 : Below w.heap.size w w7 := HB5.out.trans (bw7.mono (by omega))
  exact run_fin (r := ({ x with tx := x.tx.set i { t with own := t.own ++ [⟨(k : Int), ky, vl, false⟩] } }, ⟨0, 0, 0, false, []⟩)) P.1 ((Keep.of_below hB7).trans (P.2.keep (fun ty h z => by subst h; exact z.2.1 rfl))) ((hB7.mono hB).setCell (p := ⟨gx, i * 6 + 3, none⟩) HM5.out.xB _) hB (Nat.le_succ _) (P.2.tagk (by decide) (tag_below TQ.out bw7)) (gr_nil _ _ _ _ _))
 unfold set5 at HFIN
 have b3 : w5.cell? ⟨bb, 3, none⟩ = some (.slice (some ⟨gx, 0, none⟩) 4 4) := (HM5.out.bs 3 (by simp)).1
 have t3 : w5.cell? ⟨w.heap.size + 1 + 1, 3, none⟩ = some (.slice oa t.own.length oc) := (KT.out 3 (by simp)).1
 obtain ⟨c0, c1, c2, c3⟩ := kc3 hKB
 have HX : Hid (∀ (w7 : World), Below w5.heap.size w5 w7 -> Blk w7 (w.heap.size + 1 + 1 + 1) [.int .i64 0, .int .i64 0, .int .i64 0, .bool false, .slice none 0 0] /\ Blk w7 (w.heap.size + 1) [.int .i64 0, .int .i64 0, .int .i64 0, .bool false, .slice none 0 0]) := hid (fun w7 h => ⟨KS.out.below h (by omega), KQ.out.below h (by omega)⟩)
 have hbb5 : bb < w5.heap.size := by omega
 have hgx5 : gx < w5.heap.size := by omega
 have hbx : W1.heap.size < w5.heap.size := by omega
 have hr5 : w.heap.size + 1 + 1 < w5.heap.size := by omega
 have hbb6 : bb < w5.heap.size + 1 := by omega
 have hbx6 : W1.heap.size < w5.heap.size + 1 := by omega
 have hr6 : w.heap.size + 1 + 1 < w5.heap.size + 1 := by omega
 have hn0 : ¬ gx = bb := tag_ne HM5.out.xt HM5.out.bt (by decide)
 have hn1 : ¬ bb = gx := fun z => hn0 z.symm
 have hn2 : ¬ gx = w.heap.size + 1 := by omega
 have hn3 : ¬ w.heap.size + 1 = gx := by omega
 have hn6 : ¬ gx = w.heap.size + 1 + 1 := by omega
 have hn7 : ¬ w.heap.size + 1 + 1 = gx := by omega
 have hn8 : ¬ gx = W1.heap.size := by omega
 have hn9 : ¬ W1.heap.size = gx := by omega
 have hn4 : ¬ gx = w.heap.size + 1 + 1 + 1 := by omega
 have hn5 : ¬ w.heap.size + 1 + 1 + 1 = gx := by omega
 obtain ⟨i0, hi0, hz0, hz1, hz2⟩ := info_parts infoCel
 have OA : Hid (((w5.alloc (.cells #[] 106)).drew).ownsRow w5.heap.size 106 4 (.slice (some ⟨w5.heap.size, 0, none⟩) 0 0) 0 []) := hid (by
  have := World.ownsRow_made (base := w5.heap.size) (e := 106) (size := 4) w5 #[] 0 (by simp) (by unfold maxLen; omega) (by simp)
  simpa using this.drew)
 have OB : Hid ((((w5.alloc (.cells #[] 106)).alloc (.cells #[.int .i64 (k : Int), .int .i64 ky, .int .i64 vl, .bool false] 106)).drew).ownsRow w5.heap.size 106 4 (.slice (some ⟨w5.heap.size, 0, none⟩) 0 0) 0 []) := hid (by
  have := (World.ownsRow_made (base := w5.heap.size) (e := 106) (size := 4) w5 #[] 0 (by simp) (by unfold maxLen; omega) (by simp)).alloc (.cells #[.int .i64 (k : Int), .int .i64 ky, .int .i64 vl, .bool false] 106)
  simpa using this.drew)
 have OC : Hid ((((w5.alloc (.cells #[.int .i64 (k : Int), .int .i64 ky, .int .i64 vl, .bool false] 106)).alloc (.cells #[] 106)).drew).ownsRow w5.heap.size 106 4 (.slice (some ⟨w5.heap.size + 1, 0, none⟩) 0 0) 0 []) := hid (by
  have := World.ownsRow_made (base := w5.heap.size) (e := 106) (size := 4) (w5.alloc (.cells #[.int .i64 (k : Int), .int .i64 ky, .int .i64 vl, .bool false] 106)) #[] 0 (by simp) (by unfold maxLen; omega) (by simp)
  simpa using this.drew)
 have HO2 : Hid (∀ u ∈ ([.int .i64 (k : Int), .int .i64 ky, .int .i64 vl, .bool false] : List Value), u.oneCell' = true) := hid (by intro u hu; simp at hu; rcases hu with rfl | rfl | rfl | rfl <;> rfl)
 clear HM5 HTM5 HM1 HTM1 HBN HTX HVX HTD HMEM HOP HRL HGT HGB HCL KS KQ KT TS TQ HB5 hKB hb5 PR hsz hs5 hszs
 go_upto_region 30 with (fail)
 rw [<- HHW.out]
 clear HHW k0 k1 k2 k3 k4 k5 k6
 go_region_held3 (fun W => W.cell? ⟨bb, 3, none⟩ = some (.slice (some ⟨gx, 0, none⟩) 4 4) /\ W.cell? ⟨w.heap.size + 1 + 1, 3, none⟩ = some (.slice oa t.own.length oc) /\ W.cell? ⟨W1.heap.size, 0, none⟩ = some (.int .i64 (k : Int)) /\ W.cell? ⟨W1.heap.size, 1, none⟩ = some (.int .i64 ky) /\ W.cell? ⟨W1.heap.size, 2, none⟩ = some (.int .i64 vl) /\ W.cell? ⟨W1.heap.size, 3, none⟩ = some (.bool false)) (go_keep) (first
  | (refine step_append_rs0 liesC oneC rfl (.tmp 172) (.tmp 174) 67 rfl w5.heap.size 106 i0 _ 32 Tryz.underlying67 hi0 hz0 hz1 hz2 rfl (by decide) (.slice (some ⟨_, 0, none⟩) 0 0) 0 [] rfl ?_ oa oc t.own t.own.length rfl rfl w5 HRS.out ?_ ?_ ?_ ?_ ?_
     .first | (with_reducible first | exact OA.out | exact OB.out | exact OC.out)
     .exact bl
     .unfold maxLen; omega
     .omega
     .first | (simp; done) | (simp; omega) | omega
     intro news v1 w6 hfi1 hown1 hgrow1 _ _
     have bw6 : Below w5.heap.size w5 w6 := by
      refine Below.grown ?_ hgrow1 ?_ ?_
      .exact bl
      .first | (simp; done) | (simp; omega) | omega
      .intro k hk; simp [Value.ownBlock] at hk; first | omega | (subst hk; omega)
     have j3 : w6.cell? ⟨bb, 3, none⟩ = some (.slice (some ⟨gx, 0, none⟩) 4 4) := ct bw6 hbb5 b3
     have j5 : w6.cell? ⟨w.heap.size + 1 + 1, 3, none⟩ = some (.slice oa t.own.length oc) := ct bw6 hr5 t3
     have js0 : w6.cell? ⟨W1.heap.size, 0, none⟩ = some (.int .i64 (k : Int)) := ct bw6 hbx c0
     have js1 : w6.cell? ⟨W1.heap.size, 1, none⟩ = some (.int .i64 ky) := ct bw6 hbx c1
     have js2 : w6.cell? ⟨W1.heap.size, 2, none⟩ = some (.int .i64 vl) := ct bw6 hbx c2
     have js3 : w6.cell? ⟨W1.heap.size, 3, none⟩ = some (.bool false) := ct bw6 hbx c3
     have js2 : bb < w6.heap.size := by have := bw6.size; omega
     have js3 : w.heap.size + 1 + 1 < w6.heap.size := by have := bw6.size; omega
     have js4 : W1.heap.size < w6.heap.size := by have := bw6.size; omega
     have HFW : Hid (Fill 4 CC 0 t.own t.own.length news w5) := hfi1
     have HBW6 := hid bw6
     have HOW6 := hid hown1
     have KN : Hid (∀ j u, ([.int .i64 (k : Int), .int .i64 ky, .int .i64 vl, .bool false] : List Value)[j]? = some u -> (w6.alloc (.cells #[.int .i64 (k : Int), .int .i64 ky, .int .i64 vl, .bool false] 106)).cell? ((⟨w6.heap.size, 0, none⟩ : Addr).add j) = some u) := (blk_new w6 [.int .i64 (k : Int), .int .i64 ky, .int .i64 vl, .bool false] 106).cells
     first
      | have KT := hid (Blk.cells (KT2B (cs := [.int .i64 (k : Int), .int .i64 ky, .int .i64 vl, .bool false]) hgrow1 (by first | (simp [Value.ownBlock]; done) | (simp [Value.ownBlock]; omega))))
      | have KT := hid (Blk.cells (KT2C (cs := [.int .i64 (k : Int), .int .i64 ky, .int .i64 vl, .bool false]) hgrow1 (by first | (simp [Value.ownBlock]; done) | (simp [Value.ownBlock]; omega))))
      | skip
     clear hgrow1 hfi1 bw6 hown1)
  | (refine step_append_own rfl (.tmp 175) (.tmp 177) 67 rfl w5.heap.size 106 i0 _ 4 32 Tryz.underlying67 hi0 hz0 hz1 hz2 rfl (by decide) v1 (0 + t.own.length) ([] ++ news) rfl ?_ ⟨_, 0, none⟩ 1 1 [.int .i64 (k : Int), .int .i64 ky, .int .i64 vl, .bool false] rfl rfl ?_ HO2.out ?_ ?_ ?_ ?_
     .first | with_reducible exact HOW6.out | with_reducible exact HOW6.out.alloc _
     .first | with_reducible exact KN.out | with_reducible exact KT.out
     .unfold maxLen; omega
     .omega
     .have := HBW6.out.size; first | (simp; done) | (simp; omega) | omega
     intro v2 w7 hown2 hgrow2 _
     have bw7 : Below w5.heap.size w5 w7 := by
      refine Below.grown ?_ hgrow2 ?_ ?_
      .first | with_reducible exact HBW6.out | with_reducible exact HBW6.out.alloc HBW6.out.size _
      .have := HBW6.out.size; first | (simp; done) | (simp; omega) | omega
      .intro k hk; exact (HOW6.out.lt k hk).1
     have HFI := hid (HFIN.out w7 v2 news bw7 HFW.out (by simpa using hown2))
     obtain ⟨a2, cc2, hv2⟩ := formR hown2
     subst hv2
     simp only [Nat.zero_add] at HFI
     have m5 : w7.cell? ⟨gx, i * 6 + 3, none⟩ = some (.slice oa t.own.length oc) := ct bw7 hgx5 HQ3.out.1
     have n5 : w7.frozen? ⟨gx, i * 6 + 3, none⟩ = false := (bw7.frozen (p := ⟨gx, i * 6 + 3, none⟩) hgx5).trans HQ3.out.2
     have l3 : w7.cell? ⟨bb, 3, none⟩ = some (.slice (some ⟨gx, 0, none⟩) 4 4) := ct bw7 hbb5 b3
     have l5 : w7.cell? ⟨w.heap.size + 1 + 1, 3, none⟩ = some (.slice oa t.own.length oc) := ct bw7 hr5 t3
     have ls0 : w7.cell? ⟨W1.heap.size, 0, none⟩ = some (.int .i64 (k : Int)) := ct bw7 hbx c0
     have ls1 : w7.cell? ⟨W1.heap.size, 1, none⟩ = some (.int .i64 ky) := ct bw7 hbx c1
     have ls2 : w7.cell? ⟨W1.heap.size, 2, none⟩ = some (.int .i64 vl) := ct bw7 hbx c2
     have ls3 : w7.cell? ⟨W1.heap.size, 3, none⟩ = some (.bool false) := ct bw7 hbx c3
     have KSS := hid (HX.out w7 bw7).1
     have KQQ := hid (HX.out w7 bw7).2
     clear hown2 hgrow2 bw7 KN HOW6 HBW6 HFW))
 all_goals
  clear b3 t3 c0 c1 c2 c3
  have x0 : w7.cell? ⟨w.heap.size + 1 + 1 + 1, 0, none⟩ = some (.int .i64 0) := (KSS.out 0 (by simp)).1
  have r0 : w7.cell? ⟨w.heap.size + 1, 0, none⟩ = some (.int .i64 0) := (KQQ.out 0 (by simp)).1
  have s0 : w7.frozen? ⟨w.heap.size + 1, 0, none⟩ = false := (KQQ.out 0 (by simp)).2
  have x1 : w7.cell? ⟨w.heap.size + 1 + 1 + 1, 1, none⟩ = some (.int .i64 0) := (KSS.out 1 (by simp)).1
  obtain ⟨⟨-, -⟩, ⟨r1, s1⟩⟩ := kb1 KQQ.out
  have x2 : w7.cell? ⟨w.heap.size + 1 + 1 + 1, 2, none⟩ = some (.int .i64 0) := (KSS.out 2 (by simp)).1
  obtain ⟨⟨-, -⟩, ⟨-, -⟩, ⟨r2, s2⟩⟩ := kb2 KQQ.out
  have x3 : w7.cell? ⟨w.heap.size + 1 + 1 + 1, 3, none⟩ = some (.bool false) := (KSS.out 3 (by simp)).1
  obtain ⟨⟨-, -⟩, ⟨-, -⟩, ⟨-, -⟩, ⟨r3, s3⟩⟩ := kb3 KQQ.out
  have x4 : w7.cell? ⟨w.heap.size + 1 + 1 + 1, 4, none⟩ = some (.slice none 0 0) := (KSS.out 4 (by simp)).1
  obtain ⟨⟨-, -⟩, ⟨-, -⟩, ⟨-, -⟩, ⟨-, -⟩, ⟨r4, s4⟩⟩ := kb4 KQQ.out
  clear KSS KQQ HX HFIN HQ3
  go_wp2
  refine bodyPost_ret (v := .agg #[.int .i64 0, .int .i64 0, .int .i64 0, .bool false, .slice none 0 0]) (by simp [results, Tryz.results21, go_sem, r0, r1, r2, r3, r4, s0, s1, s2, s3, s4]) rfl ?_
  with_reducible exact HFI.out
theorem run_5 (B bb gx i : Nat) (x : Bas) (tb ky vl md : Int) (nm : ByteArray) (cv hv : Value) (vs : List (Value × Value × Value)) (w : World) (hM : Mem B bb gx w x cv hv vs) (hi : i < 4) (hop : (x.tx.getD i tx0).op = true) (hb : Bnd x) (hB : B <= w.heap.size) (ht0 : ¬ tb < 0) (ht32 : ¬ 32 <= tb) :
 Calls Tryz.prog 21 #[.pointer (some ⟨bb, 0, none⟩), .agg #[.int .i64 5, .int .i64 ((i : Int) + 1), .int .i64 tb, .int .i64 ky, .int .i64 vl, .int .i64 md, .string nm]] w fun e w' => RunP B bb gx w (runF x ⟨5, (i : Int) + 1, tb, ky, vl, md, nm⟩) e w' := by
 have hin0 : ((i : Int) + 1 - 1).toNat = i := by omega
 obtain ⟨k, rfl⟩ : ∃ k : Nat, tb = k := ⟨tb.toNat, by omega⟩
 have hk32 : k < 32 := by omega
 have er : runF x ⟨5, (i : Int) + 1, (k : Int), ky, vl, md, nm⟩ = ({ x with tx := x.tx.set i { (x.tx.getD i tx0) with own := (x.tx.getD i tx0).own ++ [⟨(k : Int), ky, vl, true⟩] } }, ⟨0, 0, 0, false, []⟩) := by
  unfold runF
  simp only [hin0, hop, Int.toNat_natCast]
  rw [if_neg (by omega), if_neg (by decide), if_neg (by omega)]
  simp
 rw [er]
 clear er hin0
 obtain ⟨t, gr, oa, oc, sa, sc, ma, mc, ha, hc, rfl, rfl, htx, hvx, hTM, hcell, htD, hmem, hop, hrl, hgB, hgt, hgb, q0, q1, q2, q3, q4, q5, b3, hgxl, hbbl⟩ := hM.opn hi hop
 rw [htD]
 obtain ⟨hii, hs1, hs2, hwr⟩ := iok hi
 have hin : ((i : Int) + 1 - 1).toNat = i := by omega
 have HIN := hid hin
 clear hin
 have hgl1 : gx < w.heap.size + 1 := by omega
 have hbl1 : bb < w.heap.size + 1 := by omega
 obtain ⟨W1, hW1, PR⟩ := pre5 w 5 ((i : Int) + 1) (k : Int) ky vl md nm true t.md t.bg (.slice oa t.own.length oc) (.slice (some ⟨gr, 0, none⟩) 32 32) (.slice sa t.sv.length sc)
 have HM1 := hid (hM.below PR.out.be)
 have HTM1 := hid (hTM.chg (Chg.of_below (fun _ => False) PR.out.be) (fun z => z) (fun z => z) (fun z => z))
 have HBN := hid hb
 have HTX := hid htx
 have HVX := hid hvx
 have HTD := hid htD
 have HMEM := hid hmem
 have HOP := hid hop
 have HRL := hid hrl
 have HGT := hid hgt
 have HGB := hid hgb
 have HCL := hid hcell
 clear hM hTM hb htx hvx hcell hmem htD hop hrl hgt hgb
 go_enter Tryz.func21, Tryz.ntmps21
 go_upto_region 11 with (fail)
 rw [<- hW1]
 clear hW1 q0 q1 q2 q3 q4 q5 b3
 obtain ⟨k0, k1, k2, k3, k4, k5, k6⟩ := kc6 PR.out.ka
 have hkk : (k : Int) < 32 := by omega
 have hk0 : ¬ (k : Int) < 0 := by omega
 have hk1 : ¬ (32 : Int) <= (k : Int) := by omega
 have hsz : W1.heap.size = w.heap.size + 1 + 1 + 1 + 1 := PR.out.sz
 have hol := HBN.out.ow t HMEM.out
 obtain ⟨w5, hw5⟩ : ∃ z, z = W1.alloc (.cells #[.int .i64 (k : Int), .int .i64 ky, .int .i64 vl, .bool true] 106) := ⟨_, rfl⟩
 have hb5 : Below W1.heap.size W1 w5 := by rw [hw5]; exact below_alloc _ _
 have hKB : Blk w5 W1.heap.size [.int .i64 (k : Int), .int .i64 ky, .int .i64 vl, .bool true] := by rw [hw5]; exact blk_new W1 _ _
 have hs5 : w5.heap.size = W1.heap.size + 1 := by rw [hw5]; simp
 have HM5 := hid (HM1.out.below hb5)
 have HTM5 := hid (HTM1.out.chg (Chg.of_below (fun _ => False) hb5) (fun z => z) (fun z => z) (fun z => z))
 have HRS := hid HTM5.out.ow.1
 have KS := hid (PR.out.kd.below hb5 (by omega))
 have KQ := hid (PR.out.kb.below hb5 (by omega))
 have KT := hid (PR.out.kc.below hb5 (by omega))
 have TS := hid (tag_below PR.out.gd hb5)
 have TQ := hid (tag_below PR.out.gb hb5)
 have HB5 : Hid (Below w.heap.size w w5) := hid (PR.out.be.trans (hb5.mono (by omega)))
 have HQ3 : Hid (w5.cell? ⟨gx, i * 6 + 3, none⟩ = some (.slice oa t.own.length oc) /\ w5.frozen? ⟨gx, i * 6 + 3, none⟩ = false) := hid (⟨(HB5.out.cell (p := ⟨gx, i * 6 + 3, none⟩) hgxl).trans (HCL.out 3 (by omega)).1, (HB5.out.frozen (p := ⟨gx, i * 6 + 3, none⟩) hgxl).trans (HCL.out 3 (by omega)).2⟩)
 have hszs : w5.heap.size = w.heap.size + 1 + 1 + 1 + 1 + 1 := by omega
 have HHW := hid hw5
 clear hw5
 have HFIN : Hid (∀ (w7 : World) (v2 : Value) (news : List Value), Below w5.heap.size w5 w7 -> Fill 4 CC 0 t.own t.own.length news w5 -> w7.ownsRow w5.heap.size 106 4 v2 (t.own.length + 1) (news ++ [.int .i64 (k : Int), .int .i64 ky, .int .i64 vl, .bool true]) -> RunP B bb gx w ({ x with tx := x.tx.set i { t with own := t.own ++ [⟨(k : Int), ky, vl, true⟩] } }, ⟨0, 0, 0, false, []⟩) (.returned (.agg #[.int .i64 0, .int .i64 0, .int .i64 0, .bool false, .slice none 0 0])) (set5 (w7.setCell ⟨gx, i * 6 + 3, none⟩ v2) (w.heap.size + 1) (.int .i64 0) (.int .i64 0) (.int .i64 0) (.bool false) (.slice none 0 0))) := hid (fun w7 v2 news bw7 hf ho => by
  have hf2 := (hf.below liesC bw7).append (fill_one (B := 0) (w := w7) liesC (t := (⟨(k : Int), ky, vl, true⟩ : Cel)) rfl)
  have hk7 : Chg (fun _ => False) w5 w7 := Chg.of_below _ bw7
  have tl2 : TL 106 4 CC w7 v2 (t.own ++ [⟨(k : Int), ky, vl, true⟩]) := cel_tl hf2 (by simpa [celV] using ho)
  have tm := HTM5.out.chg hk7 (fun z => z) (fun z => z) (fun z => z)
  have P := (HM5.out.below bw7).putc (i := i) (j := 3) (u := v2) (t' := { t with own := t.own ++ [⟨(k : Int), ky, vl, true⟩] }) (v' := (v2, .slice (some ⟨gr, 0, none⟩) 32 32, .slice sa t.sv.length sc)) hi (by omega) HTX.out HVX.out rfl ⟨tl2, tm.sa, tm.cp, tm.rd, tm.rf⟩ rfl
  have hB7 : Below w.heap.size w w7 := HB5.out.trans (bw7.mono (by omega))
  exact run_fin (r := ({ x with tx := x.tx.set i { t with own := t.own ++ [⟨(k : Int), ky, vl, true⟩] } }, ⟨0, 0, 0, false, []⟩)) P.1 ((Keep.of_below hB7).trans (P.2.keep (fun ty h z => by subst h; exact z.2.1 rfl))) ((hB7.mono hB).setCell (p := ⟨gx, i * 6 + 3, none⟩) HM5.out.xB _) hB (Nat.le_succ _) (P.2.tagk (by decide) (tag_below TQ.out bw7)) (gr_nil _ _ _ _ _))
 unfold set5 at HFIN
 have b3 : w5.cell? ⟨bb, 3, none⟩ = some (.slice (some ⟨gx, 0, none⟩) 4 4) := (HM5.out.bs 3 (by simp)).1
 have t3 : w5.cell? ⟨w.heap.size + 1 + 1, 3, none⟩ = some (.slice oa t.own.length oc) := (KT.out 3 (by simp)).1
 obtain ⟨c0, c1, c2, c3⟩ := kc3 hKB
 have HX : Hid (∀ (w7 : World), Below w5.heap.size w5 w7 -> Blk w7 (w.heap.size + 1 + 1 + 1) [.int .i64 0, .int .i64 0, .int .i64 0, .bool false, .slice none 0 0] /\ Blk w7 (w.heap.size + 1) [.int .i64 0, .int .i64 0, .int .i64 0, .bool false, .slice none 0 0]) := hid (fun w7 h => ⟨KS.out.below h (by omega), KQ.out.below h (by omega)⟩)
 have hbb5 : bb < w5.heap.size := by omega
 have hgx5 : gx < w5.heap.size := by omega
 have hbx : W1.heap.size < w5.heap.size := by omega
 have hr5 : w.heap.size + 1 + 1 < w5.heap.size := by omega
 have hbb6 : bb < w5.heap.size + 1 := by omega
 have hbx6 : W1.heap.size < w5.heap.size + 1 := by omega
 have hr6 : w.heap.size + 1 + 1 < w5.heap.size + 1 := by omega
 have hn0 : ¬ gx = bb := tag_ne HM5.out.xt HM5.out.bt (by decide)
 have hn1 : ¬ bb = gx := fun z => hn0 z.symm
 have hn2 : ¬ gx = w.heap.size + 1 := by omega
 have hn3 : ¬ w.heap.size + 1 = gx := by omega
 have hn6 : ¬ gx = w.heap.size + 1 + 1 := by omega
 have hn7 : ¬ w.heap.size + 1 + 1 = gx := by omega
 have hn8 : ¬ gx = W1.heap.size := by omega
 have hn9 : ¬ W1.heap.size = gx := by omega
 have hn4 : ¬ gx = w.heap.size + 1 + 1 + 1 := by omega
 have hn5 : ¬ w.heap.size + 1 + 1 + 1 = gx := by omega
 obtain ⟨i0, hi0, hz0, hz1, hz2⟩ := info_parts infoCel
 have OA : Hid (((w5.alloc (.cells #[] 106)).drew).ownsRow w5.heap.size 106 4 (.slice (some ⟨w5.heap.size, 0, none⟩) 0 0) 0 []) := hid (by
  have := World.ownsRow_made (base := w5.heap.size) (e := 106) (size := 4) w5 #[] 0 (by simp) (by unfold maxLen; omega) (by simp)
  simpa using this.drew)
 have OB : Hid ((((w5.alloc (.cells #[] 106)).alloc (.cells #[.int .i64 (k : Int), .int .i64 ky, .int .i64 vl, .bool true] 106)).drew).ownsRow w5.heap.size 106 4 (.slice (some ⟨w5.heap.size, 0, none⟩) 0 0) 0 []) := hid (by
  have := (World.ownsRow_made (base := w5.heap.size) (e := 106) (size := 4) w5 #[] 0 (by simp) (by unfold maxLen; omega) (by simp)).alloc (.cells #[.int .i64 (k : Int), .int .i64 ky, .int .i64 vl, .bool true] 106)
  simpa using this.drew)
 have OC : Hid ((((w5.alloc (.cells #[.int .i64 (k : Int), .int .i64 ky, .int .i64 vl, .bool true] 106)).alloc (.cells #[] 106)).drew).ownsRow w5.heap.size 106 4 (.slice (some ⟨w5.heap.size + 1, 0, none⟩) 0 0) 0 []) := hid (by
  have := World.ownsRow_made (base := w5.heap.size) (e := 106) (size := 4) (w5.alloc (.cells #[.int .i64 (k : Int), .int .i64 ky, .int .i64 vl, .bool true] 106)) #[] 0 (by simp) (by unfold maxLen; omega) (by simp)
  simpa using this.drew)
 have HO2 : Hid (∀ u ∈ ([.int .i64 (k : Int), .int .i64 ky, .int .i64 vl, .bool true] : List Value), u.oneCell' = true) := hid (by intro u hu; simp at hu; rcases hu with rfl | rfl | rfl | rfl <;> rfl)
 clear HM5 HTM5 HM1 HTM1 HBN HTX HVX HTD HMEM HOP HRL HGT HGB HCL KS KQ KT TS TQ HB5 hKB hb5 PR hsz hs5 hszs
 go_upto_region 30 with (fail)
 rw [<- HHW.out]
 clear HHW k0 k1 k2 k3 k4 k5 k6
 go_region_held3 (fun W => W.cell? ⟨bb, 3, none⟩ = some (.slice (some ⟨gx, 0, none⟩) 4 4) /\ W.cell? ⟨w.heap.size + 1 + 1, 3, none⟩ = some (.slice oa t.own.length oc) /\ W.cell? ⟨W1.heap.size, 0, none⟩ = some (.int .i64 (k : Int)) /\ W.cell? ⟨W1.heap.size, 1, none⟩ = some (.int .i64 ky) /\ W.cell? ⟨W1.heap.size, 2, none⟩ = some (.int .i64 vl) /\ W.cell? ⟨W1.heap.size, 3, none⟩ = some (.bool true)) (go_keep) (first
  | (refine step_append_rs0 liesC oneC rfl (.tmp 172) (.tmp 174) 67 rfl w5.heap.size 106 i0 _ 32 Tryz.underlying67 hi0 hz0 hz1 hz2 rfl (by decide) (.slice (some ⟨_, 0, none⟩) 0 0) 0 [] rfl ?_ oa oc t.own t.own.length rfl rfl w5 HRS.out ?_ ?_ ?_ ?_ ?_
     .first | (with_reducible first | exact OA.out | exact OB.out | exact OC.out)
     .exact bl
     .unfold maxLen; omega
     .omega
     .first | (simp; done) | (simp; omega) | omega
     intro news v1 w6 hfi1 hown1 hgrow1 _ _
     have bw6 : Below w5.heap.size w5 w6 := by
      refine Below.grown ?_ hgrow1 ?_ ?_
      .exact bl
      .first | (simp; done) | (simp; omega) | omega
      .intro k hk; simp [Value.ownBlock] at hk; first | omega | (subst hk; omega)
     have j3 : w6.cell? ⟨bb, 3, none⟩ = some (.slice (some ⟨gx, 0, none⟩) 4 4) := ct bw6 hbb5 b3
     have j5 : w6.cell? ⟨w.heap.size + 1 + 1, 3, none⟩ = some (.slice oa t.own.length oc) := ct bw6 hr5 t3
     have js0 : w6.cell? ⟨W1.heap.size, 0, none⟩ = some (.int .i64 (k : Int)) := ct bw6 hbx c0
     have js1 : w6.cell? ⟨W1.heap.size, 1, none⟩ = some (.int .i64 ky) := ct bw6 hbx c1
     have js2 : w6.cell? ⟨W1.heap.size, 2, none⟩ = some (.int .i64 vl) := ct bw6 hbx c2
     have js3 : w6.cell? ⟨W1.heap.size, 3, none⟩ = some (.bool true) := ct bw6 hbx c3
     have js2 : bb < w6.heap.size := by have := bw6.size; omega
     have js3 : w.heap.size + 1 + 1 < w6.heap.size := by have := bw6.size; omega
     have js4 : W1.heap.size < w6.heap.size := by have := bw6.size; omega
     have HFW : Hid (Fill 4 CC 0 t.own t.own.length news w5) := hfi1
     have HBW6 := hid bw6
     have HOW6 := hid hown1
     have KN : Hid (∀ j u, ([.int .i64 (k : Int), .int .i64 ky, .int .i64 vl, .bool true] : List Value)[j]? = some u -> (w6.alloc (.cells #[.int .i64 (k : Int), .int .i64 ky, .int .i64 vl, .bool true] 106)).cell? ((⟨w6.heap.size, 0, none⟩ : Addr).add j) = some u) := (blk_new w6 [.int .i64 (k : Int), .int .i64 ky, .int .i64 vl, .bool true] 106).cells
     first
      | have KT := hid (Blk.cells (KT2B (cs := [.int .i64 (k : Int), .int .i64 ky, .int .i64 vl, .bool true]) hgrow1 (by first | (simp [Value.ownBlock]; done) | (simp [Value.ownBlock]; omega))))
      | have KT := hid (Blk.cells (KT2C (cs := [.int .i64 (k : Int), .int .i64 ky, .int .i64 vl, .bool true]) hgrow1 (by first | (simp [Value.ownBlock]; done) | (simp [Value.ownBlock]; omega))))
      | skip
     clear hgrow1 hfi1 bw6 hown1)
  | (refine step_append_own rfl (.tmp 175) (.tmp 177) 67 rfl w5.heap.size 106 i0 _ 4 32 Tryz.underlying67 hi0 hz0 hz1 hz2 rfl (by decide) v1 (0 + t.own.length) ([] ++ news) rfl ?_ ⟨_, 0, none⟩ 1 1 [.int .i64 (k : Int), .int .i64 ky, .int .i64 vl, .bool true] rfl rfl ?_ HO2.out ?_ ?_ ?_ ?_
     .first | with_reducible exact HOW6.out | with_reducible exact HOW6.out.alloc _
     .first | with_reducible exact KN.out | with_reducible exact KT.out
     .unfold maxLen; omega
     .omega
     .have := HBW6.out.size; first | (simp; done) | (simp; omega) | omega
     intro v2 w7 hown2 hgrow2 _
     have bw7 : Below w5.heap.size w5 w7 := by
      refine Below.grown ?_ hgrow2 ?_ ?_
      .first | with_reducible exact HBW6.out | with_reducible exact HBW6.out.alloc HBW6.out.size _
      .have := HBW6.out.size; first | (simp; done) | (simp; omega) | omega
      .intro k hk; exact (HOW6.out.lt k hk).1
     have HFI := hid (HFIN.out w7 v2 news bw7 HFW.out (by simpa using hown2))
     obtain ⟨a2, cc2, hv2⟩ := formR hown2
     subst hv2
     simp only [Nat.zero_add] at HFI
     have m5 : w7.cell? ⟨gx, i * 6 + 3, none⟩ = some (.slice oa t.own.length oc) := ct bw7 hgx5 HQ3.out.1
     have n5 : w7.frozen? ⟨gx, i * 6 + 3, none⟩ = false := (bw7.frozen (p := ⟨gx, i * 6 + 3, none⟩) hgx5).trans HQ3.out.2
     have l3 : w7.cell? ⟨bb, 3, none⟩ = some (.slice (some ⟨gx, 0, none⟩) 4 4) := ct bw7 hbb5 b3
     have l5 : w7.cell? ⟨w.heap.size + 1 + 1, 3, none⟩ = some (.slice oa t.own.length oc) := ct bw7 hr5 t3
     have ls0 : w7.cell? ⟨W1.heap.size, 0, none⟩ = some (.int .i64 (k : Int)) := ct bw7 hbx c0
     have ls1 : w7.cell? ⟨W1.heap.size, 1, none⟩ = some (.int .i64 ky) := ct bw7 hbx c1
     have ls2 : w7.cell? ⟨W1.heap.size, 2, none⟩ = some (.int .i64 vl) := ct bw7 hbx c2
     have ls3 : w7.cell? ⟨W1.heap.size, 3, none⟩ = some (.bool true) := ct bw7 hbx c3
     have KSS := hid (HX.out w7 bw7).1
     have KQQ := hid (HX.out w7 bw7).2
     clear hown2 hgrow2 bw7 KN HOW6 HBW6 HFW))
 all_goals
  clear b3 t3 c0 c1 c2 c3
  have x0 : w7.cell? ⟨w.heap.size + 1 + 1 + 1, 0, none⟩ = some (.int .i64 0) := (KSS.out 0 (by simp)).1
  have r0 : w7.cell? ⟨w.heap.size + 1, 0, none⟩ = some (.int .i64 0) := (KQQ.out 0 (by simp)).1
  have s0 : w7.frozen? ⟨w.heap.size + 1, 0, none⟩ = false := (KQQ.out 0 (by simp)).2
  have x1 : w7.cell? ⟨w.heap.size + 1 + 1 + 1, 1, none⟩ = some (.int .i64 0) := (KSS.out 1 (by simp)).1
  obtain ⟨⟨-, -⟩, ⟨r1, s1⟩⟩ := kb1 KQQ.out
  have x2 : w7.cell? ⟨w.heap.size + 1 + 1 + 1, 2, none⟩ = some (.int .i64 0) := (KSS.out 2 (by simp)).1
  obtain ⟨⟨-, -⟩, ⟨-, -⟩, ⟨r2, s2⟩⟩ := kb2 KQQ.out
  have x3 : w7.cell? ⟨w.heap.size + 1 + 1 + 1, 3, none⟩ = some (.bool false) := (KSS.out 3 (by simp)).1
  obtain ⟨⟨-, -⟩, ⟨-, -⟩, ⟨-, -⟩, ⟨r3, s3⟩⟩ := kb3 KQQ.out
  have x4 : w7.cell? ⟨w.heap.size + 1 + 1 + 1, 4, none⟩ = some (.slice none 0 0) := (KSS.out 4 (by simp)).1
  obtain ⟨⟨-, -⟩, ⟨-, -⟩, ⟨-, -⟩, ⟨-, -⟩, ⟨r4, s4⟩⟩ := kb4 KQQ.out
  clear KSS KQQ HX HFIN HQ3
  go_wp2
  refine bodyPost_ret (v := .agg #[.int .i64 0, .int .i64 0, .int .i64 0, .bool false, .slice none 0 0]) (by simp [results, Tryz.results21, go_sem, r0, r1, r2, r3, r4, s0, s1, s2, s3, s4]) rfl ?_
  with_reducible exact HFI.out
end Go.Proofs.YtblkgicbimflhaaGreat
