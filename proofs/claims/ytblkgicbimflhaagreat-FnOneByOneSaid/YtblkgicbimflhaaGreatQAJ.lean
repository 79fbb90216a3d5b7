import Derived.Test.YtblkgicbimflhaaGreatQAI
import Derived.Deep.RegionLawGrows
import Derived.Deep.CutRange
import Derived.Deep.DeepCutAuto
import Derived.Deep.RegionHeld3
import Derived.Test.YtblkgicbimflhaaGreatQAH
import Derived.Test.YtblkgicbimflhaaGreatQAC
import Derived.Deep.Heap
import Derived.Test.YtblkgicbimflhaaGreatQAD
import Derived.Test.YtblkgicbimflhaaGreatQAF
import Derived.Lib.ItoaNum
import Derived.Lib.ItoaMem
import Derived.Laws.BytesArg
import Derived.Lib.ItoaLen
import Derived.Lib.Overlaps
import Derived.Lib.AppendZerosOnto
import Derived.Laws.CopyRow
import Derived.Laws.Externs
namespace Go.Proofs.YtblkgicbimflhaaGreat
open Go.ChangeShapes Go.WideShapes Go.ChangeAt Go.RowKit
set_option linter.unusedVariables false
set_option linter.unusedSimpArgs false
set_option maxRecDepth 100000
set_option maxHeartbeats 16000000
theorem run_4 (B bb gx i : Nat) (x : Bas) (tb ky vl md : Int) (nm : ByteArray) (cv hv : Value) (vs : List (Value × Value × Value)) (w : World) (hM : Mem B bb gx w x cv hv vs) (hi : i < 4) (hop : (x.tx.getD i tx0).op = true) (hb : Bnd x) (hB : B <= w.heap.size) (ht0 : ¬ tb < 0) (ht32 : ¬ 32 <= tb) :
 Calls Tryz.prog 21 #[.pointer (some ⟨bb, 0, none⟩), .agg #[.int .i64 4, .int .i64 ((i : Int) + 1), .int .i64 tb, .int .i64 ky, .int .i64 vl, .int .i64 md, .string nm]] w fun e w' => RunP B bb gx w (runF x ⟨4, (i : Int) + 1, tb, ky, vl, md, nm⟩) e w' := by
 have hin0 : ((i : Int) + 1 - 1).toNat = i := by omega
 obtain ⟨k, rfl⟩ : ∃ k : Nat, tb = k := ⟨tb.toNat, by omega⟩
 have hk32 : k < 32 := by omega
 have er : runF x ⟨4, (i : Int) + 1, (k : Int), ky, vl, md, nm⟩ = ({ x with tx := x.tx.set i { (x.tx.getD i tx0) with own := (x.tx.getD i tx0).own ++ [⟨(k : Int), ky, vl, false⟩] } }, ⟨0, 0, 0, false, []⟩) := by
  unfold runF
  simp only [hin0, hop, Int.toNat_natCast]
  rw [if_neg (by omega), if_neg (by decide), if_neg (by omega)]
  simp
 rw [er]
 clear er hin0
 obtain ⟨t, gr, oa, oc, sa, sc, ma, mc, ha, hc, rfl, rfl, htx, hvx, hTM, hcell, htD, hmem, hop, hrl, hgB, hgt, hgb, q0, q1, q2, q3, q4, q5, b3, hgxl, hbbl⟩ := hM.opn hi hop
 rw [htD]
 obtain ⟨hii, hs1, hs2, hwr⟩ := iok hi
 have hin : ((i : Int) + 1 - 1).toNat = i := by omega
 have HIN := hid hin
 clear hin
 have hgl1 : gx < w.heap.size + 1 := by omega
 have hbl1 : bb < w.heap.size + 1 := by omega
 obtain ⟨W1, hW1, PR⟩ := pre5 w 4 ((i : Int) + 1) (k : Int) ky vl md nm true t.md t.bg (.slice oa t.own.length oc) (.slice (some ⟨gr, 0, none⟩) 32 32) (.slice sa t.sv.length sc)
 have HM1 := hid (hM.below PR.out.be)
 have HTM1 := hid (hTM.chg (Chg.of_below (fun _ => False) PR.out.be) (fun z => z) (fun z => z) (fun z => z))
 have HBN := hid hb
 have HTX := hid htx
 have HVX := hid hvx
 have HTD := hid htD
 have HMEM := hid hmem
 have HOP := hid hop
 have HRL := hid hrl
 have HGT := hid hgt
 have HGB := hid hgb
 have HCL := hid hcell
 clear hM hTM hb htx hvx hcell hmem htD hop hrl hgt hgb
 go_enter Tryz.func21, Tryz.ntmps21
 go_upto_region 11 with (fail)
 rw [<- hW1]
 clear hW1 q0 q1 q2 q3 q4 q5 b3
 obtain ⟨k0, k1, k2, k3, k4, k5, k6⟩ := kc6 PR.out.ka
 have hkk : (k : Int) < 32 := by omega
 have hk0 : ¬ (k : Int) < 0 := by omega
 have hk1 : ¬ (32 : Int) <= (k : Int) := by omega
 have hsz : W1.heap.size = w.heap.size + 1 + 1 + 1 + 1 := PR.out.sz
 have hol := HBN.out.ow t HMEM.out
 obtain ⟨w5, hw5⟩ : ∃ z, z = W1.alloc (.cells #[.int .i64 (k : Int), .int .i64 ky, .int .i64 vl, .bool false] 106) := ⟨_, rfl⟩
 have hb5 : Below W1.heap.size W1 w5 := by rw [hw5]; exact below_alloc _ _
 have hKB : Blk w5 W1.heap.size [.int .i64 (k : Int), .int .i64 ky, .int .i64 vl, .bool false] := by rw [hw5]; exact blk_new W1 _ _
 have hs5 : w5.heap.size = W1.heap.size + 1 := by rw [hw5]; simp
 have HM5 := hid (HM1.out.below hb5)
 have HTM5 := hid (HTM1.out.chg (Chg.of_below (fun _ => False) hb5) (fun z => z) (fun z => z) (fun z => z))
 have HRS := hid HTM5.out.ow.1
 have KS := hid (PR.out.kd.below hb5 (by omega))
 have KQ := hid (PR.out.kb.below hb5 (by omega))
 have KT := hid (PR.out.kc.below hb5 (by omega))
 have TS := hid (tag_below PR.out.gd hb5)
 have TQ := hid (tag_below PR.out.gb hb5)
 have HB5 : Hid (Below w.heap.size w w5) := hid (PR.out.be.trans (hb5.mono (by omega)))
 have HQ3 : Hid (w5.cell? ⟨gx, i * 6 + 3, none⟩ = some (.slice oa t.own.length oc) /\ w5.frozen? ⟨gx, i * 6 + 3, none⟩ = false) := hid (⟨(HB5.out.cell (p := ⟨gx, i * 6 + 3, none⟩) hgxl).trans (HCL.out 3 (by omega)).1, (HB5.out.frozen (p := ⟨gx, i * 6 + 3, none⟩) hgxl).trans (HCL.out 3 (by omega)).2⟩)
 have hszs : w5.heap.size = w.heap.size + 1 + 1 + 1 + 1 + 1 := by omega
 have HHW := hid hw5
 clear hw5
 have HFIN : Hid (∀ (w7 : World) (v2 : Value) (news : List Value), Below w5.heap.size w5 w7 -> Fill 4 CC 0 t.own t.own.length news w5 -> w7.ownsRow w5.heap.size 106 4 v2 (t.own.length + 1) (news ++ [.int .i64 (k : Int), .int .i64 ky, .int .i64 vl, .bool false]) -> RunP B bb gx w ({ x with tx := x.tx.set i { t with own := t.own ++ [⟨(k : Int), ky, vl, false⟩] } }, ⟨0, 0, 0, false, []⟩) (.returned (.agg #[.int .i64 0, .int .i64 0, .int .i64 0, .bool false, .slice none 0 0])) (set5 (w7.setCell ⟨gx, i * 6 + 3, none⟩ v2) (w.heap.size + 1) (.int .i64 0) (.int .i64 0) (.int .i64 0) (.bool false) (.slice none 0 0))) := hid (fun w7 v2 news bw7 hf ho => by
  have hf2 := (hf.below liesC bw7).append (fill_one (B := 0) (w := w7) liesC (t := (⟨(k : Int), ky, vl, false⟩ : Cel)) rfl)
  have hk7 : Chg (fun _ => False) w5 w7 := Chg.of_below _ bw7
  have tl2 : TL 106 4 CC w7 v2 (t.own ++ [⟨(k : Int), ky, vl, false⟩]) := cel_tl hf2 (by simpa [celV] using ho)
  have tm := HTM5.out.chg hk7 (fun z => z) (fun z => z) (fun z => z)
  have P := (HM5.out.below bw7).putc (i := i) (j := 3) (u := v2) (t' := { t with own := t.own ++ [⟨(k : Int), ky, vl, false⟩] }) (v' := (v2, .slice (some ⟨gr, 0, none⟩) 32 32, .slice sa t.sv.length sc)) hi (by omega) HTX.out HVX.out rfl ⟨tl2, tm.sa, tm.cp, tm.rd, tm.rf⟩ rfl
  have hB7 : Below w.heap.size w w7 := HB5.out.trans (bw7.mono (by omega))
  exact run_fin (r := ({ x with tx := x.tx.set i { t with own := t.own ++ [⟨(k : Int), ky, vl, false⟩] } }, ⟨0, 0, 0, false, []⟩)) P.1 ((Keep.of_below hB7).trans (P.2.keep (fun ty h z => by subst h; exact z.2.1 rfl))) ((hB7.mono hB).setCell (p := ⟨gx, i * 6 + 3, none⟩) HM5.out.xB _) hB (Nat.le_succ _) (P.2.tagk (by decide) (tag_below TQ.out bw7)) (gr_nil _ _ _ _ _))
 unfold set5 at HFIN
 have b3 : w5.cell? ⟨bb, 3, none⟩ = some (.slice (some ⟨gx, 0, none⟩) 4 4) := (HM5.out.bs 3 (by simp)).1
 have t3 : w5.cell? ⟨w.heap.size + 1 + 1, 3, none⟩ = some (.slice oa t.own.length oc) := (KT.out 3 (by simp)).1
 obtain ⟨c0, c1, c2, c3⟩ := kc3 hKB
 have HX : Hid (∀ (w7 : World), Below w5.heap.size w5 w7 -> Blk w7 (w.heap.size + 1 + 1 + 1) [.int .i64 0, .int .i64 0, .int .i64 0, .bool false, .slice none 0 0] /\ Blk w7 (w.heap.size + 1) [.int .i64 0, .int .i64 0, .int .i64 0, .bool false, .slice none 0 0]) := hid (fun w7 h => ⟨KS.out.below h (by omega), KQ.out.below h (by omega)⟩)
 have hbb5 : bb < w5.heap.size := by omega
 have hgx5 : gx < w5.heap.size := by omega
 have hbx : W1.heap.size < w5.heap.size := by omega
 have hr5 : w.heap.size + 1 + 1 < w5.heap.size := by omega
 have hbb6 : bb < w5.heap.size + 1 := by omega
 have hbx6 : W1.heap.size < w5.heap.size + 1 := by omega
 have hr6 : w.heap.size + 1 + 1 < w5.heap.size + 1 := by omega
 have hn0 : ¬ gx = bb := tag_ne HM5.out.xt HM5.out.bt (by decide)
 have hn1 : ¬ bb = gx := fun z => hn0 z.symm
 have hn2 : ¬ gx = w.heap.size + 1 := by omega
 have hn3 : ¬ w.heap.size + 1 = gx := by omega
 have hn6 : ¬ gx = w.heap.size + 1 + 1 := by omega
 have hn7 : ¬ w.heap.size + 1 + 1 = gx := by omega
 have hn8 : ¬ gx = W1.heap.size := by omega
 have hn9 : ¬ W1.heap.size = gx := by omega
 have hn4 : ¬ gx = w.heap.size + 1 + 1 + 1 := by omega
 have hn5 : ¬ w.heap.size + 1 + 1 + 1 = gx := by omega
 obtain ⟨i0, hi0, hz0, hz1, hz2⟩ := info_parts infoCel
 have OA : Hid (((w5.alloc (.cells #[] 106)).drew).ownsRow w5.heap.size 106 4 (.slice (some ⟨w5.heap.size, 0, none⟩) 0 0) 0 []) := hid (by
  have := World.ownsRow_made (base := w5.heap.size) (e := 106) (size := 4) w5 #[] 0 (by simp) (by unfold maxLen; omega) (by simp)
  simpa using this.drew)
 have OB : Hid ((((w5.alloc (.cells #[] 106)).alloc (.cells #[.int .i64 (k : Int), .int .i64 ky, .int .i64 vl, .bool false] 106)).drew).ownsRow w5.heap.size 106 4 (.slice (some ⟨w5.heap.size, 0, none⟩) 0 0) 0 []) := hid (by
  have := (World.ownsRow_made (base := w5.heap.size) (e := 106) (size := 4) w5 #[] 0 (by simp) (by unfold maxLen; omega) (by simp)).alloc (.cells #[.int .i64 (k : Int), .int .i64 ky, .int .i64 vl, .bool false] 106)
  simpa using this.drew)
 have OC : Hid ((((w5.alloc (.cells #[.int .i64 (k : Int), .int .i64 ky, .int .i64 vl, .bool false] 106)).alloc (.cells #[] 106)).drew).ownsRow w5.heap.size 106 4 (.slice (some ⟨w5.heap.size + 1, 0, none⟩) 0 0) 0 []) := hid (by
  have := World.ownsRow_made (base := w5.heap.size) (e := 106) (size := 4) (w5.alloc (.cells #[.int .i64 (k : Int), .int .i64 ky, .int .i64 vl, .bool false] 106)) #[] 0 (by simp) (by unfold maxLen; omega) (by simp)
  simpa using this.drew)
 have HO2 : Hid (∀ u ∈ ([.int .i64 (k : Int), .int .i64 ky, .int .i64 vl, .bool false] : List Value), u.oneCell' = true) := hid (by intro u hu; simp at hu; rcases hu with rfl | rfl | rfl | rfl <;> rfl)
 clear HM5 HTM5 HM1 HTM1 HBN HTX HVX HTD HMEM HOP HRL HGT HGB HCL KS KQ KT TS TQ HB5 hKB hb5 PR hsz hs5 hszs
 go_upto_region 30 with (fail)
 rw [<- HHW.out]
 clear HHW k0 k1 k2 k3 k4 k5 k6
 go_region_held3 (fun W => W.cell? ⟨bb, 3, none⟩ = some (.slice (some ⟨gx, 0, none⟩) 4 4) /\ W.cell? ⟨w.heap.size + 1 + 1, 3, none⟩ = some (.slice oa t.own.length oc) /\ W.cell? ⟨W1.heap.size, 0, none⟩ = some (.int .i64 (k : Int)) /\ W.cell? ⟨W1.heap.size, 1, none⟩ = some (.int .i64 ky) /\ W.cell? ⟨W1.heap.size, 2, none⟩ = some (.int .i64 vl) /\ W.cell? ⟨W1.heap.size, 3, none⟩ = some (.bool false)) (go_keep) (first
  | (refine step_append_rs0 liesC oneC rfl (.tmp 172) (.tmp 174) 67 rfl w5.heap.size 106 i0 _ 32 Tryz.underlying67 hi0 hz0 hz1 hz2 rfl (by decide) (.slice (some ⟨_, 0, none⟩) 0 0) 0 [] rfl ?_ oa oc t.own t.own.length rfl rfl w5 HRS.out ?_ ?_ ?_ ?_ ?_
     .first | (with_reducible first | exact OA.out | exact OB.out | exact OC.out)
     .exact bl
     .unfold maxLen; omega
     .omega
     .first | (simp; done) | (simp; omega) | omega
     intro news v1 w6 hfi1 hown1 hgrow1 _ _
     have bw6 : Below w5.heap.size w5 w6 := by
      refine Below.grown ?_ hgrow1 ?_ ?_
      .exact bl
      .first | (simp; done) | (simp; omega) | omega
      .intro k hk; simp [Value.ownBlock] at hk; first | omega | (subst hk; omega)
     have j3 : w6.cell? ⟨bb, 3, none⟩ = some (.slice (some ⟨gx, 0, none⟩) 4 4) := ct bw6 hbb5 b3
     have j5 : w6.cell? ⟨w.heap.size + 1 + 1, 3, none⟩ = some (.slice oa t.own.length oc) := ct bw6 hr5 t3
     have js0 : w6.cell? ⟨W1.heap.size, 0, none⟩ = some (.int .i64 (k : Int)) := ct bw6 hbx c0
     have js1 : w6.cell? ⟨W1.heap.size, 1, none⟩ = some (.int .i64 ky) := ct bw6 hbx c1
     have js2 : w6.cell? ⟨W1.heap.size, 2, none⟩ = some (.int .i64 vl) := ct bw6 hbx c2
     have js3 : w6.cell? ⟨W1.heap.size, 3, none⟩ = some (.bool false) := ct bw6 hbx c3
     have js2 : bb < w6.heap.size := by have := bw6.size; omega
     have js3 : w.heap.size + 1 + 1 < w6.heap.size := by have := bw6.size; omega
     have js4 : W1.heap.size < w6.heap.size := by have := bw6.size; omega
     have HFW : Hid (Fill 4 CC 0 t.own t.own.length news w5) := hfi1
     have HBW6 := hid bw6
     have HOW6 := hid hown1
     have KN : Hid (∀ j u, ([.int .i64 (k : Int), .int .i64 ky, .int .i64 vl, .bool false] : List Value)[j]? = some u -> (w6.alloc (.cells #[.int .i64 (k : Int), .int .i64 ky, .int .i64 vl, .bool false] 106)).cell? ((⟨w6.heap.size, 0, none⟩ : Addr).add j) = some u) := (blk_new w6 [.int .i64 (k : Int), .int .i64 ky, .int .i64 vl, .bool false] 106).cells
     first
      | have KT := hid (Blk.cells (KT2B (cs := [.int .i64 (k : Int), .int .i64 ky, .int .i64 vl, .bool false]) hgrow1 (by first | (simp [Value.ownBlock]; done) | (simp [Value.ownBlock]; omega))))
      | have KT := hid (Blk.cells (KT2C (cs := [.int .i64 (k : Int), .int .i64 ky, .int .i64 vl, .bool false]) hgrow1 (by first | (simp [Value.ownBlock]; done) | (simp [Value.ownBlock]; omega))))
      | skip
     clear hgrow1 hfi1 bw6 hown1)
  | (refine step_append_own rfl (.tmp 175) (.tmp 177) 67 rfl w5.heap.size 106 i0 _ 4 32 Tryz.underlying67 hi0 hz0 hz1 hz2 rfl (by decide) v1 (0 + t.own.length) ([] ++ news) rfl ?_ ⟨_, 0, none⟩ 1 1 [.int .i64 (k : Int), .int .i64 ky, .int .i64 vl, .bool false] rfl rfl ?_ HO2.out ?_ ?_ ?_ ?_
     .first | with_reducible exact HOW6.out | with_reducible exact HOW6.out.alloc _
     .first | with_reducible exact KN.out | with_reducible exact KT.out
     .unfold maxLen; omega
     .omega
     .have := HBW6.out.size; first | (simp; done) | (simp; omega) | omega
     intro v2 w7 hown2 hgrow2 _
     have bw7 : Below w5.heap.size w5 w7 := by
      refine Below.grown ?_ hgrow2 ?_ ?_
      .first | with_reducible exact HBW6.out | with_reducible exact HBW6.out.alloc HBW6.out.size _
      .have := HBW6.out.size; first | (simp; done) | (simp; omega) | omega
      .intro k hk; exact (HOW6.out.lt k hk).1
     have HFI := hid (HFIN.out w7 v2 news bw7 HFW.out (by simpa using hown2))
     obtain ⟨a2, cc2, hv2⟩ := formR hown2
     subst hv2
     simp only [Nat.zero_add] at HFI
     have m5 : w7.cell? ⟨gx, i * 6 + 3, none⟩ = some (.slice oa t.own.length oc) := ct bw7 hgx5 HQ3.out.1
     have n5 : w7.frozen? ⟨gx, i * 6 + 3, none⟩ = false := (bw7.frozen (p := ⟨gx, i * 6 + 3, none⟩) hgx5).trans HQ3.out.2
     have l3 : w7.cell? ⟨bb, 3, none⟩ = some (.slice (some ⟨gx, 0, none⟩) 4 4) := ct bw7 hbb5 b3
     have l5 : w7.cell? ⟨w.heap.size + 1 + 1, 3, none⟩ = some (.slice oa t.own.length oc) := ct bw7 hr5 t3
     have ls0 : w7.cell? ⟨W1.heap.size, 0, none⟩ = some (.int .i64 (k : Int)) := ct bw7 hbx c0
     have ls1 : w7.cell? ⟨W1.heap.size, 1, none⟩ = some (.int .i64 ky) := ct bw7 hbx c1
     have ls2 : w7.cell? ⟨W1.heap.size, 2, none⟩ = some (.int .i64 vl) := ct bw7 hbx c2
     have ls3 : w7.cell? ⟨W1.heap.size, 3, none⟩ = some (.bool false) := ct bw7 hbx c3
     have KSS := hid (HX.out w7 bw7).1
     have KQQ := hid (HX.out w7 bw7).2
     clear hown2 hgrow2 bw7 KN HOW6 HBW6 HFW))
 all_goals
  clear b3 t3 c0 c1 c2 c3
  have x0 : w7.cell? ⟨w.heap.size + 1 + 1 + 1, 0, none⟩ = some (.int .i64 0) := (KSS.out 0 (by simp)).1
  have r0 : w7.cell? ⟨w.heap.size + 1, 0, none⟩ = some (.int .i64 0) := (KQQ.out 0 (by simp)).1
  have s0 : w7.frozen? ⟨w.heap.size + 1, 0, none⟩ = false := (KQQ.out 0 (by simp)).2
  have x1 : w7.cell? ⟨w.heap.size + 1 + 1 + 1, 1, none⟩ = some (.int .i64 0) := (KSS.out 1 (by simp)).1
  obtain ⟨⟨-, -⟩, ⟨r1, s1⟩⟩ := kb1 KQQ.out
  have x2 : w7.cell? ⟨w.heap.size + 1 + 1 + 1, 2, none⟩ = some (.int .i64 0) := (KSS.out 2 (by simp)).1
  obtain ⟨⟨-, -⟩, ⟨-, -⟩, ⟨r2, s2⟩⟩ := kb2 KQQ.out
  have x3 : w7.cell? ⟨w.heap.size + 1 + 1 + 1, 3, none⟩ = some (.bool false) := (KSS.out 3 (by simp)).1
  obtain ⟨⟨-, -⟩, ⟨-, -⟩, ⟨-, -⟩, ⟨r3, s3⟩⟩ := kb3 KQQ.out
  have x4 : w7.cell? ⟨w.heap.size + 1 + 1 + 1, 4, none⟩ = some (.slice none 0 0) := (KSS.out 4 (by simp)).1
  obtain ⟨⟨-, -⟩, ⟨-, -⟩, ⟨-, -⟩, ⟨-, -⟩, ⟨r4, s4⟩⟩ := kb4 KQQ.out
  clear KSS KQQ HX HFIN HQ3
  go_wp2
  refine bodyPost_ret (v := .agg #[.int .i64 0, .int .i64 0, .int .i64 0, .bool false, .slice none 0 0]) (by simp [results, Tryz.results21, go_sem, r0, r1, r2, r3, r4, s0, s1, s2, s3, s4]) rfl ?_
  with_reducible exact HFI.out
theorem run_5 (B bb gx i : Nat) (x : Bas) (tb ky vl md : Int) (nm : ByteArray) (cv hv : Value) (vs : List (Value × Value × Value)) (w : World) (hM : Mem B bb gx w x cv hv vs) (hi : i < 4) (hop : (x.tx.getD i tx0).op = true) (hb : Bnd x) (hB : B <= w.heap.size) (ht0 : ¬ tb < 0) (ht32 : ¬ 32 <= tb) :
 Calls Tryz.prog 21 #[.pointer (some ⟨bb, 0, none⟩), .agg #[.int .i64 5, .int .i64 ((i : Int) + 1), .int .i64 tb, .int .i64 ky, .int .i64 vl, .int .i64 md, .string nm]] w fun e w' => RunP B bb gx w (runF x ⟨5, (i : Int) + 1, tb, ky, vl, md, nm⟩) e w' := by
 have hin0 : ((i : Int) + 1 - 1).toNat = i := by omega
 obtain ⟨k, rfl⟩ : ∃ k : Nat, tb = k := ⟨tb.toNat, by omega⟩
 have hk32 : k < 32 := by omega
 have er : runF x ⟨5, (i : Int) + 1, (k : Int), ky, vl, md, nm⟩ = ({ x with tx := x.tx.set i { (x.tx.getD i tx0) with own := (x.tx.getD i tx0).own ++ [⟨(k : Int), ky, vl, true⟩] } }, ⟨0, 0, 0, false, []⟩) := by
  unfold runF
  simp only [hin0, hop, Int.toNat_natCast]
  rw [if_neg (by omega), if_neg (by decide), if_neg (by omega)]
  simp
 rw [er]
 clear er hin0
 obtain ⟨t, gr, oa, oc, sa, sc, ma, mc, ha, hc, rfl, rfl, htx, hvx, hTM, hcell, htD, hmem, hop, hrl, hgB, hgt, hgb, q0, q1, q2, q3, q4, q5, b3, hgxl, hbbl⟩ := hM.opn hi hop
 rw [htD]
 obtain ⟨hii, hs1, hs2, hwr⟩ := iok hi
 have hin : ((i : Int) + 1 - 1).toNat = i := by omega
 have HIN := hid hin
 clear hin
 have hgl1 : gx < w.heap.size + 1 := by omega
 have hbl1 : bb < w.heap.size + 1 := by omega
 obtain ⟨W1, hW1, PR⟩ := pre5 w 5 ((i : Int) + 1) (k : Int) ky vl md nm true t.md t.bg (.slice oa t.own.length oc) (.slice (some ⟨gr, 0, none⟩) 32 32) (.slice sa t.sv.length sc)
 have HM1 := hid (hM.below PR.out.be)
 have HTM1 := hid (hTM.chg (Chg.of_below (fun _ => False) PR.out.be) (fun z => z) (fun z => z) (fun z => z))
 have HBN := hid hb
 have HTX := hid htx
 have HVX := hid hvx
 have HTD := hid htD
 have HMEM := hid hmem
 have HOP := hid hop
 have HRL := hid hrl
 have HGT := hid hgt
 have HGB := hid hgb
 have HCL := hid hcell
 clear hM hTM hb htx hvx hcell hmem htD hop hrl hgt hgb
 go_enter Tryz.func21, Tryz.ntmps21
 go_upto_region 11 with (fail)
 rw [<- hW1]
 clear hW1 q0 q1 q2 q3 q4 q5 b3
 obtain ⟨k0, k1, k2, k3, k4, k5, k6⟩ := kc6 PR.out.ka
 have hkk : (k : Int) < 32 := by omega
 have hk0 : ¬ (k : Int) < 0 := by omega
 have hk1 : ¬ (32 : Int) <= (k : Int) := by omega
 have hsz : W1.heap.size = w.heap.size + 1 + 1 + 1 + 1 := PR.out.sz
 have hol := HBN.out.ow t HMEM.out
 obtain ⟨w5, hw5⟩ : ∃ z, z = W1.alloc (.cells #[.int .i64 (k : Int), .int .i64 ky, .int .i64 vl, .bool true] 106) := ⟨_, rfl⟩
 have hb5 : Below W1.heap.size W1 w5 := by rw [hw5]; exact below_alloc _ _
 have hKB : Blk w5 W1.heap.size [.int .i64 (k : Int), .int .i64 ky, .int .i64 vl, .bool true] := by rw [hw5]; exact blk_new W1 _ _
 have hs5 : w5.heap.size = W1.heap.size + 1 := by rw [hw5]; simp
 have HM5 := hid (HM1.out.below hb5)
 have HTM5 := hid (HTM1.out.chg (Chg.of_below (fun _ => False) hb5) (fun z => z) (fun z => z) (fun z => z))
 have HRS := hid HTM5.out.ow.1
 have KS := hid (PR.out.kd.below hb5 (by omega))
 have KQ := hid (PR.out.kb.below hb5 (by omega))
 have KT := hid (PR.out.kc.below hb5 (by omega))
 have TS := hid (tag_below PR.out.gd hb5)
 have TQ := hid (tag_below PR.out.gb hb5)
 have HB5 : Hid (Below w.heap.size w w5) := hid (PR.out.be.trans (hb5.mono (by omega)))
 have HQ3 : Hid (w5.cell? ⟨gx, i * 6 + 3, none⟩ = some (.slice oa t.own.length oc) /\ w5.frozen? ⟨gx, i * 6 + 3, none⟩ = false) := hid (⟨(HB5.out.cell (p := ⟨gx, i * 6 + 3, none⟩) hgxl).trans (HCL.out 3 (by omega)).1, (HB5.out.frozen (p := ⟨gx, i * 6 + 3, none⟩) hgxl).trans (HCL.out 3 (by omega)).2⟩)
 have hszs : w5.heap.size = w.heap.size + 1 + 1 + 1 + 1 + 1 := by omega
 have HHW := hid hw5
 clear hw5
 have HFIN : Hid (∀ (w7 : World) (v2 : Value) (news : List Value), Below w5.heap.size w5 w7 -> Fill 4 CC 0 t.own t.own.length news w5 -> w7.ownsRow w5.heap.size 106 4 v2 (t.own.length + 1) (news ++ [.int .i64 (k : Int), .int .i64 ky, .int .i64 vl, .bool true]) -> RunP B bb gx w ({ x with tx := x.tx.set i { t with own := t.own ++ [⟨(k : Int), ky, vl, true⟩] } }, ⟨0, 0, 0, false, []⟩) (.returned (.agg #[.int .i64 0, .int .i64 0, .int .i64 0, .bool false, .slice none 0 0])) (set5 (w7.setCell ⟨gx, i * 6 + 3, none⟩ v2) (w.heap.size + 1) (.int .i64 0) (.int .i64 0) (.int .i64 0) (.bool false) (.slice none 0 0))) := hid (fun w7 v2 news bw7 hf ho => by
  have hf2 := (hf.below liesC bw7).append (fill_one (B := 0) (w := w7) liesC (t := (⟨(k : Int), ky, vl, true⟩ : Cel)) rfl)
  have hk7 : Chg (fun _ => False) w5 w7 := Chg.of_below _ bw7
  have tl2 : TL 106 4 CC w7 v2 (t.own ++ [⟨(k : Int), ky, vl, true⟩]) := cel_tl hf2 (by simpa [celV] using ho)
  have tm := HTM5.out.chg hk7 (fun z => z) (fun z => z) (fun z => z)
  have P := (HM5.out.below bw7).putc (i := i) (j := 3) (u := v2) (t' := { t with own := t.own ++ [⟨(k : Int), ky, vl, true⟩] }) (v' := (v2, .slice (some ⟨gr, 0, none⟩) 32 32, .slice sa t.sv.length sc)) hi (by omega) HTX.out HVX.out rfl ⟨tl2, tm.sa, tm.cp, tm.rd, tm.rf⟩ rfl
  have hB7 : Below w.heap.size w w7 := HB5.out.trans (bw7.mono (by omega))
  exact run_fin (r := ({ x with tx := x.tx.set i { t with own := t.own ++ [⟨(k : Int), ky, vl, true⟩] } }, ⟨0, 0, 0, false, []⟩)) P.1 ((Keep.of_below hB7).trans (P.2.keep (fun ty h z => by subst h; exact z.2.1 rfl))) ((hB7.mono hB).setCell (p := ⟨gx, i * 6 + 3, none⟩) HM5.out.xB _) hB (Nat.le_succ _) (P.2.tagk (by decide) (tag_below TQ.out bw7)) (gr_nil _ _ _ _ _))
 unfold set5 at HFIN
 have b3 : w5.cell? ⟨bb, 3, none⟩ = some (.slice (some ⟨gx, 0, none⟩) 4 4) := (HM5.out.bs 3 (by simp)).1
 have t3 : w5.cell? ⟨w.heap.size + 1 + 1, 3, none⟩ = some (.slice oa t.own.length oc) := (KT.out 3 (by simp)).1
 obtain ⟨c0, c1, c2, c3⟩ := kc3 hKB
 have HX : Hid (∀ (w7 : World), Below w5.heap.size w5 w7 -> Blk w7 (w.heap.size + 1 + 1 + 1) [.int .i64 0, .int .i64 0, .int .i64 0, .bool false, .slice none 0 0] /\ Blk w7 (w.heap.size + 1) [.int .i64 0, .int .i64 0, .int .i64 0, .bool false, .slice none 0 0]) := hid (fun w7 h => ⟨KS.out.below h (by omega), KQ.out.below h (by omega)⟩)
 have hbb5 : bb < w5.heap.size := by omega
 have hgx5 : gx < w5.heap.size := by omega
 have hbx : W1.heap.size < w5.heap.size := by omega
 have hr5 : w.heap.size + 1 + 1 < w5.heap.size := by omega
 have hbb6 : bb < w5.heap.size + 1 := by omega
 have hbx6 : W1.heap.size < w5.heap.size + 1 := by omega
 have hr6 : w.heap.size + 1 + 1 < w5.heap.size + 1 := by omega
 have hn0 : ¬ gx = bb := tag_ne HM5.out.xt HM5.out.bt (by decide)
 have hn1 : ¬ bb = gx := fun z => hn0 z.symm
 have hn2 : ¬ gx = w.heap.size + 1 := by omega
 have hn3 : ¬ w.heap.size + 1 = gx := by omega
 have hn6 : ¬ gx = w.heap.size + 1 + 1 := by omega
 have hn7 : ¬ w.heap.size + 1 + 1 = gx := by omega
 have hn8 : ¬ gx = W1.heap.size := by omega
 have hn9 : ¬ W1.heap.size = gx := by omega
 have hn4 : ¬ gx = w.heap.size + 1 + 1 + 1 := by omega
 have hn5 : ¬ w.heap.size + 1 + 1 + 1 = gx := by omega
 obtain ⟨i0, hi0, hz0, hz1, hz2⟩ := info_parts infoCel
 have OA : Hid (((w5.alloc (.cells #[] 106)).drew).ownsRow w5.heap.size 106 4 (.slice (some ⟨w5.heap.size, 0, none⟩) 0 0) 0 []) := hid (by
  have := World.ownsRow_made (base := w5.heap.size) (e := 106) (size := 4) w5 #[] 0 (by simp) (by unfold maxLen; omega) (by simp)
  simpa using this.drew)
 have OB : Hid ((((w5.alloc (.cells #[] 106)).alloc (.cells #[.int .i64 (k : Int), .int .i64 ky, .int .i64 vl, .bool true] 106)).drew).ownsRow w5.heap.size 106 4 (.slice (some ⟨w5.heap.size, 0, none⟩) 0 0) 0 []) := hid (by
  have := (World.ownsRow_made (base := w5.heap.size) (e := 106) (size := 4) w5 #[] 0 (by simp) (by unfold maxLen; omega) (by simp)).alloc (.cells #[.int .i64 (k : Int), .int .i64 ky, .int .i64 vl, .bool true] 106)
  simpa using this.drew)
 have OC : Hid ((((w5.alloc (.cells #[.int .i64 (k : Int), .int .i64 ky, .int .i64 vl, .bool true] 106)).alloc (.cells #[] 106)).drew).ownsRow w5.heap.size 106 4 (.slice (some ⟨w5.heap.size + 1, 0, none⟩) 0 0) 0 []) := hid (by
  have := World.ownsRow_made (base := w5.heap.size) (e := 106) (size := 4) (w5.alloc (.cells #[.int .i64 (k : Int), .int .i64 ky, .int .i64 vl, .bool true] 106)) #[] 0 (by simp) (by unfold maxLen; omega) (by simp)
  simpa using this.drew)
 have HO2 : Hid (∀ u ∈ ([.int .i64 (k : Int), .int .i64 ky, .int .i64 vl, .bool true] : List Value), u.oneCell' = true) := hid (by intro u hu; simp at hu; rcases hu with rfl | rfl | rfl | rfl <;> rfl)
 clear HM5 HTM5 HM1 HTM1 HBN HTX HVX HTD HMEM HOP HRL HGT HGB HCL KS KQ KT TS TQ HB5 hKB hb5 PR hsz hs5 hszs
 go_upto_region 30 with (fail)
 rw [<- HHW.out]
 clear HHW k0 k1 k2 k3 k4 k5 k6
 go_region_held3 (fun W => W.cell? ⟨bb, 3, none⟩ = some (.slice (some ⟨gx, 0, none⟩) 4 4) /\ W.cell? ⟨w.heap.size + 1 + 1, 3, none⟩ = some (.slice oa t.own.length oc) /\ W.cell? ⟨W1.heap.size, 0, none⟩ = some (.int .i64 (k : Int)) /\ W.cell? ⟨W1.heap.size, 1, none⟩ = some (.int .i64 ky) /\ W.cell? ⟨W1.heap.size, 2, none⟩ = some (.int .i64 vl) /\ W.cell? ⟨W1.heap.size, 3, none⟩ = some (.bool true)) (go_keep) (first
  | (refine step_append_rs0 liesC oneC rfl (.tmp 172) (.tmp 174) 67 rfl w5.heap.size 106 i0 _ 32 Tryz.underlying67 hi0 hz0 hz1 hz2 rfl (by decide) (.slice (some ⟨_, 0, none⟩) 0 0) 0 [] rfl ?_ oa oc t.own t.own.length rfl rfl w5 HRS.out ?_ ?_ ?_ ?_ ?_
     .first | (with_reducible first | exact OA.out | exact OB.out | exact OC.out)
     .exact bl
     .unfold maxLen; omega
     .omega
     .first | (simp; done) | (simp; omega) | omega
     intro news v1 w6 hfi1 hown1 hgrow1 _ _
     have bw6 : Below w5.heap.size w5 w6 := by
      refine Below.grown ?_ hgrow1 ?_ ?_
      .exact bl
      .first | (simp; done) | (simp; omega) | omega
      .intro k hk; simp [Value.ownBlock] at hk; first | omega | (subst hk; omega)
     have j3 : w6.cell? ⟨bb, 3, none⟩ = some (.slice (some ⟨gx, 0, none⟩) 4 4) := ct bw6 hbb5 b3
     have j5 : w6.cell? ⟨w.heap.size + 1 + 1, 3, none⟩ = some (.slice oa t.own.length oc) := ct bw6 hr5 t3
     have js0 : w6.cell? ⟨W1.heap.size, 0, none⟩ = some (.int .i64 (k : Int)) := ct bw6 hbx c0
     have js1 : w6.cell? ⟨W1.heap.size, 1, none⟩ = some (.int .i64 ky) := ct bw6 hbx c1
     have js2 : w6.cell? ⟨W1.heap.size, 2, none⟩ = some (.int .i64 vl) := ct bw6 hbx c2
     have js3 : w6.cell? ⟨W1.heap.size, 3, none⟩ = some (.bool true) := ct bw6 hbx c3
     have js2 : bb < w6.heap.size := by have := bw6.size; omega
     have js3 : w.heap.size + 1 + 1 < w6.heap.size := by have := bw6.size; omega
     have js4 : W1.heap.size < w6.heap.size := by have := bw6.size; omega
     have HFW : Hid (Fill 4 CC 0 t.own t.own.length news w5) := hfi1
     have HBW6 := hid bw6
     have HOW6 := hid hown1
     have KN : Hid (∀ j u, ([.int .i64 (k : Int), .int .i64 ky, .int .i64 vl, .bool true] : List Value)[j]? = some u -> (w6.alloc (.cells #[.int .i64 (k : Int), .int .i64 ky, .int .i64 vl, .bool true] 106)).cell? ((⟨w6.heap.size, 0, none⟩ : Addr).add j) = some u) := (blk_new w6 [.int .i64 (k : Int), .int .i64 ky, .int .i64 vl, .bool true] 106).cells
     first
      | have KT := hid (Blk.cells (KT2B (cs := [.int .i64 (k : Int), .int .i64 ky, .int .i64 vl, .bool true]) hgrow1 (by first | (simp [Value.ownBlock]; done) | (simp [Value.ownBlock]; omega))))
      | have KT := hid (Blk.cells (KT2C (cs := [.int .i64 (k : Int), .int .i64 ky, .int .i64 vl, .bool true]) hgrow1 (by first | (simp [Value.ownBlock]; done) | (simp [Value.ownBlock]; omega))))
      | skip
     clear hgrow1 hfi1 bw6 hown1)
  | (refine step_append_own rfl (.tmp 175) (.tmp 177) 67 rfl w5.heap.size 106 i0 _ 4 32 Tryz.underlying67 hi0 hz0 hz1 hz2 rfl (by decide) v1 (0 + t.own.length) ([] ++ news) rfl ?_ ⟨_, 0, none⟩ 1 1 [.int .i64 (k : Int), .int .i64 ky, .int .i64 vl, .bool true] rfl rfl ?_ HO2.out ?_ ?_ ?_ ?_
     .first | with_reducible exact HOW6.out | with_reducible exact HOW6.out.alloc _
     .first | with_reducible exact KN.out | with_reducible exact KT.out
     .unfold maxLen; omega
     .omega
     .have := HBW6.out.size; first | (simp; done) | (simp; omega) | omega
     intro v2 w7 hown2 hgrow2 _
     have bw7 : Below w5.heap.size w5 w7 := by
      refine Below.grown ?_ hgrow2 ?_ ?_
      .first | with_reducible exact HBW6.out | with_reducible exact HBW6.out.alloc HBW6.out.size _
      .have := HBW6.out.size; first | (simp; done) | (simp; omega) | omega
      .intro k hk; exact (HOW6.out.lt k hk).1
     have HFI := hid (HFIN.out w7 v2 news bw7 HFW.out (by simpa using hown2))
     obtain ⟨a2, cc2, hv2⟩ := formR hown2
     subst hv2
     simp only [Nat.zero_add] at HFI
     have m5 : w7.cell? ⟨gx, i * 6 + 3, none⟩ = some (.slice oa t.own.length oc) := ct bw7 hgx5 HQ3.out.1
     have n5 : w7.frozen? ⟨gx, i * 6 + 3, none⟩ = false := (bw7.frozen (p := ⟨gx, i * 6 + 3, none⟩) hgx5).trans HQ3.out.2
     have l3 : w7.cell? ⟨bb, 3, none⟩ = some (.slice (some ⟨gx, 0, none⟩) 4 4) := ct bw7 hbb5 b3
     have l5 : w7.cell? ⟨w.heap.size + 1 + 1, 3, none⟩ = some (.slice oa t.own.length oc) := ct bw7 hr5 t3
     have ls0 : w7.cell? ⟨W1.heap.size, 0, none⟩ = some (.int .i64 (k : Int)) := ct bw7 hbx c0
     have ls1 : w7.cell? ⟨W1.heap.size, 1, none⟩ = some (.int .i64 ky) := ct bw7 hbx c1
     have ls2 : w7.cell? ⟨W1.heap.size, 2, none⟩ = some (.int .i64 vl) := ct bw7 hbx c2
     have ls3 : w7.cell? ⟨W1.heap.size, 3, none⟩ = some (.bool true) := ct bw7 hbx c3
     have KSS := hid (HX.out w7 bw7).1
     have KQQ := hid (HX.out w7 bw7).2
     clear hown2 hgrow2 bw7 KN HOW6 HBW6 HFW))
 all_goals
  clear b3 t3 c0 c1 c2 c3
  have x0 : w7.cell? ⟨w.heap.size + 1 + 1 + 1, 0, none⟩ = some (.int .i64 0) := (KSS.out 0 (by simp)).1
  have r0 : w7.cell? ⟨w.heap.size + 1, 0, none⟩ = some (.int .i64 0) := (KQQ.out 0 (by simp)).1
  have s0 : w7.frozen? ⟨w.heap.size + 1, 0, none⟩ = false := (KQQ.out 0 (by simp)).2
  have x1 : w7.cell? ⟨w.heap.size + 1 + 1 + 1, 1, none⟩ = some (.int .i64 0) := (KSS.out 1 (by simp)).1
  obtain ⟨⟨-, -⟩, ⟨r1, s1⟩⟩ := kb1 KQQ.out
  have x2 : w7.cell? ⟨w.heap.size + 1 + 1 + 1, 2, none⟩ = some (.int .i64 0) := (KSS.out 2 (by simp)).1
  obtain ⟨⟨-, -⟩, ⟨-, -⟩, ⟨r2, s2⟩⟩ := kb2 KQQ.out
  have x3 : w7.cell? ⟨w.heap.size + 1 + 1 + 1, 3, none⟩ = some (.bool false) := (KSS.out 3 (by simp)).1
  obtain ⟨⟨-, -⟩, ⟨-, -⟩, ⟨-, -⟩, ⟨r3, s3⟩⟩ := kb3 KQQ.out
  have x4 : w7.cell? ⟨w.heap.size + 1 + 1 + 1, 4, none⟩ = some (.slice none 0 0) := (KSS.out 4 (by simp)).1
  obtain ⟨⟨-, -⟩, ⟨-, -⟩, ⟨-, -⟩, ⟨-, -⟩, ⟨r4, s4⟩⟩ := kb4 KQQ.out
  clear KSS KQQ HX HFIN HQ3
  go_wp2
  refine bodyPost_ret (v := .agg #[.int .i64 0, .int .i64 0, .int .i64 0, .bool false, .slice none 0 0]) (by simp [results, Tryz.results21, go_sem, r0, r1, r2, r3, r4, s0, s1, s2, s3, s4]) rfl ?_
  with_reducible exact HFI.out
theorem run_spec (B bb gx : Nat) (x : Bas) (o : Opn) (cv hv : Value) (vs : List (Value × Value × Value)) (w : World) (hM : Mem B bb gx w x cv hv vs) (hb : Bnd x) (hB : B <= w.heap.size) :
 Calls Tryz.prog 21 #[.pointer (some ⟨bb, 0, none⟩), .agg #[.int .i64 o.kd, .int .i64 o.ss, .int .i64 o.tb, .int .i64 o.ky, .int .i64 o.vl, .int .i64 o.md, .string o.nm]] w fun e w' => RunP B bb gx w (runF x o) e w' := by
 by_cases hbad : o.kd < 1 \/ 10 < o.kd \/ o.ss < 1 \/ 4 < o.ss
 .exact run_bad B bb gx x o cv hv vs w hM hB hbad
 obtain ⟨kd, ss, tb, ky, vl, md, nm⟩ := o
 simp only at hbad ⊢
 obtain ⟨i, rfl⟩ : ∃ i : Nat, ss = (i : Int) + 1 := ⟨(ss - 1).toNat, by omega⟩
 have hi : i < 4 := by omega
 by_cases h1 : kd = 1
 .subst h1
  cases hop : (x.tx.getD i tx0).op
  .by_cases hm : md = 1 \/ md = 2
   .exact run_1 B bb gx i x tb ky vl md nm cv hv vs w hM hi hop hb hB hm
   .exact run_1bad B bb gx i x tb ky vl md nm cv hv vs w hM hi hop hb hB (fun h => hm (.inl h)) (fun h => hm (.inr h))
  .exact run_st1 B bb gx i x tb ky vl md nm cv hv vs w hM hi hop hb hB
 cases hop : (x.tx.getD i tx0).op
 .exact run_st2 B bb gx i x kd tb ky vl md nm cv hv vs w hM hi hop hb hB (by omega) (by omega) (beq_eq_false_iff_ne.2 h1)
 by_cases h5 : kd <= 5
 .by_cases ht : tb < 0 \/ 32 <= tb
  .exact run_tb B bb gx i x kd tb ky vl md nm cv hv vs w hM hi hop hb hB (by omega) h5 ht
  .have h2345 : kd = 2 \/ kd = 3 \/ kd = 4 \/ kd = 5 := by omega
   rcases h2345 with rfl | rfl | rfl | rfl
   .exact run_2 B bb gx i x tb ky vl md nm cv hv vs w hM hi hop hb hB (by omega) (by omega)
   .exact run_3 B bb gx i x tb ky vl md nm cv hv vs w hM hi hop hb hB (by omega) (by omega)
   .exact run_4 B bb gx i x tb ky vl md nm cv hv vs w hM hi hop hb hB (by omega) (by omega)
   .exact run_5 B bb gx i x tb ky vl md nm cv hv vs w hM hi hop hb hB (by omega) (by omega)
 .have hr : kd = 6 \/ kd = 7 \/ kd = 8 \/ kd = 9 \/ kd = 10 := by omega
  rcases hr with rfl | rfl | rfl | rfl | rfl
  .exact run_6 B bb gx i x tb ky vl md nm cv hv vs w hM hi hop hb hB
  .exact run_7 B bb gx i x tb ky vl md nm cv hv vs w hM hi hop hb hB
  .exact run_8 B bb gx i x tb ky vl md nm cv hv vs w hM hi hop hb hB
  .exact run_9 B bb gx i x tb ky vl md nm cv hv vs w hM hi hop hb hB
  .exact run_10 B bb gx i x tb ky vl md nm cv hv vs w hM hi hop hb hB
structure BndN (m : Nat) (x : Bas) : Prop where
 ck : 0 <= x.ck /\ x.ck <= m
 cl : x.cms.length <= m
 cc : ∀ c ∈ x.cms, c.cs.length <= m
 hl : x.hs.length <= m
 ht : ∀ h ∈ x.hs, BT 32 h
 ow : ∀ t ∈ x.tx, t.own.length <= m
 sl : ∀ t ∈ x.tx, t.sv.length <= 8
 sc : ∀ t ∈ x.tx, ∀ s ∈ t.sv, s.cs.length <= m
theorem BndN.bnd {m : Nat} {x : Bas} (h : BndN m x) (hm : m <= 1000) : Bnd x :=
 ⟨⟨h.ck.1, by have := h.ck.2; omega⟩, Nat.le_trans h.cl hm, fun c hc => Nat.le_trans (h.cc c hc) hm, Nat.le_trans h.hl hm, h.ht, fun t ht => Nat.le_trans (h.ow t ht) hm, h.sl, fun t ht s hs => Nat.le_trans (h.sc t ht s hs) hm⟩
theorem BndN.up {m : Nat} {x : Bas} (h : BndN m x) : BndN (m + 1) x :=
 ⟨⟨h.ck.1, by have := h.ck.2; omega⟩, by have := h.cl; omega, fun c hc => by have := h.cc c hc; omega, by have := h.hl; omega, h.ht, fun t ht => by have := h.ow t ht; omega, h.sl, fun t ht s hs => by have := h.sc t ht s hs; omega⟩
theorem BndN.put {m : Nat} {x : Bas} (h : BndN m x) {i : Nat} {t : Txn} (h1 : t.own.length <= m) (h2 : t.sv.length <= 8) (h3 : ∀ s ∈ t.sv, s.cs.length <= m) : BndN m { x with tx := x.tx.set i t } :=
 ⟨h.ck, h.cl, h.cc, h.hl, h.ht, fun u hu => by
  rcases List.mem_or_eq_of_mem_set hu with z | z
  .exact h.ow u z
  .rw [z]; exact h1, fun u hu => by
  rcases List.mem_or_eq_of_mem_set hu with z | z
  .exact h.sl u z
  .rw [z]; exact h2, fun u hu => by
  rcases List.mem_or_eq_of_mem_set hu with z | z
  .exact h.sc u z
  .rw [z]; exact h3⟩
theorem BndN.at {m : Nat} {x : Bas} (h : BndN m x) (i : Nat) : (x.tx.getD i tx0).own.length <= m /\ (x.tx.getD i tx0).sv.length <= 8 /\ ∀ s ∈ (x.tx.getD i tx0).sv, s.cs.length <= m := by
 rw [List.getD_eq_getElem?_getD]
 cases e : x.tx[i]? with
 | none => simp [tx0]
 | some t =>
   have hm := List.mem_of_getElem? e
   exact ⟨h.ow t hm, h.sl t hm, h.sc t hm⟩
theorem infoBT (t : Txn) (x : Bas) : BT 32 (infoF t.bg (x.ck + 1) t.own t.rs) := ⟨tabsT_len (readAt t.rs) 32, tabsT_len (wroteAt t.own) 32⟩
theorem bnd_commit {m : Nat} {x : Bas} (h : BndN m x) (i : Nat) : BndN (m + 1) (commitF x i).1 := by
 have ha := h.at i
 have h0 : BndN m { x with tx := x.tx.set i tx0 } := h.put (by simp [tx0]) (by simp [tx0]) (by simp [tx0])
 unfold commitF
 simp only
 split
 .exact h0.up
 split
 .exact h0.up
 .refine ⟨⟨by have := h.ck.1; simp only; omega, by have := h.ck.2; simp only; omega⟩, by simpa using h.cl, fun c hc => ?_, ?_, fun c hc => ?_, fun t ht => by have := h0.ow t ht; omega, h0.sl, fun t ht s hs => by have := h0.sc t ht s hs; omega⟩
  .rcases List.mem_append.1 hc with z | z
   .have := h.cc c z; omega
   .rw [List.mem_singleton] at z; subst z; exact Nat.le_succ_of_le ha.1
  .split
   .have := h.hl; simp only [List.length_append, List.length_cons, List.length_nil]; omega
   .exact Nat.le_succ_of_le h.hl
  .simp only at hc
   split at hc
   .rcases List.mem_append.1 hc with z | z
    .exact h.ht c z
    .rw [List.mem_singleton] at z; subst z; exact infoBT _ x
   .exact h.ht c hc
theorem bnd_saves {m : Nat} {x : Bas} (h : BndN m x) (i : Nat) (o : Opn) : BndN m (savesF x i o).1 := by
 have ha := h.at i
 unfold savesF
 simp only
 split
 .split
  .exact h
  .refine h.put ha.1 (by simp only [List.length_append, List.length_cons, List.length_nil]; omega) (fun s hs => ?_)
   rcases List.mem_append.1 hs with z | z
   .exact ha.2.2 s z
   .rw [List.mem_singleton] at z; subst z; exact ha.1
 .split
  .exact h
  .rename_i k hk
   split
   .refine h.put ?_ (by simp only [List.length_take]; omega) (fun s hs => ha.2.2 s (List.mem_of_mem_take hs))
    show ((x.tx.getD i tx0).sv.getD k sv0).cs.length <= m
    rw [List.getD_eq_getElem?_getD]
    cases e : (x.tx.getD i tx0).sv[k]? with
    | none => simp [sv0]
    | some s => exact ha.2.2 s (List.mem_of_getElem? e)
   .exact h.put ha.1 (by simp only [List.length_take]; omega) (fun s hs => ha.2.2 s (List.mem_of_mem_take hs))
theorem bnd_run {m : Nat} {x : Bas} (h : BndN m x) (o : Opn) : BndN (m + 1) (runF x o).1 := by
 have ha := h.at (o.ss - 1).toNat
 unfold runF
 split
 .exact h.up
 simp only
 split
 .exact h.up
 split
 .exact h.up
 split
 .split
  .exact h.up
  .exact h.up.put (by simp) (by simp) (by simp)
 split
 .exact h.up.put (by simp only; omega) ha.2.1 (fun s hs => by have := ha.2.2 s hs; omega)
 split
 .exact h.up.put (by simp only; omega) ha.2.1 (fun s hs => by have := ha.2.2 s hs; omega)
 split
 .exact h.up.put (by simp only [List.length_append, List.length_cons, List.length_nil]; omega) ha.2.1 (fun s hs => by have := ha.2.2 s hs; omega)
 split
 .exact bnd_commit h _
 split
 .exact h.up.put (by simp [tx0]) (by simp [tx0]) (by simp [tx0])
 .exact (bnd_saves h _ o).up
theorem run_ps {m : Nat} {x : Bas} (h : BndN m x) (hm : m <= 1000) (hx : x.tx.length = 4) (o : Opn) : (runF x o).2.ps.length <= 1048576 := by
 unfold runF
 split
 .simp
 simp only
 split
 .simp
 split
 .simp
 split
 .split <;> simp
 split
 .split <;> simp
 split
 .rename_i hb _ _ _ _ _
  have hi : (o.ss - 1).toNat < x.tx.length := by omega
  have ht : x.tx.getD (o.ss - 1).toNat tx0 ∈ x.tx := by
   rw [List.getD_eq_getElem?_getD, List.getElem?_eq_getElem hi]
   exact List.getElem_mem hi
  have h1 := (h.bnd hm).all ht
  refine Nat.le_trans ?_ h1
  exact Nat.le_trans (pairsF_len _ _ _ _ _) (keysF_len _ _ _)
 split
 .simp
 split
 .simp
 split <;> simp

def obC (x : Value × Obn) : List Value := [.int .i64 x.2.code, .int .i64 x.2.vl, .int .i64 x.2.st, .bool x.2.fd, x.1]
def AnR (b : Nat) (w : World) (v : Value) (ps : List (Value × Obn)) : Prop := w.ownsRow b 38 5 v ps.length (ps.flatMap obC) /\ (∀ x ∈ ps, Gr pairV 92 2 b w x.1 x.2.ps) /\ ps.Pairwise (fun x y => ∀ c, x.1.ownBlock = some c -> y.1.ownBlock ≠ some c)
def kA (ps : List (Value × Obn)) : Nat -> Nat
 | 0 => 0
 | i + 1 => kA ps i + 4 + 2 * ((ps[i]?).map (fun x => x.2.ps.length)).getD 0






theorem AnR.below {b : Nat} {w w' : World} {v : Value} {ps : List (Value × Obn)} (h : AnR b w v ps) (hb : Below w.heap.size w w') : AnR b w' v ps :=
 ⟨own_below h.1 hb, fun x hx => (h.2.1 x hx).below hb, h.2.2⟩
theorem AnR.rs {b : Nat} {w : World} {v : Value} {ps : List (Value × Obn)} (h : AnR b w v ps) : RS 5 CA 0 w v (ps.map Prod.snd) := by
 have hf : Fill 5 CA 0 (ps.map Prod.snd) (ps.map Prod.snd).length (ps.flatMap obC) w := by
  have key : ∀ qs : List (Value × Obn), (∀ x ∈ qs, Gr pairV 92 2 b w x.1 x.2.ps) -> Fill 5 CA 0 (qs.map Prod.snd) (qs.map Prod.snd).length (qs.flatMap obC) w := by
   intro qs
   induction qs with
   | nil => intro _; exact fill_nil _ _ _ _
   | cons x r ih =>
     intro hq
     have h1 : Fill 5 CA 0 [x.2] 1 (obC x) w := fill_one liesA ⟨x.1, rfl, ((hq x List.mem_cons_self).rs liesPr (fun p _ => rfl)).mono liesPr (Nat.zero_le _)⟩
     exact h1.append (ih (fun y hy => hq y (List.mem_cons_of_mem _ hy)))
  exact key ps h.2.1
 exact hf.own liesA (own_base0 (by rw [List.length_map]; exact h.1)) (Nat.le_refl _)
def TxnA (L : List Obn) (cd : Int) (w : World) (e : Ending) (w' : World) : Prop := ∃ v ps, e = .returned (.tuple #[v, .int .i64 cd]) /\ AnR w.heap.size w' v ps /\ RS 5 CA 0 w' v L /\ Below w.heap.size w w' /\ ps.length <= 1000 /\ (∀ x ∈ ps, x.2.ps.length <= 1048576) /\ ps.map Prod.snd = L
def TxnOf (F : Nat) (us : List Opn) (L : List Obn) (cd : Int) : Prop := ∀ (W : World) (a : Option Addr) (c : Nat), RS 7 CO 0 W (.slice a us.length c) us -> Calls Tryz.prog F #[.slice a us.length c] W fun e w' => TxnA L cd W e w'
theorem infoObs : (Tryz.prog.info? 38).map (fun i => (i.zero, i.size, i.bytes)) = some (some (.agg #[.int .i64 0, .int .i64 0, .int .i64 0, .bool false, .slice none 0 0]), 5, 56) := by kernel_rfl
theorem own_keep {w w' : World} {b e k n : Nat} {v : Value} {xs : List Value} (h : w.ownsRow b e k v n xs) (hk : Keep w w') (hi : Im e) : w'.ownsRow b e k v n xs := by
 have ht := fun g => own_tag h (g := g)
 obtain ⟨h1, h2⟩ := h
 refine ⟨h1, ?_⟩
 rcases h2 with h2 | ⟨g, cap, cur, rfl, hg1, hg2, hg3⟩
 .exact .inl h2
 .exact .inr ⟨g, cap, cur, rfl, hg1, by rw [hk.2 g e hi (ht g rfl)]; exact hg2, hg3⟩
theorem imP : Im 92 := by unfold Im; decide
theorem AnR.keep {b : Nat} {w w' : World} {v : Value} {ps : List (Value × Obn)} (h : AnR b w v ps) (hk : Keep w w') : AnR b w' v ps :=
 ⟨own_keep h.1 hk imO, fun x hx => own_keep (h.2.1 x hx) hk imP, h.2.2⟩
theorem AnR.push {b : Nat} {w w' : World} {v v' pv : Value} {ps : List (Value × Obn)} {o : Obn} (h : AnR b w v ps) (hg : w.grownBy w' v.ownBlock) (ho : w'.ownsRow b 38 5 v' (ps.length + 1) (ps.flatMap obC ++ obC (pv, o))) (hp : Gr pairV 92 2 b w pv o.ps) (hn : ∀ c, pv.ownBlock = some c -> ∀ x ∈ ps, x.1.ownBlock ≠ some c) : AnR b w' v' (ps ++ [(pv, o)]) := by
 have hk : Chg (fun ty => ty = 38) w w' := Chg.grown hg (fun g hg => ⟨_, rfl, own_tag h.1 hg⟩)
 refine ⟨?_, fun x hx => ?_, ?_⟩
 .rw [List.length_append, List.flatMap_append]
  simpa using ho
 .rcases List.mem_append.1 hx with z | z
  .exact own_chg (h.2.1 x z) hk (by decide)
  .rw [List.mem_singleton] at z
   subst z
   exact own_chg hp hk (by decide)
 .refine List.pairwise_append.2 ⟨h.2.2, List.pairwise_singleton _ _, fun x hx y hy c hc hc2 => ?_⟩
  rw [List.mem_singleton] at hy
  subst hy
  exact hn c hc2 x hx hc
theorem oneOb {pv : Value} {o : Obn} {a : Option Addr} {n c : Nat} (h : pv = .slice a n c) : ∀ u ∈ obC (pv, o), u.oneCell' = true := fun u hu => by
 subst h
 unfold obC at hu
 simp at hu
 rcases hu with rfl | rfl | rfl | rfl | rfl <;> rfl
noncomputable def runsF (x : Bas) : List Opn -> Bas × List Obn
 | [] => (x, [])
 | o :: r => let y := runF x o; let z := runsF y.1 r; (z.1, y.2 :: z.2)
theorem runsF_snoc (x : Bas) : ∀ (us : List Opn) (o : Opn), runsF x (us ++ [o]) = ((runF (runsF x us).1 o).1, (runsF x us).2 ++ [(runF (runsF x us).1 o).2])
 | [], o => rfl
 | u :: r, o => by
   show ((runsF (runF x u).1 (r ++ [o])).1, (runF x u).2 :: (runsF (runF x u).1 (r ++ [o])).2) = _
   rw [runsF_snoc (runF x u).1 r o]
   rfl
theorem runsF_len (x : Bas) : ∀ us : List Opn, (runsF x us).2.length = us.length
 | [] => rfl
 | u :: r => by
   show ((runF x u).2 :: (runsF (runF x u).1 r).2).length = _
   rw [List.length_cons, List.length_cons, runsF_len (runF x u).1 r]
def bas0 : Bas := ⟨0, [], [], [tx0, tx0, tx0, tx0]⟩
theorem bndN0 : BndN 0 bas0 := ⟨⟨by decide, by decide⟩, by simp [bas0], by simp [bas0], by simp [bas0], by simp [bas0], by simp [bas0, tx0], by simp [bas0, tx0], by simp [bas0, tx0]⟩
theorem bnd_runs : ∀ (us : List Opn) (m : Nat) (x : Bas), BndN m x -> BndN (m + us.length) (runsF x us).1
 | [], m, x, h => h
 | u :: r, m, x, h => by
   have := bnd_runs r (m + 1) (runF x u).1 (bnd_run h u)
   rw [show m + (u :: r).length = m + 1 + r.length by rw [List.length_cons]; omega]
   exact this
theorem commit_tx4 (x : Bas) (i : Nat) : (commitF x i).1.tx.length = x.tx.length := by
 unfold commitF
 simp only
 split
 .simp
 split <;> simp
theorem saves_tx4 (x : Bas) (i : Nat) (o : Opn) : (savesF x i o).1.tx.length = x.tx.length := by
 unfold savesF
 simp only
 split
 .split <;> simp
 .split
  .rfl
  .split <;> simp
theorem run_tx4 (x : Bas) (o : Opn) : (runF x o).1.tx.length = x.tx.length := by
 unfold runF
 split
 .rfl
 simp only
 split
 .rfl
 split
 .rfl
 split
 .split
  .rfl
  .simp
 split
 .simp
 split
 .simp
 split
 .simp
 split
 .exact commit_tx4 _ _
 split
 .simp
 .exact saves_tx4 _ _ _
theorem runs_tx4 : ∀ (us : List Opn) (x : Bas), (runsF x us).1.tx.length = x.tx.length
 | [], x => rfl
 | u :: r, x => (runs_tx4 r (runF x u).1).trans (run_tx4 x u)
theorem runs_ps : ∀ (us : List Opn) (m : Nat) (x : Bas), BndN m x -> m + us.length <= 1000 -> x.tx.length = 4 -> ∀ t ∈ (runsF x us).2, t.ps.length <= 1048576
 | [], m, x, _, _, _ => by simp [runsF]
 | u :: r, m, x, h, hm, hx => by
   intro t ht
   rw [List.length_cons] at hm
   have ht2 : t ∈ (runF x u).2 :: (runsF (runF x u).1 r).2 := ht
   rcases List.mem_cons.1 ht2 with z | z
   .rw [z]; exact run_ps h (by omega) hx u
   .exact runs_ps r (m + 1) (runF x u).1 (bnd_run h u) (by omega) ((run_tx4 x u).trans hx) t z
noncomputable def txnL (us : List Opn) : List Obn := if 1000 < us.length then [] else (runsF bas0 us).2
noncomputable def txnC (us : List Opn) : Int := if 1000 < us.length then 5 else 0
theorem infoTx : (Tryz.prog.info? 70).map (fun i => (i.zero, i.size, i.bytes)) = some (some (.agg #[.bool false, .int .i64 0, .int .i64 0, .slice none 0 0, .slice none 0 0, .slice none 0 0]), 6, 96) := by kernel_rfl
def a24 : List Value := [.bool false, .int .i64 0, .int .i64 0, .slice none 0 0, .slice none 0 0, .slice none 0 0, .bool false, .int .i64 0, .int .i64 0, .slice none 0 0, .slice none 0 0, .slice none 0 0, .bool false, .int .i64 0, .int .i64 0, .slice none 0 0, .slice none 0 0, .slice none 0 0, .bool false, .int .i64 0, .int .i64 0, .slice none 0 0, .slice none 0 0, .slice none 0 0]
theorem mk4 (W : World) : (Instr.makeSlice 62 (.int .i64 4) (.int .i64 4)).run Tryz.prog W = .ok (.slice (some ⟨W.heap.size, 0, none⟩) 4 4) (W.alloc (.cells a24.toArray 70)) := by
 obtain ⟨i0, hi, hz0, hz1, hz2⟩ := info_parts infoTx
 have h := run_makeSlice W 62 70 i0 _ Tryz.underlying62 hi hz0 .i64 .i64 4 4 (by decide) (by decide) (by rw [hz1]; decide) (by rw [hz2]; decide) (by decide)
 rw [hz1] at h
 have e : madeCells (Value.agg #[.bool false, .int .i64 0, .int .i64 0, .slice none 0 0, .slice none 0 0, .slice none 0 0]).cells (Int.toNat 4 * 6) = a24.toArray := by first | rfl | kernel_rfl | decide
 rw [e] at h
 exact h
def z3 : Value × Value × Value := (.slice none 0 0, .slice none 0 0, .slice none 0 0)
def b4 (w : World) : List Value := [.int .i64 0, .slice none 0 0, .slice none 0 0, .slice (some ⟨w.heap.size, 0, none⟩) 4 4]
def uw1 (w : World) : World := (w.alloc (.cells a24.toArray 70)).alloc (.cells (b4 w).toArray 65)
theorem uw1_below (w : World) : Below w.heap.size w (uw1 w) := (below_alloc w _).alloc (by simp) _
theorem z3_at {i : Nat} (h : i < 4) : ([z3, z3, z3, z3] : List (Value × Value × Value))[i]'h = z3 := by
 match i, h with
 | 0, _ => rfl
 | 1, _ => rfl
 | 2, _ => rfl
 | 3, _ => rfl
theorem mem1 (w : World) : Mem w.heap.size (w.heap.size + 1) w.heap.size (uw1 w) bas0 (.slice none 0 0) (.slice none 0 0) [z3, z3, z3, z3] := by
 have e1 : (w.alloc (.cells a24.toArray 70)).heap.size = w.heap.size + 1 := by simp
 have k2 := blk_new (w.alloc (.cells a24.toArray 70)) (b4 w) 65
 have g2 := tag_new (w.alloc (.cells a24.toArray 70)) (b4 w) 65
 rw [e1] at k2 g2
 refine ⟨rfl, rfl, k2, g2, Nat.le_succ _, ⟨fun l hl => ?_, (blk_new w a24 _).below (below_alloc _ _) (by simp)⟩, tag_below (tag_new w a24 _) (below_alloc _ _), Nat.le_refl _, fun i hi hi' => ?_, fun i j hi hj hn g hg => ?_, ⟨[], rfl, World.ownsRow_nil _ _ _ _, by simp⟩, ⟨[], rfl, World.ownsRow_nil _ _ _ _, by simp⟩⟩
 .simp [bas0, txV] at hl
  subst hl
  rfl
 .rw [z3_at hi']
  have : i < 4 := hi
  match i, this with
  | 0, _ => exact txm0 _ _
  | 1, _ => exact txm0 _ _
  | 2, _ => exact txm0 _ _
  | 3, _ => exact txm0 _ _
 .rw [z3_at hi] at hg
  simp [z3, Value.ownBlock] at hg
theorem mem0 (w : World) : Mem w.heap.size (w.heap.size + 1) w.heap.size ((uw1 w).alloc (.cells #[] 38)) bas0 (.slice none 0 0) (.slice none 0 0) [z3, z3, z3, z3] /\ Below w.heap.size w ((uw1 w).alloc (.cells #[] 38)) /\ AnR w.heap.size ((uw1 w).alloc (.cells #[] 38)) (.slice (some ⟨w.heap.size + 1 + 1, 0, none⟩) 0 0) [] := by
 have hs : (uw1 w).heap.size = w.heap.size + 1 + 1 := by simp [uw1]
 refine ⟨(mem1 w).below (below_alloc _ _), (uw1_below w).alloc (by omega) _, ?_, fun x hx => by simp at hx, List.Pairwise.nil⟩
 have := World.ownsRow_made (base := w.heap.size) (e := 38) (size := 5) (uw1 w) #[] 0 (by omega) (by unfold maxLen; omega) (by simp)
 rw [hs] at this
 simpa using this
theorem txnRun_spec (us : List Opn) : TxnOf 8 us (txnL us) (txnC us) := by
 intro w a c hv
 by_cases hbig : 1000 < us.length
 .have hbi : (1000 : Int) < us.length := by omega
  have HF : Hid (TxnA (txnL us) (txnC us) w (.returned (.tuple #[.slice (some ⟨w.heap.size, 0, none⟩) 0 0, .int .i64 5])) (w.alloc (.cells #[] 38))) := hid (by
   have e1 : txnL us = [] := by unfold txnL; rw [if_pos hbig]
   have e2 : txnC us = 5 := by unfold txnC; rw [if_pos hbig]
   rw [e1, e2]
   refine ⟨_, [], rfl, ⟨?_, fun x hx => by simp at hx, List.Pairwise.nil⟩, ⟨_, _, rfl, fun h => absurd h (by simp)⟩, below_alloc _ _, by simp, fun x hx => by simp at hx, rfl⟩
   have := World.ownsRow_made (base := w.heap.size) (e := 38) (size := 5) w #[] 0 (by simp) (by unfold maxLen; omega) (by simp)
   simpa using this)
  clear hv hbig
  go_enter Tryz.func8, Tryz.ntmps8
  go_wp2
  all_goals first | (exfalso; go_light; omega) | skip
  go_ret2
  exact HF.out
 obtain ⟨i0, hi, hz0, hz1, hz2⟩ := info_parts infoObs
 have hbi : ¬ (1000 : Int) < us.length := by omega
 have e1 : txnL us = (runsF bas0 us).2 := by unfold txnL; rw [if_neg hbig]
 have e2 : txnC us = 0 := by unfold txnC; rw [if_neg hbig]
 rw [e1, e2]
 clear e1 e2
 obtain ⟨M0, B0, A0⟩ := mem0 w
 obtain ⟨W1, hW1⟩ : ∃ z, z = (uw1 w).alloc (.cells #[] 38) := ⟨_, rfl⟩
 rw [<- hW1] at M0 B0 A0
 have HM0 := hid M0
 have HA0 := hid A0
 obtain ⟨a', cap', hsl, hcells⟩ := hv
 simp only [Value.slice.injEq] at hsl
 obtain ⟨rfl, _, rfl⟩ := hsl
 have hmk := mk4
 unfold a24 at hmk
 unfold uw1 a24 b4 at hW1
 have HW := hid hW1
 clear M0 A0 hW1
 go_enter Tryz.func8, Tryz.ntmps8
 go_wp2
 all_goals first | (exfalso; go_light; omega) | skip
 rw [<- HW.out]
 clear HW hmk
 go_loopw [5, 18] (fun pv iv wr => ∃ (k : Nat) (ps : List (Value × Obn)) (pa : Option Addr) (pc : Nat) (cv hv : Value) (vs : List (Value × Value × Value)), k <= us.length /\ iv = .int .i64 k /\ pv = .slice pa ps.length pc /\ Hid (ps.map Prod.snd = (runsF bas0 (us.take k)).2) /\ Hid (Mem w.heap.size (w.heap.size + 1) w.heap.size wr (runsF bas0 (us.take k)).1 cv hv vs) /\ Hid (AnR w.heap.size wr (.slice pa ps.length pc) ps) /\ Below w.heap.size w wr) (fun _ iv _ => us.length - (intOf iv).toNat)
 case atStart => exact ⟨0, [], _, 0, _, _, _, Nat.zero_le _, rfl, rfl, hid rfl, HM0, HA0, B0⟩
 case round =>
  clear HM0 HA0 B0
  obtain ⟨k, ps, pa, pc, cv, hv, vs, hk, rfl, rfl, HPS, HM, HA, hbel⟩ := hrel
  have hbs := hbel.size
  have hpl : ps.length = k := by
   have := congrArg List.length HPS.out
   rw [List.length_map, runsF_len, List.length_take] at this
   omega
  have HPL := hid hpl
  clear hpl
  by_cases hlt : k < us.length
  .have hlti : (k : Int) < us.length := by omega
   obtain ⟨g, o, rfl, _, hg, hgc⟩ := hcells (by omega)
   obtain ⟨cs, hC, hcell⟩ := hgc k hlt
   have hbn : BndN k (runsF bas0 (us.take k)).1 := by
    have := bnd_runs (us.take k) 0 bas0 bndN0
    rw [List.length_take, Nat.min_eq_left hk, Nat.zero_add] at this
    exact this
   have HTK : Hid (runsF bas0 (us.take (k + 1)) = ((runF (runsF bas0 (us.take k)).1 us[k]).1, (runsF bas0 (us.take k)).2 ++ [(runF (runsF bas0 (us.take k)).1 us[k]).2])) := hid (by
    rw [show us.take (k + 1) = us.take k ++ [us[k]] by rw [List.take_add_one, List.getElem?_eq_getElem hlt]; rfl]
    exact runsF_snoc _ _ _)
   clear hgc hcells
   unfold CO at hC
   subst hC
   generalize us[k] = t at *
   have hx4 : (runsF bas0 (us.take k)).1.tx.length = 4 := runs_tx4 _ _
   have hru := run_spec w.heap.size (w.heap.size + 1) w.heap.size (runsF bas0 (us.take k)).1 t cv hv vs (wr.alloc (.cells #[.int .i64 t.kd, .int .i64 t.ss, .int .i64 t.tb, .int .i64 t.ky, .int .i64 t.vl, .int .i64 t.md, .string t.nm] 41)) (HM.out.below (below_alloc _ _)) (hbn.bnd (by omega)) (by simp; omega)
   unfold RunP at hru
   have HPSB := hid (run_ps hbn (by omega) hx4 t)
   clear hbn hx4
   obtain ⟨ry, hry⟩ : ∃ z, z = runF (runsF bas0 (us.take k)).1 t := ⟨_, rfl⟩
   rw [<- hry] at hru HTK HPSB
   clear hry
   obtain ⟨y, ob⟩ := ry
   simp only at hru HTK HPSB
   have c0 : wr.cell? ⟨g, o + k * 7, none⟩ = some (.int .i64 t.kd) := ct hbel hg (hcell 0 (by omega))
   have c1 : wr.cell? ⟨g, o + k * 7 + 1, none⟩ = some (.int .i64 t.ss) := ct hbel hg (hcell 1 (by omega))
   have c2 : wr.cell? ⟨g, o + k * 7 + 2, none⟩ = some (.int .i64 t.tb) := ct hbel hg (hcell 2 (by omega))
   have c3 : wr.cell? ⟨g, o + k * 7 + 3, none⟩ = some (.int .i64 t.ky) := ct hbel hg (hcell 3 (by omega))
   have c4 : wr.cell? ⟨g, o + k * 7 + 4, none⟩ = some (.int .i64 t.vl) := ct hbel hg (hcell 4 (by omega))
   have c5 : wr.cell? ⟨g, o + k * 7 + 5, none⟩ = some (.int .i64 t.md) := ct hbel hg (hcell 5 (by omega))
   have c6 : wr.cell? ⟨g, o + k * 7 + 6, none⟩ = some (.string t.nm) := ct hbel hg (hcell 6 (by omega))
   clear hcell
   go_wp2_with (go_at_call 21; fail)
   refine hru.mono ?_
   rintro e w3 ⟨cv3, hv3, vs3, pv, rfl, hG3, hM3, hK3, hB3⟩
   obtain ⟨qa, qc, hpv⟩ := formR hG3
   subst hpv
   clear hru c0 c1 c2 c3 c4 c5 c6
   have hk0 : Keep wr w3 := (Keep.of_below (below_alloc _ _)).trans hK3
   have bw3 : Below w.heap.size w w3 := (hbel.alloc hbs _).trans hB3
   have hsz3 : wr.heap.size + 1 <= w3.heap.size := by have := hK3.1; simpa using this
   have HA3 := hid (HA.out.keep hk0)
   have HG3 : Hid (Gr pairV 92 2 w.heap.size w3 (.slice qa ob.ps.length qc) ob.ps) := hid (own_bs hG3 (by simp; omega))
   have HNB : Hid (∀ c, (Value.slice qa ob.ps.length qc).ownBlock = some c -> ∀ x ∈ ps, x.1.ownBlock ≠ some c) := hid (fun c hc x hx he => by
    have h1 := (hG3.lt c hc).1
    have h2 := (HA.out.2.1 x hx).lt c he
    simp at h1
    omega)
   have HMA := hid (hM3.below (below_alloc w3 (.cells #[.int .i64 ob.code, .int .i64 ob.vl, .int .i64 ob.st, .bool ob.fd, .slice qa ob.ps.length qc] 38)))
   have HAA := hid (HA3.out.below (below_alloc w3 (.cells #[.int .i64 ob.code, .int .i64 ob.vl, .int .i64 ob.st, .bool ob.fd, .slice qa ob.ps.length qc] 38)))
   have HGA := hid (HG3.out.below (below_alloc w3 (.cells #[.int .i64 ob.code, .int .i64 ob.vl, .int .i64 ob.st, .bool ob.fd, .slice qa ob.ps.length qc] 38)))
   have bwA := bw3.alloc bw3.size (.cells #[.int .i64 ob.code, .int .i64 ob.vl, .int .i64 ob.st, .bool ob.fd, .slice qa ob.ps.length qc] 38)
   have hpl2 : ps.length <= 1000 := by have := HPL.out; omega
   clear hG3 hM3 hK3 hB3 HM HA HA3 HG3 hk0
   go_wp2_with (at_builtin; go_loud (refine wpList_append_own _ rfl (.tmp 22) (.tmp 26) 29 rfl w.heap.size 38 i0 _ 5 56 Tryz.underlying29 hi hz0 hz1 hz2 rfl (by decide) (.slice pa ps.length pc) ps.length (ps.flatMap obC) rfl HAA.out.1 ⟨w3.heap.size, 0, none⟩ 1 1 (obC (.slice qa ob.ps.length qc, ob)) rfl rfl (cells_new _ (obC (.slice qa ob.ps.length qc, ob)) 38 _ (by simp)) (oneOb rfl) (by unfold maxLen; omega) (by omega) (by simp; omega) ?_; intro v' w' hown hgrow _; obtain ⟨na, nc, hvn⟩ := formR hown; subst hvn; have HAN : Hid (AnR w.heap.size w' (.slice na (ps.length + 1) nc) (ps ++ [(.slice qa ob.ps.length qc, ob)])) := HAA.out.push hgrow hown HGA.out HNB.out; have HMN := hid (HMA.out.chg (Chg.grown (T := fun ty => ty = 38) hgrow (fun g hg => ⟨_, rfl, own_tag HAA.out.1 hg⟩)) (fun ty h => .inl h)); have bwN : Below w.heap.size w w' := bwA.grown hgrow bwA.size (fun q hq => (HAA.out.1.lt q hq).1); clear hown hgrow))
   go_roundw
   case rel => exact ⟨k + 1, ps ++ [(.slice qa ob.ps.length qc, ob)], na, nc, _, _, _, by omega, by go_num, by simp, hid (by rw [HTK.out, List.map_append, HPS.out]; rfl), hid (by rw [HTK.out]; exact HMN.out), hid (by simpa using HAN.out), bwN⟩
   case measure => simp [intOf]; omega
  .have hkn : k = us.length := by omega
   subst hkn
   have hlti : ¬ (us.length : Int) < us.length := by omega
   rw [List.take_length] at HPS
   have HF : Hid (TxnA (runsF bas0 us).2 0 w (.returned (.tuple #[.slice pa ps.length pc, .int .i64 0])) wr) := hid (by
    have hps : ∀ x ∈ ps, x.2.ps.length <= 1048576 := fun x hx => runs_ps us 0 bas0 bndN0 (by omega) rfl x.2 (by rw [<- HPS.out]; exact List.mem_map_of_mem hx)
    exact ⟨_, ps, rfl, HA.out, by rw [<- HPS.out]; exact HA.out.rs, hbel, by have := HPL.out; omega, hps, HPS.out⟩)
   clear HPS HM HA HPL hcells
   go_wp2
   go_ret2
   exact HF.out
theorem run_copy_rowK {P : Program} (w : World) (dT sT ty elem : TypeId) (K g o dLen dCap : Nat) (a : Addr) (sLen sCap : Nat) (cur : Array Value) (t : TypeId) (cs : List Value)
 (hu : P.underlying dT = some (.slice elem)) (hs : (P.info? elem).map (·.size) = some K)
 (hg : w.heap[g]? = some (.cells cur t (0, 0))) (hn : cs.length = Nat.min sLen dLen * K)
 (hsrc : ∀ j v, cs[j]? = some v -> w.cell? (a.add j) = some v) (hfit : o + cs.length <= cur.size) (h1 : ∀ v ∈ cs, v.oneCell' = true) :
 (Builtin.copy_ #[dT, sT] ty #[.slice (some ⟨g, o, none⟩) dLen dCap, .slice (some a) sLen sCap]).run P w =
  .ok (goInt (Nat.min sLen dLen)) (w.setRow g (cur.toList.take o ++ cs ++ cur.toList.drop (o + cs.length)).toArray) := by
 have hl := run_loadCells_list (P := P) w a cs hsrc
 have hst := run_storeCells_at P g o t cs 0 cur w hg (by simpa using hfit) h1
 cases hq : P.info? elem with
 | none => simp [hq] at hs
 | some i =>
   have hi : i.size = K := by simpa [hq] using hs
   simp [Builtin.copy_, run_underlying hu, Builtin.lenOf, Builtin.firstCells, sizeOf, typeInfo, hq, hi, <- hn, hl, hst]
theorem grown_setRow (w : World) (g : Nat) (cs : Array Value) : w.grownBy (w.setRow g cs) (some g) :=
 ⟨rfl, rfl, rfl, by simp, fun k _ hk => setRow_other w g k cs (fun e => hk (by rw [e]))⟩
def InsP (B e K : Nat) (w : World) (v : Value) (n : Nat) (ys : List Value) (en : Ending) (w' : World) : Prop := ∃ a c, en = .returned (.slice a (n + 1) c) /\ w'.ownsRow B e K (.slice a (n + 1) c) (n + 1) ys /\ w.grownBy w' v.ownBlock /\ ∀ g, (Value.slice a (n + 1) c).ownBlock = some g -> v.ownBlock = some g \/ w.heap.size <= g
theorem ins_list {α : Type} {cur1 cur : List α} {xs vs : List α} {i n K : Nat} (hi : i < n) (hv : vs.length = K) (hx : xs.length = n * K) (hc : cur.take (n * K) = xs) (hl : (n + 1) * K <= cur.length) (h1 : cur1 = cur.take ((i + 1) * K) ++ xs.drop (i * K) ++ cur.drop ((i + 1) * K + (xs.drop (i * K)).length)) :
 (cur1.take (i * K) ++ vs ++ cur1.drop (i * K + vs.length)).take ((n + 1) * K) = xs.take (i * K) ++ vs ++ xs.drop (i * K) /\ (cur1.take (i * K) ++ vs ++ cur1.drop (i * K + vs.length)).length = cur.length /\ cur1.length = cur.length := by
 have e1 : (i + 1) * K = i * K + K := by rw [Nat.add_mul, Nat.one_mul]
 have e2 : (n + 1) * K = n * K + K := by rw [Nat.add_mul, Nat.one_mul]
 have e3 : i * K + K <= n * K := by rw [<- e1]; exact Nat.mul_le_mul_right _ hi
 have hdl : (xs.drop (i * K)).length = n * K - i * K := by rw [List.length_drop, hx]
 have ht1 : (cur.take ((i + 1) * K)).length = i * K + K := by rw [List.length_take]; omega
 have hl1 : cur1.length = cur.length := by
  rw [h1, List.length_append, List.length_append, ht1, hdl, List.length_drop]
  omega
 have hA : cur1.take (i * K) = xs.take (i * K) := by
  rw [h1, List.append_assoc, List.take_append_of_le_length (by omega), List.take_take, Nat.min_eq_left (by omega), <- hc, List.take_take, Nat.min_eq_left (by omega)]
 have hD : cur1.drop (i * K + vs.length) = xs.drop (i * K) ++ cur.drop (n * K + K) := by
  rw [h1, hv, List.append_assoc, List.drop_append_of_le_length (by omega), List.drop_of_length_le (by omega), List.nil_append, hdl, e1]
  congr 2
  omega
 rw [hA, hD]
 have hxt : (xs.take (i * K)).length = i * K := by rw [List.length_take]; omega
 refine ⟨?_, ?_, hl1⟩
 .rw [<- List.append_assoc, List.take_append_of_le_length (by simp only [List.length_append, hxt, hdl, hv]; omega), List.take_of_length_le (by simp only [List.length_append, hxt, hdl, hv]; omega)]
 .simp only [List.length_append, hxt, hdl, hv, List.length_drop]
  omega
end Go.Proofs.YtblkgicbimflhaaGreat
