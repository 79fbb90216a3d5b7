import Derived.Test.YtblkgicbimflhaaGreatSAI
import Derived.Deep.RegionLawGrows
import Derived.Deep.CutRange
import Derived.Deep.DeepCutAuto
import Derived.Test.YtblkgicbimflhaaGreatSAK
namespace Go.Proofs.YtblkgicbimflhaaGreat
open Go.ChangeShapes Go.WideShapes Go.ChangeAt Go.RowKit
set_option linter.unusedVariables false
set_option linter.unusedSimpArgs false
set_option maxRecDepth 100000
set_option maxHeartbeats 16000000
def CommitP (B bb gx : Nat) (x : Bas) (i : Nat) (w : World) (e : Ending) (w' : World) : Prop := ∃ cv hv vs, e = .returned (.tuple #[.int .i64 (commitF x i).2.1, .int .i64 (commitF x i).2.2]) /\ Mem B bb gx w' (commitF x i).1 cv hv vs /\ Keep w w' /\ Below B w w'
theorem imHs : ∀ ty, (ty = 131 \/ ty = 65) -> ¬ Im ty := fun ty h z => by
 rcases h with h | h
 .exact z.2.2.2.1 h
 .exact z.1 h
theorem imCm : ∀ ty, (ty = 140 \/ ty = 65) -> ¬ Im ty := fun ty h z => by
 rcases h with h | h
 .exact z.2.2.1 h
 .exact z.1 h
def CmA (B bb gx i : Nat) (x : Bas) (t : Txn) (w wy : World) (cv : Value) (vs : List (Value × Value × Value)) (ov : Value) (box : List Value) : Prop := ∃ hv', Mem B bb gx wy { x with tx := x.tx.set i tx0, hs := if t.md = 2 then x.hs ++ [infoF t.bg (x.ck + 1) t.own t.rs] else x.hs } cv hv' vs /\ Chg (fun ty => ¬ Im ty) w wy /\ Below B w wy /\ TL 106 4 CC wy ov t.own /\ Blk wy w.heap.size box /\ tag wy w.heap.size 70 /\ ¬ (t.md = 2 /\ certF (x.hs ++ [infoF t.bg (x.ck + 1) t.own t.rs]) ≠ 0)
theorem infoB (t : Txn) (x : Bas) : BT 1048576 (infoF t.bg (x.ck + 1) t.own t.rs) := ⟨by have := tabsT_len (readAt t.rs) 32; show (tabsT (readAt t.rs) 32).length <= _; omega, by have := tabsT_len (wroteAt t.own) 32; show (tabsT (wroteAt t.own) 32).length <= _; omega⟩
theorem commit_spec (B bb gx i : Nat) (x : Bas) (cv hv : Value) (vs : List (Value × Value × Value)) (w : World) (hM : Mem B bb gx w x cv hv vs) (hi : i < 4) (hop : (x.tx.getD i tx0).op = true) (hb : Bnd x) (hB : B <= w.heap.size) :
 Calls Tryz.prog 40 #[.pointer (some ⟨bb, 0, none⟩), .int .i64 (i : Int)] w fun e w' => CommitP B bb gx x i w e w' := by
 obtain ⟨t, ⟨ov, rv, sv⟩, htx, hvx, hTM, hcell⟩ := hM.at hi
 have htD : x.tx.getD i tx0 = t := by rw [List.getD_eq_getElem?_getD, htx]; rfl
 have hmem : t ∈ x.tx := List.mem_of_getElem? htx
 rw [htD] at hop
 obtain ⟨hrl, gr, hrv, hgB, hgt, hgb⟩ := hTM.rd hop
 simp only at hrv
 subst hrv
 obtain ⟨oa, oc, hov⟩ := hTM.ow.form
 simp only at hov
 subst hov
 obtain ⟨sa, sc, hsv⟩ := hTM.sa.form
 simp only at hsv
 subst hsv
 obtain ⟨ma, mc, hcv⟩ : ∃ a c, cv = .slice a x.cms.length c := by obtain ⟨ps, _, ho, _⟩ := hM.cm; exact formR ho
 subst hcv
 obtain ⟨ha, hc, hhv⟩ : ∃ a c, hv = .slice a x.hs.length c := by obtain ⟨ps, _, ho, _⟩ := hM.hi; exact formR ho
 subst hhv
 obtain ⟨⟨q0, z0⟩, ⟨q1, z1⟩, ⟨q2, z2⟩, ⟨q3, z3⟩, ⟨q4, z4⟩, ⟨q5, z5⟩⟩ := mqb hcell
 have b3 : w.cell? ⟨bb, 3, none⟩ = some (.slice (some ⟨gx, 0, none⟩) 4 4) := (hM.bs 3 (by simp)).1
 have hgxl : gx < w.heap.size := tag_lt hM.xt
 have hbbl : bb < w.heap.size := tag_lt hM.bt
 have hii : (i : Int) < 4 := by omega
 -- the box
 have htop : t.op = true := hop
 have P2 := hM.put6 hi tx0 (.slice none 0 0, .slice none 0 0, .slice none 0 0) (txm0 _ _) (fun j _ _ g hg => by simp [Value.ownBlock] at hg)
 obtain ⟨W2, hW2⟩ : ∃ z, z = (set6 w gx (i * 6) (.bool false) (.int .i64 0) (.int .i64 0) (.slice none 0 0) (.slice none 0 0) (.slice none 0 0)).alloc (.cells #[.bool true, .int .i64 t.md, .int .i64 t.bg, .slice oa t.own.length oc, .slice (some ⟨gr, 0, none⟩) 32 32, .slice sa t.sv.length sc] 70) := ⟨_, rfl⟩
 have M2 : Mem B bb gx W2 { x with tx := x.tx.set i tx0 } (.slice ma x.cms.length mc) (.slice ha x.hs.length hc) (vs.set i (.slice none 0 0, .slice none 0 0, .slice none 0 0)) := by rw [hW2]; exact P2.1.below (below_alloc _ _)
 have C2 : Chg (fun ty => ty = 70) w W2 := by
  rw [hW2]
  exact P2.2.trans (Chg.of_below _ (below_alloc _ _))
 have K6 : Blk W2 w.heap.size [.bool true, .int .i64 t.md, .int .i64 t.bg, .slice oa t.own.length oc, .slice (some ⟨gr, 0, none⟩) 32 32, .slice sa t.sv.length sc] := by
  rw [hW2]
  have := blk_new (set6 w gx (i * 6) (.bool false) (.int .i64 0) (.int .i64 0) (.slice none 0 0) (.slice none 0 0) (.slice none 0 0)) [.bool true, .int .i64 t.md, .int .i64 t.bg, .slice oa t.own.length oc, .slice (some ⟨gr, 0, none⟩) 32 32, .slice sa t.sv.length sc] 70
  rw [size_set6] at this
  exact this
 have hTG2 : tag W2 w.heap.size 70 := by
  rw [hW2]
  have := tag_new (set6 w gx (i * 6) (.bool false) (.int .i64 0) (.int .i64 0) (.slice none 0 0) (.slice none 0 0) (.slice none 0 0)) [.bool true, .int .i64 t.md, .int .i64 t.bg, .slice oa t.own.length oc, .slice (some ⟨gr, 0, none⟩) 32 32, .slice sa t.sv.length sc] 70
  rw [size_set6] at this
  exact this
 have HTG := hid hTG2
 clear hTG2
 have hs2 : W2.heap.size = w.heap.size + 1 := by rw [hW2]; simp [size_set6]
 have bB2 : Below B w W2 := by rw [hW2]; exact (below_set6 (Below.refl B w) hM.xB).alloc (by rw [size_set6]; exact hB) _
 have HOW2 : Hid (TL 106 4 CC W2 (.slice oa t.own.length oc) t.own) := hTM.ow.chg (by decide) C2 (fun h => h)
 have HRD2 : Hid (RS 1 CBl 0 W2 (.slice (some ⟨gr, 0, none⟩) t.rs.length 32) t.rs) := hid (by
  have hk := hgb.chg C2 (by decide) hgt
  refine ⟨_, _, rfl, fun hp => ⟨gr, 0, rfl, Nat.zero_le _, tag_lt (C2.tagk (by decide) hgt), fun j hj => ⟨[.bool t.rs[j]], rfl, fun l hl => ?_⟩⟩⟩
  have hl0 : l = 0 := by omega
  subst hl0
  have := (hk j (by rw [List.length_map]; exact hj)).1
  rw [List.getElem?_map, List.getElem?_eq_getElem hj] at this
  simpa using this)
 have hol := hb.ow t hmem
 have hcf := conflict_spec bb x.ck ma mc (.slice ha x.hs.length hc) (.slice (some ⟨gx, 0, none⟩) 4 4) (.slice (some ⟨gr, 0, none⟩) 32 32) (.slice sa t.sv.length sc) true t.md t.bg oa oc x.cms t.own W2 hb.bm (by omega) (by omega) M2.bs M2.cm.rs HOW2.out.1
 have HM2 := hid M2
 have HC2 := hid C2
 have HK6 := hid K6
 have HB2 := hid bB2
 have HW2 := hid hW2
 have HBN := hid hb
 have HRL := hid hrl
 have HTD := hid htD
 have HOP := hid hop
 clear P2 M2 C2 htop K6 hTM hgb hgt hcell hb hrl htx hvx hmem bB2 hM
 unfold set6 at hW2
 go_enter Tryz.func40, Tryz.ntmps40
 go_upto_region 3 with (fail)
 rw [<- hW2]
 clear hW2 q0 q1 q2 q3 q4 q5 z0 z1 z2 z3 z4 z5 b3
 obtain ⟨k0, k1, k2, k3, k4, k5⟩ := kc5 HK6.out
 go_wp2_with (go_at_call 59; fail)
 refine hcf.mono ?_
 rintro e w3 ⟨rfl, hb3⟩
 clear k0 k1 k2 k3 k4 k5 hcf
 have HM3 := hid (HM2.out.below hb3)
 have HC3 := hid (HC2.out.trans (Chg.of_below _ hb3))
 have HB3 : Hid (Below B w w3) := HB2.out.trans (hb3.mono (by omega))
 have HOW3 := hid (HOW2.out.chg (T := fun _ => False) (fun z => z) (Chg.of_below _ hb3) (fun h => h))
 have HRD3 := hid (HRD2.out.below liesB hb3)
 have HK63 := hid (HK6.out.below hb3 (by omega))
 replace HTG := hid (tag_below HTG.out hb3)
 have hs3 : w.heap.size + 1 <= w3.heap.size := by have := hb3.size; omega
 have HCF : Hid (conflictF x.cms t.bg t.own = conflictF x.cms t.bg t.own) := rfl
 clear HM2 HC2 HB2 HOW2 HRD2 HK6 HW2 hb3 hs2
 obtain ⟨cb, hcb⟩ : ∃ z, conflictF x.cms t.bg t.own = z := ⟨_, rfl⟩
 rw [hcb]
 clear HCF
 rcases cb with _ | _
 rotate_left
 .have HF : Hid (CommitP B bb gx x i w (.returned (.tuple #[.int .i64 0, .int .i64 20])) w3) := hid (by
   have : commitF x i = ({ x with tx := x.tx.set i tx0 }, 0, 20) := by unfold commitF; simp only [HTD.out, hcb, if_true]
   refine ⟨_, _, _, by rw [this], by rw [this]; exact HM3.out, HC3.out.keep (fun ty h z => by subst h; exact absurd rfl z.2.1), HB3.out⟩)
  clear hcb
  go_wp2
  refine bodyPost_ret (v := .tuple #[.int .i64 0, .int .i64 20]) (by simp [results, Tryz.results40, go_sem]) rfl ?_
  exact HF.out
 have HCB := hid hcb
 clear hcb
 have hck0 : 0 <= x.ck := HBN.out.ck.1
 have hck1 : x.ck <= 1000 := HBN.out.ck.2
 have hwr : IntKind.i64.wrap (x.ck + 1) = x.ck + 1 := by simp only [IntKind.wrap_i64, wrap64]; omega
 have HIN := hid (fun (wz : World) (hz : Below w3.heap.size w3 wz) => info_spec true t.md t.bg (x.ck + 1) oa (some ⟨gr, 0, none⟩) oc 32 (.slice sa t.sv.length sc) t.own t.rs wz (by omega) HRL.out (HOW3.out.1.below liesC hz) (HRD3.out.below liesB hz))
 rw [HRL.out] at HIN
 go_upto_region 5 with (fail)
 go_cut [7] (fun s wx => Hid (InfB w3 wx t.bg (x.ck + 1) (tabsT (readAt t.rs) 32) (tabsT (wroteAt t.own) 32) s))
 case first =>
  have b0 : w3.cell? ⟨bb, 0, none⟩ = some (.int .i64 x.ck) := (HM3.out.bs 0 (by simp)).1
  obtain ⟨k0, k1, k2, k3, k4, k5⟩ := kc5 HK63.out
  have hbw3 : bb < w3.heap.size := by omega
  have hww3 : w.heap.size < w3.heap.size := by omega
  clear HM3 HC3 HB3 HOW3 HRD3 HK63
  go_region_with (go_at_call 60; refine (HIN.out _ bl).mono ?_; rintro e w4 ⟨v2, v3, rfl, hct, hb4, g2, g3⟩; obtain ⟨a2, c2, hv2⟩ := g2.form; obtain ⟨a3, c3, hv3⟩ := g3.form; subst hv2; subst hv3; have HB4 := hid hb4; have G2 := hid g2; have G3 := hid g3; have hsb := hb4.size; clear hct hb4 g2 g3; first | (have HKZ := hid ((blk_new w3.drew [.int .i64 0, .int .i64 0, .slice none 0 0, .slice none 0 0] 131).below HB4.out (by simp)); have y0 : w4.cell? ⟨w3.heap.size, 0, none⟩ = some (.int .i64 0) := (HKZ.out 0 (by simp)).1; have y1 : w4.cell? ⟨w3.heap.size, 1, none⟩ = some (.int .i64 0) := (HKZ.out 1 (by simp)).1; have y2 : w4.cell? ⟨w3.heap.size, 2, none⟩ = some (.slice none 0 0) := (HKZ.out 2 (by simp)).1; have y3 : w4.cell? ⟨w3.heap.size, 3, none⟩ = some (.slice none 0 0) := (HKZ.out 3 (by simp)).1; have x0 : w4.frozen? ⟨w3.heap.size, 0, none⟩ = false := (HKZ.out 0 (by simp)).2; have x1 : w4.frozen? ⟨w3.heap.size, 1, none⟩ = false := (HKZ.out 1 (by simp)).2; have x2 : w4.frozen? ⟨w3.heap.size, 2, none⟩ = false := (HKZ.out 2 (by simp)).2; have x3 : w4.frozen? ⟨w3.heap.size, 3, none⟩ = false := (HKZ.out 3 (by simp)).2) | skip)
  all_goals
   go_wp2_with (fail)
   go_meet
   case rel => first | with_reducible exact hid (boxA HB4.out G2.out.tl G3.out.tl) | with_reducible exact hid (boxB HB4.out G2.out.tl G3.out.tl)
 case rest =>
  rename World => w4
  clear HIN
  obtain ⟨bx, a2, c2, a3, c3, hsx, hKB, hT2, hT3, hb4, hbx, hbx3⟩ := hcut.out
  subst hsx
  have HKB := hid hKB
  have HT2 := hid hT2
  have HT3 := hid hT3
  have HM4 := hid (HM3.out.below hb4)
  have HOW4 := hid (HOW3.out.chg (T := fun _ => False) (fun z => z) (Chg.of_below _ hb4) (fun h => h))
  have HK64 := hid (HK63.out.below hb4 (by omega))
  have HTG4 := hid (tag_below HTG.out hb4)
  have HC4 := hid (HC3.out.trans (Chg.of_below _ hb4))
  have HBB4 : Hid (Below B w w4) := HB3.out.trans (hb4.mono (by have := HB3.out.size; omega))
  have hs4 : w3.heap.size <= w4.heap.size := hb4.size
  clear hcut hKB hT2 hT3 hb4 HM3 HOW3 HRD3 HK63 HC3 HB3 HTG
  have k1 : w4.cell? ⟨w.heap.size, 1, none⟩ = some (.int .i64 t.md) := (HK64.out 1 (by simp)).1
  have hwwc : w.heap.size < w4.heap.size := by omega
  have hbwc : bb < w4.heap.size := by omega
  go_upto_if 35 with (fail)
  clear k1
  go_cut [] (fun wy => Hid (CmA B bb gx i x t w wy (.slice ma x.cms.length mc) (vs.set i (.slice none 0 0, .slice none 0 0, .slice none 0 0)) (.slice oa t.own.length oc) [.bool true, .int .i64 t.md, .int .i64 t.bg, .slice oa t.own.length oc, .slice (some ⟨gr, 0, none⟩) 32 32, .slice sa t.sv.length sc]))
  case first =>
   by_cases hmd : t.md = 2
   .have hmb : (t.md == 2) = true := by simpa using hmd
    have HMD := hid hmd
    have hw2 : ({ x with tx := x.tx.set i tx0 } : Bas).hs = x.hs := rfl
    have HCE := hid (fun (wz : World) (hz : Below w4.heap.size w4 wz) => certify_any ha hc x.hs (infoF t.bg (x.ck + 1) t.own t.rs) [.int .i64 t.bg, .int .i64 (x.ck + 1), .slice a2 (tabsT (readAt t.rs) 32).length c2, .slice a3 (tabsT (wroteAt t.own) 32).length c3] wz HBN.out.bh (infoB t x) (HM4.out.hi.rs.below liesT hz) (⟨_, _, rfl, HT2.out.1.below liesI hz, HT3.out.1.below liesI hz⟩ : CT 0 wz [.int .i64 t.bg, .int .i64 (x.ck + 1), .slice a2 (tabsT (readAt t.rs) 32).length c2, .slice a3 (tabsT (wroteAt t.own) 32).length c3] (infoF t.bg (x.ck + 1) t.own t.rs)))
    obtain ⟨cz, hcz⟩ : ∃ z, certF (x.hs ++ [(infoF t.bg (x.ck + 1) t.own t.rs)]) = z := ⟨_, rfl⟩
    have HCZ := hid hcz
    have b2 : w4.cell? ⟨bb, 2, none⟩ = some (.slice ha x.hs.length hc) := (HM4.out.bs 2 (by simp)).1
    obtain ⟨p0, p1, p2, p3⟩ := kc3 HKB.out
    clear hmd hcz hw2
    go_upto_region 7 with (fail)
    go_cut [8] (fun s wx => s = .int .i64 cz /\ Hid (Below w4.heap.size w4 wx))
    case first =>
     clear HKB HT2 HT3 HM4 HOW4 HK64 HTG4 HC4 HBB4
     go_region_with (go_at_call 61; refine (HCE.out _ bl).mono ?_; rintro e w5 ⟨hr, hb5⟩; have he := certR_f hr; rw [HCZ.out] at he; subst he; have HB5 := hid hb5; clear hr hb5)
     all_goals
      go_wp2_with (fail)
      go_meet
      case rel => exact ⟨rfl, (Below.refl _ w4).drew.trans HB5.out⟩
    case rest =>
     rename World => w5
     obtain ⟨hs5, HB5⟩ := hcut
     subst hs5
     clear p0 p1 p2 p3 b2 HCE hmb
     have HM5 := hid (HM4.out.below HB5.out)
     have HKB5 := hid (HKB.out.below HB5.out hbx)
     have HT25 := hid (HT2.out.chg (T := fun _ => False) (fun z => z) (Chg.of_below _ HB5.out) (fun h => h))
     have HT35 := hid (HT3.out.chg (T := fun _ => False) (fun z => z) (Chg.of_below _ HB5.out) (fun h => h))
     have HOW5 := hid (HOW4.out.chg (T := fun _ => False) (fun z => z) (Chg.of_below _ HB5.out) (fun h => h))
     have HK65 := hid (HK64.out.below HB5.out (by omega))
     have HTG5 := hid (tag_below HTG4.out HB5.out)
     have HC5 := hid (HC4.out.trans (Chg.of_below _ HB5.out))
     have HBB5 : Hid (Below B w w5) := HBB4.out.trans (HB5.out.mono (by have := HBB4.out.size; omega))
     have hs5 : w4.heap.size <= w5.heap.size := HB5.out.size
     clear HM4 HKB HT2 HT3 HOW4 HK64 HTG4 HC4 HBB4 HB5
     by_cases hz : cz = 0
     .have hzb : (cz != 0) = false := by simp [hz]
      have HZ := hid hz
      obtain ⟨ps, hps, hho, hht⟩ := HM5.out.hi
      have b2 : w5.cell? ⟨bb, 2, none⟩ = some (.slice ha x.hs.length hc) := (HM5.out.bs 2 (by simp)).1
      obtain ⟨p0, p1, p2, p3⟩ := kc3 HKB5.out
      obtain ⟨i0, hi0, hz0, hz1, hz2⟩ := info_parts infoTI
      have hbA : Below w5.heap.size w5 ((w5.alloc (.cells #[.int .i64 t.bg, .int .i64 (x.ck + 1), .slice a2 (tabsT (readAt t.rs) 32).length c2, .slice a3 (tabsT (wroteAt t.own) 32).length c3] 131)).drew) := ((Below.refl w5.heap.size w5).alloc (Nat.le_refl _) _).drew
      have hkA : Chg (fun _ => False) w5 ((w5.alloc (.cells #[.int .i64 t.bg, .int .i64 (x.ck + 1), .slice a2 (tabsT (readAt t.rs) 32).length c2, .slice a3 (tabsT (wroteAt t.own) 32).length c3] 131)).drew) := Chg.of_below _ hbA
      have HMA := hid (HM5.out.below hbA)
      have HOA : Hid (((w5.alloc (.cells #[.int .i64 t.bg, .int .i64 (x.ck + 1), .slice a2 (tabsT (readAt t.rs) 32).length c2, .slice a3 (tabsT (wroteAt t.own) 32).length c3] 131)).drew).ownsRow B 131 4 (.slice ha x.hs.length hc) x.hs.length (ps.flatMap (fun p => [.int .i64 p.1.bgn, .int .i64 p.1.com, p.2.1, p.2.2]))) := own_below hho hbA
      have HON : Hid (∀ j u, ([.int .i64 t.bg, .int .i64 (x.ck + 1), .slice a2 (tabsT (readAt t.rs) 32).length c2, .slice a3 (tabsT (wroteAt t.own) 32).length c3] : List Value)[j]? = some u -> ((w5.alloc (.cells #[.int .i64 t.bg, .int .i64 (x.ck + 1), .slice a2 (tabsT (readAt t.rs) 32).length c2, .slice a3 (tabsT (wroteAt t.own) 32).length c3] 131)).drew).cell? ((⟨w5.heap.size, 0, none⟩ : Addr).add j) = some u) := (blk_new w5 [.int .i64 t.bg, .int .i64 (x.ck + 1), .slice a2 (tabsT (readAt t.rs) 32).length c2, .slice a3 (tabsT (wroteAt t.own) 32).length c3] 131).cells
      have HO1 : Hid (∀ u ∈ ([.int .i64 t.bg, .int .i64 (x.ck + 1), .slice a2 (tabsT (readAt t.rs) 32).length c2, .slice a3 (tabsT (wroteAt t.own) 32).length c3] : List Value), u.oneCell' = true) := hid (by intro u hu; simp at hu; rcases hu with rfl | rfl | rfl | rfl <;> rfl)
      have HGR := hid (fun (v8 : Value) (w8 : World) (ho : w8.ownsRow B 131 4 v8 (x.hs.length + 1) ((ps.flatMap (fun p => [.int .i64 p.1.bgn, .int .i64 p.1.com, p.2.1, p.2.2])) ++ [.int .i64 t.bg, .int .i64 (x.ck + 1), .slice a2 (tabsT (readAt t.rs) 32).length c2, .slice a3 (tabsT (wroteAt t.own) 32).length c3])) (hg : ((w5.alloc (.cells #[.int .i64 t.bg, .int .i64 (x.ck + 1), .slice a2 (tabsT (readAt t.rs) 32).length c2, .slice a3 (tabsT (wroteAt t.own) 32).length c3] 131)).drew).grownBy w8 (Value.slice ha x.hs.length hc).ownBlock) => Mem.hpush (c := (infoF t.bg (x.ck + 1) t.own t.rs)) HMA.out hps (fun p hp => ⟨(hht p hp).1.chg (fun z => z) hkA (fun h => h), (hht p hp).2.chg (fun z => z) hkA (fun h => h)⟩) HOA.out hg ho (HT25.out.chg (fun z => z) hkA (fun h => h)) (HT35.out.chg (fun z => z) hkA (fun h => h)))
      have HBW : Hid (∀ w8, ((w5.alloc (.cells #[.int .i64 t.bg, .int .i64 (x.ck + 1), .slice a2 (tabsT (readAt t.rs) 32).length c2, .slice a3 (tabsT (wroteAt t.own) 32).length c3] 131)).drew).grownBy w8 (Value.slice ha x.hs.length hc).ownBlock -> Below B w w8) := hid (fun w8 hg => Below.grown (HBB5.out.trans (hbA.mono (by have := HBB5.out.size; omega))) hg (Nat.le_trans (by have := HBB5.out.size; omega) hbA.size) (fun k hk => (HOA.out.lt k hk).1))
      have hsA : B <= ((w5.alloc (.cells #[.int .i64 t.bg, .int .i64 (x.ck + 1), .slice a2 (tabsT (readAt t.rs) 32).length c2, .slice a3 (tabsT (wroteAt t.own) 32).length c3] 131)).drew).heap.size := Nat.le_trans (by have := HBB5.out.size; omega) hbA.size
      have HCA := hid (HC5.out.trans (Chg.of_below _ hbA))
      have HOWA := hid (HOW5.out.chg (fun z => z) hkA (fun h => h))
      have HTGA := hid (tag_below HTG5.out hbA)
      have HK6A := hid (HK65.out.below hbA (by omega))
      have hhl : x.hs.length <= 1000 := HBN.out.hl
      have hbxw : bx < w5.heap.size := by omega
      have hbw5 : bb < w5.heap.size := by omega
      clear hz hps hho hht HM5 hkA hbA HT25 HT35 HKB5 HOW5 HTG5 HK65 HC5 HBB5
      go_wp2
      go_region_law (refine step_append_own rfl (.tmp 49) (.tmp 51) 25 rfl B 131 i0 _ 4 64 Tryz.underlying25 hi0 hz0 hz1 hz2 rfl (by decide) (.slice ha x.hs.length hc) x.hs.length (ps.flatMap (fun p => [.int .i64 p.1.bgn, .int .i64 p.1.com, p.2.1, p.2.2])) rfl HOA.out ⟨w5.heap.size, 0, none⟩ 1 1 [.int .i64 t.bg, .int .i64 (x.ck + 1), .slice a2 (tabsT (readAt t.rs) 32).length c2, .slice a3 (tabsT (wroteAt t.own) 32).length c3] rfl rfl HON.out HO1.out (by unfold maxLen; omega) (by omega) hsA ?_
                     intro v8 w8 hown hgrow hiff
                     clear hiff
                     have HG := hid (HGR.out v8 w8 hown hgrow)
                     have HBG := hid (HBW.out w8 hgrow)
                     obtain ⟨a8, c8, hv8⟩ := formR hown
                     subst hv8
                     obtain ⟨⟨-, -⟩, ⟨-, -⟩, ⟨m2, n2⟩⟩ := kb2 HG.out.2.2
                     clear hown hgrow HON HGR HBW)
      all_goals
       go_wp2_with (fail)
       go_meet
       case rel =>
        refine hid ⟨_, by rw [if_pos HMD.out]; exact HG.out.1, (HCA.out.mono (fun ty h z => by subst h; exact z.2.1 rfl)).trans (HG.out.2.1.mono imHs), HBG.out.setCell (p := ⟨bb, 2, none⟩) HMA.out.bB _, HOWA.out.chg (by decide) HG.out.2.1 (fun h => h), HK6A.out.chg HG.out.2.1 (by decide) HTGA.out, HG.out.2.1.tagk (by decide) HTGA.out, fun z => z.2 (by rw [HCZ.out]; exact HZ.out)⟩
     .have hzb : (cz != 0) = true := by simp [hz]
      have HF : Hid (CommitP B bb gx x i w (.returned (.tuple #[.int .i64 0, .int .i64 cz])) w5) := hid (by
       have : commitF x i = ({ x with tx := x.tx.set i tx0 }, 0, cz) := by
        unfold commitF
        simp only [HTD.out, HCB.out, HCZ.out]
        rw [if_neg (by decide), if_pos ⟨HMD.out, hz⟩]
       refine ⟨_, _, _, by rw [this], by rw [this]; exact HM5.out, HC5.out.keep (fun ty h z => by subst h; exact absurd rfl z.2.1), HBB5.out⟩)
      clear hz
      go_wp2
      refine bodyPost_ret (v := .tuple #[.int .i64 0, .int .i64 cz]) (by simp [results, Tryz.results40, go_sem]) rfl ?_
      exact HF.out
   .have hmb : (t.md == 2) = false := by simpa using hmd
    have HF : Hid (CmA B bb gx i x t w w4 (.slice ma x.cms.length mc) (vs.set i (.slice none 0 0, .slice none 0 0, .slice none 0 0)) (.slice oa t.own.length oc) [.bool true, .int .i64 t.md, .int .i64 t.bg, .slice oa t.own.length oc, .slice (some ⟨gr, 0, none⟩) 32 32, .slice sa t.sv.length sc]) := hid (⟨_, by rw [if_neg hmd]; exact HM4.out, HC4.out.mono (fun ty h z => by subst h; exact z.2.1 rfl), HBB4.out, HOW4.out, HK64.out, HTG4.out, fun z => hmd z.1⟩)
    clear hmd
    go_wp2
    go_meet
    case rel => exact HF
  case rest =>
   rename World => w6
   obtain ⟨hv', hM6, hC6, hBB6, hOW6, hK66, hTG6, hnot⟩ := hcut.out
   clear hcut HKB HT2 HT3 HM4 HOW4 HK64 HTG4 HC4 HBB4
   have b0 : w6.cell? ⟨bb, 0, none⟩ = some (.int .i64 x.ck) := (hM6.bs 0 (by simp)).1
   have d0 : w6.frozen? ⟨bb, 0, none⟩ = false := (hM6.bs 0 (by simp)).2
   have hs6 := hBB6.size
   obtain ⟨w7, hw7⟩ : ∃ z, z = w6.setCell ⟨bb, 0, none⟩ (.int .i64 (x.ck + 1)) := ⟨_, rfl⟩
   have P7 := hM6.clock (x.ck + 1)
   rw [<- hw7] at P7
   have HM7 := hid P7.1
   have HC7 := hid (hC6.trans (P7.2.mono (fun ty h z => by subst h; exact z.1 rfl)))
   have HBB7 : Hid (Below B w w7) := hid (by rw [hw7]; exact hBB6.setCell (p := ⟨bb, 0, none⟩) hM6.bB _)
   have HOW7 := hid (hOW6.chg (by decide) P7.2 (fun h => h))
   have HK67 := hid (hK66.chg P7.2 (by decide) hTG6)
   have HNOT := hid hnot
   have hbw7 : bb < w7.heap.size := tag_lt P7.1.bt
   have hww7 : w.heap.size < w7.heap.size := tag_lt (P7.2.tagk (by decide) hTG6)
   clear hM6 hC6 hBB6 hOW6 hK66 hTG6 hnot P7
   go_upto_region 12 with (fail)
   rw [<- hw7]
   clear hw7 b0 d0
   obtain ⟨b0, b1⟩ := kc1 HM7.out.bs
   have k3 : w7.cell? ⟨w.heap.size, 3, none⟩ = some (.slice oa t.own.length oc) := (HK67.out 3 (by simp)).1
   obtain ⟨qs, hqs, hho, hht⟩ := HM7.out.cm
   obtain ⟨i0, hi0, hz0, hz1, hz2⟩ := info_parts infoCm
   have hbA : Below w7.heap.size w7 ((w7.alloc (.cells #[.int .i64 (x.ck + 1), .slice oa t.own.length oc] 140)).drew) := ((Below.refl w7.heap.size w7).alloc (Nat.le_refl _) _).drew
   have hkA : Chg (fun _ => False) w7 ((w7.alloc (.cells #[.int .i64 (x.ck + 1), .slice oa t.own.length oc] 140)).drew) := Chg.of_below _ hbA
   have HMA := hid (HM7.out.below hbA)
   have HOA : Hid (((w7.alloc (.cells #[.int .i64 (x.ck + 1), .slice oa t.own.length oc] 140)).drew).ownsRow B 140 2 (.slice ma x.cms.length mc) x.cms.length (qs.flatMap (fun p => [.int .i64 p.1.st, p.2]))) := own_below hho hbA
   have HON : Hid (∀ j u, ([.int .i64 (x.ck + 1), .slice oa t.own.length oc] : List Value)[j]? = some u -> ((w7.alloc (.cells #[.int .i64 (x.ck + 1), .slice oa t.own.length oc] 140)).drew).cell? ((⟨w7.heap.size, 0, none⟩ : Addr).add j) = some u) := (blk_new w7 [.int .i64 (x.ck + 1), .slice oa t.own.length oc] 140).cells
   have HO1 : Hid (∀ u ∈ ([.int .i64 (x.ck + 1), .slice oa t.own.length oc] : List Value), u.oneCell' = true) := hid (by intro u hu; simp at hu; rcases hu with rfl | rfl <;> rfl)
   have HGR := hid (fun (v8 : Value) (w8 : World) (ho : w8.ownsRow B 140 2 v8 (x.cms.length + 1) ((qs.flatMap (fun p => [.int .i64 p.1.st, p.2])) ++ [.int .i64 (x.ck + 1), .slice oa t.own.length oc])) (hg : ((w7.alloc (.cells #[.int .i64 (x.ck + 1), .slice oa t.own.length oc] 140)).drew).grownBy w8 (Value.slice ma x.cms.length mc).ownBlock) => Mem.cpush (c := ⟨x.ck + 1, t.own⟩) HMA.out hqs (fun p hp => (hht p hp).chg (fun z => z) hkA (fun h => h)) HOA.out hg ho (HOW7.out.chg (fun z => z) hkA (fun h => h)))
   have HBW : Hid (∀ w8, ((w7.alloc (.cells #[.int .i64 (x.ck + 1), .slice oa t.own.length oc] 140)).drew).grownBy w8 (Value.slice ma x.cms.length mc).ownBlock -> Below B w w8) := hid (fun w8 hg => Below.grown (HBB7.out.trans (hbA.mono (by have := HBB7.out.size; omega))) hg (Nat.le_trans (by have := HBB7.out.size; omega) hbA.size) (fun k hk => (HOA.out.lt k hk).1))
   have hsA : B <= ((w7.alloc (.cells #[.int .i64 (x.ck + 1), .slice oa t.own.length oc] 140)).drew).heap.size := Nat.le_trans (by have := HBB7.out.size; omega) hbA.size
   have HCA := hid (HC7.out.trans (Chg.of_below _ hbA))
   have hcl : x.cms.length <= 1000 := HBN.out.cl
   clear hqs hho hht HM7 hkA hbA HOW7 HK67 HC7 HBB7
   go_region_law (refine step_append_own rfl (.tmp 66) (.tmp 74) 63 rfl B 140 i0 _ 2 32 Tryz.underlying63 hi0 hz0 hz1 hz2 rfl (by decide) (.slice ma x.cms.length mc) x.cms.length (qs.flatMap (fun p => [.int .i64 p.1.st, p.2])) rfl HOA.out ⟨w7.heap.size, 0, none⟩ 1 1 [.int .i64 (x.ck + 1), .slice oa t.own.length oc] rfl rfl HON.out HO1.out (by unfold maxLen; omega) (by omega) hsA ?_
                  intro v8 w8 hown hgrow hiff
                  clear hiff
                  have HG := hid (HGR.out v8 w8 hown hgrow)
                  have HBG := hid (HBW.out w8 hgrow)
                  obtain ⟨a8, c8, hv8⟩ := formR hown
                  subst hv8
                  obtain ⟨⟨m0, -⟩, ⟨m1, n1⟩⟩ := kb1 HG.out.2.2
                  clear hown hgrow HON HGR HBW)
   all_goals
    clear b0 b1 k3
    go_wp2
    refine bodyPost_ret (v := .tuple #[.int .i64 (x.ck + 1), .int .i64 0]) (by simp [results, Tryz.results40, go_sem]) rfl ?_
    have : commitF x i = ({ x with tx := x.tx.set i tx0, ck := x.ck + 1, cms := x.cms ++ [⟨x.ck + 1, t.own⟩], hs := if t.md = 2 then x.hs ++ [(infoF t.bg (x.ck + 1) t.own t.rs)] else x.hs }, x.ck + 1, 0) := by
     unfold commitF
     simp only [HTD.out, HCB.out]
     rw [if_neg (by decide), if_neg HNOT.out]
    refine ⟨_, _, _, by rw [this], by rw [this]; exact HG.out.1, (HCA.out.trans (HG.out.2.1.mono imCm)).keep (fun ty h => h), HBG.out.setCell (p := ⟨bb, 1, none⟩) HMA.out.bB _⟩
def rd0 : List Bool := List.replicate 32 false
noncomputable def runF (x : Bas) (o : Opn) : Bas × Obn :=
 if o.kd < 1 \/ 10 < o.kd \/ o.ss < 1 \/ 4 < o.ss then (x, ⟨1, 0, 0, false, []⟩)
 else
  let i := (o.ss - 1).toNat
  let t := x.tx.getD i tx0
  if (o.kd == 1) = t.op then (x, ⟨22, 0, 0, false, []⟩)
  else if (2 <= o.kd /\ o.kd <= 5) /\ (o.tb < 0 \/ 32 <= o.tb) then (x, ⟨6, 0, 0, false, []⟩)
  else if o.kd = 1 then
   (if o.md ≠ 1 /\ o.md ≠ 2 then (x, ⟨1, 0, 0, false, []⟩)
    else ({ x with tx := x.tx.set i ⟨true, o.md, x.ck, [], rd0, []⟩ }, ⟨0, 0, x.ck, false, []⟩))
  else if o.kd = 2 then
   ({ x with tx := x.tx.set i { t with rs := t.rs.set o.tb.toNat true } },
    (if (seesF x.cms t.bg t.own o.tb o.ky).2 then ⟨0, (seesF x.cms t.bg t.own o.tb o.ky).1, 0, true, []⟩ else ⟨0, 0, 0, false, []⟩))
  else if o.kd = 3 then
   ({ x with tx := x.tx.set i { t with rs := t.rs.set o.tb.toNat true } }, ⟨0, 0, 0, false, listF x.cms t.bg t.own o.tb⟩)
  else if o.kd <= 5 then ({ x with tx := x.tx.set i { t with own := t.own ++ [⟨o.tb, o.ky, o.vl, decide (o.kd = 5)⟩] } }, ⟨0, 0, 0, false, []⟩)
  else if o.kd = 6 then ((commitF x i).1, ⟨(commitF x i).2.2, 0, (commitF x i).2.1, false, []⟩)
  else if o.kd = 7 then ({ x with tx := x.tx.set i tx0 }, ⟨0, 0, 0, false, []⟩)
  else ((savesF x i o).1, ⟨(savesF x i o).2, 0, 0, false, []⟩)
def RunP (B bb gx : Nat) (w : World) (r : Bas × Obn) (e : Ending) (w' : World) : Prop := ∃ cv hv vs pv, e = .returned (.agg #[.int .i64 r.2.code, .int .i64 r.2.vl, .int .i64 r.2.st, .bool r.2.fd, pv]) /\ Gr pairV 92 2 w.heap.size w' pv r.2.ps /\ Mem B bb gx w' r.1 cv hv vs /\ Keep w w' /\ Below B w w'
theorem Mem.chg {T : Nat -> Prop} {B bb gx : Nat} {w w' : World} {x : Bas} {cv hv : Value} {vs : List (Value × Value × Value)} (h : Mem B bb gx w x cv hv vs) (hk : Chg T w w') (hT : ∀ ty, T ty -> ty = 38 \/ ty = 92) : Mem B bb gx w' x cv hv vs := by
 have hn : ∀ ty, ty ≠ 38 -> ty ≠ 92 -> ¬ T ty := fun ty h1 h2 z => by
  rcases hT ty z with h | h
  .exact h1 h
  .exact h2 h
 exact ⟨h.n, h.m, h.bs.chg hk (hn _ (by decide) (by decide)) h.bt, hk.tagk (hn _ (by decide) (by decide)) h.bt, h.bB, h.xs.chg hk (hn _ (by decide) (by decide)) h.xt, hk.tagk (hn _ (by decide) (by decide)) h.xt, h.xB, fun i hi hi' => (h.tm i hi hi').chg hk (hn _ (by decide) (by decide)) (hn _ (by decide) (by decide)) (hn _ (by decide) (by decide)), h.ds, h.cm.chg hk (hn _ (by decide) (by decide)) (hn _ (by decide) (by decide)), h.hi.chg hk (hn _ (by decide) (by decide)) (hn _ (by decide) (by decide))⟩
theorem Keep.newset {w w' : World} {c j : Nat} {u : Value} (h : Keep w w') (hc : w.heap.size <= c) : Keep w (w'.setCell ⟨c, j, none⟩ u) := ⟨by simpa using h.1, fun g ty hi ht => by
 have hl := tag_lt ht
 rw [heap_setCell_other w' _ g u (fun e => by have e2 : g = c := e; omega)]
 exact h.2 g ty hi ht⟩
def set5 (w : World) (g : Nat) (a b c d e : Value) : World := ((((w.setCell ⟨g, 0, none⟩ a).setCell ⟨g, 1, none⟩ b).setCell ⟨g, 2, none⟩ c).setCell ⟨g, 3, none⟩ d).setCell ⟨g, 4, none⟩ e
theorem chg_set5 {w : World} {g : Nat} (a b c d e : Value) (ht : tag w g 38) : Chg (fun ty => ty = 38) w (set5 w g a b c d e) :=
 ((((Chg.set (T := fun ty => ty = 38) a rfl ht).trans (Chg.set b rfl (tag_set _ ht))).trans (Chg.set c rfl (tag_set _ (tag_set _ ht)))).trans (Chg.set d rfl (tag_set _ (tag_set _ (tag_set _ ht))))).trans (Chg.set e rfl (tag_set _ (tag_set _ (tag_set _ (tag_set _ ht)))))
theorem run_fin {B bb gx q : Nat} {w wx : World} {r : Bas × Obn} {cv hv pv : Value} {vs : List (Value × Value × Value)} (hM : Mem B bb gx wx r.1 cv hv vs) (hK : Keep w wx) (hB : Below B w wx) (hBw : B <= w.heap.size) (hq : w.heap.size <= q) (ht : tag wx q 38) (hG : Gr pairV 92 2 w.heap.size wx pv r.2.ps) :
 RunP B bb gx w r (.returned (.agg #[.int .i64 r.2.code, .int .i64 r.2.vl, .int .i64 r.2.st, .bool r.2.fd, pv])) (set5 wx q (.int .i64 r.2.code) (.int .i64 r.2.vl) (.int .i64 r.2.st) (.bool r.2.fd) pv) := by
 have hk := chg_set5 (.int .i64 r.2.code) (.int .i64 r.2.vl) (.int .i64 r.2.st) (.bool r.2.fd) pv ht
 refine ⟨cv, hv, vs, pv, rfl, own_chg hG hk (by decide), hM.chg hk (fun ty h => .inl h), ?_, ?_⟩
 .unfold set5
  exact ((((hK.newset hq).newset hq).newset hq).newset hq).newset hq
 .unfold set5
  have h2 : B <= q := by omega
  exact ((((hB.setCell (p := ⟨q, 0, none⟩) h2 _).setCell (p := ⟨q, 1, none⟩) h2 _).setCell (p := ⟨q, 2, none⟩) h2 _).setCell (p := ⟨q, 3, none⟩) h2 _).setCell (p := ⟨q, 4, none⟩) h2 _
theorem gr_nil {α : Type} (f : α -> List Value) (ty k b : Nat) (w : World) : Gr f ty k b w (.slice none 0 0) ([] : List α) := by
 unfold Gr
 exact World.ownsRow_nil _ _ _ _
structure Pre (w W : World) (a b c d : List Value) (ta tb tc td : Nat) : Prop where
 be : Below w.heap.size w W
 sz : W.heap.size = w.heap.size + 1 + 1 + 1 + 1
 ka : Blk W w.heap.size a
 kb : Blk W (w.heap.size + 1) b
 kc : Blk W (w.heap.size + 1 + 1) c
 kd : Blk W (w.heap.size + 1 + 1 + 1) d
 ga : tag W w.heap.size ta
 gb : tag W (w.heap.size + 1) tb
 gc : tag W (w.heap.size + 1 + 1) tc
 gd : tag W (w.heap.size + 1 + 1 + 1) td
theorem pre4 (w : World) (a b c d : List Value) (ta tb tc td : Nat) : Pre w ((((w.alloc (.cells a.toArray ta)).alloc (.cells b.toArray tb)).alloc (.cells c.toArray tc)).alloc (.cells d.toArray td)) a b c d ta tb tc td := by
 have e1 : (w.alloc (.cells a.toArray ta)).heap.size = w.heap.size + 1 := by simp
 have e2 : ((w.alloc (.cells a.toArray ta)).alloc (.cells b.toArray tb)).heap.size = w.heap.size + 1 + 1 := by simp
 have e3 : (((w.alloc (.cells a.toArray ta)).alloc (.cells b.toArray tb)).alloc (.cells c.toArray tc)).heap.size = w.heap.size + 1 + 1 + 1 := by simp
 have k1 := blk_new (w.alloc (.cells a.toArray ta)) b tb
 have k2 := blk_new ((w.alloc (.cells a.toArray ta)).alloc (.cells b.toArray tb)) c tc
 have k3 := blk_new (((w.alloc (.cells a.toArray ta)).alloc (.cells b.toArray tb)).alloc (.cells c.toArray tc)) d td
 have g1 := tag_new (w.alloc (.cells a.toArray ta)) b tb
 have g2 := tag_new ((w.alloc (.cells a.toArray ta)).alloc (.cells b.toArray tb)) c tc
 have g3 := tag_new (((w.alloc (.cells a.toArray ta)).alloc (.cells b.toArray tb)).alloc (.cells c.toArray tc)) d td
 rw [e1] at k1 g1
 rw [e2] at k2 g2
 rw [e3] at k3 g3
 refine ⟨(((below_alloc w _).alloc (by simp) _).alloc (by simp; omega) _).alloc (by simp; omega) _, by simp, ?_, ?_, ?_, k3, ?_, ?_, ?_, g3⟩
 .exact (((blk_new w a ta).below (below_alloc _ _) (by simp)).below (below_alloc _ _) (by simp; omega)).below (below_alloc _ _) (by simp; omega)
 .exact (k1.below (below_alloc _ _) (by simp)).below (below_alloc _ _) (by simp)
 .exact k2.below (below_alloc _ _) (by simp)
 .exact tag_below (tag_below (tag_below (tag_new w a ta) (below_alloc _ _)) (below_alloc _ _)) (below_alloc _ _)
 .exact tag_below (tag_below g1 (below_alloc _ _)) (below_alloc _ _)
 .exact tag_below g2 (below_alloc _ _)
theorem pre5 (w : World) (kd ss tb ky vl md : Int) (nm : ByteArray) (op : Bool) (tm tg : Int) (u v r : Value) : ∃ W1, W1 = ((((w.alloc (.cells #[.int .i64 kd, .int .i64 ss, .int .i64 tb, .int .i64 ky, .int .i64 vl, .int .i64 md, .string nm] 41)).alloc (.cells #[.int .i64 0, .int .i64 0, .int .i64 0, .bool false, .slice none 0 0] 38)).alloc (.cells #[.bool op, .int .i64 tm, .int .i64 tg, u, v, r] 70)).alloc (.cells #[.int .i64 0, .int .i64 0, .int .i64 0, .bool false, .slice none 0 0] 38)) /\ Hid (Pre w W1 [.int .i64 kd, .int .i64 ss, .int .i64 tb, .int .i64 ky, .int .i64 vl, .int .i64 md, .string nm] [.int .i64 0, .int .i64 0, .int .i64 0, .bool false, .slice none 0 0] [.bool op, .int .i64 tm, .int .i64 tg, u, v, r] [.int .i64 0, .int .i64 0, .int .i64 0, .bool false, .slice none 0 0] 41 38 70 38) := ⟨_, rfl, hid (pre4 w [.int .i64 kd, .int .i64 ss, .int .i64 tb, .int .i64 ky, .int .i64 vl, .int .i64 md, .string nm] [.int .i64 0, .int .i64 0, .int .i64 0, .bool false, .slice none 0 0] [.bool op, .int .i64 tm, .int .i64 tg, u, v, r] [.int .i64 0, .int .i64 0, .int .i64 0, .bool false, .slice none 0 0] 41 38 70 38)⟩
theorem iok {i : Nat} (hi : i < 4) : (i : Int) < 4 /\ ¬ ((i : Int) + 1 < 1) /\ ¬ (4 < (i : Int) + 1) /\ IntKind.i64.wrap ((i : Int) + 1 - 1) = i := ⟨by omega, by omega, by omega, by simp only [IntKind.wrap_i64, wrap64]; omega⟩
theorem Mem.opn {B bb gx i : Nat} {w : World} {x : Bas} {cv hv : Value} {vs : List (Value × Value × Value)} (hM : Mem B bb gx w x cv hv vs) (hi : i < 4) (hop : (x.tx.getD i tx0).op = true) : ∃ t gr oa oc sa sc ma mc ha hc, cv = .slice ma x.cms.length mc /\ hv = .slice ha x.hs.length hc /\ x.tx[i]? = some t /\ vs[i]? = some (.slice oa t.own.length oc, .slice (some ⟨gr, 0, none⟩) 32 32, .slice sa t.sv.length sc) /\ TxM B w t (.slice oa t.own.length oc, .slice (some ⟨gr, 0, none⟩) 32 32, .slice sa t.sv.length sc) /\ (∀ j, j < 6 -> w.cell? ⟨gx, i * 6 + j, none⟩ = (txV t (.slice oa t.own.length oc, .slice (some ⟨gr, 0, none⟩) 32 32, .slice sa t.sv.length sc))[j]? /\ w.frozen? ⟨gx, i * 6 + j, none⟩ = false) /\ x.tx.getD i tx0 = t /\ t ∈ x.tx /\ t.op = true /\ t.rs.length = 32 /\ B <= gr /\ tag w gr 4 /\ Blk w gr (t.rs.map Value.bool) /\ w.cell? ⟨gx, i * 6, none⟩ = some (.bool true) /\ w.cell? ⟨gx, i * 6 + 1, none⟩ = some (.int .i64 t.md) /\ w.cell? ⟨gx, i * 6 + 2, none⟩ = some (.int .i64 t.bg) /\ w.cell? ⟨gx, i * 6 + 3, none⟩ = some (.slice oa t.own.length oc) /\ w.cell? ⟨gx, i * 6 + 4, none⟩ = some (.slice (some ⟨gr, 0, none⟩) 32 32) /\ w.cell? ⟨gx, i * 6 + 5, none⟩ = some (.slice sa t.sv.length sc) /\ w.cell? ⟨bb, 3, none⟩ = some (.slice (some ⟨gx, 0, none⟩) 4 4) /\ gx < w.heap.size /\ bb < w.heap.size := by
 obtain ⟨t, ⟨ov, rv, sv⟩, htx, hvx, hTM, hcell⟩ := hM.at hi
 have htD : x.tx.getD i tx0 = t := by rw [List.getD_eq_getElem?_getD, htx]; rfl
 rw [htD] at hop
 obtain ⟨hrl, gr, hrv, hgB, hgt, hgb⟩ := hTM.rd hop
 simp only at hrv
 subst hrv
 obtain ⟨oa, oc, hov⟩ := hTM.ow.form
 simp only at hov
 subst hov
 obtain ⟨sa, sc, hsv⟩ := hTM.sa.form
 simp only at hsv
 subst hsv
 obtain ⟨ma, mc, hcv⟩ : ∃ a c, cv = .slice a x.cms.length c := by obtain ⟨ps, _, ho, _⟩ := hM.cm; exact formR ho
 obtain ⟨ha, hc, hhv⟩ : ∃ a c, hv = .slice a x.hs.length c := by obtain ⟨ps, _, ho, _⟩ := hM.hi; exact formR ho
 exact ⟨t, gr, oa, oc, sa, sc, ma, mc, ha, hc, hcv, hhv, htx, hvx, hTM, hcell, htD, List.mem_of_getElem? htx, hop, hrl, hgB, hgt, hgb, (hcell 0 (by omega)).1.trans (by show some (Value.bool t.op) = _; rw [hop]), (hcell 1 (by omega)).1, (hcell 2 (by omega)).1, (hcell 3 (by omega)).1, (hcell 4 (by omega)).1, (hcell 5 (by omega)).1, (hM.bs 3 (by simp)).1, tag_lt hM.xt, tag_lt hM.bt⟩
end Go.Proofs.YtblkgicbimflhaaGreat
