import Derived.Test.YtblkgicbimflhaaGreatQAD
import Derived.Test.YtblkgicbimflhaaGreatQAA
import Derived.Test.YtblkgicbimflhaaGreatQAB
import Derived.Lib.AppendZerosOnto
import Derived.BigQuiet
import Derived.Deep.QuietTactic
namespace Go.Proofs.YtblkgicbimflhaaGreat
open Go.ChangeShapes Go.WideShapes Go.ChangeAt Go.RowKit
set_option linter.unusedVariables false
set_option linter.unusedSimpArgs false
set_option maxRecDepth 100000
set_option maxHeartbeats 16000000
theorem infoCm : (Tryz.prog.info? 140).map (fun i => (i.zero, i.size, i.bytes)) = some (some (.agg #[.int .i64 0, .slice none 0 0]), 2, 32) := by kernel_rfl
theorem infoTI : (Tryz.prog.info? 131).map (fun i => (i.zero, i.size, i.bytes)) = some (some (.agg #[.int .i64 0, .int .i64 0, .slice none 0 0, .slice none 0 0]), 4, 64) := by kernel_rfl
theorem TL.form {α : Type} {ty k : Nat} {C : Nat -> World -> List Value -> α -> Prop} {w : World} {v : Value} {xs : List α} (h : TL ty k C w v xs) : ∃ a c, v = .slice a xs.length c := by
 obtain ⟨⟨a, c, he, _⟩, _⟩ := h
 exact ⟨a, c, he⟩
theorem XT.chg {T : Nat -> Prop} {w w' : World} {g ty : Nat} {tv : List (List Value)} (h : XT w g tv) (hk : Chg T w w') (hi : ¬ T ty) (ht : tag w g ty) : XT w' g tv := ⟨h.1, h.2.chg hk hi ht⟩
theorem IGr.tl {b : Nat} {w : World} {v : Value} {xs : List Int} (h : IGr b w v xs) : TL 3 1 CI w v xs := by
 refine ⟨?_, fun g o n c hv hp => own_tag h (by rw [hv]; rfl)⟩
 have key : ∀ ys : List Int, Fill 1 CI 0 ys ys.length (ys.map (Value.int .i64)) w := by
  intro ys
  induction ys with
  | nil => exact fill_nil _ _ _ _
  | cons x r ih =>
    have h1 : Fill 1 CI 0 [x] 1 [.int .i64 x] w := fill_one liesI rfl
    exact h1.append ih
 exact (key xs).own liesI (own_base0 h) (Nat.le_refl _)
theorem Mem.hpush {B bb gx : Nat} {w w' : World} {x : Bas} {cv hv v' : Value} {vs : List (Value × Value × Value)} {ps : List (TI × Value × Value)} {c : TI} {rv wv : Value} (h : Mem B bb gx w x cv hv vs) (e : ps.map Prod.fst = x.hs) (ht : ∀ p ∈ ps, TL 3 1 CI w p.2.1 p.1.reads /\ TL 3 1 CI w p.2.2 p.1.writes) (hw : w.ownsRow B 131 4 hv x.hs.length (ps.flatMap (fun p => [.int .i64 p.1.bgn, .int .i64 p.1.com, p.2.1, p.2.2])))
 (hg : w.grownBy w' hv.ownBlock) (ho : w'.ownsRow B 131 4 v' (x.hs.length + 1) (ps.flatMap (fun p => [.int .i64 p.1.bgn, .int .i64 p.1.com, p.2.1, p.2.2]) ++ [.int .i64 c.bgn, .int .i64 c.com, rv, wv])) (h1 : TL 3 1 CI w rv c.reads) (h2 : TL 3 1 CI w wv c.writes) :
 Mem B bb gx (w'.setCell ⟨bb, 2, none⟩ v') { x with hs := x.hs ++ [c] } cv v' vs /\ Chg (fun ty => ty = 131 \/ ty = 65) w (w'.setCell ⟨bb, 2, none⟩ v') /\ Blk w' bb [.int .i64 x.ck, cv, hv, .slice (some ⟨gx, 0, none⟩) 4 4] := by
 have hk1 : Chg (fun ty => ty = 131) w w' := Chg.grown hg (fun g hg => ⟨_, rfl, own_tag hw hg⟩)
 have hbt : tag w' bb 65 := hk1.tagk (by decide) h.bt
 have hk2 : Chg (fun ty => ty = 65) w' (w'.setCell ⟨bb, 2, none⟩ v') := Chg.set v' rfl hbt
 refine ⟨⟨h.n, h.m, (h.bs.chg hk1 (by decide) h.bt).set 2 v', tag_set _ hbt, h.bB, (h.xs.chg hk1 (by decide) h.xt).chg hk2 (by decide) (hk1.tagk (by decide) h.xt), hk2.tagk (by decide) (hk1.tagk (by decide) h.xt), h.xB, fun i hi hi' => ((h.tm i hi hi').chg hk1 (by decide) (by decide) (by decide)).chg hk2 (by decide) (by decide) (by decide), h.ds, (h.cm.chg hk1 (by decide) (by decide)).chg hk2 (by decide) (by decide), ?_⟩, (hk1.mono (fun _ z => .inl z)).trans (hk2.mono (fun _ z => .inr z)), h.bs.chg hk1 (by decide) h.bt⟩
 exact (HsR.push e ho (fun p hp => ⟨(ht p hp).1.chg (by decide) hk1 (fun h => h), (ht p hp).2.chg (by decide) hk1 (fun h => h)⟩) (h1.chg (by decide) hk1 (fun h => h)) (h2.chg (by decide) hk1 (fun h => h))).chg hk2 (by decide) (by decide)
theorem Mem.cpush {B bb gx : Nat} {w w' : World} {x : Bas} {cv hv v' : Value} {vs : List (Value × Value × Value)} {ps : List (Com × Value)} {c : Com} {rv : Value} (h : Mem B bb gx w x cv hv vs) (e : ps.map Prod.fst = x.cms) (ht : ∀ p ∈ ps, TL 106 4 CC w p.2 p.1.cs) (hw : w.ownsRow B 140 2 cv x.cms.length (ps.flatMap (fun p => [.int .i64 p.1.st, p.2])))
 (hg : w.grownBy w' cv.ownBlock) (ho : w'.ownsRow B 140 2 v' (x.cms.length + 1) (ps.flatMap (fun p => [.int .i64 p.1.st, p.2]) ++ [.int .i64 c.st, rv])) (h1 : TL 106 4 CC w rv c.cs) :
 Mem B bb gx (w'.setCell ⟨bb, 1, none⟩ v') { x with cms := x.cms ++ [c] } v' hv vs /\ Chg (fun ty => ty = 140 \/ ty = 65) w (w'.setCell ⟨bb, 1, none⟩ v') /\ Blk w' bb [.int .i64 x.ck, cv, hv, .slice (some ⟨gx, 0, none⟩) 4 4] := by
 have hk1 : Chg (fun ty => ty = 140) w w' := Chg.grown hg (fun g hg => ⟨_, rfl, own_tag hw hg⟩)
 have hbt : tag w' bb 65 := hk1.tagk (by decide) h.bt
 have hk2 : Chg (fun ty => ty = 65) w' (w'.setCell ⟨bb, 1, none⟩ v') := Chg.set v' rfl hbt
 refine ⟨⟨h.n, h.m, (h.bs.chg hk1 (by decide) h.bt).set 1 v', tag_set _ hbt, h.bB, (h.xs.chg hk1 (by decide) h.xt).chg hk2 (by decide) (hk1.tagk (by decide) h.xt), hk2.tagk (by decide) (hk1.tagk (by decide) h.xt), h.xB, fun i hi hi' => ((h.tm i hi hi').chg hk1 (by decide) (by decide) (by decide)).chg hk2 (by decide) (by decide) (by decide), h.ds, ?_, (h.hi.chg hk1 (by decide) (by decide)).chg hk2 (by decide) (by decide)⟩, (hk1.mono (fun _ z => .inl z)).trans (hk2.mono (fun _ z => .inr z)), h.bs.chg hk1 (by decide) h.bt⟩
 exact (CmR.push e ho (fun p hp => (ht p hp).chg (by decide) hk1 (fun h => h)) (h1.chg (by decide) hk1 (fun h => h))).chg hk2 (by decide) (by decide)
theorem Mem.clock {B bb gx : Nat} {w : World} {x : Bas} {cv hv : Value} {vs : List (Value × Value × Value)} (h : Mem B bb gx w x cv hv vs) (k : Int) :
 Mem B bb gx (w.setCell ⟨bb, 0, none⟩ (.int .i64 k)) { x with ck := k } cv hv vs /\ Chg (fun ty => ty = 65) w (w.setCell ⟨bb, 0, none⟩ (.int .i64 k)) := by
 have hk2 : Chg (fun ty => ty = 65) w (w.setCell ⟨bb, 0, none⟩ (.int .i64 k)) := Chg.set _ rfl h.bt
 exact ⟨⟨h.n, h.m, h.bs.set 0 (.int .i64 k), tag_set _ h.bt, h.bB, h.xs.chg hk2 (by decide) h.xt, hk2.tagk (by decide) h.xt, h.xB, fun i hi hi' => (h.tm i hi hi').chg hk2 (by decide) (by decide) (by decide), h.ds, h.cm.chg hk2 (by decide) (by decide), h.hi.chg hk2 (by decide) (by decide)⟩, hk2⟩
theorem tag_new (w : World) (cs : List Value) (ty : Nat) : tag (w.alloc (.cells cs.toArray ty)) w.heap.size ty := ⟨cs.toArray, _, (by exact Array.getElem?_push_size : (w.heap.push (.cells cs.toArray ty))[w.heap.size]? = some (.cells cs.toArray ty))⟩
def InfB (w3 wx : World) (bg st : Int) (rs ws : List Int) (s : Value) : Prop := ∃ (bx : Nat) (a2 : Option Addr) (c2 : Nat) (a3 : Option Addr) (c3 : Nat), s = .pointer (some ⟨bx, 0, none⟩) /\ Blk wx bx [.int .i64 bg, .int .i64 st, .slice a2 rs.length c2, .slice a3 ws.length c3] /\ TL 3 1 CI wx (.slice a2 rs.length c2) rs /\ TL 3 1 CI wx (.slice a3 ws.length c3) ws /\ Below w3.heap.size w3 wx /\ bx < wx.heap.size /\ w3.heap.size <= bx
theorem boxA {w3 w4 : World} {bg st : Int} {rs ws : List Int} {a2 a3 : Option Addr} {c2 c3 : Nat} (hb : Below w3.drew.heap.size w3.drew w4) (h2 : TL 3 1 CI w4 (.slice a2 rs.length c2) rs) (h3 : TL 3 1 CI w4 (.slice a3 ws.length c3) ws) : InfB w3 (w4.alloc (.cells #[.int .i64 bg, .int .i64 st, .slice a2 rs.length c2, .slice a3 ws.length c3] 131)) bg st rs ws (.pointer (some ⟨w4.heap.size, 0, none⟩)) := by
 have hk : Chg (fun _ => False) w4 (w4.alloc (.cells #[.int .i64 bg, .int .i64 st, .slice a2 rs.length c2, .slice a3 ws.length c3] 131)) := Chg.of_below _ (below_alloc _ _)
 have hb' : Below w3.heap.size w3 w4 := (Below.refl w3.heap.size w3).drew.trans hb
 have hs := hb'.size
 exact ⟨_, a2, c2, a3, c3, rfl, blk_new w4 _ _, h2.chg (fun z => z) hk (fun h => h), h3.chg (fun z => z) hk (fun h => h), hb'.alloc hs _, by simp, hs⟩
theorem boxB {w3 w4 : World} {bg st : Int} {rs ws : List Int} {a2 a3 : Option Addr} {c2 c3 : Nat} (hb0 : Below (w3.alloc (.cells #[.int .i64 0, .int .i64 0, .slice none 0 0, .slice none 0 0] 131)).drew.heap.size (w3.alloc (.cells #[.int .i64 0, .int .i64 0, .slice none 0 0, .slice none 0 0] 131)).drew w4) (h2 : TL 3 1 CI w4 (.slice a2 rs.length c2) rs) (h3 : TL 3 1 CI w4 (.slice a3 ws.length c3) ws) : InfB w3 ((((w4.setCell ⟨w3.heap.size, 0, none⟩ (.int .i64 bg)).setCell ⟨w3.heap.size, 1, none⟩ (.int .i64 st)).setCell ⟨w3.heap.size, 2, none⟩ (.slice a2 rs.length c2)).setCell ⟨w3.heap.size, 3, none⟩ (.slice a3 ws.length c3)) bg st rs ws (.pointer (some ⟨w3.heap.size, 0, none⟩)) := by
 have hb : Below (w3.drew.alloc (.cells #[.int .i64 0, .int .i64 0, .slice none 0 0, .slice none 0 0] 131)).heap.size (w3.drew.alloc (.cells #[.int .i64 0, .int .i64 0, .slice none 0 0, .slice none 0 0] 131)) w4 := hb0
 clear hb0
 have hz := (blk_new w3.drew [.int .i64 0, .int .i64 0, .slice none 0 0, .slice none 0 0] 131).below hb (by simp)
 have ht0 : tag (w3.drew.alloc (.cells #[.int .i64 0, .int .i64 0, .slice none 0 0, .slice none 0 0] 131)) w3.heap.size 131 := tag_new w3.drew [.int .i64 0, .int .i64 0, .slice none 0 0, .slice none 0 0] 131
 have ht := tag_below ht0 hb
 have hk : Chg (fun ty => ty = 131) w4 ((((w4.setCell ⟨w3.heap.size, 0, none⟩ (.int .i64 bg)).setCell ⟨w3.heap.size, 1, none⟩ (.int .i64 st)).setCell ⟨w3.heap.size, 2, none⟩ (.slice a2 rs.length c2)).setCell ⟨w3.heap.size, 3, none⟩ (.slice a3 ws.length c3)) := (((Chg.set (T := fun ty => ty = 131) _ rfl ht).trans (Chg.set _ rfl (tag_set _ ht))).trans (Chg.set _ rfl (tag_set _ (tag_set _ ht)))).trans (Chg.set _ rfl (tag_set _ (tag_set _ (tag_set _ ht))))
 have hb0 : Below w3.heap.size w3 (w3.drew.alloc (.cells #[.int .i64 0, .int .i64 0, .slice none 0 0, .slice none 0 0] 131)) := ((Below.refl w3.heap.size w3).drew).alloc (Nat.le_refl _) _
 have hb' : Below w3.heap.size w3 w4 := hb0.trans (hb.mono hb0.size)
 have hs := hb.size
 have e : w3.heap.size < w4.heap.size := tag_lt ht
 refine ⟨_, a2, c2, a3, c3, rfl, (((hz.set 0 (.int .i64 bg)).set 1 (.int .i64 st)).set 2 (.slice a2 rs.length c2)).set 3 (.slice a3 ws.length c3), h2.chg (by decide) hk (fun h => h), h3.chg (by decide) hk (fun h => h), ?_, by simpa using e, Nat.le_refl _⟩
 exact (((hb'.setCell (p := ⟨w3.heap.size, 0, none⟩) (Nat.le_refl _) _).setCell (p := ⟨w3.heap.size, 1, none⟩) (Nat.le_refl _) _).setCell (p := ⟨w3.heap.size, 2, none⟩) (Nat.le_refl _) _).setCell (p := ⟨w3.heap.size, 3, none⟩) (Nat.le_refl _) _
theorem grow_impl (n : Nat) (w : World) (h1 : 1 <= n) (hn : n <= 1048577) :
 Calls Tryz.prog 110 #[.slice none 0 0, .int .i64 (n : Int)] w fun e w' => ∃ v, e = .returned v /\ w'.ownsRow w.heap.size 131 4 v 0 [] /\ Below w.heap.size w w' := by
 obtain ⟨i0, hi, hz0, hz1, hz2⟩ := info_parts infoTI
 have hrz : ∀ ty, (Builtin.append_ #[25, 3] ty #[.slice none 0 0, .int .i64 (n : Int)]).run Tryz.prog w =
  .ok (.slice (some ⟨w.heap.size, 0, none⟩) n (grownCap w n 0 131)) (w.drew.alloc (.cells (([] : List Value).toArray ++ Builtin.zeroCells (Value.agg #[.int .i64 0, .int .i64 0, .slice none 0 0, .slice none 0 0]).cells n ++ Builtin.zeroCells (Value.agg #[.int .i64 0, .int .i64 0, .slice none 0 0, .slice none 0 0]).cells (grownCap w n 0 131 - n)) 131)) := fun ty => by
  have h := Lib.run_append_grow_zeros (P := Tryz.prog) w 25 3 ty 131 i0 _ .i64 .i64 Tryz.underlying25 Tryz.underlying3 hi hz0 none 0 0 [] (run_firstCells_none (w := w.drew) _ 0 0 0) n (by omega) (by rw [hz1]; decide) (by omega) (by omega) (by rw [hz2]; omega)
   (growslice_fits (by omega) (by rw [hz2]; omega))
  simp only [Nat.zero_add] at h
  exact h
 have hGn : n <= grownCap w n 0 131 := grownCap_ge w _ _ _
 have hGm := grownCap_le_maxLen w n 0 131 (by unfold maxLen; omega)
 obtain ⟨G, hG⟩ : ∃ G, G = grownCap w n 0 131 := ⟨_, rfl⟩
 rw [<- hG] at hrz hGn hGm
 have HGM := hid hGm
 unfold maxLen at hGm
 obtain ⟨cur, hcur⟩ : ∃ cur, cur = (([] : List Value).toArray ++ Builtin.zeroCells (Value.agg #[.int .i64 0, .int .i64 0, .slice none 0 0, .slice none 0 0]).cells n ++ Builtin.zeroCells (Value.agg #[.int .i64 0, .int .i64 0, .slice none 0 0, .slice none 0 0]).cells (G - n)) := ⟨_, rfl⟩
 have hsz : cur.size = G * 4 := by
  rw [hcur, Array.size_append, Array.size_append, size_zeroCells, size_zeroCells]
  have : ((Value.agg #[.int .i64 0, .int .i64 0, .slice none 0 0, .slice none 0 0]).cells).size = 4 := rfl
  rw [this]
  simp
  omega
 rw [<- hcur] at hrz
 clear hcur hG
 have HOW : Hid ((w.drew.alloc (.cells cur 131)).ownsRow w.heap.size 131 4 (.slice (some ⟨w.heap.size, 0, none⟩) 0 G) 0 []) := hid (World.ownsRow_made (base := w.heap.size) (e := 131) (size := 4) w.drew cur G (Nat.le_refl _) HGM.out hsz)
 have HBW : Hid (Below w.heap.size w (w.drew.alloc (.cells cur 131))) := hid ((Below.refl _ w).drew.alloc (Nat.le_refl _) _)
 have e0 : ¬ ((n : Int) < 0) := by omega
 have e2 : wrap64 ((n : Int)) = (n : Int) := by unfold wrap64; omega
 have e4 : (n : Int) > 0 := by omega
 clear hsz HGM
 go_enter Tryz.func110, Tryz.ntmps110
 go_wp2_with (at_builtin; refine Lib.wpList_append_run _ rfl _ _ _ _ rfl _ _ rfl rfl _ _ (hrz _) ?_)
 all_goals
  go_ret
  exact ⟨_, rfl, HOW.out, HBW.out⟩
theorem concat_impl (g ca g2 gt : Nat) (us : List TI) (t : TI) (w : World) (hn : us.length <= 1048576) (hg2 : g2 < w.heap.size) (h0 : w.cell? ⟨g2, 0, none⟩ = some (.slice (some ⟨g, 0, none⟩) us.length ca)) (h1 : w.cell? ⟨g2, 1, none⟩ = some (.slice (some ⟨gt, 0, none⟩) 1 1))
 (ha : RS 4 CT 0 w (.slice (some ⟨g, 0, none⟩) us.length ca) us) (ht : RS 4 CT 0 w (.slice (some ⟨gt, 0, none⟩) [t].length 1) [t]) :
 Calls Tryz.prog 100 #[.slice (some ⟨g2, 0, none⟩) 2 2] w fun e w' => ∃ v, e = .returned v /\ RS 4 CT 0 w' v (us ++ [t]) /\ Below w.heap.size w w' := by
 obtain ⟨i0, hi, hz0, hz1, hz2⟩ := info_parts infoTI
 obtain ⟨news, hfill, hcells⟩ := RS.flat liesT ha
 obtain ⟨cs, cfill, ccells⟩ := RS.flat liesT ht
 have HG : Hid (0 < us.length -> g < w.heap.size) := hid (fun h => by obtain ⟨_, _, he, hh⟩ := ha; obtain ⟨g', o', e2, _, h3, _⟩ := hh h; simp only [Value.slice.injEq] at he; rw [<- he.1] at e2; cases e2; exact h3)
 have HT : Hid (gt < w.heap.size) := hid (by obtain ⟨_, _, he, hh⟩ := ht; obtain ⟨g', o', e2, _, h3, _⟩ := hh (by simp); simp only [Value.slice.injEq] at he; rw [<- he.1] at e2; cases e2; exact h3)
 have HNL : Hid (news.length = us.length * 4) := hfill.1
 have HCL : Hid (cs.length = 1 * 4) := cfill.1
 have HON : Hid (∀ u ∈ news, u.oneCell' = true) := hfill.one oneT liesT
 have HOC : Hid (∀ u ∈ cs, u.oneCell' = true) := cfill.one oneT liesT
 have HCW : Hid (∀ W, Below w.heap.size w W -> ∀ j u, news[j]? = some u -> W.cell? ((⟨g, 0, none⟩ : Addr).add j) = some u) := hid (fun W hW j u hj => by
  have hp : 0 < us.length := by
   have h1 := (List.getElem?_eq_some_iff.1 hj).1
   rw [hfill.1] at h1; omega
  rw [Addr.add_lit]
  exact (hW.cell (p := ⟨g, 0 + j, none⟩) (HG.out hp)).trans (hcells j u hj))
 have HCT : Hid (∀ W, Below w.heap.size w W -> ∀ j u, cs[j]? = some u -> W.cell? ((⟨gt, 0, none⟩ : Addr).add j) = some u) := hid (fun W hW j u hj => by
  rw [Addr.add_lit]
  exact (hW.cell (p := ⟨gt, 0 + j, none⟩) HT.out).trans (ccells j u hj))
 have HRS : Hid (∀ W v, Below w.heap.size w W -> W.ownsRow w.heap.size 131 4 v (us.length + 1) (news ++ cs) -> RS 4 CT 0 W v (us ++ [t])) := hid (fun W v hW ho => by
  have F := (hfill.below liesT hW).append (cfill.below liesT hW)
  exact F.own liesT (own_bs (by simpa using ho) (Nat.zero_le _)) (Nat.le_refl _))
 have e1 : wrap64 ((0 : Int) + (us.length : Int)) = (us.length : Int) := by unfold wrap64; omega
 have e2 : wrap64 ((us.length : Int) + 1) = (us.length : Int) + 1 := by unfold wrap64; omega
 have e3 : ¬ (us.length : Int) < 0 := by omega
 have e4 : ¬ (us.length : Int) + 1 < 0 := by omega
 clear ha ht hfill cfill hcells ccells HG HT
 go_enter Tryz.func100, Tryz.ntmps100
 go_wp2
 go_loopw [3, 11] (fun sv iv wr => ((iv = .int .i64 0 /\ sv = .int .i64 0) \/ (iv = .int .i64 1 /\ sv = .int .i64 us.length) \/ (iv = .int .i64 2 /\ sv = .int .i64 ((us.length : Int) + 1))) /\ wr = w) (fun _ iv _ => 2 - (intOf iv).toNat)
 case atStart => exact ⟨.inl ⟨rfl, rfl⟩, rfl⟩
 case round =>
  obtain ⟨hcs, hww⟩ := hrel
  replace hww := hww.symm
  subst hww
  rcases hcs with ⟨rfl, rfl⟩ | ⟨rfl, rfl⟩ | ⟨rfl, rfl⟩
  .go_wp2
   go_roundw
   case rel => exact ⟨.inr (.inl ⟨rfl, by first | rfl | go_num⟩), by first | exact rfl | trivial⟩
   case measure => simp [intOf]
  .go_wp2
   go_roundw
   case rel => exact ⟨.inr (.inr ⟨rfl, by first | rfl | go_num⟩), by first | exact rfl | trivial⟩
   case measure => simp [intOf]
  .go_wp2_with (go_at_call 110; fail)
   have hgr := grow_impl (us.length + 1) w (by omega) (by omega)
   rw [show ((us.length + 1 : Nat) : Int) = (us.length : Int) + 1 by omega] at hgr
   refine hgr.mono ?_
   rintro e w1 ⟨v, rfl, ho, hb⟩
   have HO := hid ho
   clear hgr ho
   go_wp2
   go_loopw [6, 27] (fun sv iv wr => ((iv = .int .i64 0 /\ Hid (wr.ownsRow w.heap.size 131 4 sv 0 [])) \/ (iv = .int .i64 1 /\ Hid (wr.ownsRow w.heap.size 131 4 sv us.length news)) \/ (iv = .int .i64 2 /\ Hid (wr.ownsRow w.heap.size 131 4 sv (us.length + 1) (news ++ cs)))) /\ Below w.heap.size w wr) (fun _ iv _ => 2 - (intOf iv).toNat)
   case atStart => exact ⟨.inl ⟨rfl, HO⟩, hb⟩
   case round =>
    clear HO hb e1 e2 e3 e4
    obtain ⟨hcs, hb⟩ := hrel
    have k0 : wr.cell? ⟨g2, 0, none⟩ = some (.slice (some ⟨g, 0, none⟩) us.length ca) := ct hb hg2 h0
    have k1 : wr.cell? ⟨g2, 1, none⟩ = some (.slice (some ⟨gt, 0, none⟩) 1 1) := ct hb hg2 h1
    rcases hcs with ⟨rfl, HO⟩ | ⟨rfl, HO⟩ | ⟨rfl, HO⟩
    .go_wp2_with (at_builtin; refine wpList_append_own _ rfl (.tmp 31) (.tmp 32) 25 rfl w.heap.size 131 i0 _ 4 64 Tryz.underlying25 hi hz0 hz1 hz2 rfl (by decide) _ _ _ rfl HO.out ⟨g, 0, none⟩ us.length ca news rfl HNL.out (HCW.out _ hb) HON.out (by unfold maxLen; omega) (by omega) hb.size ?_; intro v' w' hown hgrow _)
     have HO2 := hid hown
     have bw2 : Below w.heap.size w w' := hb.grown hgrow hb.size (fun k hk => (HO.out.lt k hk).1)
     clear hown hgrow HO
     go_wp2
     go_roundw
     case rel => exact ⟨.inr (.inl ⟨rfl, (by simpa using HO2.out : w'.ownsRow w.heap.size 131 4 v' us.length news)⟩), bw2⟩
     case measure => simp [intOf]
    .go_wp2_with (at_builtin; refine wpList_append_own _ rfl (.tmp 31) (.tmp 32) 25 rfl w.heap.size 131 i0 _ 4 64 Tryz.underlying25 hi hz0 hz1 hz2 rfl (by decide) _ _ _ rfl HO.out ⟨gt, 0, none⟩ 1 1 cs rfl HCL.out (HCT.out _ hb) HOC.out (by unfold maxLen; omega) (by omega) hb.size ?_; intro v' w' hown hgrow _)
     have HO2 := hid hown
     have bw2 : Below w.heap.size w w' := hb.grown hgrow hb.size (fun k hk => (HO.out.lt k hk).1)
     clear hown hgrow HO
     go_wp2
     go_roundw
     case rel => exact ⟨.inr (.inr ⟨rfl, HO2⟩), bw2⟩
     case measure => simp [intOf]
    .go_wp2
     go_ret
     exact ⟨_, rfl, HRS.out _ _ hb HO.out, hb⟩
theorem rs_nil {α : Type} (K : Nat) (C : Nat -> World -> List Value -> α -> Prop) (B : Nat) (w : World) : RS K C B w (.slice none ([] : List α).length 0) [] := ⟨none, 0, rfl, fun h => absurd h (Nat.lt_irrefl 0)⟩
theorem concat_nil (g2 gt : Nat) (t : TI) (w : World) (hg2 : g2 < w.heap.size) (h0 : w.cell? ⟨g2, 0, none⟩ = some (.slice none 0 0)) (h1 : w.cell? ⟨g2, 1, none⟩ = some (.slice (some ⟨gt, 0, none⟩) 1 1))
 (ht : RS 4 CT 0 w (.slice (some ⟨gt, 0, none⟩) [t].length 1) [t]) :
 Calls Tryz.prog 100 #[.slice (some ⟨g2, 0, none⟩) 2 2] w fun e w' => ∃ v, e = .returned v /\ RS 4 CT 0 w' v [t] /\ Below w.heap.size w w' := by
 obtain ⟨i0, hi, hz0, hz1, hz2⟩ := info_parts infoTI
 obtain ⟨cs, cfill, ccells⟩ := RS.flat liesT ht
 have HT : Hid (gt < w.heap.size) := hid (by obtain ⟨_, _, he, hh⟩ := ht; obtain ⟨g', o', e2, _, h3, _⟩ := hh (by simp); simp only [Value.slice.injEq] at he; rw [<- he.1] at e2; cases e2; exact h3)
 have HCL : Hid (cs.length = 1 * 4) := cfill.1
 have HOC : Hid (∀ u ∈ cs, u.oneCell' = true) := cfill.one oneT liesT
 have HCT : Hid (∀ W, Below w.heap.size w W -> ∀ j u, cs[j]? = some u -> W.cell? ((⟨gt, 0, none⟩ : Addr).add j) = some u) := hid (fun W hW j u hj => by
  rw [Addr.add_lit]
  exact (hW.cell (p := ⟨gt, 0 + j, none⟩) HT.out).trans (ccells j u hj))
 have HRS : Hid (∀ W v, Below w.heap.size w W -> W.ownsRow w.heap.size 131 4 v 1 cs -> RS 4 CT 0 W v [t]) := hid (fun W v hW ho => (cfill.below liesT hW).own liesT (own_bs ho (Nat.zero_le _)) (Nat.le_refl _))
 clear ht cfill ccells HT
 go_enter Tryz.func100, Tryz.ntmps100
 go_wp2
 go_loopw [3, 11] (fun sv iv wr => ((iv = .int .i64 0 /\ sv = .int .i64 0) \/ (iv = .int .i64 1 /\ sv = .int .i64 0) \/ (iv = .int .i64 2 /\ sv = .int .i64 1)) /\ wr = w) (fun _ iv _ => 2 - (intOf iv).toNat)
 case atStart => exact ⟨.inl ⟨rfl, rfl⟩, rfl⟩
 case round =>
  obtain ⟨hcs, hww⟩ := hrel
  replace hww := hww.symm
  subst hww
  rcases hcs with ⟨rfl, rfl⟩ | ⟨rfl, rfl⟩ | ⟨rfl, rfl⟩
  .go_wp2
   go_roundw
   case rel => exact ⟨.inr (.inl ⟨rfl, by first | rfl | go_num⟩), by first | exact rfl | trivial⟩
   case measure => simp [intOf]
  .go_wp2
   go_roundw
   case rel => exact ⟨.inr (.inr ⟨rfl, by first | rfl | go_num⟩), by first | exact rfl | trivial⟩
   case measure => simp [intOf]
  .go_wp2_with (go_at_call 110; fail)
   have hgr := grow_impl 1 w (by omega) (by omega)
   rw [show ((1 : Nat) : Int) = 1 from rfl] at hgr
   refine hgr.mono ?_
   rintro e w1 ⟨v, rfl, ho, hb⟩
   have HO := hid ho
   clear hgr ho
   go_wp2
   go_loopw [6, 27] (fun sv iv wr => ((iv = .int .i64 0 /\ Hid (wr.ownsRow w.heap.size 131 4 sv 0 [])) \/ (iv = .int .i64 1 /\ Hid (wr.ownsRow w.heap.size 131 4 sv 0 [])) \/ (iv = .int .i64 2 /\ Hid (wr.ownsRow w.heap.size 131 4 sv 1 cs))) /\ Below w.heap.size w wr) (fun _ iv _ => 2 - (intOf iv).toNat)
   case atStart => exact ⟨.inl ⟨rfl, HO⟩, hb⟩
   case round =>
    clear HO hb
    obtain ⟨hcs, hb⟩ := hrel
    have k0 : wr.cell? ⟨g2, 0, none⟩ = some (.slice none 0 0) := ct hb hg2 h0
    have k1 : wr.cell? ⟨g2, 1, none⟩ = some (.slice (some ⟨gt, 0, none⟩) 1 1) := ct hb hg2 h1
    rcases hcs with ⟨rfl, HO⟩ | ⟨rfl, HO⟩ | ⟨rfl, HO⟩
    .go_wp2_with (at_builtin; refine wpList_append_rs liesT oneT _ rfl (.tmp 31) (.tmp 32) 25 rfl w.heap.size 131 i0 _ 64 Tryz.underlying25 hi hz0 hz1 hz2 rfl (by decide) _ _ _ rfl HO.out none 0 ([] : List TI) rfl (rs_nil _ _ _ _) (by unfold maxLen; simp) (by simp) hb.size ?_; intro news v' w' hfi hown hgrow _; have hnn : news = [] := List.length_eq_zero_iff.1 (by have := hfi.1; simpa using this); subst hnn; clear hfi)
     have HO2 := hid hown
     have bw2 : Below w.heap.size w w' := hb.grown hgrow hb.size (fun k hk => (HO.out.lt k hk).1)
     clear hown hgrow HO
     go_wp2
     go_roundw
     case rel => exact ⟨.inr (.inl ⟨rfl, (by simpa using HO2.out : w'.ownsRow w.heap.size 131 4 v' 0 [])⟩), bw2⟩
     case measure => simp [intOf]
    .go_wp2_with (at_builtin; refine wpList_append_own _ rfl (.tmp 31) (.tmp 32) 25 rfl w.heap.size 131 i0 _ 4 64 Tryz.underlying25 hi hz0 hz1 hz2 rfl (by decide) _ _ _ rfl HO.out ⟨gt, 0, none⟩ 1 1 cs rfl HCL.out (HCT.out _ hb) HOC.out (by unfold maxLen; omega) (by omega) hb.size ?_; intro v' w' hown hgrow _)
     have HO2 := hid hown
     have bw2 : Below w.heap.size w w' := hb.grown hgrow hb.size (fun k hk => (HO.out.lt k hk).1)
     clear hown hgrow HO
     go_wp2
     go_roundw
     case rel => exact ⟨.inr (.inr ⟨rfl, (by simpa using HO2.out : w'.ownsRow w.heap.size 131 4 v' 1 cs)⟩), bw2⟩
     case measure => simp [intOf]
    .go_wp2
     go_ret
     exact ⟨_, rfl, HRS.out _ _ hb HO.out, hb⟩
theorem info55 : (Tryz.prog.info? 89).map (fun i => (i.zero, i.size, i.bytes)) = some (some (.agg #[.int .i64 0, .int .i64 0, .int .u64 0, .int .u64 0]), 4, 32) := by kernel_rfl
theorem bits_told {xs : List Int} {e : Ending} (h : BitsR xs e) : ∃ (n : Nat) (r : Bool), e = .returned (.tuple #[.int .u64 (n : Int), .bool r]) /\ (r = true ↔ tabP xs) /\ (r = true -> n = bitsOf xs) := by
 rcases h with ⟨h, rfl⟩ | ⟨h, rfl⟩
 .exact ⟨bitsOf xs, true, rfl, ⟨fun _ => h, fun _ => rfl⟩, fun _ => rfl⟩
 .exact ⟨0, false, rfl, ⟨fun z => (by cases z), fun z => absurd z h⟩, fun z => (by cases z)⟩
theorem fill_deals (B : Nat) (w : World) : ∀ us : List TI, (∀ t ∈ us, tabP t.reads /\ tabP t.writes) -> Fill 4 CDl B us us.length (us.flatMap dealV) w
 | [], _ => fill_nil _ _ _ _
 | t :: r, h => by
   have h1 := fill_one liesD (B := B) (w := w) (t := t) (cs := dealV t) ⟨rfl, h t List.mem_cons_self⟩
   exact h1.append (fill_deals B w r (fun x hx => h x (List.mem_cons_of_mem _ hx)))
theorem flat_step {us : List TI} {k : Nat} (h : k < us.length) : (us.take (k + 1)).flatMap dealV = (us.take k).flatMap dealV ++ dealV us[k] := by
 rw [show us.take (k + 1) = us.take k ++ [us[k]] by rw [List.take_add_one, List.getElem?_eq_getElem h]; rfl, List.flatMap_append]
 simp
theorem hist_tabs {us : List TI} (h : ∀ i, i < us.length -> histAt us i) : ∀ t ∈ us, tabP t.reads /\ tabP t.writes := fun t ht => by
 obtain ⟨i, hi, rfl⟩ := List.getElem_of_mem ht
 exact (h i hi _ (List.getElem?_eq_getElem hi)).2.2.2
def PastR (us : List TI) (w : World) (e : Ending) (w' : World) : Prop := (histP us /\ ∃ v, e = .returned (.tuple #[v, .bool true]) /\ RS 4 CDl w.heap.size w' v us) \/ (¬ histP us /\ e = .returned (.tuple #[.slice none 0 0, .bool false]))
theorem past_impl (a : Option Addr) (ca : Nat) (us : List TI) (w : World) (hn : us.length <= 1048577) (hz : ∀ t ∈ us, BT 1048576 t) (ha : RS 4 CT 0 w (.slice a us.length ca) us) :
 Calls Tryz.prog 23 #[.slice a us.length ca] w fun e w' => PastR us w e w' /\ Below w.heap.size w w' := by
 have HZ : Hid (∀ t ∈ us, BT 1048576 t) := hz
 clear hz
 by_cases hbig : (1000 : Int) < us.length
 .have HF : Hid (¬ histP us) := hid (fun h => by have := h.1; omega)
  clear ha
  go_enter Tryz.func23, Tryz.ntmps23
  go_wp2
  refine bodyPost_ret (v := .tuple #[.slice none 0 0, .bool false]) (by simp [results, Tryz.results23, go_sem]) rfl ⟨.inr ⟨HF.out, rfl⟩, Below.refl _ _⟩
 obtain ⟨i0, hi, hz0, hz1, hz2⟩ := info_parts info55
 obtain ⟨a', ca', he, hva⟩ := ha
 simp only [Value.slice.injEq] at he
 obtain ⟨rfl, _, rfl⟩ := he
 go_enter Tryz.func23, Tryz.ntmps23
 go_wp2
 go_loopw [4, 17] (fun pv i wr => ∃ k : Nat, k <= us.length /\ i = .int .i64 k /\ Hid (∀ j, j < k -> histAt us j) /\ Hid (wr.ownsRow w.heap.size 89 4 pv k ((us.take k).flatMap dealV)) /\ Below w.heap.size w wr) (fun _ i _ => us.length - (intOf i).toNat)
 case atStart => exact ⟨0, Nat.zero_le _, rfl, (fun x h => absurd h (Nat.not_lt_zero _) : ∀ j, j < 0 -> histAt us j), World.ownsRow_nil _ _ _ _, Below.refl _ _⟩
 case round =>
  obtain ⟨k, hk, rfl, HO, HOW, hbel⟩ := hrel
  have hbs := hbel.size
  by_cases hlt : k < us.length
  .have hlti : (k : Int) < us.length := by omega
   obtain ⟨g, o, rfl, _, hg, hgc⟩ := hva (by omega)
   obtain ⟨cs, hC0, hcell⟩ := hgc k hlt
   have hC := liesT.below hC0 hbel
   have hB := HZ.out us[k] (List.getElem_mem hlt)
   have HST : Hid (histAt us k -> ∀ j, j < k + 1 -> histAt us j) := hid (fun z j hj => by
    by_cases e : j = k
    .subst e; exact z
    .exact HO.out j (by omega))
   have HNo : Hid (¬ histAt us k -> ¬ histP us) := hid (fun z h => z (h.2 k hlt))
   have HD : Hid (us[k]? = some us[k]) := List.getElem?_eq_getElem hlt
   have HFS := hid (flat_step hlt)
   clear HO hC0
   generalize hx : us[k] = t at *
   clear hx
   obtain ⟨v0, v1, rfl, r0, r1⟩ := hC
   have R0 := hid r0
   obtain ⟨a0, q0, rfl, _⟩ := r0
   have R1 := hid r1
   obtain ⟨a1, q1, rfl, _⟩ := r1
   have c0 : wr.cell? ⟨g, o + k * 4, none⟩ = some (.int .i64 t.bgn) := ct hbel hg (hcell 0 (by omega))
   have c1 : wr.cell? ⟨g, o + k * 4 + 1, none⟩ = some (.int .i64 t.com) := ct hbel hg (hcell 1 (by omega))
   have c2 : wr.cell? ⟨g, o + k * 4 + 2, none⟩ = some (.slice a0 t.reads.length q0) := ct hbel hg (hcell 2 (by omega))
   have c3 : wr.cell? ⟨g, o + k * 4 + 3, none⟩ = some (.slice a1 t.writes.length q1) := ct hbel hg (hcell 3 (by omega))
   clear hcell
   have bwA : Below w.heap.size w (wr.alloc (.cells #[.int .i64 t.bgn, .int .i64 t.com, .slice a0 t.reads.length q0, .slice a1 t.writes.length q1] 131)) := hbel.alloc hbs _
   have bwB : Below wr.heap.size wr (wr.alloc (.cells #[.int .i64 t.bgn, .int .i64 t.com, .slice a0 t.reads.length q0, .slice a1 t.writes.length q1] 131)) := below_alloc _ _
   have hzA : wr.heap.size < (wr.alloc (.cells #[.int .i64 t.bgn, .int .i64 t.com, .slice a0 t.reads.length q0, .slice a1 t.writes.length q1] 131)).heap.size := by simp
   have hq1 := tableBits_impl a0 q0 t.reads (wr.alloc (.cells #[.int .i64 t.bgn, .int .i64 t.com, .slice a0 t.reads.length q0, .slice a1 t.writes.length q1] 131)) (by have := hB.1; omega) (R0.out.below liesI bwB)
   have hq2 := tableBits_impl a1 q1 t.writes (wr.alloc (.cells #[.int .i64 t.bgn, .int .i64 t.com, .slice a0 t.reads.length q0, .slice a1 t.writes.length q1] 131)) (by have := hB.2; omega) (R1.out.below liesI bwB)
   clear R0 R1
   by_cases hk0 : (0 : Int) < k
   .obtain ⟨ds, hE, hcell2⟩ := hgc (k - 1) (by omega)
    have HE : Hid (us[k - 1]? = some us[k - 1]) := List.getElem?_eq_getElem (by omega)
    generalize us[k - 1] = s at *
    obtain ⟨xv0, xv1, rfl, _, _⟩ := hE
    have d1 : wr.cell? ⟨g, o + (k - 1) * 4 + 1, none⟩ = some (.int .i64 s.com) := ct hbel hg (hcell2 1 (by omega))
    have hw : IntKind.i64.wrap ((k : Int) - 1) = ((k - 1 : Nat) : Int) := by simp only [IntKind.wrap_i64, wrap64]; omega
    have hk1 : ((k - 1 : Nat) : Int) < us.length := by omega
    have d1A := (bwB.cell (p := ⟨g, o + (k - 1) * 4 + 1, none⟩) (show g < wr.heap.size by omega)).trans d1
    have hgr : g < wr.heap.size := by omega
    clear hgc hva hcell2
    generalize hkp : k - 1 = kp at d1 d1A HE hw hk1
    by_cases h2 : t.com <= s.com
    .have HF := hid (HNo.out (fun h => by have := (h t HD.out).2.2.1 s (by omega) (by rw [hkp]; exact HE.out); omega))
     clear HST HNo HD HE hkp HFS
     go_wp2_with (go_at_call 52; fail)
     refine hq1.mono ?_
     rintro e w' ⟨hR1, rfl⟩
     obtain ⟨n1, r1, rfl, hr1, hn1⟩ := bits_told hR1
     have HR1 := hid hr1
     have HN1 := hid hn1
     clear hR1 hr1 hn1 hq1
     go_wp2_with (go_at_call 52; fail)
     refine hq2.mono ?_
     rintro e w' ⟨hR2, rfl⟩
     obtain ⟨n2, r2, rfl, hr2, hn2⟩ := bits_told hR2
     have HR2 := hid hr2
     have HN2 := hid hn2
     clear hR2 hr2 hn2 hq2
     go_wp2
     have g0 : ((k : Int) == 0) = false := by simp; omega
     have g0n : decide (k = 0) = false := decide_eq_false (by omega)
     have g1 : decide (s.com < t.com) = false := decide_eq_false (by omega)
     go_quiet (fail)
     rcases r1 with _ | _ <;> rcases r2 with _ | _
     all_goals
      go_wp2
      refine bodyPost_ret (v := .tuple #[.slice none 0 0, .bool false]) (by simp [results, Tryz.results23, go_sem]) rfl ⟨.inr ⟨HF.out, rfl⟩, bwA.trans ((below_drewNt _ _).mono bwA.size)⟩
    .have HV : Hid (0 <= t.bgn -> t.bgn < t.com -> tabP t.reads -> tabP t.writes -> ∀ j, j < k + 1 -> histAt us j) := hid (fun b1 b2 r z => HST.out (fun t' ht => by
      have := HD.out.symm.trans ht
      cases this
      exact ⟨b1, b2, fun s' _ hs => by rw [hkp, HE.out] at hs; cases hs; omega, r, z⟩))
     clear HE hkp
     go_wp2_with (go_at_call 52; fail)
     refine hq1.mono ?_
     rintro e w' ⟨hR1, rfl⟩
     obtain ⟨n1, r1, rfl, hr1, hn1⟩ := bits_told hR1
     have HR1 := hid hr1
     have HN1 := hid hn1
     clear hR1 hr1 hn1 hq1
     go_wp2_with (go_at_call 52; fail)
     refine hq2.mono ?_
     rintro e w' ⟨hR2, rfl⟩
     obtain ⟨n2, r2, rfl, hr2, hn2⟩ := bits_told hR2
     have HR2 := hid hr2
     have HN2 := hid hn2
     clear hR2 hr2 hn2 hq2
     go_wp2
     have g0 : ((k : Int) == 0) = false := by simp; omega
     have g0n : decide (k = 0) = false := decide_eq_false (by omega)
     have g1 : decide (s.com < t.com) = true := decide_eq_true (by omega)
     go_quiet (fail)
     rcases r1 with _ | _
     .have HF := hid (HNo.out (fun h => by have := HR1.out.2 (h t HD.out).2.2.2.1; cases this))
      clear HST HNo HD HFS HV HR1 HN1 HR2 HN2
      go_wp2
      refine bodyPost_ret (v := .tuple #[.slice none 0 0, .bool false]) (by simp [results, Tryz.results23, go_sem]) rfl ⟨.inr ⟨HF.out, rfl⟩, bwA.trans ((below_drewNt _ _).mono bwA.size)⟩
     rcases r2 with _ | _
     .have HF := hid (HNo.out (fun h => by have := HR2.out.2 (h t HD.out).2.2.2.2; cases this))
      clear HST HNo HD HFS HV HR1 HN1 HR2 HN2
      go_wp2
      refine bodyPost_ret (v := .tuple #[.slice none 0 0, .bool false]) (by simp [results, Tryz.results23, go_sem]) rfl ⟨.inr ⟨HF.out, rfl⟩, bwA.trans ((below_drewNt _ _).mono bwA.size)⟩
     by_cases h0 : t.bgn < 0
     .have HF := hid (HNo.out (fun h => by have := (h t HD.out).1; omega))
      clear HST HNo HD HFS HV HR1 HN1 HR2 HN2
      go_wp2
      refine bodyPost_ret (v := .tuple #[.slice none 0 0, .bool false]) (by simp [results, Tryz.results23, go_sem]) rfl ⟨.inr ⟨HF.out, rfl⟩, bwA.trans ((below_drewNt _ _).mono bwA.size)⟩
     by_cases h1 : t.com <= t.bgn
     .have HF := hid (HNo.out (fun h => by have := (h t HD.out).2.1; omega))
      clear HST HNo HD HFS HV HR1 HN1 HR2 HN2
      go_wp2
      refine bodyPost_ret (v := .tuple #[.slice none 0 0, .bool false]) (by simp [results, Tryz.results23, go_sem]) rfl ⟨.inr ⟨HF.out, rfl⟩, bwA.trans ((below_drewNt _ _).mono bwA.size)⟩
     have HVV := hid (HV.out (by omega) (by omega) (HR1.out.1 rfl) (HR2.out.1 rfl))
     have hN1 := HN1.out rfl
     have hN2 := HN2.out rfl
     have HDV : Hid (dealV t = [.int .i64 t.bgn, .int .i64 t.com, .int .u64 (n1 : Int), .int .u64 (n2 : Int)]) := hid (by rw [hN1, hN2]; rfl)
     clear HST HNo HD HV HR1 HN1 HR2 HN2 hN1 hN2
     go_wp2_with (at_builtin; refine wpList_append_own _ rfl (.tmp 69) (.tmp 77) 82 rfl w.heap.size 89 i0 _ 4 32 Tryz.underlying82 hi hz0 hz1 hz2 rfl (by decide) _ k ((us.take k).flatMap dealV) rfl ?hown ⟨_, 0, none⟩ 1 1 [.int .i64 t.bgn, .int .i64 t.com, .int .u64 (n1 : Int), .int .u64 (n2 : Int)] rfl rfl ?hcl (by intro u hu; simp at hu; rcases hu with rfl | rfl | rfl | rfl <;> rfl) (by unfold maxLen; omega) (by omega) ?hbase ?_; (case hown => exact own_below HOW.out (((bwB.trans ((below_drewNt _ _).mono bwB.size))).alloc (by simp) _)); (case hcl => exact cells_new _ [.int .i64 t.bgn, .int .i64 t.com, .int .u64 (n1 : Int), .int .u64 (n2 : Int)] 89 _ (by simp)); (case hbase => simp; omega); intro v' w' hown hgrow _)
     have bw3 : Below w.heap.size w w' := by
      refine Below.grown ((bwA.trans ((below_drewNt _ _).mono bwA.size)).alloc (by simp; omega) _) hgrow (by simp; omega) ?_
      intro q hq
      exact (HOW.out.lt q hq).1
     have HOW2 : Hid (w'.ownsRow w.heap.size 89 4 v' (k + 1) ((us.take (k + 1)).flatMap dealV)) := hid (by rw [HFS.out, HDV.out]; exact hown)
     clear hown hgrow HOW HFS HDV bwA bwB
     go_wp2
     go_roundw
     case rel => exact ⟨k + 1, by omega, by go_num, HVV, HOW2, bw3⟩
     case measure => simp [intOf]; omega
   .have HV : Hid (0 <= t.bgn -> t.bgn < t.com -> tabP t.reads -> tabP t.writes -> ∀ j, j < k + 1 -> histAt us j) := hid (fun b1 b2 r z => HST.out (fun t' ht => by
     have := HD.out.symm.trans ht
     cases this
     exact ⟨b1, b2, fun s' h _ => by omega, r, z⟩))
    clear hgc hva
    go_wp2_with (go_at_call 52; fail)
    refine hq1.mono ?_
    rintro e w' ⟨hR1, rfl⟩
    obtain ⟨n1, r1, rfl, hr1, hn1⟩ := bits_told hR1
    have HR1 := hid hr1
    have HN1 := hid hn1
    clear hR1 hr1 hn1 hq1
    go_wp2_with (go_at_call 52; fail)
    refine hq2.mono ?_
    rintro e w' ⟨hR2, rfl⟩
    obtain ⟨n2, r2, rfl, hr2, hn2⟩ := bits_told hR2
    have HR2 := hid hr2
    have HN2 := hid hn2
    clear hR2 hr2 hn2 hq2
    go_wp2
    have g0 : ((k : Int) == 0) = true := by simp; omega
    have g0n : decide (k = 0) = true := decide_eq_true (by omega)
    go_quiet (fail)
    rcases r1 with _ | _
    .have HF := hid (HNo.out (fun h => by have := HR1.out.2 (h t HD.out).2.2.2.1; cases this))
     clear HST HNo HD HFS HV HR1 HN1 HR2 HN2
     go_wp2
     refine bodyPost_ret (v := .tuple #[.slice none 0 0, .bool false]) (by simp [results, Tryz.results23, go_sem]) rfl ⟨.inr ⟨HF.out, rfl⟩, bwA.trans ((below_drewNt _ _).mono bwA.size)⟩
    rcases r2 with _ | _
    .have HF := hid (HNo.out (fun h => by have := HR2.out.2 (h t HD.out).2.2.2.2; cases this))
     clear HST HNo HD HFS HV HR1 HN1 HR2 HN2
     go_wp2
     refine bodyPost_ret (v := .tuple #[.slice none 0 0, .bool false]) (by simp [results, Tryz.results23, go_sem]) rfl ⟨.inr ⟨HF.out, rfl⟩, bwA.trans ((below_drewNt _ _).mono bwA.size)⟩
    by_cases h0 : t.bgn < 0
    .have HF := hid (HNo.out (fun h => by have := (h t HD.out).1; omega))
     clear HST HNo HD HFS HV HR1 HN1 HR2 HN2
     go_wp2
     refine bodyPost_ret (v := .tuple #[.slice none 0 0, .bool false]) (by simp [results, Tryz.results23, go_sem]) rfl ⟨.inr ⟨HF.out, rfl⟩, bwA.trans ((below_drewNt _ _).mono bwA.size)⟩
    by_cases h1 : t.com <= t.bgn
    .have HF := hid (HNo.out (fun h => by have := (h t HD.out).2.1; omega))
     clear HST HNo HD HFS HV HR1 HN1 HR2 HN2
     go_wp2
     refine bodyPost_ret (v := .tuple #[.slice none 0 0, .bool false]) (by simp [results, Tryz.results23, go_sem]) rfl ⟨.inr ⟨HF.out, rfl⟩, bwA.trans ((below_drewNt _ _).mono bwA.size)⟩
    have HVV := hid (HV.out (by omega) (by omega) (HR1.out.1 rfl) (HR2.out.1 rfl))
    have hN1 := HN1.out rfl
    have hN2 := HN2.out rfl
    have HDV : Hid (dealV t = [.int .i64 t.bgn, .int .i64 t.com, .int .u64 (n1 : Int), .int .u64 (n2 : Int)]) := hid (by rw [hN1, hN2]; rfl)
    clear HST HNo HD HV HR1 HN1 HR2 HN2 hN1 hN2
    go_wp2_with (at_builtin; refine wpList_append_own _ rfl (.tmp 69) (.tmp 77) 82 rfl w.heap.size 89 i0 _ 4 32 Tryz.underlying82 hi hz0 hz1 hz2 rfl (by decide) _ k ((us.take k).flatMap dealV) rfl ?hown ⟨_, 0, none⟩ 1 1 [.int .i64 t.bgn, .int .i64 t.com, .int .u64 (n1 : Int), .int .u64 (n2 : Int)] rfl rfl ?hcl (by intro u hu; simp at hu; rcases hu with rfl | rfl | rfl | rfl <;> rfl) (by unfold maxLen; omega) (by omega) ?hbase ?_; (case hown => exact own_below HOW.out (((bwB.trans ((below_drewNt _ _).mono bwB.size))).alloc (by simp) _)); (case hcl => exact cells_new _ [.int .i64 t.bgn, .int .i64 t.com, .int .u64 (n1 : Int), .int .u64 (n2 : Int)] 89 _ (by simp)); (case hbase => simp; omega); intro v' w' hown hgrow _)
    have bw3 : Below w.heap.size w w' := by
     refine Below.grown ((bwA.trans ((below_drewNt _ _).mono bwA.size)).alloc (by simp; omega) _) hgrow (by simp; omega) ?_
     intro q hq
     exact (HOW.out.lt q hq).1
    have HOW2 : Hid (w'.ownsRow w.heap.size 89 4 v' (k + 1) ((us.take (k + 1)).flatMap dealV)) := hid (by rw [HFS.out, HDV.out]; exact hown)
    clear hown hgrow HOW HFS HDV bwA bwB
    go_wp2
    go_roundw
    case rel => exact ⟨k + 1, by omega, by go_num, HVV, HOW2, bw3⟩
    case measure => simp [intOf]; omega
  .have hkn : k = us.length := by omega
   subst hkn
   have hlti : ¬ (us.length : Int) < us.length := by omega
   have HT : Hid (histP us) := hid (⟨by omega, HO.out⟩)
   rw [List.take_length] at HOW
   have HRS : Hid (RS 4 CDl w.heap.size wr _ us) := (fill_deals w.heap.size wr us (hist_tabs HO.out)).own liesD HOW.out (Nat.le_refl _)
   obtain ⟨pa, pc, hpv, _⟩ := id HRS.out
   clear HO HOW
   subst hpv
   go_wp2
   refine bodyPost_ret (v := .tuple #[.slice pa us.length pc, .bool true]) (by simp [results, Tryz.results23, go_sem]) rfl ⟨.inl ⟨HT.out, _, rfl, HRS.out⟩, hbel⟩
theorem deal_at {B : Nat} {w : World} {a : Option Addr} {n c : Nat} {us : List TI} (h : RS 4 CDl B w (.slice a n c) us) (hp : 0 < us.length) : ∃ g o, a = some ⟨g, o, none⟩ /\ B <= g /\ g < w.heap.size /\ ∀ j (hj : j < us.length), (tabP us[j].reads /\ tabP us[j].writes) /\ w.cell? ⟨g, o + j * 4, none⟩ = some (.int .i64 us[j].bgn) /\ w.cell? ⟨g, o + j * 4 + 1, none⟩ = some (.int .i64 us[j].com) /\ w.cell? ⟨g, o + j * 4 + 2, none⟩ = some (.int .u64 (bitsOf us[j].reads : Nat)) /\ w.cell? ⟨g, o + j * 4 + 3, none⟩ = some (.int .u64 (bitsOf us[j].writes : Nat)) := by
 obtain ⟨a', c', he, hh⟩ := h
 obtain ⟨g, o, e2, h1, h2, h3⟩ := hh hp
 simp only [Value.slice.injEq] at he
 refine ⟨g, o, he.1.trans e2, h1, h2, fun j hj => ?_⟩
 obtain ⟨cs, hc, hcell⟩ := h3 j hj
 obtain ⟨rfl, ht⟩ := hc
 exact ⟨ht, hcell 0 (by omega), hcell 1 (by omega), hcell 2 (by omega), hcell 3 (by omega)⟩
def dealA (t : TI) : Value := .agg #[.int .i64 t.bgn, .int .i64 t.com, .int .u64 (bitsOf t.reads : Nat), .int .u64 (bitsOf t.writes : Nat)]
theorem index_between (P : TI -> Prop) (pv : Value) (a : Option Addr) (c : Nat) (us : List TI) (B : Nat) (w : World) (h : us.length <= 1000) (hr : RS 4 CDl B w (.slice a us.length c) us)
 (hcall : ∀ x ∈ us, ∀ W, Below w.heap.size w W -> Calls Tryz.prog 102 #[pv, dealA x] W fun e w' => RB (P x) e /\ Below W.heap.size W w') :
 Calls Tryz.prog 111 #[.slice a us.length c, .func (.func 102) #[pv] #[]] w fun e w' => ∃ k : Int, e = .returned (.int .i64 k) /\ (0 <= k ↔ ∃ x ∈ us, P x) /\ Below w.heap.size w w' := by
 have HR := hid hr
 have HC := hid hcall
 clear hr hcall
 go_enter Tryz.func111, Tryz.ntmps111
 go_wp2
 go_loopw [8] (fun iv wx => ∃ j : Nat, iv = .int .i64 (j : Int) /\ j <= us.length /\ Hid (∀ x ∈ us.take j, ¬ P x) /\ Below w.heap.size w wx) (fun iv _ => us.length - (intOf iv).toNat)
 case atStart => exact ⟨0, rfl, Nat.zero_le _, (fun x h => by simp at h : ∀ x ∈ us.take 0, ¬ P x), Below.refl _ _⟩
 case round =>
  obtain ⟨j, rfl, hj, HA, hb⟩ := hrel
  by_cases hlt : j < us.length
  .have hlti : (j : Int) < us.length := by omega
   obtain ⟨g, o, rfl, _, hg, hc⟩ := deal_at (HR.out.below liesD hb) (by omega)
   obtain ⟨_, c0, c1, c2, c3⟩ := hc j hlt
   clear hc
   have HST := hid (fun z => take_step (P := fun x => ¬ P x) hlt HA.out z)
   have HM := hid (List.getElem_mem hlt)
   have hcx := HC.out us[j] (List.getElem_mem hlt) wr hb
   have hbs := hb.size
   clear HA
   unfold dealA at hcx
   generalize us[j] = x at *
   go_wp2_with (go_at_call 102; fail)
   refine hcx.mono ?_
   rintro e w1 ⟨⟨r, rfl, hr⟩, hb1⟩
   have bw1 : Below w.heap.size w w1 := hb.trans (hb1.mono hbs)
   clear hcx hb1
   rcases r with _ | _
   .have HV := hid (HST.out (fun z => by have := hr.2 z; cases this))
    clear hr HST
    go_wp2
    go_roundw
    case rel => exact ⟨j + 1, by go_num, by omega, HV, bw1⟩
    case measure => simp [intOf]; omega
   .have HV := hid (hr.1 rfl)
    clear hr HST
    go_wp2
    go_ret
    exact ⟨_, rfl, ⟨fun _ => ⟨x, HM.out, HV.out⟩, fun _ => by omega⟩, bw1⟩
  .have hje : j = us.length := by omega
   subst hje
   rw [List.take_length] at HA
   go_wp2
   go_ret
   exact ⟨-1, rfl, ⟨fun z => by omega, fun ⟨x, h1, h2⟩ => absurd h2 (HA.out x h1)⟩, hb⟩
theorem contains_between (P : TI -> Prop) (pv : Value) (a : Option Addr) (c : Nat) (us : List TI) (B : Nat) (w : World) (h : us.length <= 1000) (hr : RS 4 CDl B w (.slice a us.length c) us)
 (hcall : ∀ x ∈ us, ∀ W, Below w.heap.size w W -> Calls Tryz.prog 102 #[pv, dealA x] W fun e w' => RB (P x) e /\ Below W.heap.size W w') :
 Calls Tryz.prog 101 #[.slice a us.length c, .func (.func 102) #[pv] #[]] w fun e w' => RB (∃ x ∈ us, P x) e /\ Below w.heap.size w w' := by
 have HI := hid (index_between P pv a c us B w h hr hcall)
 clear hr hcall
 go_enter Tryz.func101, Tryz.ntmps101
 go_wp2_with (go_at_call 111; fail)
 refine HI.out.mono ?_
 rintro e w' ⟨k, rfl, hk, hb⟩
 have HK := hid hk
 have HB := hid hb
 clear hk hb HI
 go_wp2
 go_ret
 exact ⟨⟨decide (0 <= k), rfl, by rw [decide_eq_true_iff]; exact HK.out⟩, HB.out⟩
theorem index_leads (P : TI -> Prop) (dv : Value) (a : Option Addr) (c : Nat) (us : List TI) (B : Nat) (w : World) (h : us.length <= 1000) (hr : RS 4 CDl B w (.slice a us.length c) us)
 (hcall : ∀ x ∈ us, ∀ W, Below w.heap.size w W -> Calls Tryz.prog 53 #[dv, dealA x] W fun e w' => RB (P x) e /\ Below W.heap.size W w') :
 Calls Tryz.prog 111 #[.slice a us.length c, .func (.func 53) #[dv] #[]] w fun e w' => ∃ k : Int, e = .returned (.int .i64 k) /\ (0 <= k ↔ ∃ x ∈ us, P x) /\ Below w.heap.size w w' := by
 have HR := hid hr
 have HC := hid hcall
 clear hr hcall
 go_enter Tryz.func111, Tryz.ntmps111
 go_wp2
 go_loopw [8] (fun iv wx => ∃ j : Nat, iv = .int .i64 (j : Int) /\ j <= us.length /\ Hid (∀ x ∈ us.take j, ¬ P x) /\ Below w.heap.size w wx) (fun iv _ => us.length - (intOf iv).toNat)
 case atStart => exact ⟨0, rfl, Nat.zero_le _, (fun x h => by simp at h : ∀ x ∈ us.take 0, ¬ P x), Below.refl _ _⟩
 case round =>
  obtain ⟨j, rfl, hj, HA, hb⟩ := hrel
  by_cases hlt : j < us.length
  .have hlti : (j : Int) < us.length := by omega
   obtain ⟨g, o, rfl, _, hg, hc⟩ := deal_at (HR.out.below liesD hb) (by omega)
   obtain ⟨_, c0, c1, c2, c3⟩ := hc j hlt
   clear hc
   have HST := hid (fun z => take_step (P := fun x => ¬ P x) hlt HA.out z)
   have HM := hid (List.getElem_mem hlt)
   have hcx := HC.out us[j] (List.getElem_mem hlt) wr hb
   have hbs := hb.size
   clear HA
   unfold dealA at hcx
   generalize us[j] = x at *
   go_wp2_with (go_at_call 53; fail)
   refine hcx.mono ?_
   rintro e w1 ⟨⟨r, rfl, hr⟩, hb1⟩
   have bw1 : Below w.heap.size w w1 := hb.trans (hb1.mono hbs)
   clear hcx hb1
   rcases r with _ | _
   .have HV := hid (HST.out (fun z => by have := hr.2 z; cases this))
    clear hr HST
    go_wp2
    go_roundw
    case rel => exact ⟨j + 1, by go_num, by omega, HV, bw1⟩
    case measure => simp [intOf]; omega
   .have HV := hid (hr.1 rfl)
    clear hr HST
    go_wp2
    go_ret
    exact ⟨_, rfl, ⟨fun _ => ⟨x, HM.out, HV.out⟩, fun _ => by omega⟩, bw1⟩
  .have hje : j = us.length := by omega
   subst hje
   rw [List.take_length] at HA
   go_wp2
   go_ret
   exact ⟨-1, rfl, ⟨fun z => by omega, fun ⟨x, h1, h2⟩ => absurd h2 (HA.out x h1)⟩, hb⟩
theorem contains_leads (P : TI -> Prop) (dv : Value) (a : Option Addr) (c : Nat) (us : List TI) (B : Nat) (w : World) (h : us.length <= 1000) (hr : RS 4 CDl B w (.slice a us.length c) us)
 (hcall : ∀ x ∈ us, ∀ W, Below w.heap.size w W -> Calls Tryz.prog 53 #[dv, dealA x] W fun e w' => RB (P x) e /\ Below W.heap.size W w') :
 Calls Tryz.prog 101 #[.slice a us.length c, .func (.func 53) #[dv] #[]] w fun e w' => RB (∃ x ∈ us, P x) e /\ Below w.heap.size w w' := by
 have HI := hid (index_leads P dv a c us B w h hr hcall)
 clear hr hcall
 go_enter Tryz.func101, Tryz.ntmps101
 go_wp2_with (go_at_call 111; fail)
 refine HI.out.mono ?_
 rintro e w' ⟨k, rfl, hk, hb⟩
 have HK := hid hk
 have HB := hid hb
 clear hk hb HI
 go_wp2
 go_ret
 exact ⟨⟨decide (0 <= k), rfl, by rw [decide_eq_true_iff]; exact HK.out⟩, HB.out⟩
theorem index_led (P : TI -> Prop) (b : Nat) (a : Option Addr) (c : Nat) (us : List TI) (B : Nat) (w : World) (h : us.length <= 1000) (hr : RS 4 CDl B w (.slice a us.length c) us)
 (hcall : ∀ x ∈ us, ∀ W, Below w.heap.size w W -> Calls Tryz.prog 112 #[dealA x, .pointer (some ⟨b, 0, none⟩)] W fun e w' => RB (P x) e /\ Below W.heap.size W w') :
 Calls Tryz.prog 111 #[.slice a us.length c, .func (.func 112) #[] #[.pointer (some ⟨b, 0, none⟩)]] w fun e w' => ∃ k : Int, e = .returned (.int .i64 k) /\ (0 <= k ↔ ∃ x ∈ us, P x) /\ Below w.heap.size w w' := by
 have HR := hid hr
 have HC := hid hcall
 clear hr hcall
 go_enter Tryz.func111, Tryz.ntmps111
 go_wp2
 go_loopw [8] (fun iv wx => ∃ j : Nat, iv = .int .i64 (j : Int) /\ j <= us.length /\ Hid (∀ x ∈ us.take j, ¬ P x) /\ Below w.heap.size w wx) (fun iv _ => us.length - (intOf iv).toNat)
 case atStart => exact ⟨0, rfl, Nat.zero_le _, (fun x h => by simp at h : ∀ x ∈ us.take 0, ¬ P x), Below.refl _ _⟩
 case round =>
  obtain ⟨j, rfl, hj, HA, hb⟩ := hrel
  by_cases hlt : j < us.length
  .have hlti : (j : Int) < us.length := by omega
   obtain ⟨g, o, rfl, _, hg, hc⟩ := deal_at (HR.out.below liesD hb) (by omega)
   obtain ⟨_, c0, c1, c2, c3⟩ := hc j hlt
   clear hc
   have HST := hid (fun z => take_step (P := fun x => ¬ P x) hlt HA.out z)
   have HM := hid (List.getElem_mem hlt)
   have hcx := HC.out us[j] (List.getElem_mem hlt) wr hb
   have hbs := hb.size
   clear HA
   unfold dealA at hcx
   generalize us[j] = x at *
   go_wp2_with (go_at_call 112; fail)
   refine hcx.mono ?_
   rintro e w1 ⟨⟨r, rfl, hr⟩, hb1⟩
   have bw1 : Below w.heap.size w w1 := hb.trans (hb1.mono hbs)
   clear hcx hb1
   rcases r with _ | _
   .have HV := hid (HST.out (fun z => by have := hr.2 z; cases this))
    clear hr HST
    go_wp2
    go_roundw
    case rel => exact ⟨j + 1, by go_num, by omega, HV, bw1⟩
    case measure => simp [intOf]; omega
   .have HV := hid (hr.1 rfl)
    clear hr HST
    go_wp2
    go_ret
    exact ⟨_, rfl, ⟨fun _ => ⟨x, HM.out, HV.out⟩, fun _ => by omega⟩, bw1⟩
  .have hje : j = us.length := by omega
   subst hje
   rw [List.take_length] at HA
   go_wp2
   go_ret
   exact ⟨-1, rfl, ⟨fun z => by omega, fun ⟨x, h1, h2⟩ => absurd h2 (HA.out x h1)⟩, hb⟩
theorem contains_led (P : TI -> Prop) (b : Nat) (a : Option Addr) (c : Nat) (us : List TI) (B : Nat) (w : World) (h : us.length <= 1000) (hr : RS 4 CDl B w (.slice a us.length c) us)
 (hcall : ∀ x ∈ us, ∀ W, Below w.heap.size w W -> Calls Tryz.prog 112 #[dealA x, .pointer (some ⟨b, 0, none⟩)] W fun e w' => RB (P x) e /\ Below W.heap.size W w') :
 Calls Tryz.prog 101 #[.slice a us.length c, .func (.func 112) #[] #[.pointer (some ⟨b, 0, none⟩)]] w fun e w' => RB (∃ x ∈ us, P x) e /\ Below w.heap.size w w' := by
 have HI := hid (index_led P b a c us B w h hr hcall)
 clear hr hcall
 go_enter Tryz.func101, Tryz.ntmps101
 go_wp2_with (go_at_call 111; fail)
 refine HI.out.mono ?_
 rintro e w' ⟨k, rfl, hk, hb⟩
 have HK := hid hk
 have HB := hid hb
 clear hk hb HI
 go_wp2
 go_ret
 exact ⟨⟨decide (0 <= k), rfl, by rw [decide_eq_true_iff]; exact HK.out⟩, HB.out⟩
def leadB (s t : TI) : Prop := s.com ≠ t.com /\ leadsP s t
theorem leads_deal (s t : TI) (hs : tabP s.reads) (ht : tabP t.writes) (W : World) :
 Calls Tryz.prog 53 #[dealA s, dealA t] W fun e w' => RB (leadB s t) e /\ Below W.heap.size W w' := by
 refine (leadsTo_impl s.bgn s.com t.bgn t.com (bitsOf s.reads) (bitsOf s.writes) (bitsOf t.reads) (bitsOf t.writes) W (tab_bits hs) (tab_bits ht)).mono ?_
 rintro e w' ⟨⟨r, rfl, hr⟩, hb⟩
 refine ⟨⟨r, rfl, hr.trans ?_⟩, hb⟩
 rw [tab_meet hs ht]
 exact Iff.rfl
theorem ahead_deal (s t : TI) (hs : tabP s.reads) (ht : tabP t.writes) (W : World) :
 Calls Tryz.prog 26 #[dealA s, dealA t] W fun e w' => RB (s.com <= t.bgn \/ leadB s t) e /\ Below W.heap.size W w' := by
 refine (ahead_impl s.bgn s.com t.bgn t.com (bitsOf s.reads) (bitsOf s.writes) (bitsOf t.reads) (bitsOf t.writes) W (tab_bits hs) (tab_bits ht)).mono ?_
 rintro e w' ⟨⟨r, rfl, hr⟩, hb⟩
 refine ⟨⟨r, rfl, hr.trans ?_⟩, hb⟩
 rw [tab_meet hs ht]
 exact Iff.rfl
theorem led_impl (s d : TI) (b : Nat) (w : World) (hs : tabP s.reads) (hd : tabP d.writes) (hB : Blk w b (dealV d)) (hb : b < w.heap.size) :
 Calls Tryz.prog 112 #[dealA s, .pointer (some ⟨b, 0, none⟩)] w fun e w' => RB (leadB s d) e /\ Below w.heap.size w w' := by
 have bw := below_alloc w (.cells #[.int .i64 s.bgn, .int .i64 s.com, .int .u64 (bitsOf s.reads : Nat), .int .u64 (bitsOf s.writes : Nat)] 89)
 have hl := leads_deal s d hs hd (w.alloc (.cells #[.int .i64 s.bgn, .int .i64 s.com, .int .u64 (bitsOf s.reads : Nat), .int .u64 (bitsOf s.writes : Nat)] 89))
 obtain ⟨k0, k1, k2, k3⟩ := kc3 hB
 unfold dealA at hl ⊢
 clear hB
 go_enter Tryz.func112, Tryz.ntmps112
 go_wp2_with (go_at_call 53; fail)
 refine hl.mono ?_
 rintro e w1 ⟨⟨r, rfl, hr⟩, hb1⟩
 have bw1 := bw.trans (hb1.mono bw.size)
 have HR : Hid (RB (leadB s d) (.returned (.bool r))) := ⟨r, rfl, hr⟩
 clear hl hb1 hr
 go_wp2
 go_ret
 exact ⟨HR.out, bw1⟩
def betP (us : List TI) (d : TI) : Prop := (∃ x ∈ us, leadB d x) /\ ∃ x ∈ us, leadB x d
theorem between_impl (a : Option Addr) (c : Nat) (us : List TI) (B : Nat) (d : TI) (w : World) (h : us.length <= 1000) (hr : RS 4 CDl B w (.slice a us.length c) us) (ht : ∀ x ∈ us, tabP x.reads /\ tabP x.writes) (hd : tabP d.reads /\ tabP d.writes) :
 Calls Tryz.prog 102 #[.slice a us.length c, dealA d] w fun e w' => RB (betP us d) e /\ Below w.heap.size w w' := by
 have bw := below_alloc w (.cells #[.int .i64 d.bgn, .int .i64 d.com, .int .u64 (bitsOf d.reads : Nat), .int .u64 (bitsOf d.writes : Nat)] 89)
 have KD := hid (blk_new w (dealV d) 89)
 unfold dealV at KD
 have HRS := hid hr
 have h1 := contains_leads (fun x => leadB d x) (dealA d) a c us B (w.alloc (.cells #[.int .i64 d.bgn, .int .i64 d.com, .int .u64 (bitsOf d.reads : Nat), .int .u64 (bitsOf d.writes : Nat)] 89)) h (hr.below liesD bw) (fun x hx W _ => leads_deal d x hd.1 (ht x hx).2 W)
 have HTT := hid ht
 have HD2 := hid hd.2
 clear hr ht hd
 unfold dealA at h1 ⊢
 go_enter Tryz.func102, Tryz.ntmps102
 go_wp2_with (go_at_call 101; fail)
 refine h1.mono ?_
 rintro e w1 ⟨⟨r, rfl, hr⟩, hb1⟩
 have bw1 := bw.trans (hb1.mono bw.size)
 have K1 := hid (KD.out.below hb1 (by simp))
 clear h1 KD
 rcases r with _ | _
 .have HF : Hid (¬ betP us d) := hid (fun z => absurd (hr.2 z.1) (by simp))
  clear hr hb1 K1
  go_wp2
  go_ret
  exact ⟨rb_f HF.out, bw1⟩
 .have HA := hid (hr.1 rfl)
  have hsz : w.heap.size < w1.heap.size := Nat.lt_of_lt_of_le (by simp) hb1.size
  have h2 := contains_led (fun x => leadB x d) w.heap.size a c us B w1 h (HRS.out.below liesD bw1) (fun x hx W hW => led_impl x d w.heap.size W (HTT.out x hx).1 HD2.out (K1.out.below hW hsz) (Nat.lt_of_lt_of_le hsz hW.size))
  clear hr hb1 K1 HRS HTT HD2
  go_wp2_with (go_at_call 101; fail)
  refine h2.mono ?_
  rintro e w2 ⟨⟨r, rfl, hr⟩, hb2⟩
  have bw2 := bw1.trans (hb2.mono bw1.size)
  have HR : Hid (RB (betP us d) (.returned (.bool r))) := ⟨r, rfl, hr.trans ⟨fun z => ⟨HA.out, z⟩, fun z => z.2⟩⟩
  clear h2 hb2 hr HA
  go_wp2
  go_ret
  exact ⟨HR.out, bw2⟩
theorem com_rise {us : List TI} (h : histP us) : ∀ (d i : Nat) (hd : i + d + 1 < us.length), (us[i]'(by omega)).com < us[i + d + 1].com
 | 0, i, hd => by
   have := (h.2 (i + 1) hd us[i + 1] (List.getElem?_eq_getElem hd)).2.2.1 (us[i]'(by omega)) (by omega) (by simp)
   simpa using this
 | d + 1, i, hd => by
   have ih := com_rise h d i (by omega)
   have := (h.2 (i + d + 1 + 1) hd us[i + d + 1 + 1] (List.getElem?_eq_getElem hd)).2.2.1 (us[i + d + 1]'(by omega)) (by omega) (by simp)
   have e : us[i + (d + 1) + 1].com = us[i + d + 1 + 1].com := rfl
   rw [e]
   omega
theorem com_lt {us : List TI} (h : histP us) {i j : Nat} (hij : i < j) (hj : j < us.length) : (us[i]'(by omega)).com < us[j].com := by
 have := com_rise h (j - i - 1) i (by omega)
 have e : i + (j - i - 1) + 1 = j := by omega
 simpa [e] using this
theorem com_ne {us : List TI} (h : histP us) {i j : Nat} {s t : TI} (hs : us[i]? = some s) (ht : us[j]? = some t) : s.com ≠ t.com ↔ i ≠ j := by
 obtain ⟨hi, rfl⟩ := List.getElem?_eq_some_iff.1 hs
 obtain ⟨hj, rfl⟩ := List.getElem?_eq_some_iff.1 ht
 constructor
 .intro hc e
  subst e
  exact hc rfl
 .intro e
  rcases Nat.lt_or_gt_of_ne e with hl | hl
  .have := com_lt h hl hj; omega
  .have := com_lt h hl hi; omega
theorem dang_bet {us : List TI} (h : histP us) : (∃ d ∈ us, betP us d) ↔ dangP us := by
 constructor
 .rintro ⟨d, hd, ⟨x, hx, hx1, hx2⟩, y, hy, hy1, hy2⟩
  obtain ⟨i, hi, rfl⟩ := List.getElem_of_mem hd
  obtain ⟨j, hj, rfl⟩ := List.getElem_of_mem hx
  obtain ⟨k, hk, rfl⟩ := List.getElem_of_mem hy
  have ei := List.getElem?_eq_getElem hi
  have ej := List.getElem?_eq_getElem hj
  have ek := List.getElem?_eq_getElem hk
  exact ⟨i, hi, us[i], ei, ⟨k, us[k], hk, (com_ne h ek ei).1 hy1, ek, hy2⟩, ⟨j, us[j], hj, ((com_ne h ej ei).1 (Ne.symm hx1)), ej, hx2⟩⟩
 .rintro ⟨i, hi, p, hp, ⟨k, y, hk, hk1, hk2, hk3⟩, j, x, hj, hj1, hj2, hj3⟩
  exact ⟨p, List.mem_of_getElem? hp, ⟨x, List.mem_of_getElem? hj2, (com_ne h hp hj2).2 (Ne.symm hj1), hj3⟩, y, List.mem_of_getElem? hk2, (com_ne h hk2 hp).2 hk1, hk3⟩
theorem certify_impl (ga : Option Addr) (ca : Nat) (us : List TI) (t : TI) (cs : List Value) (w : World) (hb : BH 1048576 us) (ht : BT 1048576 t) (ha : RS 4 CT 0 w (.slice ga us.length ca) us) (hC : CT 0 w cs t) (hga : (ga = none /\ us = [] /\ ca = 0) \/ ∃ g, ga = some ⟨g, 0, none⟩) :
 Calls Tryz.prog 88 #[.slice ga us.length ca, .agg cs.toArray] w fun e w' => CertR (us ++ [t]) e /\ Below w.heap.size w w' := by
 have HCT := hid hC
 obtain ⟨v0, v1, rfl, r0, r1⟩ := hC
 obtain ⟨a0, q0, rfl, _⟩ := r0
 obtain ⟨a1, q1, rfl, _⟩ := r1
 have hn := hb.1
 obtain ⟨W3, hW3⟩ : ∃ W, W = ((w.alloc (.cells #[.int .i64 t.bgn, .int .i64 t.com, .slice a0 t.reads.length q0, .slice a1 t.writes.length q1] 131)).alloc (.cells #[.int .i64 t.bgn, .int .i64 t.com, .slice a0 t.reads.length q0, .slice a1 t.writes.length q1] 131)).alloc (.cells #[.slice ga us.length ca, .slice (some ⟨w.heap.size + 1, 0, none⟩) 1 1] 25) := ⟨_, rfl⟩
 have bw3 : Below w.heap.size w W3 := by
  rw [hW3]
  exact ((below_alloc w _).alloc (by simp) _).alloc (by simp; omega) _
 have K1 := hid (blkB w [.int .i64 t.bgn, .int .i64 t.com, .slice a0 t.reads.length q0, .slice a1 t.writes.length q1] [.int .i64 t.bgn, .int .i64 t.com, .slice a0 t.reads.length q0, .slice a1 t.writes.length q1] [.slice ga us.length ca, .slice (some ⟨w.heap.size + 1, 0, none⟩) 1 1] 131 131 25)
 have K2 := hid (blkC w [.int .i64 t.bgn, .int .i64 t.com, .slice a0 t.reads.length q0, .slice a1 t.writes.length q1] [.int .i64 t.bgn, .int .i64 t.com, .slice a0 t.reads.length q0, .slice a1 t.writes.length q1] [.slice ga us.length ca, .slice (some ⟨w.heap.size + 1, 0, none⟩) 1 1] 131 131 25)
 have hsz : W3.heap.size = w.heap.size + 1 + 1 + 1 := by rw [hW3]; simp
 rw [<- hW3] at K1 K2
 have HT1 : Hid (RS 4 CT 0 W3 (.slice (some ⟨w.heap.size + 1, 0, none⟩) [t].length 1) [t]) := hid (⟨_, _, rfl, fun _ => ⟨w.heap.size + 1, 0, rfl, Nat.zero_le _, by omega, fun i hi => ⟨_, by
  have : i = 0 := by simp at hi; omega
  subst this
  exact liesT.below HCT.out bw3, fun j hj => by
  have : i = 0 := by simp at hi; omega
  subst this
  simpa using (K1.out j (by simpa using hj)).1⟩⟩⟩)
 have hcc : Calls Tryz.prog 100 #[.slice (some ⟨w.heap.size + 1 + 1, 0, none⟩) 2 2] W3 fun e w' => ∃ v, e = .returned v /\ RS 4 CT 0 w' v (us ++ [t]) /\ Below W3.heap.size W3 w' := by
  have q0 := (K2.out 0 (by simp)).1
  have q1 := (K2.out 1 (by simp)).1
  rcases hga with ⟨rfl, rfl, rfl⟩ | ⟨g, rfl⟩
  .exact concat_nil (w.heap.size + 1 + 1) (w.heap.size + 1) t W3 (by omega) q0 q1 HT1.out
  .exact concat_impl g ca (w.heap.size + 1 + 1) (w.heap.size + 1) us t W3 hn (by omega) q0 q1 (ha.below liesT bw3) HT1.out
 obtain ⟨al, hal⟩ : ∃ al : List TI, al = us ++ [t] := ⟨_, rfl⟩
 have HAL : Hid (al.length = us.length + 1) := hid (by rw [hal]; simp)
 have HBA : Hid (∀ x ∈ al, BT 1048576 x) := hid (by
  rw [hal]
  intro x hx
  rcases List.mem_append.1 hx with h | h
  .exact hb.2 x h
  .rw [List.mem_singleton] at h; rw [h]; exact ht)
 rw [<- hal] at hcc ⊢
 clear hal ha hb K1 K2 HT1 HCT hsz hga
 subst hW3
 go_enter Tryz.func88, Tryz.ntmps88
 go_wp2_with (go_at_call 100; fail)
 refine hcc.mono ?_
 rintro e w4 ⟨v, rfl, hr4, hb4⟩
 have bw4 : Below w.heap.size w w4 := bw3.trans (hb4.mono bw3.size)
 obtain ⟨a4, c4, hv4, _⟩ := id hr4
 have hp := past_impl a4 c4 al w4 (by have := HAL.out; omega) HBA.out (by rw [<- hv4]; exact hr4)
 subst hv4
 clear hcc hr4 hb4 bw3
 go_wp2_with (go_at_call 23; fail)
 refine hp.mono ?_
 rintro e w5 ⟨hP, hb5⟩
 have bw5 : Below w.heap.size w w5 := bw4.trans (hb5.mono bw4.size)
 clear hp bw4 hb5
 rcases hP with ⟨hH, v5, rfl, hr5⟩ | ⟨hH, rfl⟩
 .have HH := hid hH
  have hl5 : al.length <= 1000 := hH.1
  obtain ⟨a5, c5, hv5, _⟩ := id hr5
  subst hv5
  have hq := contains_between (fun d => betP al d) (.slice a5 al.length c5) a5 c5 al _ w5 hl5 hr5 (fun x hx W hW => between_impl a5 c5 al _ x W hl5 (hr5.below liesD hW) (hist_tabs hH.2) (hist_tabs hH.2 x hx))
  clear hH hr5
  go_wp2_with (go_at_call 101; fail)
  refine hq.mono ?_
  rintro e w6 ⟨⟨r, rfl, hr⟩, hb6⟩
  have bw6 : Below w.heap.size w w6 := bw5.trans (hb6.mono bw5.size)
  clear hq hb6
  rcases r with _ | _
  .have HF : Hid (CertR al (.returned (.int .i64 0))) := .inr (.inr ⟨HH.out, fun z => absurd (hr.2 ((dang_bet HH.out).2 z)) (by simp), rfl⟩)
   clear hr
   go_wp2
   go_ret
   exact ⟨HF.out, bw6⟩
  .have HF : Hid (CertR al (.returned (.int .i64 21))) := .inr (.inl ⟨HH.out, (dang_bet HH.out).1 (hr.1 rfl), rfl⟩)
   clear hr
   go_wp2
   go_ret
   exact ⟨HF.out, bw6⟩
 .have HF : Hid (CertR al (.returned (.int .i64 1))) := .inl ⟨hH, rfl⟩
  clear hH
  go_wp2
  go_ret
  exact ⟨HF.out, bw5⟩
instance decMeet (xs ys : List Int) : Decidable (meetP xs ys) := inferInstanceAs (Decidable (∃ x, x ∈ xs /\ x ∈ ys))
instance decLeads (s t : TI) : Decidable (leadsP s t) := inferInstanceAs (Decidable (_ /\ _ /\ _))
def aheadB (us : List TI) (k j : Nat) : Bool :=
 match us[k]?, us[j]? with
 | some a, some b => k != j && (decide (a.com <= b.bgn) || decide (leadsP a b))
 | _, _ => false
theorem aheadB_at {us : List TI} {k j : Nat} {a b : TI} (ha : us[k]? = some a) (hb : us[j]? = some b) : aheadB us k j = (k != j && (decide (a.com <= b.bgn) || decide (leadsP a b))) := by
 unfold aheadB; rw [ha, hb]
def cntL (us : List TI) (S : List Nat) (j : Nat) : Nat := (S.filter (fun k => aheadB us k j)).length
def remL (n : Nat) (out : List Nat) : List Nat := (List.range n).filter (fun k => !out.contains k)
theorem cntL_le (us : List TI) (S : List Nat) (j : Nat) : cntL us S j <= S.length := List.length_filter_le _ _
theorem cntL_zero {us : List TI} {S : List Nat} {j : Nat} : cntL us S j = 0 ↔ ∀ k ∈ S, aheadB us k j = false := by
 unfold cntL
 rw [List.length_eq_zero_iff, List.filter_eq_nil_iff]
 simp
theorem cntL_succ (us : List TI) (i j : Nat) : cntL us (List.range (i + 1)) j = cntL us (List.range i) j + (if aheadB us i j then 1 else 0) := by
 unfold cntL
 rw [List.range_succ, List.filter_append, List.length_append]
 by_cases h : aheadB us i j = true <;> simp [h]
theorem filter_ne {S : List Nat} {a : Nat} (p : Nat -> Bool) : S.Nodup -> a ∈ S -> ((S.filter (fun k => k != a)).filter p).length + (if p a then 1 else 0) = (S.filter p).length := by
 induction S with
 | nil => intro _ h; cases h
 | cons x xs ih =>
   intro hn hm
   rw [List.nodup_cons] at hn
   by_cases e : x = a
   .subst e
    have hx : xs.filter (fun k => k != x) = xs := List.filter_eq_self.2 (fun k hk => by
     simp only [bne_iff_ne, ne_eq]
     intro e; subst e; exact hn.1 hk)
    have h2 : (x :: xs).filter (fun k => k != x) = xs := by simp [List.filter_cons, hx]
    rw [h2, List.filter_cons]
    by_cases hp : p x = true <;> simp [hp]
   .have hm' : a ∈ xs := by
     rcases List.mem_cons.1 hm with h | h
     .exact absurd h.symm e
     .exact h
    have := ih hn.2 hm'
    have h2 : (x :: xs).filter (fun k => k != a) = x :: xs.filter (fun k => k != a) := by simp [List.filter_cons, e]
    rw [h2, List.filter_cons, List.filter_cons]
    by_cases hp : p x = true
    .rw [if_pos hp, if_pos hp, List.length_cons, List.length_cons]; omega
    .rw [if_neg hp, if_neg hp]; exact this
theorem remL_nil (n : Nat) : remL n [] = List.range n := by unfold remL; exact List.filter_eq_self.2 (fun k _ => by simp)
theorem remL_mem {n : Nat} {out : List Nat} {k : Nat} : k ∈ remL n out ↔ k < n /\ k ∉ out := by unfold remL; simp
theorem remL_nodup (n : Nat) (out : List Nat) : (remL n out).Nodup := List.nodup_range.filter _
theorem remL_push (n : Nat) (out : List Nat) (a : Nat) : remL n (out ++ [a]) = (remL n out).filter (fun k => k != a) := by
 unfold remL
 rw [List.filter_filter]
 apply List.filter_congr
 intro k _
 rw [Bool.eq_iff_iff]
 simp
 constructor
 .intro h; exact ⟨h.2, h.1⟩
 .intro h; exact ⟨h.2, h.1⟩
theorem remL_len (n : Nat) (out : List Nat) : (remL n out).length <= n := by
 unfold remL; exact Nat.le_trans (List.length_filter_le _ _) (by simp)
theorem cntL_push {us : List TI} {n : Nat} {out : List Nat} {a : Nat} (j : Nat) (ha : a ∈ remL n out) : cntL us (remL n (out ++ [a])) j + (if aheadB us a j then 1 else 0) = cntL us (remL n out) j := by
 unfold cntL
 rw [remL_push]
 exact filter_ne _ (remL_nodup n out) ha
def Pick (us : List TI) (out : List Nat) (i : Nat) : Prop := i ∈ remL us.length out /\ cntL us (remL us.length out) i = 0 /\ ∀ k, k < i -> k ∈ remL us.length out -> cntL us (remL us.length out) k ≠ 0
def NoPick (us : List TI) (out : List Nat) : Prop := ∀ k ∈ remL us.length out, cntL us (remL us.length out) k ≠ 0
def SerOut (us : List TI) (out : List Nat) : Prop := ∀ m i, out[m]? = some i -> Pick us (out.take m) i
theorem serOut_nil (us : List TI) : SerOut us [] := fun m i h => by simp at h
theorem serOut_push {us : List TI} {out : List Nat} {i : Nat} (h : SerOut us out) (hp : Pick us out i) : SerOut us (out ++ [i]) := fun m j hj => by
 by_cases e : m < out.length
 .rw [List.getElem?_append_left e] at hj
  rw [List.take_append_of_le_length (by omega)]
  exact h m j hj
 .have hm : m = out.length := by
   have := (List.getElem?_eq_some_iff.1 hj).1
   simp at this
   omega
  subst hm
  rw [List.getElem?_append_right (by omega)] at hj
  simp at hj
  subst hj
  simpa using hp
def SerC (us : List TI) (l : List Int) (c : Int) : Prop :=
 (¬ histP us /\ l = [] /\ c = 1) \/ (histP us /\ ∃ out : List Nat, SerOut us out /\ out.length = us.length /\ l = out.map Int.ofNat /\ c = 0) \/ (histP us /\ ∃ out : List Nat, SerOut us out /\ out.length < us.length /\ NoPick us out /\ l = [] /\ c = 21)
end Go.Proofs.YtblkgicbimflhaaGreat
