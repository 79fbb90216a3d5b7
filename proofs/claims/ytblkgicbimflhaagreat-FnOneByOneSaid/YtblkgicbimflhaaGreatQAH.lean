import Derived.Test.YtblkgicbimflhaaGreatQAG
namespace Go.Proofs.YtblkgicbimflhaaGreat
open Go.ChangeShapes Go.WideShapes Go.ChangeAt Go.RowKit
set_option linter.unusedVariables false
set_option linter.unusedSimpArgs false
set_option maxRecDepth 100000
set_option maxHeartbeats 16000000
def rd0 : List Bool := List.replicate 32 false
noncomputable def runF (x : Bas) (o : Opn) : Bas × Obn :=
 if o.kd < 1 \/ 10 < o.kd \/ o.ss < 1 \/ 4 < o.ss then (x, ⟨1, 0, 0, false, []⟩)
 else
  let i := (o.ss - 1).toNat
  let t := x.tx.getD i tx0
  if (o.kd == 1) = t.op then (x, ⟨22, 0, 0, false, []⟩)
  else if (2 <= o.kd /\ o.kd <= 5) /\ (o.tb < 0 \/ 32 <= o.tb) then (x, ⟨6, 0, 0, false, []⟩)
  else if o.kd = 1 then
   (if o.md ≠ 1 /\ o.md ≠ 2 then (x, ⟨1, 0, 0, false, []⟩)
    else ({ x with tx := x.tx.set i ⟨true, o.md, x.ck, [], rd0, []⟩ }, ⟨0, 0, x.ck, false, []⟩))
  else if o.kd = 2 then
   ({ x with tx := x.tx.set i { t with rs := t.rs.set o.tb.toNat true } },
    (if (seesF x.cms t.bg t.own o.tb o.ky).2 then ⟨0, (seesF x.cms t.bg t.own o.tb o.ky).1, 0, true, []⟩ else ⟨0, 0, 0, false, []⟩))
  else if o.kd = 3 then
   ({ x with tx := x.tx.set i { t with rs := t.rs.set o.tb.toNat true } }, ⟨0, 0, 0, false, listF x.cms t.bg t.own o.tb⟩)
  else if o.kd <= 5 then ({ x with tx := x.tx.set i { t with own := t.own ++ [⟨o.tb, o.ky, o.vl, decide (o.kd = 5)⟩] } }, ⟨0, 0, 0, false, []⟩)
  else if o.kd = 6 then ((commitF x i).1, ⟨(commitF x i).2.2, 0, (commitF x i).2.1, false, []⟩)
  else if o.kd = 7 then ({ x with tx := x.tx.set i tx0 }, ⟨0, 0, 0, false, []⟩)
  else ((savesF x i o).1, ⟨(savesF x i o).2, 0, 0, false, []⟩)
def RunP (B bb gx : Nat) (w : World) (r : Bas × Obn) (e : Ending) (w' : World) : Prop := ∃ cv hv vs pv, e = .returned (.agg #[.int .i64 r.2.code, .int .i64 r.2.vl, .int .i64 r.2.st, .bool r.2.fd, pv]) /\ Gr pairV 92 2 w.heap.size w' pv r.2.ps /\ Mem B bb gx w' r.1 cv hv vs /\ Keep w w' /\ Below B w w'
theorem Mem.chg {T : Nat -> Prop} {B bb gx : Nat} {w w' : World} {x : Bas} {cv hv : Value} {vs : List (Value × Value × Value)} (h : Mem B bb gx w x cv hv vs) (hk : Chg T w w') (hT : ∀ ty, T ty -> ty = 38 \/ ty = 92) : Mem B bb gx w' x cv hv vs := by
 have hn : ∀ ty, ty ≠ 38 -> ty ≠ 92 -> ¬ T ty := fun ty h1 h2 z => by
  rcases hT ty z with h | h
  .exact h1 h
  .exact h2 h
 exact ⟨h.n, h.m, h.bs.chg hk (hn _ (by decide) (by decide)) h.bt, hk.tagk (hn _ (by decide) (by decide)) h.bt, h.bB, h.xs.chg hk (hn _ (by decide) (by decide)) h.xt, hk.tagk (hn _ (by decide) (by decide)) h.xt, h.xB, fun i hi hi' => (h.tm i hi hi').chg hk (hn _ (by decide) (by decide)) (hn _ (by decide) (by decide)) (hn _ (by decide) (by decide)), h.ds, h.cm.chg hk (hn _ (by decide) (by decide)) (hn _ (by decide) (by decide)), h.hi.chg hk (hn _ (by decide) (by decide)) (hn _ (by decide) (by decide))⟩
theorem Keep.newset {w w' : World} {c j : Nat} {u : Value} (h : Keep w w') (hc : w.heap.size <= c) : Keep w (w'.setCell ⟨c, j, none⟩ u) := ⟨by simpa using h.1, fun g ty hi ht => by
 have hl := tag_lt ht
 rw [heap_setCell_other w' _ g u (fun e => by have e2 : g = c := e; omega)]
 exact h.2 g ty hi ht⟩
def set5 (w : World) (g : Nat) (a b c d e : Value) : World := ((((w.setCell ⟨g, 0, none⟩ a).setCell ⟨g, 1, none⟩ b).setCell ⟨g, 2, none⟩ c).setCell ⟨g, 3, none⟩ d).setCell ⟨g, 4, none⟩ e
theorem chg_set5 {w : World} {g : Nat} (a b c d e : Value) (ht : tag w g 38) : Chg (fun ty => ty = 38) w (set5 w g a b c d e) :=
 ((((Chg.set (T := fun ty => ty = 38) a rfl ht).trans (Chg.set b rfl (tag_set _ ht))).trans (Chg.set c rfl (tag_set _ (tag_set _ ht)))).trans (Chg.set d rfl (tag_set _ (tag_set _ (tag_set _ ht))))).trans (Chg.set e rfl (tag_set _ (tag_set _ (tag_set _ (tag_set _ ht)))))
theorem run_fin {B bb gx q : Nat} {w wx : World} {r : Bas × Obn} {cv hv pv : Value} {vs : List (Value × Value × Value)} (hM : Mem B bb gx wx r.1 cv hv vs) (hK : Keep w wx) (hB : Below B w wx) (hBw : B <= w.heap.size) (hq : w.heap.size <= q) (ht : tag wx q 38) (hG : Gr pairV 92 2 w.heap.size wx pv r.2.ps) :
 RunP B bb gx w r (.returned (.agg #[.int .i64 r.2.code, .int .i64 r.2.vl, .int .i64 r.2.st, .bool r.2.fd, pv])) (set5 wx q (.int .i64 r.2.code) (.int .i64 r.2.vl) (.int .i64 r.2.st) (.bool r.2.fd) pv) := by
 have hk := chg_set5 (.int .i64 r.2.code) (.int .i64 r.2.vl) (.int .i64 r.2.st) (.bool r.2.fd) pv ht
 refine ⟨cv, hv, vs, pv, rfl, own_chg hG hk (by decide), hM.chg hk (fun ty h => .inl h), ?_, ?_⟩
 .unfold set5
  exact ((((hK.newset hq).newset hq).newset hq).newset hq).newset hq
 .unfold set5
  have h2 : B <= q := by omega
  exact ((((hB.setCell (p := ⟨q, 0, none⟩) h2 _).setCell (p := ⟨q, 1, none⟩) h2 _).setCell (p := ⟨q, 2, none⟩) h2 _).setCell (p := ⟨q, 3, none⟩) h2 _).setCell (p := ⟨q, 4, none⟩) h2 _
theorem gr_nil {α : Type} (f : α -> List Value) (ty k b : Nat) (w : World) : Gr f ty k b w (.slice none 0 0) ([] : List α) := by
 unfold Gr
 exact World.ownsRow_nil _ _ _ _
structure Pre (w W : World) (a b c d : List Value) (ta tb tc td : Nat) : Prop where
 be : Below w.heap.size w W
 sz : W.heap.size = w.heap.size + 1 + 1 + 1 + 1
 ka : Blk W w.heap.size a
 kb : Blk W (w.heap.size + 1) b
 kc : Blk W (w.heap.size + 1 + 1) c
 kd : Blk W (w.heap.size + 1 + 1 + 1) d
 ga : tag W w.heap.size ta
 gb : tag W (w.heap.size + 1) tb
 gc : tag W (w.heap.size + 1 + 1) tc
 gd : tag W (w.heap.size + 1 + 1 + 1) td
theorem pre4 (w : World) (a b c d : List Value) (ta tb tc td : Nat) : Pre w ((((w.alloc (.cells a.toArray ta)).alloc (.cells b.toArray tb)).alloc (.cells c.toArray tc)).alloc (.cells d.toArray td)) a b c d ta tb tc td := by
 have e1 : (w.alloc (.cells a.toArray ta)).heap.size = w.heap.size + 1 := by simp
 have e2 : ((w.alloc (.cells a.toArray ta)).alloc (.cells b.toArray tb)).heap.size = w.heap.size + 1 + 1 := by simp
 have e3 : (((w.alloc (.cells a.toArray ta)).alloc (.cells b.toArray tb)).alloc (.cells c.toArray tc)).heap.size = w.heap.size + 1 + 1 + 1 := by simp
 have k1 := blk_new (w.alloc (.cells a.toArray ta)) b tb
 have k2 := blk_new ((w.alloc (.cells a.toArray ta)).alloc (.cells b.toArray tb)) c tc
 have k3 := blk_new (((w.alloc (.cells a.toArray ta)).alloc (.cells b.toArray tb)).alloc (.cells c.toArray tc)) d td
 have g1 := tag_new (w.alloc (.cells a.toArray ta)) b tb
 have g2 := tag_new ((w.alloc (.cells a.toArray ta)).alloc (.cells b.toArray tb)) c tc
 have g3 := tag_new (((w.alloc (.cells a.toArray ta)).alloc (.cells b.toArray tb)).alloc (.cells c.toArray tc)) d td
 rw [e1] at k1 g1
 rw [e2] at k2 g2
 rw [e3] at k3 g3
 refine ⟨(((below_alloc w _).alloc (by simp) _).alloc (by simp; omega) _).alloc (by simp; omega) _, by simp, ?_, ?_, ?_, k3, ?_, ?_, ?_, g3⟩
 .exact (((blk_new w a ta).below (below_alloc _ _) (by simp)).below (below_alloc _ _) (by simp; omega)).below (below_alloc _ _) (by simp; omega)
 .exact (k1.below (below_alloc _ _) (by simp)).below (below_alloc _ _) (by simp)
 .exact k2.below (below_alloc _ _) (by simp)
 .exact tag_below (tag_below (tag_below (tag_new w a ta) (below_alloc _ _)) (below_alloc _ _)) (below_alloc _ _)
 .exact tag_below (tag_below g1 (below_alloc _ _)) (below_alloc _ _)
 .exact tag_below g2 (below_alloc _ _)
theorem pre5 (w : World) (kd ss tb ky vl md : Int) (nm : ByteArray) (op : Bool) (tm tg : Int) (u v r : Value) : ∃ W1, W1 = ((((w.alloc (.cells #[.int .i64 kd, .int .i64 ss, .int .i64 tb, .int .i64 ky, .int .i64 vl, .int .i64 md, .string nm] 41)).alloc (.cells #[.int .i64 0, .int .i64 0, .int .i64 0, .bool false, .slice none 0 0] 38)).alloc (.cells #[.bool op, .int .i64 tm, .int .i64 tg, u, v, r] 70)).alloc (.cells #[.int .i64 0, .int .i64 0, .int .i64 0, .bool false, .slice none 0 0] 38)) /\ Hid (Pre w W1 [.int .i64 kd, .int .i64 ss, .int .i64 tb, .int .i64 ky, .int .i64 vl, .int .i64 md, .string nm] [.int .i64 0, .int .i64 0, .int .i64 0, .bool false, .slice none 0 0] [.bool op, .int .i64 tm, .int .i64 tg, u, v, r] [.int .i64 0, .int .i64 0, .int .i64 0, .bool false, .slice none 0 0] 41 38 70 38) := ⟨_, rfl, hid (pre4 w [.int .i64 kd, .int .i64 ss, .int .i64 tb, .int .i64 ky, .int .i64 vl, .int .i64 md, .string nm] [.int .i64 0, .int .i64 0, .int .i64 0, .bool false, .slice none 0 0] [.bool op, .int .i64 tm, .int .i64 tg, u, v, r] [.int .i64 0, .int .i64 0, .int .i64 0, .bool false, .slice none 0 0] 41 38 70 38)⟩
theorem iok {i : Nat} (hi : i < 4) : (i : Int) < 4 /\ ¬ ((i : Int) + 1 < 1) /\ ¬ (4 < (i : Int) + 1) /\ IntKind.i64.wrap ((i : Int) + 1 - 1) = i := ⟨by omega, by omega, by omega, by simp only [IntKind.wrap_i64, wrap64]; omega⟩
theorem Mem.opn {B bb gx i : Nat} {w : World} {x : Bas} {cv hv : Value} {vs : List (Value × Value × Value)} (hM : Mem B bb gx w x cv hv vs) (hi : i < 4) (hop : (x.tx.getD i tx0).op = true) : ∃ t gr oa oc sa sc ma mc ha hc, cv = .slice ma x.cms.length mc /\ hv = .slice ha x.hs.length hc /\ x.tx[i]? = some t /\ vs[i]? = some (.slice oa t.own.length oc, .slice (some ⟨gr, 0, none⟩) 32 32, .slice sa t.sv.length sc) /\ TxM B w t (.slice oa t.own.length oc, .slice (some ⟨gr, 0, none⟩) 32 32, .slice sa t.sv.length sc) /\ (∀ j, j < 6 -> w.cell? ⟨gx, i * 6 + j, none⟩ = (txV t (.slice oa t.own.length oc, .slice (some ⟨gr, 0, none⟩) 32 32, .slice sa t.sv.length sc))[j]? /\ w.frozen? ⟨gx, i * 6 + j, none⟩ = false) /\ x.tx.getD i tx0 = t /\ t ∈ x.tx /\ t.op = true /\ t.rs.length = 32 /\ B <= gr /\ tag w gr 4 /\ Blk w gr (t.rs.map Value.bool) /\ w.cell? ⟨gx, i * 6, none⟩ = some (.bool true) /\ w.cell? ⟨gx, i * 6 + 1, none⟩ = some (.int .i64 t.md) /\ w.cell? ⟨gx, i * 6 + 2, none⟩ = some (.int .i64 t.bg) /\ w.cell? ⟨gx, i * 6 + 3, none⟩ = some (.slice oa t.own.length oc) /\ w.cell? ⟨gx, i * 6 + 4, none⟩ = some (.slice (some ⟨gr, 0, none⟩) 32 32) /\ w.cell? ⟨gx, i * 6 + 5, none⟩ = some (.slice sa t.sv.length sc) /\ w.cell? ⟨bb, 3, none⟩ = some (.slice (some ⟨gx, 0, none⟩) 4 4) /\ gx < w.heap.size /\ bb < w.heap.size := by
 obtain ⟨t, ⟨ov, rv, sv⟩, htx, hvx, hTM, hcell⟩ := hM.at hi
 have htD : x.tx.getD i tx0 = t := by rw [List.getD_eq_getElem?_getD, htx]; rfl
 rw [htD] at hop
 obtain ⟨hrl, gr, hrv, hgB, hgt, hgb⟩ := hTM.rd hop
 simp only at hrv
 subst hrv
 obtain ⟨oa, oc, hov⟩ := hTM.ow.form
 simp only at hov
 subst hov
 obtain ⟨sa, sc, hsv⟩ := hTM.sa.form
 simp only at hsv
 subst hsv
 obtain ⟨ma, mc, hcv⟩ : ∃ a c, cv = .slice a x.cms.length c := by obtain ⟨ps, _, ho, _⟩ := hM.cm; exact formR ho
 obtain ⟨ha, hc, hhv⟩ : ∃ a c, hv = .slice a x.hs.length c := by obtain ⟨ps, _, ho, _⟩ := hM.hi; exact formR ho
 exact ⟨t, gr, oa, oc, sa, sc, ma, mc, ha, hc, hcv, hhv, htx, hvx, hTM, hcell, htD, List.mem_of_getElem? htx, hop, hrl, hgB, hgt, hgb, (hcell 0 (by omega)).1.trans (by show some (Value.bool t.op) = _; rw [hop]), (hcell 1 (by omega)).1, (hcell 2 (by omega)).1, (hcell 3 (by omega)).1, (hcell 4 (by omega)).1, (hcell 5 (by omega)).1, (hM.bs 3 (by simp)).1, tag_lt hM.xt, tag_lt hM.bt⟩
theorem run_7 (B bb gx i : Nat) (x : Bas) (tb ky vl md : Int) (nm : ByteArray) (cv hv : Value) (vs : List (Value × Value × Value)) (w : World) (hM : Mem B bb gx w x cv hv vs) (hi : i < 4) (hop : (x.tx.getD i tx0).op = true) (hb : Bnd x) (hB : B <= w.heap.size) :
 Calls Tryz.prog 21 #[.pointer (some ⟨bb, 0, none⟩), .agg #[.int .i64 7, .int .i64 ((i : Int) + 1), .int .i64 tb, .int .i64 ky, .int .i64 vl, .int .i64 md, .string nm]] w fun e w' => RunP B bb gx w (runF x ⟨7, (i : Int) + 1, tb, ky, vl, md, nm⟩) e w' := by
 have hin0 : ((i : Int) + 1 - 1).toNat = i := by omega
 have er : runF x ⟨7, (i : Int) + 1, tb, ky, vl, md, nm⟩ = ({ x with tx := x.tx.set i tx0 }, ⟨0, 0, 0, false, []⟩) := by
  unfold runF
  simp only [hin0, hop]
  rw [if_neg (by omega), if_neg (by decide)]
  simp
 rw [er]
 clear er hin0
 obtain ⟨t, gr, oa, oc, sa, sc, ma, mc, ha, hc, rfl, rfl, htx, hvx, hTM, hcell, htD, hmem, hop, hrl, hgB, hgt, hgb, q0, q1, q2, q3, q4, q5, b3, hgxl, hbbl⟩ := hM.opn hi hop
 obtain ⟨hii, hs1, hs2, hwr⟩ := iok hi
 have hin : ((i : Int) + 1 - 1).toNat = i := by omega
 have HIN := hid hin
 clear hin
 have hgl1 : gx < w.heap.size + 1 := by omega
 have hbl1 : bb < w.heap.size + 1 := by omega
 obtain ⟨W1, hW1, PR⟩ := pre5 w 7 ((i : Int) + 1) tb ky vl md nm true t.md t.bg (.slice oa t.own.length oc) (.slice (some ⟨gr, 0, none⟩) 32 32) (.slice sa t.sv.length sc)
 have HM1 := hid (hM.below PR.out.be)
 have HTM1 := hid (hTM.chg (Chg.of_below (fun _ => False) PR.out.be) (fun z => z) (fun z => z) (fun z => z))
 have HBN := hid hb
 have HTX := hid htx
 have HVX := hid hvx
 have HTD := hid htD
 have HMEM := hid hmem
 have HOP := hid hop
 have HRL := hid hrl
 have HGT := hid hgt
 have HGB := hid hgb
 have HCL := hid hcell
 clear hM hTM hb htx hvx hcell hmem htD hop hrl hgt hgb
 go_enter Tryz.func21, Tryz.ntmps21
 go_upto_region 11 with (fail)
 rw [<- hW1]
 clear hW1 q0 q1 q2 q3 q4 q5 b3
 obtain ⟨k0, k1, k2, k3, k4, k5, k6⟩ := kc6 PR.out.ka
 have x0 : W1.cell? ⟨w.heap.size + 1 + 1 + 1, 0, none⟩ = some (.int .i64 0) := (PR.out.kd 0 (by simp)).1
 have y0 : W1.frozen? ⟨w.heap.size + 1 + 1 + 1, 0, none⟩ = false := (PR.out.kd 0 (by simp)).2
 have r0 : W1.cell? ⟨w.heap.size + 1, 0, none⟩ = some (.int .i64 0) := (PR.out.kb 0 (by simp)).1
 have s0 : W1.frozen? ⟨w.heap.size + 1, 0, none⟩ = false := (PR.out.kb 0 (by simp)).2
 obtain ⟨⟨-, -⟩, ⟨x1, y1⟩⟩ := kb1 PR.out.kd
 obtain ⟨⟨-, -⟩, ⟨r1, s1⟩⟩ := kb1 PR.out.kb
 obtain ⟨⟨-, -⟩, ⟨-, -⟩, ⟨x2, y2⟩⟩ := kb2 PR.out.kd
 obtain ⟨⟨-, -⟩, ⟨-, -⟩, ⟨r2, s2⟩⟩ := kb2 PR.out.kb
 obtain ⟨⟨-, -⟩, ⟨-, -⟩, ⟨-, -⟩, ⟨x3, y3⟩⟩ := kb3 PR.out.kd
 obtain ⟨⟨-, -⟩, ⟨-, -⟩, ⟨-, -⟩, ⟨r3, s3⟩⟩ := kb3 PR.out.kb
 obtain ⟨⟨-, -⟩, ⟨-, -⟩, ⟨-, -⟩, ⟨-, -⟩, ⟨x4, y4⟩⟩ := kb4 PR.out.kd
 obtain ⟨⟨-, -⟩, ⟨-, -⟩, ⟨-, -⟩, ⟨-, -⟩, ⟨r4, s4⟩⟩ := kb4 PR.out.kb
 obtain ⟨W2, hW2⟩ : ∃ z, z = set6 W1 gx (i * 6) (.bool false) (.int .i64 0) (.int .i64 0) (.slice none 0 0) (.slice none 0 0) (.slice none 0 0) := ⟨_, rfl⟩
 have P2 := HM1.out.put6 hi tx0 (.slice none 0 0, .slice none 0 0, .slice none 0 0) (txm0 _ _) (fun j _ _ g hg => by simp [Value.ownBlock] at hg)
 have HF : Hid (RunP B bb gx w ({ x with tx := x.tx.set i tx0 }, ⟨0, 0, 0, false, []⟩) (.returned (.agg #[.int .i64 0, .int .i64 0, .int .i64 0, .bool false, .slice none 0 0])) (set5 (set6 W1 gx (i * 6) (.bool false) (.int .i64 0) (.int .i64 0) (.slice none 0 0) (.slice none 0 0) (.slice none 0 0)) (w.heap.size + 1) (.int .i64 0) (.int .i64 0) (.int .i64 0) (.bool false) (.slice none 0 0))) := hid (by
  exact run_fin (r := ({ x with tx := x.tx.set i tx0 }, ⟨0, 0, 0, false, []⟩)) P2.1 ((Keep.of_below PR.out.be).trans (P2.2.keep (fun ty h z => by subst h; exact z.2.1 rfl))) (below_set6 (PR.out.be.mono hB) HM1.out.xB) hB (Nat.le_succ _) (tag_set6 PR.out.gb) (gr_nil _ _ _ _ _))
 have b3 : W1.cell? ⟨bb, 3, none⟩ = some (.slice (some ⟨gx, 0, none⟩) 4 4) := (HM1.out.bs 3 (by simp)).1
 have hsz : W1.heap.size = w.heap.size + 1 + 1 + 1 + 1 := PR.out.sz
 have q0 : W1.cell? ⟨gx, i * 6, none⟩ = some (.bool true) := (PR.out.be.cell (p := ⟨gx, i * 6, none⟩) hgxl).trans ((HCL.out 0 (by omega)).1.trans (by show some (Value.bool t.op) = _; rw [HOP.out]))
 have z0 : W1.frozen? ⟨gx, i * 6, none⟩ = false := (PR.out.be.frozen (p := ⟨gx, i * 6, none⟩) hgxl).trans (HCL.out 0 (by omega)).2
 have q1 : W1.cell? ⟨gx, i * 6 + 1, none⟩ = some (.int .i64 t.md) := ct PR.out.be hgxl ((HCL.out 1 (by omega)).1)
 have z1 : W1.frozen? ⟨gx, i * 6 + 1, none⟩ = false := (PR.out.be.frozen (p := ⟨gx, i * 6 + 1, none⟩) hgxl).trans (HCL.out 1 (by omega)).2
 have q2 : W1.cell? ⟨gx, i * 6 + 2, none⟩ = some (.int .i64 t.bg) := ct PR.out.be hgxl ((HCL.out 2 (by omega)).1)
 have z2 : W1.frozen? ⟨gx, i * 6 + 2, none⟩ = false := (PR.out.be.frozen (p := ⟨gx, i * 6 + 2, none⟩) hgxl).trans (HCL.out 2 (by omega)).2
 have q3 : W1.cell? ⟨gx, i * 6 + 3, none⟩ = some (.slice oa t.own.length oc) := ct PR.out.be hgxl ((HCL.out 3 (by omega)).1)
 have z3 : W1.frozen? ⟨gx, i * 6 + 3, none⟩ = false := (PR.out.be.frozen (p := ⟨gx, i * 6 + 3, none⟩) hgxl).trans (HCL.out 3 (by omega)).2
 have q4 : W1.cell? ⟨gx, i * 6 + 4, none⟩ = some (.slice (some ⟨gr, 0, none⟩) 32 32) := ct PR.out.be hgxl ((HCL.out 4 (by omega)).1)
 have z4 : W1.frozen? ⟨gx, i * 6 + 4, none⟩ = false := (PR.out.be.frozen (p := ⟨gx, i * 6 + 4, none⟩) hgxl).trans (HCL.out 4 (by omega)).2
 have q5 : W1.cell? ⟨gx, i * 6 + 5, none⟩ = some (.slice sa t.sv.length sc) := ct PR.out.be hgxl ((HCL.out 5 (by omega)).1)
 have z5 : W1.frozen? ⟨gx, i * 6 + 5, none⟩ = false := (PR.out.be.frozen (p := ⟨gx, i * 6 + 5, none⟩) hgxl).trans (HCL.out 5 (by omega)).2
 have hn1 : ¬ gx = w.heap.size + 1 := by omega
 have hn3 : ¬ gx = w.heap.size + 1 + 1 + 1 := by omega
 have hn4 : ¬ w.heap.size + 1 = gx := by omega
 have hn5 : ¬ w.heap.size + 1 + 1 + 1 = gx := by omega
 unfold set5 set6 at HF
 clear P2 hW2 hsz PR HM1 HTM1 HCL
 go_wp2
 refine bodyPost_ret (v := .agg #[.int .i64 0, .int .i64 0, .int .i64 0, .bool false, .slice none 0 0]) (by simp [results, Tryz.results21, go_sem, r0, r1, r2, r3, r4, s0, s1, s2, s3, s4]) rfl ?_
 exact HF.out
theorem pre3 (w : World) (a b c : List Value) (ta tb tc : Nat) : Below w.heap.size w (((w.alloc (.cells a.toArray ta)).alloc (.cells b.toArray tb)).alloc (.cells c.toArray tc)) /\ tag (((w.alloc (.cells a.toArray ta)).alloc (.cells b.toArray tb)).alloc (.cells c.toArray tc)) (w.heap.size + 1) tb /\ Blk (((w.alloc (.cells a.toArray ta)).alloc (.cells b.toArray tb)).alloc (.cells c.toArray tc)) (w.heap.size + 1) b := by
 have e1 : (w.alloc (.cells a.toArray ta)).heap.size = w.heap.size + 1 := by simp
 have k1 := blk_new (w.alloc (.cells a.toArray ta)) b tb
 have g1 := tag_new (w.alloc (.cells a.toArray ta)) b tb
 rw [e1] at k1 g1
 exact ⟨((below_alloc w _).alloc (by simp) _).alloc (by simp; omega) _, tag_below g1 (below_alloc _ _), k1.below (below_alloc _ _) (by simp)⟩
theorem pre2 (w : World) (a b : List Value) (ta tb : Nat) : Below w.heap.size w ((w.alloc (.cells a.toArray ta)).alloc (.cells b.toArray tb)) /\ tag ((w.alloc (.cells a.toArray ta)).alloc (.cells b.toArray tb)) (w.heap.size + 1) tb := by
 have e1 : (w.alloc (.cells a.toArray ta)).heap.size = w.heap.size + 1 := by simp
 have g1 := tag_new (w.alloc (.cells a.toArray ta)) b tb
 rw [e1] at g1
 exact ⟨(below_alloc w _).alloc (by simp) _, g1⟩
theorem run_bad (B bb gx : Nat) (x : Bas) (o : Opn) (cv hv : Value) (vs : List (Value × Value × Value)) (w : World) (hM : Mem B bb gx w x cv hv vs) (hB : B <= w.heap.size) (hbad : o.kd < 1 \/ 10 < o.kd \/ o.ss < 1 \/ 4 < o.ss) :
 Calls Tryz.prog 21 #[.pointer (some ⟨bb, 0, none⟩), .agg #[.int .i64 o.kd, .int .i64 o.ss, .int .i64 o.tb, .int .i64 o.ky, .int .i64 o.vl, .int .i64 o.md, .string o.nm]] w fun e w' => RunP B bb gx w (runF x o) e w' := by
 have er : runF x o = (x, ⟨1, 0, 0, false, []⟩) := by unfold runF; rw [if_pos hbad]
 rw [er]
 clear er
 have P := pre2 w [.int .i64 o.kd, .int .i64 o.ss, .int .i64 o.tb, .int .i64 o.ky, .int .i64 o.vl, .int .i64 o.md, .string o.nm] [.int .i64 1, .int .i64 0, .int .i64 0, .bool false, .slice none 0 0] 41 38
 have HF : Hid (RunP B bb gx w (x, ⟨1, 0, 0, false, []⟩) (.returned (.agg #[.int .i64 1, .int .i64 0, .int .i64 0, .bool false, .slice none 0 0])) ((w.alloc (.cells #[.int .i64 o.kd, .int .i64 o.ss, .int .i64 o.tb, .int .i64 o.ky, .int .i64 o.vl, .int .i64 o.md, .string o.nm] 41)).alloc (.cells #[.int .i64 1, .int .i64 0, .int .i64 0, .bool false, .slice none 0 0] 38))) := hid (⟨cv, hv, vs, _, rfl, gr_nil _ _ _ _ _, hM.below P.1, Keep.of_below P.1, P.1.mono hB⟩)
 clear P hM
 by_cases h1 : o.kd < 1
 .clear hbad
  go_enter Tryz.func21, Tryz.ntmps21
  go_wp2
  refine bodyPost_ret (v := .agg #[.int .i64 1, .int .i64 0, .int .i64 0, .bool false, .slice none 0 0]) (by simp [results, Tryz.results21, go_sem]) rfl ?_
  with_reducible exact HF.out
 .by_cases h2 : 10 < o.kd
  .clear hbad
   go_enter Tryz.func21, Tryz.ntmps21
   go_wp2
   refine bodyPost_ret (v := .agg #[.int .i64 1, .int .i64 0, .int .i64 0, .bool false, .slice none 0 0]) (by simp [results, Tryz.results21, go_sem]) rfl ?_
   with_reducible exact HF.out
  .by_cases h3 : o.ss < 1
   .clear hbad
    go_enter Tryz.func21, Tryz.ntmps21
    go_wp2
    refine bodyPost_ret (v := .agg #[.int .i64 1, .int .i64 0, .int .i64 0, .bool false, .slice none 0 0]) (by simp [results, Tryz.results21, go_sem]) rfl ?_
    with_reducible exact HF.out
   .have h4 : 4 < o.ss := by omega
    clear hbad
    go_enter Tryz.func21, Tryz.ntmps21
    go_wp2
    refine bodyPost_ret (v := .agg #[.int .i64 1, .int .i64 0, .int .i64 0, .bool false, .slice none 0 0]) (by simp [results, Tryz.results21, go_sem]) rfl ?_
    with_reducible exact HF.out
theorem run_st1 (B bb gx i : Nat) (x : Bas) (tb ky vl md : Int) (nm : ByteArray) (cv hv : Value) (vs : List (Value × Value × Value)) (w : World) (hM : Mem B bb gx w x cv hv vs) (hi : i < 4) (hop : (x.tx.getD i tx0).op = true) (hb : Bnd x) (hB : B <= w.heap.size) :
 Calls Tryz.prog 21 #[.pointer (some ⟨bb, 0, none⟩), .agg #[.int .i64 1, .int .i64 ((i : Int) + 1), .int .i64 tb, .int .i64 ky, .int .i64 vl, .int .i64 md, .string nm]] w fun e w' => RunP B bb gx w (runF x ⟨1, (i : Int) + 1, tb, ky, vl, md, nm⟩) e w' := by
 obtain ⟨t, ⟨ov, rv, sv⟩, htx, hvx, hTM, hcell⟩ := hM.at hi
 have htD : x.tx.getD i tx0 = t := by rw [List.getD_eq_getElem?_getD, htx]; rfl
 have hin : ((i : Int) + 1 - 1).toNat = i := by omega
 have er : runF x ⟨1, (i : Int) + 1, tb, ky, vl, md, nm⟩ = (x, ⟨22, 0, 0, false, []⟩) := by
  unfold runF
  simp only [hin, hop]
  rw [if_neg (by omega), if_pos (by decide)]
 rw [er]
 clear er hin
 rw [htD] at hop
 obtain ⟨ra, rn, rc, hrv⟩ := hTM.rf.1
 simp only at hrv
 subst hrv
 obtain ⟨oa, oc, hov⟩ := hTM.ow.form
 simp only at hov
 subst hov
 obtain ⟨sa, sc, hsv⟩ := hTM.sa.form
 simp only at hsv
 subst hsv
 have q0 : w.cell? ⟨gx, i * 6, none⟩ = some (.bool true) := (hcell 0 (by omega)).1.trans (by show some (Value.bool t.op) = _; rw [hop])
 obtain ⟨-, q1, q2, q3, q4, q5⟩ := mqc hcell
 have b3 : w.cell? ⟨bb, 3, none⟩ = some (.slice (some ⟨gx, 0, none⟩) 4 4) := (hM.bs 3 (by simp)).1
 have hgxl : gx < w.heap.size := tag_lt hM.xt
 have hbbl : bb < w.heap.size := tag_lt hM.bt
 obtain ⟨hii, hs1, hs2, hwr⟩ := iok hi
 have hgl1 : gx < w.heap.size + 1 := by omega
 have hbl1 : bb < w.heap.size + 1 := by omega
 have P := pre3 w [.int .i64 1, .int .i64 ((i : Int) + 1), .int .i64 tb, .int .i64 ky, .int .i64 vl, .int .i64 md, .string nm] [.int .i64 22, .int .i64 0, .int .i64 0, .bool false, .slice none 0 0] [.bool true, .int .i64 t.md, .int .i64 t.bg, .slice oa t.own.length oc, .slice ra rn rc, .slice sa t.sv.length sc] 41 38 70
 have HF : Hid (RunP B bb gx w (x, ⟨22, 0, 0, false, []⟩) (.returned (.agg #[.int .i64 22, .int .i64 0, .int .i64 0, .bool false, .slice none 0 0])) (((w.alloc (.cells #[.int .i64 1, .int .i64 ((i : Int) + 1), .int .i64 tb, .int .i64 ky, .int .i64 vl, .int .i64 md, .string nm] 41)).alloc (.cells #[.int .i64 22, .int .i64 0, .int .i64 0, .bool false, .slice none 0 0] 38)).alloc (.cells #[.bool true, .int .i64 t.md, .int .i64 t.bg, .slice oa t.own.length oc, .slice ra rn rc, .slice sa t.sv.length sc] 70))) := hid (⟨cv, hv, vs, _, rfl, gr_nil _ _ _ _ _, hM.below P.1, Keep.of_below P.1, P.1.mono hB⟩)
 clear P hM hTM hcell htx hvx htD hop hb
 go_enter Tryz.func21, Tryz.ntmps21
 go_wp2
 refine bodyPost_ret (v := .agg #[.int .i64 22, .int .i64 0, .int .i64 0, .bool false, .slice none 0 0]) (by simp [results, Tryz.results21, go_sem]) rfl ?_
 with_reducible exact HF.out
theorem run_st2 (B bb gx i : Nat) (x : Bas) (kd tb ky vl md : Int) (nm : ByteArray) (cv hv : Value) (vs : List (Value × Value × Value)) (w : World) (hM : Mem B bb gx w x cv hv vs) (hi : i < 4) (hop : (x.tx.getD i tx0).op = false) (hb : Bnd x) (hB : B <= w.heap.size) (h1 : ¬ kd < 1) (h10 : ¬ 10 < kd) (hk1 : (kd == 1) = false) :
 Calls Tryz.prog 21 #[.pointer (some ⟨bb, 0, none⟩), .agg #[.int .i64 kd, .int .i64 ((i : Int) + 1), .int .i64 tb, .int .i64 ky, .int .i64 vl, .int .i64 md, .string nm]] w fun e w' => RunP B bb gx w (runF x ⟨kd, (i : Int) + 1, tb, ky, vl, md, nm⟩) e w' := by
 obtain ⟨t, ⟨ov, rv, sv⟩, htx, hvx, hTM, hcell⟩ := hM.at hi
 have htD : x.tx.getD i tx0 = t := by rw [List.getD_eq_getElem?_getD, htx]; rfl
 have hin : ((i : Int) + 1 - 1).toNat = i := by omega
 have er : runF x ⟨kd, (i : Int) + 1, tb, ky, vl, md, nm⟩ = (x, ⟨22, 0, 0, false, []⟩) := by
  unfold runF
  simp only [hin, hop]
  rw [if_neg (by omega), if_pos hk1]
 rw [er]
 clear er hin
 rw [htD] at hop
 obtain ⟨ra, rn, rc, hrv⟩ := hTM.rf.1
 simp only at hrv
 subst hrv
 obtain ⟨oa, oc, hov⟩ := hTM.ow.form
 simp only at hov
 subst hov
 obtain ⟨sa, sc, hsv⟩ := hTM.sa.form
 simp only at hsv
 subst hsv
 have q0 : w.cell? ⟨gx, i * 6, none⟩ = some (.bool false) := (hcell 0 (by omega)).1.trans (by show some (Value.bool t.op) = _; rw [hop])
 obtain ⟨-, q1, q2, q3, q4, q5⟩ := mqc hcell
 have b3 : w.cell? ⟨bb, 3, none⟩ = some (.slice (some ⟨gx, 0, none⟩) 4 4) := (hM.bs 3 (by simp)).1
 have hgxl : gx < w.heap.size := tag_lt hM.xt
 have hbbl : bb < w.heap.size := tag_lt hM.bt
 obtain ⟨hii, hs1, hs2, hwr⟩ := iok hi
 have hgl1 : gx < w.heap.size + 1 := by omega
 have hbl1 : bb < w.heap.size + 1 := by omega
 have P := pre3 w [.int .i64 kd, .int .i64 ((i : Int) + 1), .int .i64 tb, .int .i64 ky, .int .i64 vl, .int .i64 md, .string nm] [.int .i64 22, .int .i64 0, .int .i64 0, .bool false, .slice none 0 0] [.bool false, .int .i64 t.md, .int .i64 t.bg, .slice oa t.own.length oc, .slice ra rn rc, .slice sa t.sv.length sc] 41 38 70
 have HF : Hid (RunP B bb gx w (x, ⟨22, 0, 0, false, []⟩) (.returned (.agg #[.int .i64 22, .int .i64 0, .int .i64 0, .bool false, .slice none 0 0])) (((w.alloc (.cells #[.int .i64 kd, .int .i64 ((i : Int) + 1), .int .i64 tb, .int .i64 ky, .int .i64 vl, .int .i64 md, .string nm] 41)).alloc (.cells #[.int .i64 22, .int .i64 0, .int .i64 0, .bool false, .slice none 0 0] 38)).alloc (.cells #[.bool false, .int .i64 t.md, .int .i64 t.bg, .slice oa t.own.length oc, .slice ra rn rc, .slice sa t.sv.length sc] 70))) := hid (⟨cv, hv, vs, _, rfl, gr_nil _ _ _ _ _, hM.below P.1, Keep.of_below P.1, P.1.mono hB⟩)
 clear P hM hTM hcell htx hvx htD hop hb
 go_enter Tryz.func21, Tryz.ntmps21
 go_wp2
 refine bodyPost_ret (v := .agg #[.int .i64 22, .int .i64 0, .int .i64 0, .bool false, .slice none 0 0]) (by simp [results, Tryz.results21, go_sem]) rfl ?_
 with_reducible exact HF.out
theorem run_tb (B bb gx i : Nat) (x : Bas) (kd tb ky vl md : Int) (nm : ByteArray) (cv hv : Value) (vs : List (Value × Value × Value)) (w : World) (hM : Mem B bb gx w x cv hv vs) (hi : i < 4) (hop : (x.tx.getD i tx0).op = true) (hb : Bnd x) (hB : B <= w.heap.size) (h1 : 2 <= kd) (h10 : kd <= 5) (htb : tb < 0 \/ 32 <= tb) :
 Calls Tryz.prog 21 #[.pointer (some ⟨bb, 0, none⟩), .agg #[.int .i64 kd, .int .i64 ((i : Int) + 1), .int .i64 tb, .int .i64 ky, .int .i64 vl, .int .i64 md, .string nm]] w fun e w' => RunP B bb gx w (runF x ⟨kd, (i : Int) + 1, tb, ky, vl, md, nm⟩) e w' := by
 obtain ⟨t, ⟨ov, rv, sv⟩, htx, hvx, hTM, hcell⟩ := hM.at hi
 have htD : x.tx.getD i tx0 = t := by rw [List.getD_eq_getElem?_getD, htx]; rfl
 have hin : ((i : Int) + 1 - 1).toNat = i := by omega
 have er : runF x ⟨kd, (i : Int) + 1, tb, ky, vl, md, nm⟩ = (x, ⟨6, 0, 0, false, []⟩) := by
  unfold runF
  simp only [hin, hop]
  rw [if_neg (by omega), if_neg (by have : (kd == 1) = false := beq_eq_false_iff_ne.2 (by omega); rw [this]; decide), if_pos ⟨⟨h1, h10⟩, htb⟩]
 rw [er]
 clear er hin
 rw [htD] at hop
 obtain ⟨ra, rn, rc, hrv⟩ := hTM.rf.1
 simp only at hrv
 subst hrv
 obtain ⟨oa, oc, hov⟩ := hTM.ow.form
 simp only at hov
 subst hov
 obtain ⟨sa, sc, hsv⟩ := hTM.sa.form
 simp only at hsv
 subst hsv
 have q0 : w.cell? ⟨gx, i * 6, none⟩ = some (.bool true) := (hcell 0 (by omega)).1.trans (by show some (Value.bool t.op) = _; rw [hop])
 obtain ⟨-, q1, q2, q3, q4, q5⟩ := mqc hcell
 have b3 : w.cell? ⟨bb, 3, none⟩ = some (.slice (some ⟨gx, 0, none⟩) 4 4) := (hM.bs 3 (by simp)).1
 have hgxl : gx < w.heap.size := tag_lt hM.xt
 have hbbl : bb < w.heap.size := tag_lt hM.bt
 obtain ⟨hii, hs1, hs2, hwr⟩ := iok hi
 have hgl1 : gx < w.heap.size + 1 := by omega
 have hbl1 : bb < w.heap.size + 1 := by omega
 have P := pre3 w [.int .i64 kd, .int .i64 ((i : Int) + 1), .int .i64 tb, .int .i64 ky, .int .i64 vl, .int .i64 md, .string nm] [.int .i64 6, .int .i64 0, .int .i64 0, .bool false, .slice none 0 0] [.bool true, .int .i64 t.md, .int .i64 t.bg, .slice oa t.own.length oc, .slice ra rn rc, .slice sa t.sv.length sc] 41 38 70
 have HF : Hid (RunP B bb gx w (x, ⟨6, 0, 0, false, []⟩) (.returned (.agg #[.int .i64 6, .int .i64 0, .int .i64 0, .bool false, .slice none 0 0])) (((w.alloc (.cells #[.int .i64 kd, .int .i64 ((i : Int) + 1), .int .i64 tb, .int .i64 ky, .int .i64 vl, .int .i64 md, .string nm] 41)).alloc (.cells #[.int .i64 6, .int .i64 0, .int .i64 0, .bool false, .slice none 0 0] 38)).alloc (.cells #[.bool true, .int .i64 t.md, .int .i64 t.bg, .slice oa t.own.length oc, .slice ra rn rc, .slice sa t.sv.length sc] 70))) := hid (⟨cv, hv, vs, _, rfl, gr_nil _ _ _ _ _, hM.below P.1, Keep.of_below P.1, P.1.mono hB⟩)
 clear P hM hTM hcell htx hvx htD hop hb
 have k1 : (kd == 1) = false := beq_eq_false_iff_ne.2 (by omega)
 have k2 : ¬ kd < 1 := by omega
 have k3 : ¬ 10 < kd := by omega
 by_cases h5 : tb < 0
 .clear htb
  go_enter Tryz.func21, Tryz.ntmps21
  go_wp2
  refine bodyPost_ret (v := .agg #[.int .i64 6, .int .i64 0, .int .i64 0, .bool false, .slice none 0 0]) (by simp [results, Tryz.results21, go_sem]) rfl ?_
  with_reducible exact HF.out
 .have h6 : 32 <= tb := by omega
  clear htb
  go_enter Tryz.func21, Tryz.ntmps21
  go_wp2
  refine bodyPost_ret (v := .agg #[.int .i64 6, .int .i64 0, .int .i64 0, .bool false, .slice none 0 0]) (by simp [results, Tryz.results21, go_sem]) rfl ?_
  with_reducible exact HF.out
theorem Blk.keep {w w' : World} {b ty : Nat} {cs : List Value} (h : Blk w b cs) (hk : Keep w w') (hi : Im ty) (ht : tag w b ty) : Blk w' b cs := fun j hj => by
 have hb : w'.heap[(⟨b, j, none⟩ : Addr).block]? = w.heap[(⟨b, j, none⟩ : Addr).block]? := hk.2 b ty hi ht
 exact ⟨(World.cell?_of_block hb).trans (h j hj).1, (World.frozen?_of_block hb).trans (h j hj).2⟩
theorem imO : Im 38 := by unfold Im; decide
theorem run_6 (B bb gx i : Nat) (x : Bas) (tb ky vl md : Int) (nm : ByteArray) (cv hv : Value) (vs : List (Value × Value × Value)) (w : World) (hM : Mem B bb gx w x cv hv vs) (hi : i < 4) (hop : (x.tx.getD i tx0).op = true) (hb : Bnd x) (hB : B <= w.heap.size) :
 Calls Tryz.prog 21 #[.pointer (some ⟨bb, 0, none⟩), .agg #[.int .i64 6, .int .i64 ((i : Int) + 1), .int .i64 tb, .int .i64 ky, .int .i64 vl, .int .i64 md, .string nm]] w fun e w' => RunP B bb gx w (runF x ⟨6, (i : Int) + 1, tb, ky, vl, md, nm⟩) e w' := by
 have hin0 : ((i : Int) + 1 - 1).toNat = i := by omega
 have er : runF x ⟨6, (i : Int) + 1, tb, ky, vl, md, nm⟩ = ((commitF x i).1, ⟨(commitF x i).2.2, 0, (commitF x i).2.1, false, []⟩) := by
  unfold runF
  simp only [hin0, hop]
  rw [if_neg (by omega), if_neg (by decide)]
  simp
 rw [er]
 clear er hin0
 obtain ⟨cm, hcm0⟩ : ∃ z, z = commitF x i := ⟨_, rfl⟩
 rw [<- hcm0]
 obtain ⟨xb, st, cd⟩ := cm
 have HG := hid hcm0
 clear hcm0
 simp only
 obtain ⟨t, gr, oa, oc, sa, sc, ma, mc, ha, hc, rfl, rfl, htx, hvx, hTM, hcell, htD, hmem, hop, hrl, hgB, hgt, hgb, q0, q1, q2, q3, q4, q5, b3, hgxl, hbbl⟩ := hM.opn hi hop
 obtain ⟨hii, hs1, hs2, hwr⟩ := iok hi
 have hin : ((i : Int) + 1 - 1).toNat = i := by omega
 have HIN := hid hin
 clear hin
 have hgl1 : gx < w.heap.size + 1 := by omega
 have hbl1 : bb < w.heap.size + 1 := by omega
 obtain ⟨W1, hW1, PR⟩ := pre5 w 6 ((i : Int) + 1) tb ky vl md nm true t.md t.bg (.slice oa t.own.length oc) (.slice (some ⟨gr, 0, none⟩) 32 32) (.slice sa t.sv.length sc)
 have HM1 := hid (hM.below PR.out.be)
 have HTM1 := hid (hTM.chg (Chg.of_below (fun _ => False) PR.out.be) (fun z => z) (fun z => z) (fun z => z))
 have HBN := hid hb
 have HTX := hid htx
 have HVX := hid hvx
 have HTD := hid htD
 have HMEM := hid hmem
 have HOP := hid hop
 have HRL := hid hrl
 have HGT := hid hgt
 have HGB := hid hgb
 have HCL := hid hcell
 clear hM hTM hb htx hvx hcell hmem htD hop hrl hgt hgb
 go_enter Tryz.func21, Tryz.ntmps21
 go_upto_region 11 with (fail)
 rw [<- hW1]
 clear hW1 q0 q1 q2 q3 q4 q5 b3
 obtain ⟨k0, k1, k2, k3, k4, k5, k6⟩ := kc6 PR.out.ka
 have hBW : B <= W1.heap.size := by have := PR.out.sz; omega
 have hcm := commit_spec B bb gx i x (.slice ma x.cms.length mc) (.slice ha x.hs.length hc) vs W1 HM1.out hi (by rw [HTD.out]; exact HOP.out) HBN.out hBW
 unfold CommitP at hcm
 rw [<- HG.out] at hcm
 simp only at hcm
 clear HG
 go_wp2_with (go_at_call 40; fail)
 refine hcm.mono ?_
 rintro e w2 ⟨cv2, hv2, vs2, rfl, hM2, hK2, hB2⟩
 clear hcm
 have KS := hid (PR.out.kd.keep hK2 imO PR.out.gd)
 have KQ := hid (PR.out.kb.keep hK2 imO PR.out.gb)
 have TS := hid (hK2.tagk imO PR.out.gd)
 have TQ := hid (hK2.tagk imO PR.out.gb)
 have x0 : w2.cell? ⟨w.heap.size + 1 + 1 + 1, 0, none⟩ = some (.int .i64 0) := (KS.out 0 (by simp)).1
 have y0 : w2.frozen? ⟨w.heap.size + 1 + 1 + 1, 0, none⟩ = false := (KS.out 0 (by simp)).2
 have r0 : w2.cell? ⟨w.heap.size + 1, 0, none⟩ = some (.int .i64 0) := (KQ.out 0 (by simp)).1
 have s0 : w2.frozen? ⟨w.heap.size + 1, 0, none⟩ = false := (KQ.out 0 (by simp)).2
 obtain ⟨⟨-, -⟩, ⟨x1, y1⟩⟩ := kb1 KS.out
 obtain ⟨⟨-, -⟩, ⟨r1, s1⟩⟩ := kb1 KQ.out
 obtain ⟨⟨-, -⟩, ⟨-, -⟩, ⟨x2, y2⟩⟩ := kb2 KS.out
 obtain ⟨⟨-, -⟩, ⟨-, -⟩, ⟨r2, s2⟩⟩ := kb2 KQ.out
 obtain ⟨⟨-, -⟩, ⟨-, -⟩, ⟨-, -⟩, ⟨x3, y3⟩⟩ := kb3 KS.out
 obtain ⟨⟨-, -⟩, ⟨-, -⟩, ⟨-, -⟩, ⟨r3, s3⟩⟩ := kb3 KQ.out
 obtain ⟨⟨-, -⟩, ⟨-, -⟩, ⟨-, -⟩, ⟨-, -⟩, ⟨x4, y4⟩⟩ := kb4 KS.out
 obtain ⟨⟨-, -⟩, ⟨-, -⟩, ⟨-, -⟩, ⟨-, -⟩, ⟨r4, s4⟩⟩ := kb4 KQ.out
 have T2 : tag (w2.setCell ⟨w.heap.size + 1 + 1 + 1, 2, none⟩ (.int .i64 st)) (w.heap.size + 1 + 1 + 1) 38 := tag_set _ TS.out
 have C2 : Chg (fun ty => ty = 38) w2 ((w2.setCell ⟨w.heap.size + 1 + 1 + 1, 2, none⟩ (.int .i64 st)).setCell ⟨w.heap.size + 1 + 1 + 1, 0, none⟩ (.int .i64 cd)) := (Chg.set (T := fun ty => ty = 38) _ rfl TS.out).trans (Chg.set _ rfl T2)
 have HF : Hid (RunP B bb gx w (xb, ⟨cd, 0, st, false, []⟩) (.returned (.agg #[.int .i64 cd, .int .i64 0, .int .i64 st, .bool false, .slice none 0 0])) (set5 ((w2.setCell ⟨w.heap.size + 1 + 1 + 1, 2, none⟩ (.int .i64 st)).setCell ⟨w.heap.size + 1 + 1 + 1, 0, none⟩ (.int .i64 cd)) (w.heap.size + 1) (.int .i64 cd) (.int .i64 0) (.int .i64 st) (.bool false) (.slice none 0 0))) := hid (run_fin (r := (xb, ⟨cd, 0, st, false, []⟩)) (hM2.chg C2 (fun ty h => .inl h)) ((((Keep.of_below PR.out.be).trans hK2).newset (by omega)).newset (by omega)) ((((PR.out.be.mono hB).trans hB2).setCell (p := ⟨w.heap.size + 1 + 1 + 1, 2, none⟩) (by show B <= w.heap.size + 1 + 1 + 1; omega) _).setCell (p := ⟨w.heap.size + 1 + 1 + 1, 0, none⟩) (by show B <= w.heap.size + 1 + 1 + 1; omega) _) hB (Nat.le_succ _) (tag_set _ (tag_set _ TQ.out)) (gr_nil _ _ _ _ _))
 unfold set5 at HF
 have hn1 : ¬ (w.heap.size + 1 + 1 + 1) = w.heap.size + 1 := by omega
 have hn2 : ¬ w.heap.size + 1 = w.heap.size + 1 + 1 + 1 := by omega
 clear KS KQ TS TQ T2 C2 hM2 hK2 hB2 PR HM1 HTM1 HCL HBN HTX HVX HTD HMEM HOP HRL HGT HGB k0 k1 k2 k3 k4 k5 k6
 go_wp2
 refine bodyPost_ret (v := .agg #[.int .i64 cd, .int .i64 0, .int .i64 st, .bool false, .slice none 0 0]) (by simp [results, Tryz.results21, go_sem, r0, r1, r2, r3, r4, s0, s1, s2, s3, s4]) rfl ?_
 exact HF.out
theorem run_8 (B bb gx i : Nat) (x : Bas) (tb ky vl md : Int) (nm : ByteArray) (cv hv : Value) (vs : List (Value × Value × Value)) (w : World) (hM : Mem B bb gx w x cv hv vs) (hi : i < 4) (hop : (x.tx.getD i tx0).op = true) (hb : Bnd x) (hB : B <= w.heap.size) :
 Calls Tryz.prog 21 #[.pointer (some ⟨bb, 0, none⟩), .agg #[.int .i64 8, .int .i64 ((i : Int) + 1), .int .i64 tb, .int .i64 ky, .int .i64 vl, .int .i64 md, .string nm]] w fun e w' => RunP B bb gx w (runF x ⟨8, (i : Int) + 1, tb, ky, vl, md, nm⟩) e w' := by
 have hin0 : ((i : Int) + 1 - 1).toNat = i := by omega
 have er : runF x ⟨8, (i : Int) + 1, tb, ky, vl, md, nm⟩ = ((savesF x i ⟨8, (i : Int) + 1, tb, ky, vl, md, nm⟩).1, ⟨(savesF x i ⟨8, (i : Int) + 1, tb, ky, vl, md, nm⟩).2, 0, 0, false, []⟩) := by
  unfold runF
  simp only [hin0, hop]
  rw [if_neg (by omega), if_neg (by decide)]
  simp
 rw [er]
 clear er hin0
 obtain ⟨cm, hcm0⟩ : ∃ z, z = savesF x i ⟨8, (i : Int) + 1, tb, ky, vl, md, nm⟩ := ⟨_, rfl⟩
 rw [<- hcm0]
 obtain ⟨xb, cd⟩ := cm
 have HG := hid hcm0
 clear hcm0
 simp only
 obtain ⟨t, gr, oa, oc, sa, sc, ma, mc, ha, hc, rfl, rfl, htx, hvx, hTM, hcell, htD, hmem, hop, hrl, hgB, hgt, hgb, q0, q1, q2, q3, q4, q5, b3, hgxl, hbbl⟩ := hM.opn hi hop
 obtain ⟨hii, hs1, hs2, hwr⟩ := iok hi
 have hin : ((i : Int) + 1 - 1).toNat = i := by omega
 have HIN := hid hin
 clear hin
 have hgl1 : gx < w.heap.size + 1 := by omega
 have hbl1 : bb < w.heap.size + 1 := by omega
 obtain ⟨W1, hW1, PR⟩ := pre5 w 8 ((i : Int) + 1) tb ky vl md nm true t.md t.bg (.slice oa t.own.length oc) (.slice (some ⟨gr, 0, none⟩) 32 32) (.slice sa t.sv.length sc)
 have HM1 := hid (hM.below PR.out.be)
 have HTM1 := hid (hTM.chg (Chg.of_below (fun _ => False) PR.out.be) (fun z => z) (fun z => z) (fun z => z))
 have HBN := hid hb
 have HTX := hid htx
 have HVX := hid hvx
 have HTD := hid htD
 have HMEM := hid hmem
 have HOP := hid hop
 have HRL := hid hrl
 have HGT := hid hgt
 have HGB := hid hgb
 have HCL := hid hcell
 clear hM hTM hb htx hvx hcell hmem htD hop hrl hgt hgb
 go_enter Tryz.func21, Tryz.ntmps21
 go_upto_region 11 with (fail)
 rw [<- hW1]
 clear hW1 q0 q1 q2 q3 q4 q5 b3
 obtain ⟨k0, k1, k2, k3, k4, k5, k6⟩ := kc6 PR.out.ka
 have hBW : B <= W1.heap.size := by have := PR.out.sz; omega
 have hcm := saves_spec B bb gx i x ⟨8, (i : Int) + 1, tb, ky, vl, md, nm⟩ (.slice ma x.cms.length mc) (.slice ha x.hs.length hc) vs W1 HM1.out hi (by rw [HTD.out]; exact HOP.out) HBN.out hBW
 unfold SavesP at hcm
 rw [<- HG.out] at hcm
 simp only at hcm
 clear HG
 go_wp2_with (go_at_call 41; fail)
 refine hcm.mono ?_
 rintro e w2 ⟨cv2, hv2, vs2, rfl, hM2, hK2, hB2⟩
 clear hcm
 have KS := hid (PR.out.kd.keep hK2 imO PR.out.gd)
 have KQ := hid (PR.out.kb.keep hK2 imO PR.out.gb)
 have TS := hid (hK2.tagk imO PR.out.gd)
 have TQ := hid (hK2.tagk imO PR.out.gb)
 have x0 : w2.cell? ⟨w.heap.size + 1 + 1 + 1, 0, none⟩ = some (.int .i64 0) := (KS.out 0 (by simp)).1
 have y0 : w2.frozen? ⟨w.heap.size + 1 + 1 + 1, 0, none⟩ = false := (KS.out 0 (by simp)).2
 have r0 : w2.cell? ⟨w.heap.size + 1, 0, none⟩ = some (.int .i64 0) := (KQ.out 0 (by simp)).1
 have s0 : w2.frozen? ⟨w.heap.size + 1, 0, none⟩ = false := (KQ.out 0 (by simp)).2
 obtain ⟨⟨-, -⟩, ⟨x1, y1⟩⟩ := kb1 KS.out
 obtain ⟨⟨-, -⟩, ⟨r1, s1⟩⟩ := kb1 KQ.out
 obtain ⟨⟨-, -⟩, ⟨-, -⟩, ⟨x2, y2⟩⟩ := kb2 KS.out
 obtain ⟨⟨-, -⟩, ⟨-, -⟩, ⟨r2, s2⟩⟩ := kb2 KQ.out
 obtain ⟨⟨-, -⟩, ⟨-, -⟩, ⟨-, -⟩, ⟨x3, y3⟩⟩ := kb3 KS.out
 obtain ⟨⟨-, -⟩, ⟨-, -⟩, ⟨-, -⟩, ⟨r3, s3⟩⟩ := kb3 KQ.out
 obtain ⟨⟨-, -⟩, ⟨-, -⟩, ⟨-, -⟩, ⟨-, -⟩, ⟨x4, y4⟩⟩ := kb4 KS.out
 obtain ⟨⟨-, -⟩, ⟨-, -⟩, ⟨-, -⟩, ⟨-, -⟩, ⟨r4, s4⟩⟩ := kb4 KQ.out
 have C2 : Chg (fun ty => ty = 38) w2 (w2.setCell ⟨w.heap.size + 1 + 1 + 1, 0, none⟩ (.int .i64 cd)) := Chg.set (T := fun ty => ty = 38) _ rfl TS.out
 have HF : Hid (RunP B bb gx w (xb, ⟨cd, 0, 0, false, []⟩) (.returned (.agg #[.int .i64 cd, .int .i64 0, .int .i64 0, .bool false, .slice none 0 0])) (set5 (w2.setCell ⟨w.heap.size + 1 + 1 + 1, 0, none⟩ (.int .i64 cd)) (w.heap.size + 1) (.int .i64 cd) (.int .i64 0) (.int .i64 0) (.bool false) (.slice none 0 0))) := hid (run_fin (r := (xb, ⟨cd, 0, 0, false, []⟩)) (hM2.chg C2 (fun ty h => .inl h)) (((Keep.of_below PR.out.be).trans hK2).newset (by omega)) (((PR.out.be.mono hB).trans hB2).setCell (p := ⟨w.heap.size + 1 + 1 + 1, 0, none⟩) (by show B <= w.heap.size + 1 + 1 + 1; omega) _) hB (Nat.le_succ _) (tag_set _ TQ.out) (gr_nil _ _ _ _ _))
 unfold set5 at HF
 have hn1 : ¬ (w.heap.size + 1 + 1 + 1) = w.heap.size + 1 := by omega
 have hn2 : ¬ w.heap.size + 1 = w.heap.size + 1 + 1 + 1 := by omega
 clear KS KQ TS TQ C2 hM2 hK2 hB2 PR HM1 HTM1 HCL HBN HTX HVX HTD HMEM HOP HRL HGT HGB k0 k1 k2 k3 k4 k5 k6
 go_wp2
 refine bodyPost_ret (v := .agg #[.int .i64 cd, .int .i64 0, .int .i64 0, .bool false, .slice none 0 0]) (by simp [results, Tryz.results21, go_sem, r0, r1, r2, r3, r4, s0, s1, s2, s3, s4]) rfl ?_
 exact HF.out
theorem run_9 (B bb gx i : Nat) (x : Bas) (tb ky vl md : Int) (nm : ByteArray) (cv hv : Value) (vs : List (Value × Value × Value)) (w : World) (hM : Mem B bb gx w x cv hv vs) (hi : i < 4) (hop : (x.tx.getD i tx0).op = true) (hb : Bnd x) (hB : B <= w.heap.size) :
 Calls Tryz.prog 21 #[.pointer (some ⟨bb, 0, none⟩), .agg #[.int .i64 9, .int .i64 ((i : Int) + 1), .int .i64 tb, .int .i64 ky, .int .i64 vl, .int .i64 md, .string nm]] w fun e w' => RunP B bb gx w (runF x ⟨9, (i : Int) + 1, tb, ky, vl, md, nm⟩) e w' := by
 have hin0 : ((i : Int) + 1 - 1).toNat = i := by omega
 have er : runF x ⟨9, (i : Int) + 1, tb, ky, vl, md, nm⟩ = ((savesF x i ⟨9, (i : Int) + 1, tb, ky, vl, md, nm⟩).1, ⟨(savesF x i ⟨9, (i : Int) + 1, tb, ky, vl, md, nm⟩).2, 0, 0, false, []⟩) := by
  unfold runF
  simp only [hin0, hop]
  rw [if_neg (by omega), if_neg (by decide)]
  simp
 rw [er]
 clear er hin0
 obtain ⟨cm, hcm0⟩ : ∃ z, z = savesF x i ⟨9, (i : Int) + 1, tb, ky, vl, md, nm⟩ := ⟨_, rfl⟩
 rw [<- hcm0]
 obtain ⟨xb, cd⟩ := cm
 have HG := hid hcm0
 clear hcm0
 simp only
 obtain ⟨t, gr, oa, oc, sa, sc, ma, mc, ha, hc, rfl, rfl, htx, hvx, hTM, hcell, htD, hmem, hop, hrl, hgB, hgt, hgb, q0, q1, q2, q3, q4, q5, b3, hgxl, hbbl⟩ := hM.opn hi hop
 obtain ⟨hii, hs1, hs2, hwr⟩ := iok hi
 have hin : ((i : Int) + 1 - 1).toNat = i := by omega
 have HIN := hid hin
 clear hin
 have hgl1 : gx < w.heap.size + 1 := by omega
 have hbl1 : bb < w.heap.size + 1 := by omega
 obtain ⟨W1, hW1, PR⟩ := pre5 w 9 ((i : Int) + 1) tb ky vl md nm true t.md t.bg (.slice oa t.own.length oc) (.slice (some ⟨gr, 0, none⟩) 32 32) (.slice sa t.sv.length sc)
 have HM1 := hid (hM.below PR.out.be)
 have HTM1 := hid (hTM.chg (Chg.of_below (fun _ => False) PR.out.be) (fun z => z) (fun z => z) (fun z => z))
 have HBN := hid hb
 have HTX := hid htx
 have HVX := hid hvx
 have HTD := hid htD
 have HMEM := hid hmem
 have HOP := hid hop
 have HRL := hid hrl
 have HGT := hid hgt
 have HGB := hid hgb
 have HCL := hid hcell
 clear hM hTM hb htx hvx hcell hmem htD hop hrl hgt hgb
 go_enter Tryz.func21, Tryz.ntmps21
 go_upto_region 11 with (fail)
 rw [<- hW1]
 clear hW1 q0 q1 q2 q3 q4 q5 b3
 obtain ⟨k0, k1, k2, k3, k4, k5, k6⟩ := kc6 PR.out.ka
 have hBW : B <= W1.heap.size := by have := PR.out.sz; omega
 have hcm := saves_spec B bb gx i x ⟨9, (i : Int) + 1, tb, ky, vl, md, nm⟩ (.slice ma x.cms.length mc) (.slice ha x.hs.length hc) vs W1 HM1.out hi (by rw [HTD.out]; exact HOP.out) HBN.out hBW
 unfold SavesP at hcm
 rw [<- HG.out] at hcm
 simp only at hcm
 clear HG
 go_wp2_with (go_at_call 41; fail)
 refine hcm.mono ?_
 rintro e w2 ⟨cv2, hv2, vs2, rfl, hM2, hK2, hB2⟩
 clear hcm
 have KS := hid (PR.out.kd.keep hK2 imO PR.out.gd)
 have KQ := hid (PR.out.kb.keep hK2 imO PR.out.gb)
 have TS := hid (hK2.tagk imO PR.out.gd)
 have TQ := hid (hK2.tagk imO PR.out.gb)
 have x0 : w2.cell? ⟨w.heap.size + 1 + 1 + 1, 0, none⟩ = some (.int .i64 0) := (KS.out 0 (by simp)).1
 have y0 : w2.frozen? ⟨w.heap.size + 1 + 1 + 1, 0, none⟩ = false := (KS.out 0 (by simp)).2
 have r0 : w2.cell? ⟨w.heap.size + 1, 0, none⟩ = some (.int .i64 0) := (KQ.out 0 (by simp)).1
 have s0 : w2.frozen? ⟨w.heap.size + 1, 0, none⟩ = false := (KQ.out 0 (by simp)).2
 obtain ⟨⟨-, -⟩, ⟨x1, y1⟩⟩ := kb1 KS.out
 obtain ⟨⟨-, -⟩, ⟨r1, s1⟩⟩ := kb1 KQ.out
 obtain ⟨⟨-, -⟩, ⟨-, -⟩, ⟨x2, y2⟩⟩ := kb2 KS.out
 obtain ⟨⟨-, -⟩, ⟨-, -⟩, ⟨r2, s2⟩⟩ := kb2 KQ.out
 obtain ⟨⟨-, -⟩, ⟨-, -⟩, ⟨-, -⟩, ⟨x3, y3⟩⟩ := kb3 KS.out
 obtain ⟨⟨-, -⟩, ⟨-, -⟩, ⟨-, -⟩, ⟨r3, s3⟩⟩ := kb3 KQ.out
 obtain ⟨⟨-, -⟩, ⟨-, -⟩, ⟨-, -⟩, ⟨-, -⟩, ⟨x4, y4⟩⟩ := kb4 KS.out
 obtain ⟨⟨-, -⟩, ⟨-, -⟩, ⟨-, -⟩, ⟨-, -⟩, ⟨r4, s4⟩⟩ := kb4 KQ.out
 have C2 : Chg (fun ty => ty = 38) w2 (w2.setCell ⟨w.heap.size + 1 + 1 + 1, 0, none⟩ (.int .i64 cd)) := Chg.set (T := fun ty => ty = 38) _ rfl TS.out
 have HF : Hid (RunP B bb gx w (xb, ⟨cd, 0, 0, false, []⟩) (.returned (.agg #[.int .i64 cd, .int .i64 0, .int .i64 0, .bool false, .slice none 0 0])) (set5 (w2.setCell ⟨w.heap.size + 1 + 1 + 1, 0, none⟩ (.int .i64 cd)) (w.heap.size + 1) (.int .i64 cd) (.int .i64 0) (.int .i64 0) (.bool false) (.slice none 0 0))) := hid (run_fin (r := (xb, ⟨cd, 0, 0, false, []⟩)) (hM2.chg C2 (fun ty h => .inl h)) (((Keep.of_below PR.out.be).trans hK2).newset (by omega)) (((PR.out.be.mono hB).trans hB2).setCell (p := ⟨w.heap.size + 1 + 1 + 1, 0, none⟩) (by show B <= w.heap.size + 1 + 1 + 1; omega) _) hB (Nat.le_succ _) (tag_set _ TQ.out) (gr_nil _ _ _ _ _))
 unfold set5 at HF
 have hn1 : ¬ (w.heap.size + 1 + 1 + 1) = w.heap.size + 1 := by omega
 have hn2 : ¬ w.heap.size + 1 = w.heap.size + 1 + 1 + 1 := by omega
 clear KS KQ TS TQ C2 hM2 hK2 hB2 PR HM1 HTM1 HCL HBN HTX HVX HTD HMEM HOP HRL HGT HGB k0 k1 k2 k3 k4 k5 k6
 go_wp2
 refine bodyPost_ret (v := .agg #[.int .i64 cd, .int .i64 0, .int .i64 0, .bool false, .slice none 0 0]) (by simp [results, Tryz.results21, go_sem, r0, r1, r2, r3, r4, s0, s1, s2, s3, s4]) rfl ?_
 exact HF.out
theorem run_10 (B bb gx i : Nat) (x : Bas) (tb ky vl md : Int) (nm : ByteArray) (cv hv : Value) (vs : List (Value × Value × Value)) (w : World) (hM : Mem B bb gx w x cv hv vs) (hi : i < 4) (hop : (x.tx.getD i tx0).op = true) (hb : Bnd x) (hB : B <= w.heap.size) :
 Calls Tryz.prog 21 #[.pointer (some ⟨bb, 0, none⟩), .agg #[.int .i64 10, .int .i64 ((i : Int) + 1), .int .i64 tb, .int .i64 ky, .int .i64 vl, .int .i64 md, .string nm]] w fun e w' => RunP B bb gx w (runF x ⟨10, (i : Int) + 1, tb, ky, vl, md, nm⟩) e w' := by
 have hin0 : ((i : Int) + 1 - 1).toNat = i := by omega
 have er : runF x ⟨10, (i : Int) + 1, tb, ky, vl, md, nm⟩ = ((savesF x i ⟨10, (i : Int) + 1, tb, ky, vl, md, nm⟩).1, ⟨(savesF x i ⟨10, (i : Int) + 1, tb, ky, vl, md, nm⟩).2, 0, 0, false, []⟩) := by
  unfold runF
  simp only [hin0, hop]
  rw [if_neg (by omega), if_neg (by decide)]
  simp
 rw [er]
 clear er hin0
 obtain ⟨cm, hcm0⟩ : ∃ z, z = savesF x i ⟨10, (i : Int) + 1, tb, ky, vl, md, nm⟩ := ⟨_, rfl⟩
 rw [<- hcm0]
 obtain ⟨xb, cd⟩ := cm
 have HG := hid hcm0
 clear hcm0
 simp only
 obtain ⟨t, gr, oa, oc, sa, sc, ma, mc, ha, hc, rfl, rfl, htx, hvx, hTM, hcell, htD, hmem, hop, hrl, hgB, hgt, hgb, q0, q1, q2, q3, q4, q5, b3, hgxl, hbbl⟩ := hM.opn hi hop
 obtain ⟨hii, hs1, hs2, hwr⟩ := iok hi
 have hin : ((i : Int) + 1 - 1).toNat = i := by omega
 have HIN := hid hin
 clear hin
 have hgl1 : gx < w.heap.size + 1 := by omega
 have hbl1 : bb < w.heap.size + 1 := by omega
 obtain ⟨W1, hW1, PR⟩ := pre5 w 10 ((i : Int) + 1) tb ky vl md nm true t.md t.bg (.slice oa t.own.length oc) (.slice (some ⟨gr, 0, none⟩) 32 32) (.slice sa t.sv.length sc)
 have HM1 := hid (hM.below PR.out.be)
 have HTM1 := hid (hTM.chg (Chg.of_below (fun _ => False) PR.out.be) (fun z => z) (fun z => z) (fun z => z))
 have HBN := hid hb
 have HTX := hid htx
 have HVX := hid hvx
 have HTD := hid htD
 have HMEM := hid hmem
 have HOP := hid hop
 have HRL := hid hrl
 have HGT := hid hgt
 have HGB := hid hgb
 have HCL := hid hcell
 clear hM hTM hb htx hvx hcell hmem htD hop hrl hgt hgb
 go_enter Tryz.func21, Tryz.ntmps21
 go_upto_region 11 with (fail)
 rw [<- hW1]
 clear hW1 q0 q1 q2 q3 q4 q5 b3
 obtain ⟨k0, k1, k2, k3, k4, k5, k6⟩ := kc6 PR.out.ka
 have hBW : B <= W1.heap.size := by have := PR.out.sz; omega
 have hcm := saves_spec B bb gx i x ⟨10, (i : Int) + 1, tb, ky, vl, md, nm⟩ (.slice ma x.cms.length mc) (.slice ha x.hs.length hc) vs W1 HM1.out hi (by rw [HTD.out]; exact HOP.out) HBN.out hBW
 unfold SavesP at hcm
 rw [<- HG.out] at hcm
 simp only at hcm
 clear HG
 go_wp2_with (go_at_call 41; fail)
 refine hcm.mono ?_
 rintro e w2 ⟨cv2, hv2, vs2, rfl, hM2, hK2, hB2⟩
 clear hcm
 have KS := hid (PR.out.kd.keep hK2 imO PR.out.gd)
 have KQ := hid (PR.out.kb.keep hK2 imO PR.out.gb)
 have TS := hid (hK2.tagk imO PR.out.gd)
 have TQ := hid (hK2.tagk imO PR.out.gb)
 have x0 : w2.cell? ⟨w.heap.size + 1 + 1 + 1, 0, none⟩ = some (.int .i64 0) := (KS.out 0 (by simp)).1
 have y0 : w2.frozen? ⟨w.heap.size + 1 + 1 + 1, 0, none⟩ = false := (KS.out 0 (by simp)).2
 have r0 : w2.cell? ⟨w.heap.size + 1, 0, none⟩ = some (.int .i64 0) := (KQ.out 0 (by simp)).1
 have s0 : w2.frozen? ⟨w.heap.size + 1, 0, none⟩ = false := (KQ.out 0 (by simp)).2
 obtain ⟨⟨-, -⟩, ⟨x1, y1⟩⟩ := kb1 KS.out
 obtain ⟨⟨-, -⟩, ⟨r1, s1⟩⟩ := kb1 KQ.out
 obtain ⟨⟨-, -⟩, ⟨-, -⟩, ⟨x2, y2⟩⟩ := kb2 KS.out
 obtain ⟨⟨-, -⟩, ⟨-, -⟩, ⟨r2, s2⟩⟩ := kb2 KQ.out
 obtain ⟨⟨-, -⟩, ⟨-, -⟩, ⟨-, -⟩, ⟨x3, y3⟩⟩ := kb3 KS.out
 obtain ⟨⟨-, -⟩, ⟨-, -⟩, ⟨-, -⟩, ⟨r3, s3⟩⟩ := kb3 KQ.out
 obtain ⟨⟨-, -⟩, ⟨-, -⟩, ⟨-, -⟩, ⟨-, -⟩, ⟨x4, y4⟩⟩ := kb4 KS.out
 obtain ⟨⟨-, -⟩, ⟨-, -⟩, ⟨-, -⟩, ⟨-, -⟩, ⟨r4, s4⟩⟩ := kb4 KQ.out
 have C2 : Chg (fun ty => ty = 38) w2 (w2.setCell ⟨w.heap.size + 1 + 1 + 1, 0, none⟩ (.int .i64 cd)) := Chg.set (T := fun ty => ty = 38) _ rfl TS.out
 have HF : Hid (RunP B bb gx w (xb, ⟨cd, 0, 0, false, []⟩) (.returned (.agg #[.int .i64 cd, .int .i64 0, .int .i64 0, .bool false, .slice none 0 0])) (set5 (w2.setCell ⟨w.heap.size + 1 + 1 + 1, 0, none⟩ (.int .i64 cd)) (w.heap.size + 1) (.int .i64 cd) (.int .i64 0) (.int .i64 0) (.bool false) (.slice none 0 0))) := hid (run_fin (r := (xb, ⟨cd, 0, 0, false, []⟩)) (hM2.chg C2 (fun ty h => .inl h)) (((Keep.of_below PR.out.be).trans hK2).newset (by omega)) (((PR.out.be.mono hB).trans hB2).setCell (p := ⟨w.heap.size + 1 + 1 + 1, 0, none⟩) (by show B <= w.heap.size + 1 + 1 + 1; omega) _) hB (Nat.le_succ _) (tag_set _ TQ.out) (gr_nil _ _ _ _ _))
 unfold set5 at HF
 have hn1 : ¬ (w.heap.size + 1 + 1 + 1) = w.heap.size + 1 := by omega
 have hn2 : ¬ w.heap.size + 1 = w.heap.size + 1 + 1 + 1 := by omega
 clear KS KQ TS TQ C2 hM2 hK2 hB2 PR HM1 HTM1 HCL HBN HTX HVX HTD HMEM HOP HRL HGT HGB k0 k1 k2 k3 k4 k5 k6
 go_wp2
 refine bodyPost_ret (v := .agg #[.int .i64 cd, .int .i64 0, .int .i64 0, .bool false, .slice none 0 0]) (by simp [results, Tryz.results21, go_sem, r0, r1, r2, r3, r4, s0, s1, s2, s3, s4]) rfl ?_
 exact HF.out
end Go.Proofs.YtblkgicbimflhaaGreat
