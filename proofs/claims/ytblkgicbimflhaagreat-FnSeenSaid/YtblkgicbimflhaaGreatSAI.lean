import Derived.Test.YtblkgicbimflhaaGreatSAH
namespace Go.Proofs.YtblkgicbimflhaaGreat
open Go.ChangeShapes Go.WideShapes Go.ChangeAt Go.RowKit
set_option linter.unusedVariables false
set_option linter.unusedSimpArgs false
set_option maxRecDepth 100000
set_option maxHeartbeats 16000000
theorem infoCm : (Tryz.prog.info? 140).map (fun i => (i.zero, i.size, i.bytes)) = some (some (.agg #[.int .i64 0, .slice none 0 0]), 2, 32) := by kernel_rfl
theorem infoTI : (Tryz.prog.info? 131).map (fun i => (i.zero, i.size, i.bytes)) = some (some (.agg #[.int .i64 0, .int .i64 0, .slice none 0 0, .slice none 0 0]), 4, 64) := by kernel_rfl
theorem TL.form {α : Type} {ty k : Nat} {C : Nat -> World -> List Value -> α -> Prop} {w : World} {v : Value} {xs : List α} (h : TL ty k C w v xs) : ∃ a c, v = .slice a xs.length c := by
 obtain ⟨⟨a, c, he, _⟩, _⟩ := h
 exact ⟨a, c, he⟩
theorem XT.chg {T : Nat -> Prop} {w w' : World} {g ty : Nat} {tv : List (List Value)} (h : XT w g tv) (hk : Chg T w w') (hi : ¬ T ty) (ht : tag w g ty) : XT w' g tv := ⟨h.1, h.2.chg hk hi ht⟩
theorem IGr.tl {b : Nat} {w : World} {v : Value} {xs : List Int} (h : IGr b w v xs) : TL 3 1 CI w v xs := by
 refine ⟨?_, fun g o n c hv hp => own_tag h (by rw [hv]; rfl)⟩
 have key : ∀ ys : List Int, Fill 1 CI 0 ys ys.length (ys.map (Value.int .i64)) w := by
  intro ys
  induction ys with
  | nil => exact fill_nil _ _ _ _
  | cons x r ih =>
    have h1 : Fill 1 CI 0 [x] 1 [.int .i64 x] w := fill_one liesI rfl
    exact h1.append ih
 exact (key xs).own liesI (own_base0 h) (Nat.le_refl _)
theorem Mem.hpush {B bb gx : Nat} {w w' : World} {x : Bas} {cv hv v' : Value} {vs : List (Value × Value × Value)} {ps : List (TI × Value × Value)} {c : TI} {rv wv : Value} (h : Mem B bb gx w x cv hv vs) (e : ps.map Prod.fst = x.hs) (ht : ∀ p ∈ ps, TL 3 1 CI w p.2.1 p.1.reads /\ TL 3 1 CI w p.2.2 p.1.writes) (hw : w.ownsRow B 131 4 hv x.hs.length (ps.flatMap (fun p => [.int .i64 p.1.bgn, .int .i64 p.1.com, p.2.1, p.2.2])))
 (hg : w.grownBy w' hv.ownBlock) (ho : w'.ownsRow B 131 4 v' (x.hs.length + 1) (ps.flatMap (fun p => [.int .i64 p.1.bgn, .int .i64 p.1.com, p.2.1, p.2.2]) ++ [.int .i64 c.bgn, .int .i64 c.com, rv, wv])) (h1 : TL 3 1 CI w rv c.reads) (h2 : TL 3 1 CI w wv c.writes) :
 Mem B bb gx (w'.setCell ⟨bb, 2, none⟩ v') { x with hs := x.hs ++ [c] } cv v' vs /\ Chg (fun ty => ty = 131 \/ ty = 65) w (w'.setCell ⟨bb, 2, none⟩ v') /\ Blk w' bb [.int .i64 x.ck, cv, hv, .slice (some ⟨gx, 0, none⟩) 4 4] := by
 have hk1 : Chg (fun ty => ty = 131) w w' := Chg.grown hg (fun g hg => ⟨_, rfl, own_tag hw hg⟩)
 have hbt : tag w' bb 65 := hk1.tagk (by decide) h.bt
 have hk2 : Chg (fun ty => ty = 65) w' (w'.setCell ⟨bb, 2, none⟩ v') := Chg.set v' rfl hbt
 refine ⟨⟨h.n, h.m, (h.bs.chg hk1 (by decide) h.bt).set 2 v', tag_set _ hbt, h.bB, (h.xs.chg hk1 (by decide) h.xt).chg hk2 (by decide) (hk1.tagk (by decide) h.xt), hk2.tagk (by decide) (hk1.tagk (by decide) h.xt), h.xB, fun i hi hi' => ((h.tm i hi hi').chg hk1 (by decide) (by decide) (by decide)).chg hk2 (by decide) (by decide) (by decide), h.ds, (h.cm.chg hk1 (by decide) (by decide)).chg hk2 (by decide) (by decide), ?_⟩, (hk1.mono (fun _ z => .inl z)).trans (hk2.mono (fun _ z => .inr z)), h.bs.chg hk1 (by decide) h.bt⟩
 exact (HsR.push e ho (fun p hp => ⟨(ht p hp).1.chg (by decide) hk1 (fun h => h), (ht p hp).2.chg (by decide) hk1 (fun h => h)⟩) (h1.chg (by decide) hk1 (fun h => h)) (h2.chg (by decide) hk1 (fun h => h))).chg hk2 (by decide) (by decide)
theorem Mem.cpush {B bb gx : Nat} {w w' : World} {x : Bas} {cv hv v' : Value} {vs : List (Value × Value × Value)} {ps : List (Com × Value)} {c : Com} {rv : Value} (h : Mem B bb gx w x cv hv vs) (e : ps.map Prod.fst = x.cms) (ht : ∀ p ∈ ps, TL 106 4 CC w p.2 p.1.cs) (hw : w.ownsRow B 140 2 cv x.cms.length (ps.flatMap (fun p => [.int .i64 p.1.st, p.2])))
 (hg : w.grownBy w' cv.ownBlock) (ho : w'.ownsRow B 140 2 v' (x.cms.length + 1) (ps.flatMap (fun p => [.int .i64 p.1.st, p.2]) ++ [.int .i64 c.st, rv])) (h1 : TL 106 4 CC w rv c.cs) :
 Mem B bb gx (w'.setCell ⟨bb, 1, none⟩ v') { x with cms := x.cms ++ [c] } v' hv vs /\ Chg (fun ty => ty = 140 \/ ty = 65) w (w'.setCell ⟨bb, 1, none⟩ v') /\ Blk w' bb [.int .i64 x.ck, cv, hv, .slice (some ⟨gx, 0, none⟩) 4 4] := by
 have hk1 : Chg (fun ty => ty = 140) w w' := Chg.grown hg (fun g hg => ⟨_, rfl, own_tag hw hg⟩)
 have hbt : tag w' bb 65 := hk1.tagk (by decide) h.bt
 have hk2 : Chg (fun ty => ty = 65) w' (w'.setCell ⟨bb, 1, none⟩ v') := Chg.set v' rfl hbt
 refine ⟨⟨h.n, h.m, (h.bs.chg hk1 (by decide) h.bt).set 1 v', tag_set _ hbt, h.bB, (h.xs.chg hk1 (by decide) h.xt).chg hk2 (by decide) (hk1.tagk (by decide) h.xt), hk2.tagk (by decide) (hk1.tagk (by decide) h.xt), h.xB, fun i hi hi' => ((h.tm i hi hi').chg hk1 (by decide) (by decide) (by decide)).chg hk2 (by decide) (by decide) (by decide), h.ds, ?_, (h.hi.chg hk1 (by decide) (by decide)).chg hk2 (by decide) (by decide)⟩, (hk1.mono (fun _ z => .inl z)).trans (hk2.mono (fun _ z => .inr z)), h.bs.chg hk1 (by decide) h.bt⟩
 exact (CmR.push e ho (fun p hp => (ht p hp).chg (by decide) hk1 (fun h => h)) (h1.chg (by decide) hk1 (fun h => h))).chg hk2 (by decide) (by decide)
theorem Mem.clock {B bb gx : Nat} {w : World} {x : Bas} {cv hv : Value} {vs : List (Value × Value × Value)} (h : Mem B bb gx w x cv hv vs) (k : Int) :
 Mem B bb gx (w.setCell ⟨bb, 0, none⟩ (.int .i64 k)) { x with ck := k } cv hv vs /\ Chg (fun ty => ty = 65) w (w.setCell ⟨bb, 0, none⟩ (.int .i64 k)) := by
 have hk2 : Chg (fun ty => ty = 65) w (w.setCell ⟨bb, 0, none⟩ (.int .i64 k)) := Chg.set _ rfl h.bt
 exact ⟨⟨h.n, h.m, h.bs.set 0 (.int .i64 k), tag_set _ h.bt, h.bB, h.xs.chg hk2 (by decide) h.xt, hk2.tagk (by decide) h.xt, h.xB, fun i hi hi' => (h.tm i hi hi').chg hk2 (by decide) (by decide) (by decide), h.ds, h.cm.chg hk2 (by decide) (by decide), h.hi.chg hk2 (by decide) (by decide)⟩, hk2⟩
theorem tag_new (w : World) (cs : List Value) (ty : Nat) : tag (w.alloc (.cells cs.toArray ty)) w.heap.size ty := ⟨cs.toArray, _, (by exact Array.getElem?_push_size : (w.heap.push (.cells cs.toArray ty))[w.heap.size]? = some (.cells cs.toArray ty))⟩
def InfB (w3 wx : World) (bg st : Int) (rs ws : List Int) (s : Value) : Prop := ∃ (bx : Nat) (a2 : Option Addr) (c2 : Nat) (a3 : Option Addr) (c3 : Nat), s = .pointer (some ⟨bx, 0, none⟩) /\ Blk wx bx [.int .i64 bg, .int .i64 st, .slice a2 rs.length c2, .slice a3 ws.length c3] /\ TL 3 1 CI wx (.slice a2 rs.length c2) rs /\ TL 3 1 CI wx (.slice a3 ws.length c3) ws /\ Below w3.heap.size w3 wx /\ bx < wx.heap.size /\ w3.heap.size <= bx
theorem boxA {w3 w4 : World} {bg st : Int} {rs ws : List Int} {a2 a3 : Option Addr} {c2 c3 : Nat} (hb : Below w3.drew.heap.size w3.drew w4) (h2 : TL 3 1 CI w4 (.slice a2 rs.length c2) rs) (h3 : TL 3 1 CI w4 (.slice a3 ws.length c3) ws) : InfB w3 (w4.alloc (.cells #[.int .i64 bg, .int .i64 st, .slice a2 rs.length c2, .slice a3 ws.length c3] 131)) bg st rs ws (.pointer (some ⟨w4.heap.size, 0, none⟩)) := by
 have hk : Chg (fun _ => False) w4 (w4.alloc (.cells #[.int .i64 bg, .int .i64 st, .slice a2 rs.length c2, .slice a3 ws.length c3] 131)) := Chg.of_below _ (below_alloc _ _)
 have hb' : Below w3.heap.size w3 w4 := (Below.refl w3.heap.size w3).drew.trans hb
 have hs := hb'.size
 exact ⟨_, a2, c2, a3, c3, rfl, blk_new w4 _ _, h2.chg (fun z => z) hk (fun h => h), h3.chg (fun z => z) hk (fun h => h), hb'.alloc hs _, by simp, hs⟩
theorem boxB {w3 w4 : World} {bg st : Int} {rs ws : List Int} {a2 a3 : Option Addr} {c2 c3 : Nat} (hb0 : Below (w3.alloc (.cells #[.int .i64 0, .int .i64 0, .slice none 0 0, .slice none 0 0] 131)).drew.heap.size (w3.alloc (.cells #[.int .i64 0, .int .i64 0, .slice none 0 0, .slice none 0 0] 131)).drew w4) (h2 : TL 3 1 CI w4 (.slice a2 rs.length c2) rs) (h3 : TL 3 1 CI w4 (.slice a3 ws.length c3) ws) : InfB w3 ((((w4.setCell ⟨w3.heap.size, 0, none⟩ (.int .i64 bg)).setCell ⟨w3.heap.size, 1, none⟩ (.int .i64 st)).setCell ⟨w3.heap.size, 2, none⟩ (.slice a2 rs.length c2)).setCell ⟨w3.heap.size, 3, none⟩ (.slice a3 ws.length c3)) bg st rs ws (.pointer (some ⟨w3.heap.size, 0, none⟩)) := by
 have hb : Below (w3.drew.alloc (.cells #[.int .i64 0, .int .i64 0, .slice none 0 0, .slice none 0 0] 131)).heap.size (w3.drew.alloc (.cells #[.int .i64 0, .int .i64 0, .slice none 0 0, .slice none 0 0] 131)) w4 := hb0
 clear hb0
 have hz := (blk_new w3.drew [.int .i64 0, .int .i64 0, .slice none 0 0, .slice none 0 0] 131).below hb (by simp)
 have ht0 : tag (w3.drew.alloc (.cells #[.int .i64 0, .int .i64 0, .slice none 0 0, .slice none 0 0] 131)) w3.heap.size 131 := tag_new w3.drew [.int .i64 0, .int .i64 0, .slice none 0 0, .slice none 0 0] 131
 have ht := tag_below ht0 hb
 have hk : Chg (fun ty => ty = 131) w4 ((((w4.setCell ⟨w3.heap.size, 0, none⟩ (.int .i64 bg)).setCell ⟨w3.heap.size, 1, none⟩ (.int .i64 st)).setCell ⟨w3.heap.size, 2, none⟩ (.slice a2 rs.length c2)).setCell ⟨w3.heap.size, 3, none⟩ (.slice a3 ws.length c3)) := (((Chg.set (T := fun ty => ty = 131) _ rfl ht).trans (Chg.set _ rfl (tag_set _ ht))).trans (Chg.set _ rfl (tag_set _ (tag_set _ ht)))).trans (Chg.set _ rfl (tag_set _ (tag_set _ (tag_set _ ht))))
 have hb0 : Below w3.heap.size w3 (w3.drew.alloc (.cells #[.int .i64 0, .int .i64 0, .slice none 0 0, .slice none 0 0] 131)) := ((Below.refl w3.heap.size w3).drew).alloc (Nat.le_refl _) _
 have hb' : Below w3.heap.size w3 w4 := hb0.trans (hb.mono hb0.size)
 have hs := hb.size
 have e : w3.heap.size < w4.heap.size := tag_lt ht
 refine ⟨_, a2, c2, a3, c3, rfl, (((hz.set 0 (.int .i64 bg)).set 1 (.int .i64 st)).set 2 (.slice a2 rs.length c2)).set 3 (.slice a3 ws.length c3), h2.chg (by decide) hk (fun h => h), h3.chg (by decide) hk (fun h => h), ?_, by simpa using e, Nat.le_refl _⟩
 exact (((hb'.setCell (p := ⟨w3.heap.size, 0, none⟩) (Nat.le_refl _) _).setCell (p := ⟨w3.heap.size, 1, none⟩) (Nat.le_refl _) _).setCell (p := ⟨w3.heap.size, 2, none⟩) (Nat.le_refl _) _).setCell (p := ⟨w3.heap.size, 3, none⟩) (Nat.le_refl _) _
theorem Mem.putc {B bb gx : Nat} {w : World} {x : Bas} {cv hv : Value} {vs : List (Value × Value × Value)} (h : Mem B bb gx w x cv hv vs) {i j : Nat} (hi : i < 4) (hj : j < 6) {t t' : Txn} {v v' : Value × Value × Value} {u : Value} (htx : x.tx[i]? = some t) (hvx : vs[i]? = some v) (hset : txV t' v' = (txV t v).set j u) (htm : TxM B w t' v') (hv2 : v'.2.1 = v.2.1) :
 Mem B bb gx (w.setCell ⟨gx, i * 6 + j, none⟩ u) { x with tx := x.tx.set i t' } cv hv (vs.set i v') /\ Chg (fun ty => ty = 70) w (w.setCell ⟨gx, i * 6 + j, none⟩ u) := by
 have hk : Chg (fun ty => ty = 70) w (w.setCell ⟨gx, i * 6 + j, none⟩ u) := Chg.set _ rfl h.xt
 have h1 : i < x.tx.length := by rw [h.n]; exact hi
 have h2 : i < vs.length := by rw [h.m]; exact hi
 have ht : x.tx[i] = t := by rw [List.getElem?_eq_getElem h1] at htx; exact Option.some.inj htx
 have hv : vs[i] = v := by rw [List.getElem?_eq_getElem h2] at hvx; exact Option.some.inj hvx
 have hsame : ∀ k (hk : k < vs.length), ((vs.set i v')[k]'(by simpa using hk)).2.1 = vs[k].2.1 := by
  intro k hk
  by_cases e : k = i
  .subst e
   rw [List.getElem_set_self, hv2, hv]
  .rw [List.getElem_set_ne (fun z => e z.symm)]
 refine ⟨⟨by simpa using h.n, by simpa using h.m, h.bs.chg hk (by decide) h.bt, hk.tagk (by decide) h.bt, h.bB, ?_, tag_set _ h.xt, h.xB, fun k hk1 hk2 => ?_, fun k l hk1 hl1 hn g hg => ?_, h.cm.chg hk (by decide) (by decide), h.hi.chg hk (by decide) (by decide)⟩, hk⟩
 .have := h.xs.set (i := i) (j := j) (by rw [List.length_zipWith, h.n, h.m]; omega) hj u
  rw [List.getElem_zipWith, ht, hv, <- hset, zip_set] at this
  exact this
 .by_cases e : k = i
  .subst e
   simp only [List.getElem_set_self]
   exact htm.chg hk (by decide) (by decide) (by decide)
  .have e' : i ≠ k := fun z => e z.symm
   simp only [List.getElem_set_ne e']
   simp at hk1 hk2
   exact (h.tm k hk1 hk2).chg hk (by decide) (by decide) (by decide)
 .have hk3 : k < vs.length := by simpa using hk1
  have hl3 : l < vs.length := by simpa using hl1
  rw [hsame k hk3] at hg
  rw [hsame l hl3]
  exact h.ds k l hk3 hl3 hn g hg
def sv0 : Sav := ⟨⟨#[]⟩, []⟩
def savesF (x : Bas) (i : Nat) (o : Opn) : Bas × Int :=
 let t := x.tx.getD i tx0
 if o.kd = 8 then (if 8 <= t.sv.length then (x, 5) else ({ x with tx := x.tx.set i { t with sv := t.sv ++ [⟨o.nm, t.own⟩] } }, 0))
 else match savedF t.sv o.nm with
  | none => (x, 23)
  | some k => if o.kd = 9 then ({ x with tx := x.tx.set i { t with own := (t.sv.getD k sv0).cs, sv := t.sv.take (k + 1) } }, 0) else ({ x with tx := x.tx.set i { t with sv := t.sv.take k } }, 0)
def SavesP (B bb gx : Nat) (x : Bas) (i : Nat) (o : Opn) (w : World) (e : Ending) (w' : World) : Prop := ∃ cv hv vs, e = .returned (.int .i64 (savesF x i o).2) /\ Mem B bb gx w' (savesF x i o).1 cv hv vs /\ Keep w w' /\ Below B w w'
def CSp (B : Nat) (w : World) (cs : List Value) (p : Sav × Value) : Prop := cs = [.string p.1.nm, p.2] /\ ∃ a n c, p.2 = .slice a n c
theorem liesSp : Lies 2 CSp := ⟨fun h => by rw [h.1]; rfl, fun h _ => h, fun h _ => h, fun h _ => h⟩
theorem oneSp : ∀ {B : Nat} {w : World} {cs : List Value} {p : Sav × Value}, CSp B w cs p -> ∀ u ∈ cs, u.oneCell' = true := fun h u hu => by
 obtain ⟨rfl, a, n, c, e⟩ := h
 simp at hu
 rcases hu with rfl | rfl
 .rfl
 .rw [e]; rfl
theorem TL.flat {w : World} {v : Value} {ss : List Sav} (h : TL 146 2 CSt w v ss) : ∃ ps : List (Sav × Value), ps.map Prod.fst = ss /\ RS 2 CSp 0 w v ps /\ ∀ p ∈ ps, TL 106 4 CC w p.2 p.1.cs := by
 obtain ⟨⟨a, c, he, hh⟩, ht⟩ := h
 rcases Nat.eq_zero_or_pos ss.length with h0 | hp
 .have : ss = [] := List.length_eq_zero_iff.1 h0
  subst this
  exact ⟨[], rfl, ⟨a, c, he, fun z => absurd z (by simp)⟩, fun p hp => by simp at hp⟩
 .obtain ⟨g, o, e2, h1, h2, h3⟩ := hh hp
  have key : ∀ i : Fin ss.length, ∃ cv, TL 106 4 CC w cv ss[i].cs /\ ∀ j, j < 2 -> w.cell? ⟨g, o + i.1 * 2 + j, none⟩ = ([.string ss[i].nm, cv] : List Value)[j]? := by
   intro i
   obtain ⟨cs, ⟨cv, e, t⟩, y⟩ := h3 i.1 i.2
   subst e
   exact ⟨cv, t, y⟩
  refine ⟨List.ofFn (fun i : Fin ss.length => (ss[i], Classical.choose (key i))), ?_, ⟨a, c, ?_, fun _ => ⟨g, o, e2, h1, h2, fun i hi => ?_⟩⟩, fun p hp => ?_⟩
  .apply List.ext_getElem
   .simp
   .intro i _ _; simp
  .rw [he]; simp
  .have hi' : i < ss.length := by simpa using hi
   have k := Classical.choose_spec (key ⟨i, hi'⟩)
   refine ⟨[.string ss[i].nm, Classical.choose (key ⟨i, hi'⟩)], ⟨by simp, ?_⟩, fun j hj => k.2 j hj⟩
   obtain ⟨a', c', e'⟩ := k.1.form
   exact ⟨a', _, c', by rw [List.getElem_ofFn]; exact e'⟩
  .rw [List.mem_ofFn] at hp
   obtain ⟨i, rfl⟩ := hp
   exact (Classical.choose_spec (key i)).1
theorem sav_tl {w : World} {b : Nat} {v : Value} {ps : List (Sav × Value)} {xs : List Value} (hf : Fill 2 CSp 0 ps ps.length xs w) (ho : w.ownsRow b 146 2 v ps.length xs) (ht : ∀ p ∈ ps, TL 106 4 CC w p.2 p.1.cs) : TL 146 2 CSt w v (ps.map Prod.fst) := by
 refine ⟨?_, fun g o n c hv hp => own_tag ho (by rw [hv]; rfl)⟩
 obtain ⟨a, c, he, hh⟩ := hf.own liesSp (own_base0 ho) (Nat.le_refl _)
 refine ⟨a, c, by rw [List.length_map]; exact he, fun hp => ?_⟩
 obtain ⟨g, o, e2, h1, h2, h3⟩ := hh (by simpa using hp)
 refine ⟨g, o, e2, h1, h2, fun i hi => ?_⟩
 have hi' : i < ps.length := by simpa using hi
 obtain ⟨cs, ⟨e, _⟩, y⟩ := h3 i hi'
 exact ⟨cs, ⟨ps[i].2, by rw [List.getElem_map]; exact e, by rw [List.getElem_map]; exact ht ps[i] (List.getElem_mem hi')⟩, y⟩
theorem cel_tl {w : World} {b : Nat} {v : Value} {cs : List Cel} {xs : List Value} (hf : Fill 4 CC 0 cs cs.length xs w) (ho : w.ownsRow b 106 4 v cs.length xs) : TL 106 4 CC w v cs :=
 ⟨hf.own liesC (own_base0 ho) (Nat.le_refl _), fun g o n c hv hp => own_tag ho (by rw [hv]; rfl)⟩
theorem infoSa : (Tryz.prog.info? 146).map (fun i => (i.zero, i.size, i.bytes)) = some (some (.agg #[.string ⟨#[]⟩, .slice none 0 0]), 2, 40) := by kernel_rfl
def SvB (W wx : World) (nm : ByteArray) (own : List Cel) (s : Value) : Prop := ∃ (bx : Nat) (a : Option Addr) (c : Nat), s = .pointer (some ⟨bx, 0, none⟩) /\ Blk wx bx [.string nm, .slice a own.length c] /\ TL 106 4 CC wx (.slice a own.length c) own /\ Below W.heap.size W wx /\ bx < wx.heap.size /\ W.heap.size <= bx
theorem svA {W w8 : World} {nm : ByteArray} {own : List Cel} {a : Option Addr} {c : Nat} (hb : Below W.heap.size W w8) (h : TL 106 4 CC w8 (.slice a own.length c) own) : SvB W (w8.alloc (.cells #[.string nm, .slice a own.length c] 146)) nm own (.pointer (some ⟨w8.heap.size, 0, none⟩)) := by
 have hk : Chg (fun _ => False) w8 (w8.alloc (.cells #[.string nm, .slice a own.length c] 146)) := Chg.of_below _ (below_alloc _ _)
 exact ⟨_, a, c, rfl, blk_new w8 _ _, h.chg (fun z => z) hk (fun h => h), hb.alloc hb.size _, by simp, hb.size⟩
theorem svB {W w8 : World} {nm : ByteArray} {own : List Cel} {a : Option Addr} {c bx : Nat} {u0 u1 : Value} (hb : Below W.heap.size W w8) (h : TL 106 4 CC w8 (.slice a own.length c) own) (hk : Blk w8 bx [u0, u1]) (ht : tag w8 bx 146) (hx : W.heap.size <= bx) : SvB W ((w8.setCell ⟨bx, 0, none⟩ (.string nm)).setCell ⟨bx, 1, none⟩ (.slice a own.length c)) nm own (.pointer (some ⟨bx, 0, none⟩)) := by
 have hc : Chg (fun ty => ty = 146) w8 ((w8.setCell ⟨bx, 0, none⟩ (.string nm)).setCell ⟨bx, 1, none⟩ (.slice a own.length c)) := (Chg.set (T := fun ty => ty = 146) _ rfl ht).trans (Chg.set _ rfl (tag_set _ ht))
 have e := tag_lt ht
 exact ⟨_, a, c, rfl, (hk.set 0 (.string nm)).set 1 (.slice a own.length c), h.chg (by decide) hc (fun h => h), (hb.setCell (p := ⟨bx, 0, none⟩) hx _).setCell (p := ⟨bx, 1, none⟩) hx _, by simpa using e, hx⟩
theorem own_cap {w : World} {b e k n : Nat} {v : Value} {xs : List Value} (h : w.ownsRow b e k v n xs) : ∀ a n c, v = .slice a n c -> n <= c := fun a n' c hv => by
 obtain ⟨_, h2⟩ := h
 rcases h2 with ⟨rfl, _⟩ | ⟨g, cap, cur, rfl, _, _, hc, _⟩
 .injection hv with _ h1 h2; omega
 .injection hv with _ h1 h2; omega
end Go.Proofs.YtblkgicbimflhaaGreat
