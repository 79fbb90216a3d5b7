import Derived.Test.YtblkgicbimflhaaGreatQAF
import Derived.Test.YtblkgicbimflhaaGreatQAV
import Derived.Deep.CutBlock
import Derived.Test.YtblkgicbimflhaaGreatQAT
namespace Go.Proofs.YtblkgicbimflhaaGreat
open Go.ChangeShapes Go.WideShapes Go.ChangeAt Go.RowKit
set_option linter.unusedVariables false
set_option linter.unusedSimpArgs false
set_option maxRecDepth 100000
set_option maxHeartbeats 16000000
theorem RS.at {α : Type} {k B : Nat} {C : Nat -> World -> List Value -> α -> Prop} {w : World} {a : Option Addr} {n c : Nat} {xs : List α} (h : RS k C B w (.slice a n c) xs) {i : Nat} (hi : i < xs.length) : ∃ g o cs, a = some ⟨g, o, none⟩ /\ g < w.heap.size /\ C B w cs xs[i] /\ ∀ j, j < k -> w.cell? ⟨g, o + i * k + j, none⟩ = cs[j]? := by
 obtain ⟨a', c', he, hh⟩ := h
 obtain ⟨g, o, e2, _, h2, h3⟩ := hh (by omega)
 obtain ⟨cs, x, y⟩ := h3 i hi
 injection he with e _ _
 exact ⟨g, o, cs, by rw [e, e2], h2, x, y⟩
def CNl (B : Nat) (w : World) (cs : List Value) (L : List Nat) : Prop := ∃ v, cs = [v] /\ RS 1 CI B w v (nI L)
theorem liesNl : Lies 1 CNl := ⟨fun ⟨v, h, _⟩ => by rw [h]; rfl, fun ⟨v, h, r⟩ hd => ⟨v, h, r.mono liesI hd⟩, fun ⟨v, h, r⟩ hb => ⟨v, h, r.below liesI hb⟩, fun ⟨v, h, r⟩ hc => ⟨v, h, r.set liesI hc⟩⟩
structure SrM (W wr : World) (os : List Opn) (fs : List Nat) (sl : List Bool) (gs : Nat) (sv fv : Value) : Prop where
 sro : wr.ownsRow W.heap.size 41 7 sv os.length (os.flatMap opK)
 fro : OutRow 3 W.heap.size wr fv fs
 see : BRow 4 W.heap.size wr gs sl
 be : Below W.heap.size W wr
theorem SrM.below {W wr w' : World} {os : List Opn} {fs : List Nat} {sl : List Bool} {gs : Nat} {sv fv : Value} (h : SrM W wr os fs sl gs sv fv) (hb : Below wr.heap.size wr w') : SrM W w' os fs sl gs sv fv :=
 ⟨own_below h.sro hb, h.fro.below hb, h.see.below hb, h.be.trans (hb.mono h.be.size)⟩
theorem SrM.pushS {W wr w' : World} {os : List Opn} {fs : List Nat} {sl : List Bool} {gs : Nat} {sv fv sv' : Value} {o : Opn} (h : SrM W wr os fs sl gs sv fv) (hg : wr.grownBy w' sv.ownBlock) (ho : w'.ownsRow W.heap.size 41 7 sv' (os.length + 1) (os.flatMap opK ++ opK o)) : SrM W w' (os ++ [o]) fs sl gs sv' fv := by
 have hk : Chg (fun ty => ty = 41) wr w' := Chg.grown hg (fun g hg => ⟨_, rfl, own_tag h.sro hg⟩)
 refine ⟨by rw [List.length_append, List.flatMap_append]; simpa using ho, own_chg h.fro hk (by decide), own_chg h.see hk (by decide), h.be.grown hg h.be.size (fun q hq => (h.sro.lt q hq).1)⟩
theorem SrM.pushF {W wr w' : World} {os : List Opn} {fs : List Nat} {sl : List Bool} {gs : Nat} {sv fv fv' : Value} {n : Nat} (h : SrM W wr os fs sl gs sv fv) (hg : wr.grownBy w' fv.ownBlock) (ho : w'.ownsRow W.heap.size 3 1 fv' (fs.length + 1) (fs.map (fun k : Nat => Value.int .i64 (k : Int)) ++ [.int .i64 (n : Int)])) : SrM W w' os (fs ++ [n]) sl gs sv fv' := by
 have hk : Chg (fun ty => ty = 3) wr w' := Chg.grown hg (fun g hg => ⟨_, rfl, own_tag h.fro hg⟩)
 refine ⟨own_chg h.sro hk (by decide), ?_, own_chg h.see hk (by decide), h.be.grown hg h.be.size (fun q hq => (World.ownsRow.lt h.fro q hq).1)⟩
 unfold OutRow
 rw [List.length_append, List.map_append]
 simpa using ho
theorem SrM.mark {W wr : World} {os : List Opn} {fs : List Nat} {sl : List Bool} {gs : Nat} {sv fv : Value} (h : SrM W wr os fs sl gs sv fv) (k : Nat) : SrM W (wr.setCell ⟨gs, k, none⟩ (.bool true)) os fs (sl.set k true) gs sv fv := by
 have ht : tag wr gs 4 := own_tag h.see rfl
 have hk : Chg (fun ty => ty = 4) wr (wr.setCell ⟨gs, k, none⟩ (.bool true)) := Chg.set _ rfl ht
 exact ⟨own_chg h.sro hk (by decide), own_chg h.fro hk (by decide), h.see.set k true, h.be.setCell (p := ⟨gs, k, none⟩) h.see.lt.1 _⟩
theorem SrM.srs {W wr : World} {os : List Opn} {fs : List Nat} {sl : List Bool} {gs : Nat} {sv fv : Value} (h : SrM W wr os fs sl gs sv fv) : RS 7 CO 0 wr sv os := (Gr.rs (f := opK) liesO h.sro (fun _ _ => rfl)).mono liesO (Nat.zero_le _)
theorem SrM.frs {W wr : World} {os : List Opn} {fs : List Nat} {sl : List Bool} {gs : Nat} {sv fv : Value} (h : SrM W wr os fs sl gs sv fv) : RS 1 CI 0 wr fv (nI fs) := (OutRow.rs h.fro).mono liesI (Nat.zero_le _)
structure OneM (us : List Opn) (ls : List (List Nat)) (out : List Nat) (W : World) (oa : Option Addr) (oc : Nat) (la : Option Addr) (lc : Nat) (wa : Option Addr) (wc : Nat) (ga : Option Addr) (gc : Nat) (ra : Option Addr) (rc : Nat) : Prop where
 ops : RS 7 CO 0 W (.slice oa us.length oc) us
 lsr : RS 1 CNl 0 W (.slice la out.length lc) ls
 wnt : RS 5 CA 0 W (.slice wa us.length wc) (runsF bas0 us).2
 got : RS 5 CA 0 W (.slice ga us.length gc) (runsF bas0 us).2
 ord : RS 1 CI 0 W (.slice ra out.length rc) (nI out)
 ll : ls.length = out.length
 nl : out.length <= 1000
 ps : ∀ x ∈ (runsF bas0 us).2, x.ps.length <= 1048576
structure OneX (us : List Opn) (ls : List (List Nat)) (out : List Nat) (os : List Opn) : Prop where
 nd : out.Nodup
 lt : ∀ k ∈ out, k < ls.length
 ll : ls.length = out.length
 op : (fromP ls out out.length).map (fun n => us[n]?) = os.map some
 ol : os.length <= 1000
 ml : out.length <= 1000
 eq : ∀ (j : Nat) n a b, (fromP ls out out.length)[j]? = some n -> (runsF bas0 us).2[n]? = some a -> (runsF bas0 os).2[j]? = some b -> obsE a b
theorem one_x {us : List Opn} (hs : ∀ o ∈ us, SerO o) (hl : us.length <= 1000) {l : List Int} {c : Int} (hc : SerC (histF us us.length).1.hs l c) : ∃ out os, c = 0 /\ l = nI out /\ OneX us (histF us us.length).2.2 out os := by
 have HI := hist_hi hs us.length (Nat.le_refl _)
 obtain ⟨out, hso, hol, rfl, rfl⟩ := serC_good HI.hp.1 HI.hp.2 hc
 obtain ⟨os, a1, a2, a3, a4⟩ := ser_run HI hso hol out.length (Nat.le_refl _)
 have hll : (histF us us.length).2.2.length = out.length := by rw [HI.ll, hol, HI.hl]
 have hnd : out.Nodup := nodup_at (fun m m' x y h hx hy => (serOut_ok hso h hx hy).1)
 have hlt : ∀ k ∈ out, k < (histF us us.length).2.2.length := fun k hk => by
  obtain ⟨m, hm, e⟩ := List.mem_iff_getElem.1 hk
  have := serOut_lt hso (m := m) (x := k) (by rw [List.getElem?_eq_getElem hm, e])
  rw [hll, hol]; exact this
 have hfl := from_small hnd hlt
 have hsm := hist_sum hs us.length (Nat.le_refl _)
 have hos : os.length = (fromP (histF us us.length).2.2 out out.length).length := by
  have := congrArg List.length a1
  simpa using this.symm
 have hml : out.length <= 1000 := by
  rw [hol]
  exact Nat.le_trans (hist_bnd (Nat.le_refl us.length)).hl hl
 exact ⟨out, os, rfl, rfl, hnd, hlt, hll, a1, by omega, hml, a4⟩
theorem OneX.fl {us : List Opn} {ls : List (List Nat)} {out : List Nat} {os : List Opn} (h : OneX us ls out os) : (fromP ls out out.length).length = os.length := by
 have := congrArg List.length h.op
 simpa using this
theorem OneX.at {us : List Opn} {ls : List (List Nat)} {out : List Nat} {os : List Opn} (h : OneX us ls out os) {p k j n : Nat} (hk : out[p]? = some k) (hn : (ls.getD k [])[j]? = some n) : ∃ hc : (fromP ls out p).length + j < os.length, ∃ hu : n < us.length, us[n] = os[(fromP ls out p).length + j] := by
 have hf := from_at hk hn
 have hl := (List.getElem?_eq_some_iff.1 hf).1
 rw [h.fl] at hl
 have e := congrArg (fun l => l[(fromP ls out p).length + j]?) h.op
 simp only [List.getElem?_map, hf, Option.map_some, List.getElem?_eq_getElem hl, Option.map_some] at e
 injection e with e
 obtain ⟨hu, e2⟩ := List.getElem?_eq_some_iff.1 e
 exact ⟨hl, hu, e2⟩
theorem OneX.take {us : List Opn} {ls : List (List Nat)} {out : List Nat} {os : List Opn} (h : OneX us ls out os) {p k j n : Nat} (hk : out[p]? = some k) (hn : (ls.getD k [])[j]? = some n) : (fromP ls out out.length).take ((fromP ls out p).length + j) ++ [n] = (fromP ls out out.length).take ((fromP ls out p).length + (j + 1)) := by
 have hf := from_at hk hn
 rw [show (fromP ls out p).length + (j + 1) = (fromP ls out p).length + j + 1 by omega, List.take_add_one, hf]
 rfl
theorem OneX.ost {us : List Opn} {ls : List (List Nat)} {out : List Nat} {os : List Opn} (h : OneX us ls out os) {c : Nat} (hc : c < os.length) : os.take c ++ [os[c]] = os.take (c + 1) := by
 rw [List.take_add_one, List.getElem?_eq_getElem hc]
 rfl
theorem from_next {ls : List (List Nat)} {out : List Nat} {p k : Nat} (hk : out[p]? = some k) : (fromP ls out (p + 1)).length = (fromP ls out p).length + (ls.getD k []).length := by rw [from_step hk, List.length_append]
def SeenL (out : List Nat) (p : Nat) (sl : List Bool) : Prop := sl.length = out.length /\ ∀ k, k < out.length -> sl[k]? = some (decide (k ∈ out.take p))
theorem seen0 (out : List Nat) : SeenL out 0 (List.replicate out.length false) := ⟨by simp, fun k hk => by simp [hk]⟩
theorem SeenL.no {out : List Nat} {p k : Nat} {sl : List Bool} (h : SeenL out p sl) (hn : out.Nodup) (hp : out[p]? = some k) (hk : k < out.length) : sl[k]? = some false := by
 rw [h.2 k hk]
 congr 1
 rw [decide_eq_false_iff_not]
 intro hm
 obtain ⟨q, hq, e⟩ := List.mem_iff_getElem.1 hm
 rw [List.length_take] at hq
 rw [List.getElem_take] at e
 obtain ⟨hp2, e2⟩ := List.getElem?_eq_some_iff.1 hp
 have := (List.getElem_inj hn).1 (e.trans e2.symm)
 omega
theorem SeenL.step {out : List Nat} {p k : Nat} {sl : List Bool} (h : SeenL out p sl) (hp : out[p]? = some k) : SeenL out (p + 1) (sl.set k true) := by
 refine ⟨by rw [List.length_set]; exact h.1, fun j hj => ?_⟩
 rw [List.take_add_one, hp]
 by_cases e : k = j
 .subst e
  rw [List.getElem?_set_self (by rw [h.1]; exact hj)]
  simp
 .rw [List.getElem?_set_ne e, h.2 j hj]
  have : ¬ j = k := fun z => e z.symm
  simp [this]
theorem Bytes.up {w W : World} {v0 : Option Addr} {n : Nat} (h : Bytes w w.heap.size v0 n) (hb : Below w.heap.size w W) : Bytes W W.heap.size v0 n := fun j hj => by
 obtain ⟨g, o, b, e1, e2, e3, e4⟩ := h j hj
 exact ⟨g, o, b, e1, Nat.lt_of_lt_of_le e2 hb.size, (hb.cell (p := ⟨g, o + j, none⟩) e2).trans e3, e4⟩
theorem BytesF.up {w W : World} {v0 : Option Addr} {bs : List Int} (h : BytesF bs w w.heap.size v0) (hb : Below w.heap.size w W) : BytesF bs W W.heap.size v0 := fun j hj => by
 obtain ⟨g, o, b, e1, e2, e3, e4⟩ := h j hj
 exact ⟨g, o, b, e1, Nat.lt_of_lt_of_le e2 hb.size, (hb.cell (p := ⟨g, o + j, none⟩) e2).trans e3, e4⟩
def DrU (us : List Opn) (W : World) (e : Ending) (W' : World) : Prop := ∃ (a : Option Addr) (c : Nat), e = .returned (.slice a us.length c) /\ RS 7 CO 0 W' (.slice a us.length c) us /\ Below W.heap.size W W'
theorem DrSe.u {bs : List Int} {W W' : World} {e : Ending} (h : DrSe bs W e W') : DrU (drawF bs) W e W' := by
 obtain ⟨v, rfl, r, _, b⟩ := h
 obtain ⟨a, c, rfl⟩ := formR r
 exact ⟨a, c, rfl, (Gr.rs (f := opK) liesO r (fun _ _ => rfl)).mono liesO (Nat.zero_le _), b⟩
theorem draw_len (bs : List Int) (W : World) (e : Ending) (W' : World) (h : DrSe bs W e W') : (drawF bs).length <= 141 := h.choose_spec.2.2.1
def RunU (L : List Obn) (n : Nat) (W : World) (e : Ending) (W' : World) : Prop := ∃ (a : Option Addr) (c : Nat), e = .returned (.tuple #[.slice a n c, .int .i64 0]) /\ RS 5 CA 0 W' (.slice a n c) L /\ (∀ x ∈ L, x.ps.length <= 1048576) /\ Below W.heap.size W W'
theorem TxnOf.u {F : Nat} {us : List Opn} (h : TxnOf F us (txnL us) (txnC us)) (hl : us.length <= 1000) {W : World} {a : Option Addr} {c : Nat} (hr : RS 7 CO 0 W (.slice a us.length c) us) : Calls Tryz.prog F #[.slice a us.length c] W fun e w' => RunU (runsF bas0 us).2 us.length W e w' := by
 have e1 : txnL us = (runsF bas0 us).2 := by unfold txnL; rw [if_neg (by omega)]
 have e2 : txnC us = 0 := by unfold txnC; rw [if_neg (by omega)]
 rw [e1, e2] at h
 refine (h W a c hr).mono ?_
 rintro e w' ⟨v, ps, rfl, hA, hR, hb, _, hps, hpm⟩
 obtain ⟨a2, c2, rfl⟩ := formR hA.1
 have hn : ps.length = us.length := by
  have := congrArg List.length hpm
  rw [List.length_map, runsF_len] at this
  exact this
 rw [hn] at hR ⊢
 exact ⟨a2, c2, rfl, hR, fun x hx => by rw [<- hpm] at hx; obtain ⟨p, hp, rfl⟩ := List.mem_map.1 hx; exact hps p hp, hb⟩
theorem lists_rs {B : Nat} {W : World} {la : Option Addr} {lc : Nat} {pl : List (List Nat × Value)} (ho : W.ownsRow B 32 1 (.slice la pl.length lc) pl.length (pl.map Prod.snd)) (hp : ∀ p ∈ pl, nP W p) : RS 1 CNl 0 W (.slice la pl.length lc) (pl.map Prod.fst) := by
 have key : ∀ qs : List (List Nat × Value), (∀ p ∈ qs, nP W p) -> Fill 1 CNl 0 (qs.map Prod.fst) (qs.map Prod.fst).length (qs.map Prod.snd) W := by
  intro qs
  induction qs with
  | nil => intro _; exact fill_nil _ _ _ _
  | cons x r ih =>
    intro hq
    have h1 : Fill 1 CNl 0 [x.1] 1 [x.2] W := fill_one liesNl ⟨x.2, rfl, (hq x List.mem_cons_self).1⟩
    exact h1.append (ih (fun y hy => hq y (List.mem_cons_of_mem _ hy)))
 have := (key pl hp).own liesNl (own_base0 (by simpa using ho)) (Nat.le_refl _)
 simpa using this
theorem obs_same {W W' : World} {L : List Obn} {a : Option Addr} {n c : Nat} (h : RS 5 CA 0 W (.slice a n c) L) (hb : Below W.heap.size W W') {i : Nat} {x : Obn} (hx : L[i]? = some x) : ∃ g o pv, a = some ⟨g, o, none⟩ /\ g < W.heap.size /\ RS 2 CPr 0 W' pv x.ps /\ W'.cell? ⟨g, o + i * 5, none⟩ = some (.int .i64 x.code) /\ W'.cell? ⟨g, o + i * 5 + 1, none⟩ = some (.int .i64 x.vl) /\ W'.cell? ⟨g, o + i * 5 + 2, none⟩ = some (.int .i64 x.st) /\ W'.cell? ⟨g, o + i * 5 + 3, none⟩ = some (.bool x.fd) /\ W'.cell? ⟨g, o + i * 5 + 4, none⟩ = some pv := by
 obtain ⟨hi, rfl⟩ := List.getElem?_eq_some_iff.1 hx
 obtain ⟨g, o, cs, rfl, hg, ⟨pv, rfl, hp⟩, hc⟩ := h.at hi
 exact ⟨g, o, pv, rfl, hg, hp.below liesPr hb, (hb.cell (p := ⟨g, o + i * 5, none⟩) hg).trans (hc 0 (by omega)), (hb.cell (p := ⟨g, o + i * 5 + 1, none⟩) hg).trans (hc 1 (by omega)), (hb.cell (p := ⟨g, o + i * 5 + 2, none⟩) hg).trans (hc 2 (by omega)), (hb.cell (p := ⟨g, o + i * 5 + 3, none⟩) hg).trans (hc 3 (by omega)), (hb.cell (p := ⟨g, o + i * 5 + 4, none⟩) hg).trans (hc 4 (by omega))⟩
theorem OneM.below {us : List Opn} {ls : List (List Nat)} {out : List Nat} {W W' : World} {oa : Option Addr} {oc : Nat} {la : Option Addr} {lc : Nat} {wa : Option Addr} {wc : Nat} {ga : Option Addr} {gc : Nat} {ra : Option Addr} {rc : Nat} (h : OneM us ls out W oa oc la lc wa wc ga gc ra rc) (hb : Below W.heap.size W W') : OneM us ls out W' oa oc la lc wa wc ga gc ra rc :=
 ⟨h.ops.below liesO hb, h.lsr.below liesNl hb, h.wnt.below liesA hb, h.got.below liesA hb, h.ord.below liesI hb, h.ll, h.nl, h.ps⟩
theorem nint_at {W W' : World} {a : Option Addr} {n c : Nat} {l : List Nat} (h : RS 1 CI 0 W (.slice a n c) (nI l)) (hb : Below W.heap.size W W') {i k : Nat} (hk : l[i]? = some k) : ∃ g o, a = some ⟨g, o, none⟩ /\ g < W.heap.size /\ W'.cell? ⟨g, o + i, none⟩ = some (.int .i64 (k : Int)) := by
 obtain ⟨hi, rfl⟩ := List.getElem?_eq_some_iff.1 hk
 obtain ⟨g, o, cs, rfl, hg, hC, hc⟩ := h.at (i := i) (by rw [nI_len]; exact hi)
 have e : (nI l)[i]'(by rw [nI_len]; exact hi) = (l[i] : Int) := by unfold nI; simp
 rw [e] at hC
 have := hc 0 (by omega)
 rw [Nat.mul_one, Nat.add_zero, hC] at this
 exact ⟨g, o, rfl, hg, (hb.cell (p := ⟨g, o + i, none⟩) hg).trans this⟩
theorem list_at {ls : List (List Nat)} {W W' : World} {la : Option Addr} {m lc : Nat} (h : RS 1 CNl 0 W (.slice la m lc) ls) (hb : Below W.heap.size W W') {k : Nat} (hk2 : k < ls.length) : ∃ (g o : Nat) (xa : Option Addr) (xc : Nat) (L : List Nat), ls.getD k [] = L /\ la = some ⟨g, o, none⟩ /\ g < W.heap.size /\ RS 1 CI 0 W (.slice xa L.length xc) (nI L) /\ W'.cell? ⟨g, o + k, none⟩ = some (.slice xa L.length xc) := by
 obtain ⟨g, o, cs, rfl, hg, ⟨v, rfl, hr⟩, hc⟩ := h.at hk2
 have h2 := hr
 obtain ⟨xa, xc, he, _⟩ := h2
 rw [nI_len] at he
 subst he
 have := hc 0 (by omega)
 rw [Nat.mul_one, Nat.add_zero] at this
 exact ⟨g, o, xa, xc, ls[k], by rw [List.getD_eq_getElem?_getD, List.getElem?_eq_getElem hk2]; rfl, rfl, hg, hr, (hb.cell (p := ⟨g, o + k, none⟩) hg).trans this⟩
theorem op_at {us : List Opn} {W W' : World} {oa : Option Addr} {m oc : Nat} (h : RS 7 CO 0 W (.slice oa m oc) us) (hb : Below W.heap.size W W') {n : Nat} (hn : n < us.length) : ∃ g o, oa = some ⟨g, o, none⟩ /\ g < W.heap.size /\ W'.cell? ⟨g, o + n * 7, none⟩ = some (.int .i64 us[n].kd) /\ W'.cell? ⟨g, o + n * 7 + 1, none⟩ = some (.int .i64 us[n].ss) /\ W'.cell? ⟨g, o + n * 7 + 2, none⟩ = some (.int .i64 us[n].tb) /\ W'.cell? ⟨g, o + n * 7 + 3, none⟩ = some (.int .i64 us[n].ky) /\ W'.cell? ⟨g, o + n * 7 + 4, none⟩ = some (.int .i64 us[n].vl) /\ W'.cell? ⟨g, o + n * 7 + 5, none⟩ = some (.int .i64 us[n].md) /\ W'.cell? ⟨g, o + n * 7 + 6, none⟩ = some (.string us[n].nm) := by
 obtain ⟨g, o, cs, rfl, hg, hC, hc⟩ := h.at hn
 unfold CO at hC
 subst hC
 exact ⟨g, o, rfl, hg, (hb.cell (p := ⟨g, o + n * 7, none⟩) hg).trans (hc 0 (by omega)), (hb.cell (p := ⟨g, o + n * 7 + 1, none⟩) hg).trans (hc 1 (by omega)), (hb.cell (p := ⟨g, o + n * 7 + 2, none⟩) hg).trans (hc 2 (by omega)), (hb.cell (p := ⟨g, o + n * 7 + 3, none⟩) hg).trans (hc 3 (by omega)), (hb.cell (p := ⟨g, o + n * 7 + 4, none⟩) hg).trans (hc 4 (by omega)), (hb.cell (p := ⟨g, o + n * 7 + 5, none⟩) hg).trans (hc 5 (by omega)), (hb.cell (p := ⟨g, o + n * 7 + 6, none⟩) hg).trans (hc 6 (by omega))⟩
theorem OneX.atC {us : List Opn} {ls : List (List Nat)} {out : List Nat} {os : List Opn} (h : OneX us ls out os) {p k j n c c2 : Nat} (hc : c = (fromP ls out p).length) (hc2 : c2 = c + j) (hk : out[p]? = some k) (hn : (ls.getD k [])[j]? = some n) : ∃ hc : c2 < os.length, ∃ hu : n < us.length, us[n] = os[c2] := by
 subst hc hc2
 exact h.at hk hn
theorem OneX.takeC {us : List Opn} {ls : List (List Nat)} {out : List Nat} {os : List Opn} (h : OneX us ls out os) {p k j n c c2 : Nat} (hc : c = (fromP ls out p).length) (hc2 : c2 = c + j) (hk : out[p]? = some k) (hn : (ls.getD k [])[j]? = some n) : (fromP ls out out.length).take c2 ++ [n] = (fromP ls out out.length).take (c2 + 1) := by
 subst hc hc2
 exact h.take hk hn
theorem sr0 {W w4 : World} {m : Nat} (ho : w4.ownsRow W.heap.size 4 1 (.slice (some ⟨((W.alloc (.cells #[] 41)).alloc (.cells #[] 3)).heap.size, 0, none⟩) m m) m (madeCells (Value.bool false).cells (m * 1)).toList) (hg : ((W.alloc (.cells #[] 41)).alloc (.cells #[] 3)).grownBy w4 none) : SrM W w4 (([] : List Opn).take 0) (([] : List Nat).take 0) (List.replicate m false) (W.heap.size + 1 + 1) (.slice (some ⟨W.heap.size, 0, none⟩) 0 0) (.slice (some ⟨W.heap.size + 1, 0, none⟩) 0 0) := by
 have hb : Below ((W.alloc (.cells #[] 41)).alloc (.cells #[] 3)).heap.size ((W.alloc (.cells #[] 41)).alloc (.cells #[] 3)) w4 := (Below.refl _ _).grown hg (Nat.le_refl _) (fun k hk => by simp at hk)
 have m1 := World.ownsRow_made (base := W.heap.size) (e := 41) (size := 7) W #[] 0 (by simp) (by unfold maxLen; omega) (by simp)
 have m2 := World.ownsRow_made (base := W.heap.size) (e := 3) (size := 1) (W.alloc (.cells #[] 41)) #[] 0 (by simp) (by unfold maxLen; omega) (by simp)
 have e1 : ((W.alloc (.cells #[] 41)).alloc (.cells #[] 3)).heap.size = W.heap.size + 1 + 1 := by simp
 rw [e1] at ho
 refine ⟨?_, ?_, rowB (xs := List.replicate m (Value.bool false)) (by simpa [toList_madeCells_one, Value.cells] using ho) (by simp), ?_⟩
 .exact own_below (own_below (by simpa using m1) (below_alloc _ _)) hb
 .exact own_below (by simpa using m2) hb
 .exact ((below_alloc W _).alloc (by simp) _).trans (hb.mono (by simp; omega))
theorem one_law (himpl : ∀ us, TxnOf 9 us (txnL us) (txnC us)) (v0 : Option Addr) (len cap : Nat) (w : World) (hlen : len <= maxLen) (hby : Bytes w w.heap.size v0 len) :
 Calls Tryz.prog 3 #[.slice v0 len cap] w fun e w' => e = .returned (.bool true) /\ Below w.heap.size w w' := by
 by_cases hbig : 1048576 < len
 .have hbi : (1048576 : Int) < len := by omega
  clear himpl hby
  go_enter Tryz.func3, Tryz.ntmps3
  go_wp2
  go_ret
  exact ⟨rfl, Below.refl _ _⟩
 have hbi : ¬ (1048576 : Int) < len := by omega
 have hln : len <= 1048576 := by omega
 obtain ⟨bs, hbl, hbf⟩ := bytes_list hby
 have HDR : Hid (∀ W, Below w.heap.size w W -> Calls Tryz.prog 6 #[.slice v0 len cap] W fun e W' => DrU (drawF bs) W e W' /\ (drawF bs).length <= 141) := hid (fun W hb => by
  have := drawSerial_fn bs v0 cap W (by omega) (by rw [hbl]; exact hby.up hb) (hbf.up hb)
  rw [hbl] at this
  exact this.mono (fun e W' h => ⟨h.u, draw_len _ _ _ _ h⟩))
 have hso := drawF_ok bs
 obtain ⟨us, hus⟩ : ∃ u, drawF bs = u := ⟨_, rfl⟩
 rw [hus] at HDR hso
 have HSO := hid hso
 have HIM := hid himpl
 clear hby hbf hbl hus hso himpl hbig
 go_enter Tryz.func3, Tryz.ntmps3
 go_wp2_with (go_at_call 6; fail)
 refine (HDR.out _ (Below.refl _ _)).mono ?_
 rintro e w1 ⟨⟨oa, oc, rfl, hO1, b1⟩, hul⟩
 have HO1 := hid hO1
 clear hO1
 go_wp2_with (go_at_call 7; fail)
 refine (serHist_spec us HSO.out (by omega) w1 oa oc HO1.out).mono ?_
 rintro e w2 ⟨hv, lv, pl, rfl, hH, hpl, hlo, hlp, b2⟩
 obtain ⟨ha, hc, hhv⟩ : ∃ a c, hv = .slice a (histF us us.length).1.hs.length c := by obtain ⟨ps, _, ho, _⟩ := hH; exact formR ho
 subst hhv
 obtain ⟨la, lc, hlv⟩ := formR hlo
 subst hlv
 have HH2 := hid hH.rs
 have HL2 : Hid (RS 1 CNl 0 w2 (.slice la pl.length lc) (histF us us.length).2.2) := hid (by rw [<- hpl]; exact lists_rs hlo hlp)
 have HPN : Hid ((histF us us.length).2.2.length = pl.length) := hid (by rw [<- hpl]; simp)
 have B2 : Below w.heap.size w w2 := b1.trans (b2.mono b1.size)
 have HO2 := hid (HO1.out.below liesO b2)
 have hsl : (histF us us.length).1.hs.length <= us.length := (hist_bnd (Nat.le_refl _)).hl
 have HBH : Hid (BH 1048576 (histF us us.length).1.hs) := hid ⟨by omega, fun t ht => by have := (hist_bnd (Nat.le_refl us.length)).ht t ht; exact ⟨by have := this.1; omega, by have := this.2; omega⟩⟩
 obtain ⟨X, hX⟩ : ∃ z, histF us us.length = z := ⟨_, rfl⟩
 have HX1 : Hid (∀ l c, SerC X.1.hs l c -> ∃ out os, c = 0 /\ l = nI out /\ OneX us X.2.2 out os) := hid (fun l c h => by rw [<- hX] at h ⊢; exact one_x HSO.out (by omega) h)
 rw [hX] at HH2 HL2 HPN hsl HBH
 rw [hX]
 clear hX hH hpl hlo hlp HO1 b1 b2
 obtain ⟨⟨ck, cms, hs, tx⟩, on, ls⟩ := X
 simp only at HH2 HL2 HPN hsl HBH HX1
 go_wp2_with (go_at_call 6; fail)
 refine (HDR.out _ B2).mono ?_
 rintro e w3 ⟨⟨da, dc, rfl, hO3, b3⟩, _⟩
 have HO3 := hid hO3
 clear hO3
 go_wp2_with (go_at_call 8; fail)
 refine ((txnRun_spec us).u (by omega) HO3.out).mono ?_
 rintro e w4 ⟨wa, wc, rfl, hR4, hps, b4⟩
 have B34 : Below w2.heap.size w2 w4 := b3.trans (b4.mono b3.size)
 have B4 : Below w.heap.size w w4 := B2.trans (B34.mono B2.size)
 have HW4 := hid hR4
 have HPS := hid hps
 clear hR4 hps b3 b4 HO3
 go_wp2_with (go_at_call 6; fail)
 refine (HDR.out _ B4).mono ?_
 rintro e w5 ⟨⟨ea, ec, rfl, hO5, b5⟩, _⟩
 have HO5 := hid hO5
 clear hO5
 go_wp2_with (go_at_call 9; fail)
 refine ((HIM.out us).u (by omega) HO5.out).mono ?_
 rintro e w6 ⟨ga, gc, rfl, hR6, _, b6⟩
 have B56 : Below w4.heap.size w4 w6 := b5.trans (b6.mono b5.size)
 have B26 : Below w2.heap.size w2 w6 := B34.trans (B56.mono B34.size)
 have HG6 := hid hR6
 clear hR6 b5 b6 HO5
 go_wp2_with (go_at_call 10; fail)
 refine (serial_impl3 ha hc hs w6 HBH.out (HH2.out.below liesT B26)).mono ?_
 rintro e w7 ⟨ra, rn, rc, oc0, ol, rfl, _, hord, hser, b7⟩
 obtain ⟨out, os, rfl, rfl, hox⟩ := HX1.out _ _ hser
 have hor := hord.rs (D := CI) (fun h => h)
 obtain ⟨_, _, hsle, _⟩ := hord
 have hrn : rn = out.length := by injection hsle with _ h _; rw [h, nI_len]
 subst hrn
 have hpn : pl.length = out.length := by rw [<- HPN.out, hox.ll]
 have HM : Hid (OneM us ls out w7 oa oc la lc wa wc ga gc ra rc) := hid (by
  have B27 : Below w2.heap.size w2 w7 := B26.trans (b7.mono B26.size)
  have B47 : Below w4.heap.size w4 w7 := B56.trans (b7.mono B56.size)
  exact ⟨HO2.out.below liesO B27, by rw [<- hpn]; exact HL2.out.below liesNl B27, HW4.out.below liesA B47, HG6.out.below liesA b7, hor.mono liesI (Nat.zero_le _), hox.ll, hox.ml, HPS.out⟩)
 have B7 : Below w.heap.size w w7 := B4.trans ((B56.trans (b7.mono B56.size)).mono B4.size)
 have HOX := hid hox
 have hml := hox.ml
 rw [hpn]
 clear hor hsle hser hox hpn HX1 HBH HH2 HL2 HPN HW4 HG6 HPS HO2 HDR HSO B2 B34 B56 B26 B4 b7 hsl
 go_wp2
 go_loopw [73] (fun iv wr => ∃ k : Nat, k <= us.length /\ iv = .int .i64 (k : Int) /\ Below w7.heap.size w7 wr) (fun iv _ => us.length - (intOf iv).toNat)
 case atStart => exact ⟨0, Nat.zero_le _, rfl, Below.refl _ _⟩
 case round =>
  obtain ⟨k, hk, rfl, hbel⟩ := hrel
  by_cases hlt : k < us.length
  .have hlti : (k : Int) < us.length := by omega
   obtain ⟨ob, hob⟩ : ∃ ob, (runsF bas0 us).2[k]? = some ob := ⟨_, List.getElem?_eq_getElem (by rw [runsF_len]; exact hlt)⟩
   obtain ⟨g, o, pa, rfl, hg, hp1, c0, c1, c2, c3, c4⟩ := obs_same HM.out.got hbel hob
   obtain ⟨g2, o2, pb, rfl, hg2, hp2, d0, d1, d2, d3, d4⟩ := obs_same HM.out.wnt hbel hob
   have hpl := HM.out.ps ob (List.mem_of_getElem? hob)
   have HCN := hid (fun W (h : Below wr.heap.size wr W) => sameTxn_same ob.code ob.vl ob.st ob.st ob.fd pa pb ob.ps W hpl (hp1.below liesPr h) (hp2.below liesPr h))
   obtain ⟨pa1, pc1, rfl, _⟩ := hp1
   obtain ⟨pb1, pd1, rfl, _⟩ := hp2
   have hdr : Below wr.heap.size wr wr.drew := (Below.refl _ wr).drew
   clear hob hpl HM HOX HIM
   go_wp2
   go_region_with (go_at_call 11; refine (HCN.out _ hdr).mono ?_; rintro e w9 ⟨rfl, hb'⟩; replace hb' := undrew hb'; have bw1 : Below w7.heap.size w7 w9 := hbel.trans (hb'.mono hbel.size))
   all_goals
    go_wp2
    go_roundw
    case rel => exact ⟨k + 1, by omega, by go_num, by first | exact bw1 | exact bw1.drew⟩
    case measure => simp [intOf]; omega
  .have hlti : ¬ (k : Int) < us.length := by omega
   have B8 : Below w.heap.size w wr := B7.trans (hbel.mono B7.size)
   have HM8 : Hid (OneM us ls out wr oa oc la lc wa wc ga gc ra rc) := hid (HM.out.below hbel)
   clear HM hbel B7
   obtain ⟨j4, hj, hy0, hy1, hy2⟩ := info_parts info4
   rename World => W8
   go_wp2_with (refine wpList_make_full _ rfl (.tmp 90) (.tmp 90) 39 rfl W8.heap.size 4 j4 _ 1 Tryz.underlying39 hj hy0 hy1 .i64 .i64 out.length out.length out.length rfl rfl rfl rfl (by rw [hy2]; omega) (by unfold maxLen; omega) (by simp; omega) ?_; intro w4 hown4 hgrow4)
   have HS0 := hid (sr0 hown4 hgrow4)
   clear hown4 hgrow4
   go_loopw [13, 14, 94] (fun sv fv iv wr => ∃ (p c : Nat) (sl : List Bool) (sa fa : Option Addr) (sc fc : Nat), p <= out.length /\ iv = .int .i64 (p : Int) /\ sv = .slice sa c sc /\ fv = .slice fa c fc /\ c <= os.length /\ Hid (c = (fromP ls out p).length /\ SeenL out p sl) /\ Hid (SrM W8 wr (os.take c) ((fromP ls out out.length).take c) sl (W8.heap.size + 1 + 1) (.slice sa c sc) (.slice fa c fc))) (fun _ _ iv _ => out.length - (intOf iv).toNat)
   case atStart => exact ⟨0, 0, _, _, _, 0, 0, Nat.zero_le _, rfl, rfl, rfl, Nat.zero_le _, hid ⟨rfl, seen0 out⟩, HS0⟩
   case round =>
    clear HS0
    obtain ⟨p, c, sl, sa, fa, sc, fc, hp, rfl, rfl, rfl, hco, HCP, HS⟩ := hrel
    have hol := HOX.out.ol
    by_cases hlt : p < out.length
    .have hlti : (p : Int) < out.length := by omega
     obtain ⟨k, hk⟩ : ∃ k, out[p]? = some k := ⟨_, List.getElem?_eq_getElem hlt⟩
     have hkl : k < out.length := by rw [<- HOX.out.ll]; exact HOX.out.lt k (List.mem_of_getElem? hk)
     have hkli : (k : Int) < out.length := by omega
     have hkg : ¬ (out.length : Int) <= k := by omega
     obtain ⟨g, o, rfl, hg, c0⟩ := nint_at HM8.out.ord HS.out.be hk
     obtain ⟨g2, o2, xa, xc, L, hL, rfl, hg2, hxr, d0⟩ := list_at HM8.out.lsr HS.out.be (by rw [HM8.out.ll]; exact hkl)
     have e0 := HS.out.see.cell (j := k) (by rw [HCP.out.2.1]; exact hkl)
     have hno := HCP.out.2.no HOX.out.nd hk hkl
     rw [(List.getElem?_eq_some_iff.1 hno).2] at e0
     have f0 := HS.out.see.frozen k
     have HLX := hid (⟨hk, hL⟩ : out[p]? = some k /\ ls.getD k [] = L)
     obtain ⟨wm, hwm⟩ : ∃ z, z = wr.setCell ⟨W8.heap.size + 1 + 1, k, none⟩ (.bool true) := ⟨_, rfl⟩
     have HSM : Hid (SrM W8 wm (os.take c) ((fromP ls out out.length).take c) (sl.set k true) (W8.heap.size + 1 + 1) (.slice sa c sc) (.slice fa c fc)) := hid (by rw [hwm]; exact HS.out.mark k)
     have HSL := hid (HCP.out.2.step hk)
     have HCE := hid HCP.out.1
     have d1 : wm.cell? ⟨g2, o2 + k, none⟩ = some (.slice xa L.length xc) := by rw [hwm, World.cell?_setCell_other wr _ ⟨g2, o2 + k, none⟩ _ (fun e => by have e2 := congrArg Addr.block e; simp only at e2; omega)]; exact d0
     have HXR := hid hxr
     have HWM := hid hwm
     have hg28 : ¬ W8.heap.size + 1 + 1 = g2 := by omega
     clear hno hk hL HCP HS hwm hxr
     go_upto_region 25 with fail
     rw [<- HWM.out]
     clear HWM c0 d0 e0 f0
     go_wp2
     go_loopw [13, 14, 120] (fun sv fv iv wr => ∃ (j c2 : Nat) (sa fa : Option Addr) (sc fc : Nat), j <= L.length /\ iv = .int .i64 (j : Int) /\ sv = .slice sa c2 sc /\ fv = .slice fa c2 fc /\ c2 <= os.length /\ Hid (c2 = c + j) /\ Hid (SrM W8 wr (os.take c2) ((fromP ls out out.length).take c2) (sl.set k true) (W8.heap.size + 1 + 1) (.slice sa c2 sc) (.slice fa c2 fc))) (fun _ _ iv _ => L.length - (intOf iv).toNat)
     case atStart => exact ⟨0, c, _, _, _, _, Nat.zero_le _, rfl, rfl, rfl, hco, hid rfl, HSM⟩
     case round =>
      clear HSM d1
      obtain ⟨j, c2, sa, fa, sc, fc, hj, rfl, rfl, rfl, hc2, HC2, HS⟩ := hrel
      by_cases hlt3 : j < L.length
      .have hlt3i : (j : Int) < L.length := by omega
       obtain ⟨n, hn⟩ : ∃ n, L[j]? = some n := ⟨_, List.getElem?_eq_getElem hlt3⟩
       obtain ⟨hcl, hul, hue⟩ := HOX.out.atC HCE.out HC2.out HLX.out.1 (by rw [HLX.out.2]; exact hn)
       have htk := HOX.out.takeC HCE.out HC2.out HLX.out.1 (by rw [HLX.out.2]; exact hn)
       have hni : (n : Int) < us.length := by omega
       have hn0 : ¬ (n : Int) < 0 := by omega
       have hjb : j < 1000 := by have := HC2.out; omega
       obtain ⟨gi, oi, rfl, hgi, c0⟩ := nint_at HXR.out HS.out.be hn
       obtain ⟨go, oo, hoe, hgo, d0, d1, d2, d3, d4, d5, d6⟩ := op_at HM8.out.ops HS.out.be hul
       rw [hue] at d0 d1 d2 d3 d4 d5 d6
       subst hoe
       have HTK := hid htk
       have HOS := hid (HOX.out.ost hcl)
       obtain ⟨t, ht⟩ : ∃ t, os[c2] = t := ⟨_, rfl⟩
       rw [ht] at d0 d1 d2 d3 d4 d5 d6 HOS
       clear ht hn hul hue htk
       obtain ⟨kd, ss, tb, ky, vl, md, nm⟩ := t
       simp only at d0 d1 d2 d3 d4 d5 d6
       have hl2 : (os.take c2).length = c2 := by rw [List.length_take]; omega
       have hl3 : ((fromP ls out out.length).take c2).length = c2 := by rw [List.length_take, HOX.out.fl]; omega
       have HA := hid (HS.out.below (below_alloc wr (.cells #[.int .i64 kd, .int .i64 ss, .int .i64 tb, .int .i64 ky, .int .i64 vl, .int .i64 md, .string nm] 41)))
       have HRA : Hid ((wr.alloc (.cells #[.int .i64 kd, .int .i64 ss, .int .i64 tb, .int .i64 ky, .int .i64 vl, .int .i64 md, .string nm] 41)).ownsRow W8.heap.size 41 7 (.slice sa c2 sc) c2 ((os.take c2).flatMap opK)) := hid (by have := HA.out.sro; rw [hl2] at this; exact this)
       have HCN := hid (cells_new wr (opK ⟨kd, ss, tb, ky, vl, md, nm⟩) 41 _ rfl)
       have hbA : W8.heap.size <= (wr.alloc (.cells #[.int .i64 kd, .int .i64 ss, .int .i64 tb, .int .i64 ky, .int .i64 vl, .int .i64 md, .string nm] 41)).heap.size := HA.out.be.size
       obtain ⟨j0, hj0, hz0, hz1, hz2⟩ := info_parts infoOp
       obtain ⟨i0, hi0, hx0, hx1, hx2⟩ := info_parts infoIn
       have HL2 := hid hl2
       have HL3 := hid hl3
       clear HS hl2 hl3
       go_upto_region 29 with (at_builtin; go_loud (refine wpList_append_own_at _ rfl (.tmp 124) (.tmp 129) 23 rfl W8.heap.size 41 j0 _ 7 64 Tryz.underlying23 hj0 hz0 hz1 hz2 rfl (by decide) (.slice sa c2 sc) c2 ((os.take c2).flatMap opK) rfl HRA.out ⟨wr.heap.size, 0, none⟩ 1 1 (opK ⟨kd, ss, tb, ky, vl, md, nm⟩) rfl rfl HCN.out (oneOp _) (by unfold maxLen; omega) (by omega) hbA ?_; intro v' w' hown hgrow _ hat; obtain ⟨na, nc, hvn⟩ := formR hown; subst hvn; have HP := hid (HA.out.pushS (o := ⟨kd, ss, tb, ky, vl, md, nm⟩) hgrow (by rw [HL2.out]; exact hown)); clear hown hgrow hat HA HRA HCN))
       rw [HOS.out] at HP
       have HB := hid (HP.out.below (below_alloc w' (.cells #[.int .i64 (n : Int)] 3)))
       have HRB : Hid ((w'.alloc (.cells #[.int .i64 (n : Int)] 3)).ownsRow W8.heap.size 3 1 (.slice fa c2 fc) c2 (((fromP ls out out.length).take c2).map (fun k : Nat => Value.int .i64 (k : Int)))) := hid (by have := HB.out.fro; unfold OutRow at this; rw [HL3.out] at this; exact this)
       have HCB := hid (cells_new w' [.int .i64 (n : Int)] 3 _ rfl)
       have hbB : W8.heap.size <= (w'.alloc (.cells #[.int .i64 (n : Int)] 3)).heap.size := HB.out.be.size
       clear HP d0 d1 d2 d3 d4 d5 d6 c0
       go_wp2_with (at_builtin; go_loud (refine wpList_append_own_at _ rfl (.tmp 131) (.tmp 133) 32 rfl W8.heap.size 3 i0 _ 1 8 Tryz.underlying32 hi0 hx0 hx1 hx2 rfl (by decide) (.slice fa c2 fc) c2 (((fromP ls out out.length).take c2).map (fun k : Nat => Value.int .i64 (k : Int))) rfl HRB.out ⟨w'.heap.size, 0, none⟩ 1 1 [.int .i64 (n : Int)] rfl rfl HCB.out (by intro u hu; simp at hu; subst hu; rfl) (by unfold maxLen; omega) (by omega) hbB ?_; intro v2 w2' hown hgrow _ hat; obtain ⟨ma, mc, hvn⟩ := formR hown; subst hvn; have HQ := hid (HB.out.pushF (n := n) hgrow (by rw [HL3.out]; exact hown)); clear hown hgrow hat HB HRB HCB))
       rw [HTK.out] at HQ
       go_roundw
       case rel => exact ⟨j + 1, c2 + 1, _, _, _, _, by omega, by go_num, rfl, rfl, by omega, hid (by have := HC2.out; omega), HQ⟩
       case measure => simp [intOf]; omega
      .have hjn : j = L.length := by omega
       have hlt3i : ¬ (j : Int) < L.length := by omega
       have HPF : Hid (c2 = (fromP ls out (p + 1)).length /\ SeenL out (p + 1) (sl.set k true)) := hid ⟨by rw [from_next HLX.out.1, HLX.out.2, <- HCE.out, <- hjn]; exact HC2.out, HSL.out⟩
       clear HXR HCE HLX HC2 HSL hjn
       go_wp2
       go_roundw
       case rel => exact ⟨p + 1, c2, _, _, _, _, _, by omega, by go_num, rfl, rfl, hc2, HPF, HS⟩
       case measure => simp [intOf]; omega
    .have hpn : p = out.length := by omega
     have hlti : ¬ (p : Int) < out.length := by omega
     have hcn : c = os.length := by rw [HCP.out.1, hpn, HOX.out.fl]
     subst hcn
     have hft : (fromP ls out out.length).take os.length = fromP ls out out.length := List.take_of_length_le (by rw [HOX.out.fl]; exact Nat.le_refl _)
     rw [List.take_length, hft] at HS
     have HSR := hid HS.out.srs
     have HFR := hid HS.out.frs
     have B9 : Below w.heap.size w wr := B8.trans (HS.out.be.mono B8.size)
     have B89 := HS.out.be
     have HG9 := hid (HM8.out.got.below liesA B89)
     have HP9 := hid HM8.out.ps
     clear HCP HS hft hpn hco
     go_wp2_with (go_at_call 9; fail)
     refine ((HIM.out os).u hol HSR.out).mono ?_
     rintro e w9 ⟨ma, mc, rfl, hR9, hps9, b9⟩
     have B10 : Below w.heap.size w w9 := B9.trans (b9.mono B9.size)
     have HGT := hid (HG9.out.below liesA b9)
     have HMR := hid hR9
     have HFW := hid (HFR.out.below liesI b9)
     clear hR9 hps9 b9 HG9 HFR HSR HM8 HIM B9 B89 B8
     go_wp2
     go_loopw [153] (fun iv wr => ∃ k : Nat, k <= os.length /\ iv = .int .i64 (k : Int) /\ Below w9.heap.size w9 wr) (fun iv _ => os.length - (intOf iv).toNat)
     case atStart => exact ⟨0, Nat.zero_le _, rfl, Below.refl _ _⟩
     case round =>
      obtain ⟨k, hk, rfl, hbel⟩ := hrel
      by_cases hlt4 : k < os.length
      .have hlt4i : (k : Int) < os.length := by omega
       obtain ⟨n, hn⟩ : ∃ n, (fromP ls out out.length)[k]? = some n := ⟨_, List.getElem?_eq_getElem (by rw [HOX.out.fl]; exact hlt4)⟩
       have hul : n < us.length := by
        have e := congrArg (fun l => l[k]?) HOX.out.op
        simp only [List.getElem?_map, hn, Option.map_some, List.getElem?_eq_getElem hlt4] at e
        injection e with e
        exact (List.getElem?_eq_some_iff.1 e).1
       have hni : (n : Int) < us.length := by omega
       have hn0 : ¬ (n : Int) < 0 := by omega
       obtain ⟨oa1, hoa⟩ : ∃ ob, (runsF bas0 us).2[n]? = some ob := ⟨_, List.getElem?_eq_getElem (by rw [runsF_len]; exact hul)⟩
       obtain ⟨ob1, hob⟩ : ∃ ob, (runsF bas0 os).2[k]? = some ob := ⟨_, List.getElem?_eq_getElem (by rw [runsF_len]; exact hlt4)⟩
       obtain ⟨q1, q2, q3, q4⟩ := HOX.out.eq k n oa1 ob1 hn hoa hob
       obtain ⟨g, o, pa, rfl, hg, hp1, c0, c1, c2, c3, c4⟩ := obs_same HGT.out hbel hoa
       obtain ⟨g2, o2, pb, rfl, hg2, hp2, d0, d1, d2, d3, d4⟩ := obs_same HMR.out hbel hob
       rw [<- q1] at d0
       rw [<- q2] at d1
       rw [<- q3] at d3
       rw [<- q4] at hp2
       obtain ⟨gf, of, rfl, hgf, f0⟩ := nint_at HFW.out hbel hn
       have hpl := HP9.out oa1 (List.mem_of_getElem? hoa)
       have HCN := hid (fun W (h : Below wr.heap.size wr W) => sameTxn_same oa1.code oa1.vl oa1.st ob1.st oa1.fd pa pb oa1.ps W hpl (hp1.below liesPr h) (hp2.below liesPr h))
       obtain ⟨pa1, pc1, rfl, _⟩ := hp1
       obtain ⟨pb1, pd1, rfl, _⟩ := hp2
       have hdr : Below wr.heap.size wr wr.drew := (Below.refl _ wr).drew
       clear hoa hob hn hpl q1 q2 q3 q4 HGT HMR HFW HP9 HOX
       go_wp2
       go_region_with (go_at_call 11; refine (HCN.out _ hdr).mono ?_; rintro e w10 ⟨rfl, hb'⟩; replace hb' := undrew hb'; have bw1 : Below w9.heap.size w9 w10 := hbel.trans (hb'.mono hbel.size))
       all_goals
        go_wp2
        go_roundw
        case rel => exact ⟨k + 1, by omega, by go_num, by first | exact bw1 | exact bw1.drew⟩
        case measure => simp [intOf]; omega
      .have hlt4i : ¬ (k : Int) < os.length := by omega
       have HB : Hid (Below w.heap.size w wr) := hid (B10.trans (hbel.mono B10.size))
       clear HGT HMR HFW HP9 HOX hbel B10
       go_wp2
       go_ret
       exact ⟨rfl, HB.out⟩
def opC (k n tb ky vl md : Int) (nm : ByteArray) : List Value := [.int .i64 k, .int .i64 n, .int .i64 tb, .int .i64 ky, .int .i64 vl, .int .i64 md, .string nm]
theorem fault_ok (k n : Int) (tb md : Int) (pt : Addr) (hk : 6 <= k) (hk2 : k <= 10) (h1 : 1 <= n) (h2 : n <= 4) : faultC k n tb md (some pt).isNone = 0 := by
 unfold faultC
 rw [if_neg (by omega), if_neg (by simp; omega), if_neg (by omega), if_neg (by omega)]
theorem run_i7 (x : Bas) (n : Nat) (tb ky vl md : Int) (nm : ByteArray) (hn1 : 1 <= n) (hn2 : n <= 4) (ho : opn x (n - 1) = true) : runF x ⟨7, (n : Int), tb, ky, vl, md, nm⟩ = ({ x with tx := x.tx.set (n - 1) tx0 }, ⟨0, 0, 0, false, []⟩) := by
 have e : ((n : Int) - 1).toNat = n - 1 := by omega
 unfold runF
 simp only [e]
 rw [if_neg (by omega), if_neg (by rw [show (x.tx.getD (n - 1) tx0).op = true from ho]; decide)]
 rw [if_neg (by omega)]
 simp
theorem ans_7 (B sb n : Nat) (tb ky vl md : Int) (nm : ByteArray) (w : World) (x : Bas) (L : LIx -> Value) (c : Led) (gh : Nat -> TG) (op : Nat -> Option Addr) (h : IMem B sb w x L c gh op) (hb : Bnd x) (hck : x.ck < 1000) (hhl : x.hs.length < 1000) (hB : B <= w.heap.size) (hn1 : 1 <= n) (hn2 : n <= 4) (ho : opn x (n - 1) = true) :
 Calls Tryz.prog 22 #[.pointer (some ⟨sb, 0, none⟩), .agg #[.int .i64 7, .int .i64 (n : Int), .int .i64 tb, .int .i64 ky, .int .i64 vl, .int .i64 md, .string nm]] w fun e w' => AnsP B sb w x L gh (runF x ⟨7, (n : Int), tb, ky, vl, md, nm⟩) e w' := by
 have hi : n - 1 < 4 := by omega
 have e1 : n - 1 + 1 = n := by omega
 obtain ⟨w0, hw0⟩ : ∃ z, z = (w.alloc (.cells #[.int .i64 7, .int .i64 (n : Int), .int .i64 tb, .int .i64 ky, .int .i64 vl, .int .i64 md, .string nm] 41)).alloc (.cells #[.int .i64 0, .int .i64 0, .int .i64 0, .bool false, .slice none 0 0] 38) := ⟨_, rfl⟩
 have hb0 : Below w.heap.size w w0 := by rw [hw0]; exact (below_alloc _ _).trans ((below_alloc _ _).mono (by simp))
 have hz0 : w0.heap.size = w.heap.size + 1 + 1 := by rw [hw0]; simp
 have KO0 : Blk w0 w.heap.size (opC 7 n tb ky vl md nm) := by rw [hw0]; exact (blk_new w (opC 7 n tb ky vl md nm) _).below (below_alloc _ _) (by simp)
 have KR0 : Blk w0 (w.heap.size + 1) (obsC 0 0 0 false (.slice none 0 0)) := by
  have := blk_new (w.alloc (.cells #[.int .i64 7, .int .i64 (n : Int), .int .i64 tb, .int .i64 ky, .int .i64 vl, .int .i64 md, .string nm] 41)) (obsC 0 0 0 false (.slice none 0 0)) 38
  have e : (w.alloc (.cells #[.int .i64 7, .int .i64 (n : Int), .int .i64 tb, .int .i64 ky, .int .i64 vl, .int .i64 md, .string nm] 41)).heap.size = w.heap.size + 1 := by simp
  rw [e] at this
  rw [hw0]
  exact this
 have h0 := h.below hb0
 obtain ⟨hop, hT⟩ := h0.tr (n - 1) hi ho
 rw [e1] at hop
 clear hT
 obtain ⟨c0, _⟩ := ses_cell h0.ses (j := 66 + n) (by omega)
 rw [sesAt_op, hop] at c0
 have hfa := fault_in sb n 7 tb md ky vl (.string nm) (some ⟨(gh (n - 1)).g, 0, none⟩) w0 h0.sl (by omega) (by omega) hn1 hn2 c0
 rw [show faultC 7 n tb md ((some ⟨(gh (n - 1)).g, 0, none⟩)).isNone = 0 from (fault_ok 7 n tb md _ (by omega) (by omega) (by omega) (by omega))] at hfa
 have hni : (n : Int) < 5 := by omega
 have hsl := h.sl
 have hfl : ∀ g, foot sb L x gh g -> g < w.heap.size := fun g hg => (h.lt hg).2
 have HFL := hid hfl
 have HB := hid hb
 have HM := hid h0
 have HKO := hid KO0
 have HKR := hid KR0
 clear h0 h KO0 KR0 hfl hb
 rw [hw0] at hfa
 go_enter Tryz.func22, Tryz.ntmps22
 go_wp2_with (go_at_call 42; fail)
 refine hfa.mono ?_
 rw [<- hw0]
 rintro e w1 ⟨rfl, hb1⟩
 have hs1 := hb1.size
 have HB1 := hid (hb0.trans (hb1.mono hb0.size) : Below w.heap.size w w1)
 have KO := HKO.out.below hb1 (by omega)
 have KR := HKR.out.below hb1 (by omega)
 have c1 := (World.cell?_of_block (a := ⟨sb, 66 + n, none⟩) (hb1.block sb (by omega))).trans c0
 obtain ⟨o0, o1, o2, o3⟩ := kc3 KO
 obtain ⟨w2, hw2⟩ : ∃ z, z = (w1.alloc (.cells #[.int .i64 tb, .int .i64 ky] 113)).drew := ⟨_, rfl⟩
 have b2 : Below w1.heap.size w1 w2 := by rw [hw2]; exact (below_alloc _ _).drew
 have hz2 : w2.heap.size = w1.heap.size + 1 := by rw [hw2]; simp
 have KO2 := KO.below b2 (by omega)
 have KR2 := KR.below b2 (by omega)
 have KS2 : Blk w2 w1.heap.size [.int .i64 tb, .int .i64 ky] := by rw [hw2]; exact (blk_new w1 [.int .i64 tb, .int .i64 ky] _).drewR
 have q0 : (w1.alloc (.cells #[.int .i64 tb, .int .i64 ky] 113)).cell? ⟨w.heap.size, 0, none⟩ = some (.int .i64 7) := by rw [hw2] at KO2; exact (KO2 0 (by simp [opC])).1
 have HKO := hid KO2
 have HKR := hid KR2
 have HKS := hid KS2
 have HM2 := hid ((HM.out.below hb1).below b2)
 have HB2 := hid (HB1.out.trans (b2.mono HB1.out.size) : Below w.heap.size w w2)
 have HW2 := hid hw2
 clear hfa c0 hb1 HM KO KR KO2 KR2 KS2 b2 HB1
 have q1 : (w1.alloc (.cells #[.int .i64 tb, .int .i64 ky] 113)).cell? ⟨w.heap.size, 1, none⟩ = some (.int .i64 (n : Int)) := by have := HKO.out; rw [hw2] at this; exact (this 1 (by simp [opC])).1
 clear hw2
 have hzz : w.heap.size + 1 < w1.heap.size := by omega
 go_wp2
 go_region
 go_wp2_with (go_at_call 48; fail)
 rw [<- HW2.out]
 refine (end_any B sb n w2 x L c gh op HM2.out hn1 hn2 ho).mono ?_
 rintro e w3 ⟨⟨r, rfl⟩, ⟨op', hM3⟩, hfr⟩
 have hs3 := hfr.size
 have HM3 := hid hM3
 have HFR := hid hfr
 clear hM3 hfr
 have KR3 := HKR.out.fr HFR.out (by omega) (fun z => by have := HFL.out _ z; omega)
 obtain ⟨⟨r0, fr0⟩, ⟨r1, fr1⟩, ⟨r2, fr2⟩, ⟨r3, fr3⟩, ⟨r4, fr4⟩⟩ := kb4 KR3
 obtain ⟨W4, hW4⟩ : ∃ z, z = set5 w3 (w.heap.size + 1) (.int .i64 0) (.int .i64 0) (.int .i64 0) (.bool false) (.slice none 0 0) := ⟨_, rfl⟩
 have f4 : Fr (fun q => q = w.heap.size + 1) w3 W4 := by rw [hW4]; exact chg_5 _ _ _ _ _ _ _
 have K4 : Blk W4 (w.heap.size + 1) (obsC 0 0 0 false (.slice none 0 0)) := by rw [hW4]; exact blk_set5 KR3 rfl
 obtain ⟨t0, t1, t2, t3, t4⟩ := kc4 K4
 have HF4 := hid f4
 unfold set5 at hW4
 clear K4 KR3 f4
 go_wp2
 rw [<- hW4]
 refine bodyPost_ret (v := .agg #[.int .i64 0, .int .i64 0, .int .i64 0, .bool false, .slice none 0 0]) (by simp [results, Tryz.results22, go_sem, t0, t1, t2, t3, t4]) rfl ?_
 rw [run_i7 x n tb ky vl md nm hn1 hn2 ho]
 exact AnsP.of (q := w.heap.size + 1) (pv := .slice none 0 0) HFL.out HB2.out (by omega) (by omega) HM3.out HFR.out (fun g hg => .inl (foot_end (by rw [HM2.out.n4]; exact hi) hg)) HF4.out (gr_nil _ _ _ _ _) (fun g hg => (nil_own g hg).elim) rfl
end Go.Proofs.YtblkgicbimflhaaGreat
