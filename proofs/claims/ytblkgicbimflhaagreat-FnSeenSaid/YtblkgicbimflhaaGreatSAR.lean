import Derived.Test.YtblkgicbimflhaaGreatSAM
import Derived.Test.YtblkgicbimflhaaGreatSAN
import Derived.Test.YtblkgicbimflhaaGreatSAP
import Derived.Test.YtblkgicbimflhaaGreatSAQ
import Derived.Test.YtblkgicbimflhaaGreatSAF
import Derived.Deep.Heap
import Derived.Test.YtblkgicbimflhaaGreatSAH
import Derived.Lib.ItoaNum
import Derived.Lib.ItoaMem
import Derived.Laws.BytesArg
import Derived.Lib.ItoaLen
import Derived.Lib.Overlaps
import Derived.Lib.AppendZerosOnto
import Derived.Laws.CopyRow
import Derived.Laws.Externs
import Derived.Deep.RegionLawGrows
namespace Go.Proofs.YtblkgicbimflhaaGreat
open Go.ChangeShapes Go.WideShapes Go.ChangeAt Go.RowKit
set_option linter.unusedVariables false
set_option linter.unusedSimpArgs false
set_option maxRecDepth 100000
set_option maxHeartbeats 16000000
theorem run_spec (B bb gx : Nat) (x : Bas) (o : Opn) (cv hv : Value) (vs : List (Value × Value × Value)) (w : World) (hM : Mem B bb gx w x cv hv vs) (hb : Bnd x) (hB : B <= w.heap.size) :
 Calls Tryz.prog 21 #[.pointer (some ⟨bb, 0, none⟩), .agg #[.int .i64 o.kd, .int .i64 o.ss, .int .i64 o.tb, .int .i64 o.ky, .int .i64 o.vl, .int .i64 o.md, .string o.nm]] w fun e w' => RunP B bb gx w (runF x o) e w' := by
 by_cases hbad : o.kd < 1 \/ 10 < o.kd \/ o.ss < 1 \/ 4 < o.ss
 .exact run_bad B bb gx x o cv hv vs w hM hB hbad
 obtain ⟨kd, ss, tb, ky, vl, md, nm⟩ := o
 simp only at hbad ⊢
 obtain ⟨i, rfl⟩ : ∃ i : Nat, ss = (i : Int) + 1 := ⟨(ss - 1).toNat, by omega⟩
 have hi : i < 4 := by omega
 by_cases h1 : kd = 1
 .subst h1
  cases hop : (x.tx.getD i tx0).op
  .by_cases hm : md = 1 \/ md = 2
   .exact run_1 B bb gx i x tb ky vl md nm cv hv vs w hM hi hop hb hB hm
   .exact run_1bad B bb gx i x tb ky vl md nm cv hv vs w hM hi hop hb hB (fun h => hm (.inl h)) (fun h => hm (.inr h))
  .exact run_st1 B bb gx i x tb ky vl md nm cv hv vs w hM hi hop hb hB
 cases hop : (x.tx.getD i tx0).op
 .exact run_st2 B bb gx i x kd tb ky vl md nm cv hv vs w hM hi hop hb hB (by omega) (by omega) (beq_eq_false_iff_ne.2 h1)
 by_cases h5 : kd <= 5
 .by_cases ht : tb < 0 \/ 32 <= tb
  .exact run_tb B bb gx i x kd tb ky vl md nm cv hv vs w hM hi hop hb hB (by omega) h5 ht
  .have h2345 : kd = 2 \/ kd = 3 \/ kd = 4 \/ kd = 5 := by omega
   rcases h2345 with rfl | rfl | rfl | rfl
   .exact run_2 B bb gx i x tb ky vl md nm cv hv vs w hM hi hop hb hB (by omega) (by omega)
   .exact run_3 B bb gx i x tb ky vl md nm cv hv vs w hM hi hop hb hB (by omega) (by omega)
   .exact run_4 B bb gx i x tb ky vl md nm cv hv vs w hM hi hop hb hB (by omega) (by omega)
   .exact run_5 B bb gx i x tb ky vl md nm cv hv vs w hM hi hop hb hB (by omega) (by omega)
 .have hr : kd = 6 \/ kd = 7 \/ kd = 8 \/ kd = 9 \/ kd = 10 := by omega
  rcases hr with rfl | rfl | rfl | rfl | rfl
  .exact run_6 B bb gx i x tb ky vl md nm cv hv vs w hM hi hop hb hB
  .exact run_7 B bb gx i x tb ky vl md nm cv hv vs w hM hi hop hb hB
  .exact run_8 B bb gx i x tb ky vl md nm cv hv vs w hM hi hop hb hB
  .exact run_9 B bb gx i x tb ky vl md nm cv hv vs w hM hi hop hb hB
  .exact run_10 B bb gx i x tb ky vl md nm cv hv vs w hM hi hop hb hB
structure BndN (m : Nat) (x : Bas) : Prop where
 ck : 0 <= x.ck /\ x.ck <= m
 cl : x.cms.length <= m
 cc : ∀ c ∈ x.cms, c.cs.length <= m
 hl : x.hs.length <= m
 ht : ∀ h ∈ x.hs, BT 32 h
 ow : ∀ t ∈ x.tx, t.own.length <= m
 sl : ∀ t ∈ x.tx, t.sv.length <= 8
 sc : ∀ t ∈ x.tx, ∀ s ∈ t.sv, s.cs.length <= m
theorem BndN.bnd {m : Nat} {x : Bas} (h : BndN m x) (hm : m <= 1000) : Bnd x :=
 ⟨⟨h.ck.1, by have := h.ck.2; omega⟩, Nat.le_trans h.cl hm, fun c hc => Nat.le_trans (h.cc c hc) hm, Nat.le_trans h.hl hm, h.ht, fun t ht => Nat.le_trans (h.ow t ht) hm, h.sl, fun t ht s hs => Nat.le_trans (h.sc t ht s hs) hm⟩
theorem BndN.up {m : Nat} {x : Bas} (h : BndN m x) : BndN (m + 1) x :=
 ⟨⟨h.ck.1, by have := h.ck.2; omega⟩, by have := h.cl; omega, fun c hc => by have := h.cc c hc; omega, by have := h.hl; omega, h.ht, fun t ht => by have := h.ow t ht; omega, h.sl, fun t ht s hs => by have := h.sc t ht s hs; omega⟩
theorem BndN.put {m : Nat} {x : Bas} (h : BndN m x) {i : Nat} {t : Txn} (h1 : t.own.length <= m) (h2 : t.sv.length <= 8) (h3 : ∀ s ∈ t.sv, s.cs.length <= m) : BndN m { x with tx := x.tx.set i t } :=
 ⟨h.ck, h.cl, h.cc, h.hl, h.ht, fun u hu => by
  rcases List.mem_or_eq_of_mem_set hu with z | z
  .exact h.ow u z
  .rw [z]; exact h1, fun u hu => by
  rcases List.mem_or_eq_of_mem_set hu with z | z
  .exact h.sl u z
  .rw [z]; exact h2, fun u hu => by
  rcases List.mem_or_eq_of_mem_set hu with z | z
  .exact h.sc u z
  .rw [z]; exact h3⟩
theorem BndN.at {m : Nat} {x : Bas} (h : BndN m x) (i : Nat) : (x.tx.getD i tx0).own.length <= m /\ (x.tx.getD i tx0).sv.length <= 8 /\ ∀ s ∈ (x.tx.getD i tx0).sv, s.cs.length <= m := by
 rw [List.getD_eq_getElem?_getD]
 cases e : x.tx[i]? with
 | none => simp [tx0]
 | some t =>
   have hm := List.mem_of_getElem? e
   exact ⟨h.ow t hm, h.sl t hm, h.sc t hm⟩
theorem infoBT (t : Txn) (x : Bas) : BT 32 (infoF t.bg (x.ck + 1) t.own t.rs) := ⟨tabsT_len (readAt t.rs) 32, tabsT_len (wroteAt t.own) 32⟩
theorem bnd_commit {m : Nat} {x : Bas} (h : BndN m x) (i : Nat) : BndN (m + 1) (commitF x i).1 := by
 have ha := h.at i
 have h0 : BndN m { x with tx := x.tx.set i tx0 } := h.put (by simp [tx0]) (by simp [tx0]) (by simp [tx0])
 unfold commitF
 simp only
 split
 .exact h0.up
 split
 .exact h0.up
 .refine ⟨⟨by have := h.ck.1; simp only; omega, by have := h.ck.2; simp only; omega⟩, by simpa using h.cl, fun c hc => ?_, ?_, fun c hc => ?_, fun t ht => by have := h0.ow t ht; omega, h0.sl, fun t ht s hs => by have := h0.sc t ht s hs; omega⟩
  .rcases List.mem_append.1 hc with z | z
   .have := h.cc c z; omega
   .rw [List.mem_singleton] at z; subst z; exact Nat.le_succ_of_le ha.1
  .split
   .have := h.hl; simp only [List.length_append, List.length_cons, List.length_nil]; omega
   .exact Nat.le_succ_of_le h.hl
  .simp only at hc
   split at hc
   .rcases List.mem_append.1 hc with z | z
    .exact h.ht c z
    .rw [List.mem_singleton] at z; subst z; exact infoBT _ x
   .exact h.ht c hc
theorem bnd_saves {m : Nat} {x : Bas} (h : BndN m x) (i : Nat) (o : Opn) : BndN m (savesF x i o).1 := by
 have ha := h.at i
 unfold savesF
 simp only
 split
 .split
  .exact h
  .refine h.put ha.1 (by simp only [List.length_append, List.length_cons, List.length_nil]; omega) (fun s hs => ?_)
   rcases List.mem_append.1 hs with z | z
   .exact ha.2.2 s z
   .rw [List.mem_singleton] at z; subst z; exact ha.1
 .split
  .exact h
  .rename_i k hk
   split
   .refine h.put ?_ (by simp only [List.length_take]; omega) (fun s hs => ha.2.2 s (List.mem_of_mem_take hs))
    show ((x.tx.getD i tx0).sv.getD k sv0).cs.length <= m
    rw [List.getD_eq_getElem?_getD]
    cases e : (x.tx.getD i tx0).sv[k]? with
    | none => simp [sv0]
    | some s => exact ha.2.2 s (List.mem_of_getElem? e)
   .exact h.put ha.1 (by simp only [List.length_take]; omega) (fun s hs => ha.2.2 s (List.mem_of_mem_take hs))
theorem bnd_run {m : Nat} {x : Bas} (h : BndN m x) (o : Opn) : BndN (m + 1) (runF x o).1 := by
 have ha := h.at (o.ss - 1).toNat
 unfold runF
 split
 .exact h.up
 simp only
 split
 .exact h.up
 split
 .exact h.up
 split
 .split
  .exact h.up
  .exact h.up.put (by simp) (by simp) (by simp)
 split
 .exact h.up.put (by simp only; omega) ha.2.1 (fun s hs => by have := ha.2.2 s hs; omega)
 split
 .exact h.up.put (by simp only; omega) ha.2.1 (fun s hs => by have := ha.2.2 s hs; omega)
 split
 .exact h.up.put (by simp only [List.length_append, List.length_cons, List.length_nil]; omega) ha.2.1 (fun s hs => by have := ha.2.2 s hs; omega)
 split
 .exact bnd_commit h _
 split
 .exact h.up.put (by simp [tx0]) (by simp [tx0]) (by simp [tx0])
 .exact (bnd_saves h _ o).up
theorem run_ps {m : Nat} {x : Bas} (h : BndN m x) (hm : m <= 1000) (hx : x.tx.length = 4) (o : Opn) : (runF x o).2.ps.length <= 1048576 := by
 unfold runF
 split
 .simp
 simp only
 split
 .simp
 split
 .simp
 split
 .split <;> simp
 split
 .split <;> simp
 split
 .rename_i hb _ _ _ _ _
  have hi : (o.ss - 1).toNat < x.tx.length := by omega
  have ht : x.tx.getD (o.ss - 1).toNat tx0 ∈ x.tx := by
   rw [List.getD_eq_getElem?_getD, List.getElem?_eq_getElem hi]
   exact List.getElem_mem hi
  have h1 := (h.bnd hm).all ht
  refine Nat.le_trans ?_ h1
  exact Nat.le_trans (pairsF_len _ _ _ _ _) (keysF_len _ _ _)
 split
 .simp
 split
 .simp
 split <;> simp

def obC (x : Value × Obn) : List Value := [.int .i64 x.2.code, .int .i64 x.2.vl, .int .i64 x.2.st, .bool x.2.fd, x.1]
def AnR (b : Nat) (w : World) (v : Value) (ps : List (Value × Obn)) : Prop := w.ownsRow b 38 5 v ps.length (ps.flatMap obC) /\ (∀ x ∈ ps, Gr pairV 92 2 b w x.1 x.2.ps) /\ ps.Pairwise (fun x y => ∀ c, x.1.ownBlock = some c -> y.1.ownBlock ≠ some c)
def kA (ps : List (Value × Obn)) : Nat -> Nat
 | 0 => 0
 | i + 1 => kA ps i + 4 + 2 * ((ps[i]?).map (fun x => x.2.ps.length)).getD 0







theorem AnR.below {b : Nat} {w w' : World} {v : Value} {ps : List (Value × Obn)} (h : AnR b w v ps) (hb : Below w.heap.size w w') : AnR b w' v ps :=
 ⟨own_below h.1 hb, fun x hx => (h.2.1 x hx).below hb, h.2.2⟩
theorem AnR.rs {b : Nat} {w : World} {v : Value} {ps : List (Value × Obn)} (h : AnR b w v ps) : RS 5 CA 0 w v (ps.map Prod.snd) := by
 have hf : Fill 5 CA 0 (ps.map Prod.snd) (ps.map Prod.snd).length (ps.flatMap obC) w := by
  have key : ∀ qs : List (Value × Obn), (∀ x ∈ qs, Gr pairV 92 2 b w x.1 x.2.ps) -> Fill 5 CA 0 (qs.map Prod.snd) (qs.map Prod.snd).length (qs.flatMap obC) w := by
   intro qs
   induction qs with
   | nil => intro _; exact fill_nil _ _ _ _
   | cons x r ih =>
     intro hq
     have h1 : Fill 5 CA 0 [x.2] 1 (obC x) w := fill_one liesA ⟨x.1, rfl, ((hq x List.mem_cons_self).rs liesPr (fun p _ => rfl)).mono liesPr (Nat.zero_le _)⟩
     exact h1.append (ih (fun y hy => hq y (List.mem_cons_of_mem _ hy)))
  exact key ps h.2.1
 exact hf.own liesA (own_base0 (by rw [List.length_map]; exact h.1)) (Nat.le_refl _)
def TxnA (L : List Obn) (cd : Int) (w : World) (e : Ending) (w' : World) : Prop := ∃ v ps, e = .returned (.tuple #[v, .int .i64 cd]) /\ AnR w.heap.size w' v ps /\ RS 5 CA 0 w' v L /\ Below w.heap.size w w' /\ ps.length <= 1000 /\ (∀ x ∈ ps, x.2.ps.length <= 1048576) /\ ps.map Prod.snd = L
def TxnOf (F : Nat) (us : List Opn) (L : List Obn) (cd : Int) : Prop := ∀ (W : World) (a : Option Addr) (c : Nat), RS 7 CO 0 W (.slice a us.length c) us -> Calls Tryz.prog F #[.slice a us.length c] W fun e w' => TxnA L cd W e w'
theorem infoObs : (Tryz.prog.info? 38).map (fun i => (i.zero, i.size, i.bytes)) = some (some (.agg #[.int .i64 0, .int .i64 0, .int .i64 0, .bool false, .slice none 0 0]), 5, 56) := by kernel_rfl
theorem own_keep {w w' : World} {b e k n : Nat} {v : Value} {xs : List Value} (h : w.ownsRow b e k v n xs) (hk : Keep w w') (hi : Im e) : w'.ownsRow b e k v n xs := by
 have ht := fun g => own_tag h (g := g)
 obtain ⟨h1, h2⟩ := h
 refine ⟨h1, ?_⟩
 rcases h2 with h2 | ⟨g, cap, cur, rfl, hg1, hg2, hg3⟩
 .exact .inl h2
 .exact .inr ⟨g, cap, cur, rfl, hg1, by rw [hk.2 g e hi (ht g rfl)]; exact hg2, hg3⟩
theorem imP : Im 92 := by unfold Im; decide
theorem AnR.keep {b : Nat} {w w' : World} {v : Value} {ps : List (Value × Obn)} (h : AnR b w v ps) (hk : Keep w w') : AnR b w' v ps :=
 ⟨own_keep h.1 hk imO, fun x hx => own_keep (h.2.1 x hx) hk imP, h.2.2⟩
theorem AnR.push {b : Nat} {w w' : World} {v v' pv : Value} {ps : List (Value × Obn)} {o : Obn} (h : AnR b w v ps) (hg : w.grownBy w' v.ownBlock) (ho : w'.ownsRow b 38 5 v' (ps.length + 1) (ps.flatMap obC ++ obC (pv, o))) (hp : Gr pairV 92 2 b w pv o.ps) (hn : ∀ c, pv.ownBlock = some c -> ∀ x ∈ ps, x.1.ownBlock ≠ some c) : AnR b w' v' (ps ++ [(pv, o)]) := by
 have hk : Chg (fun ty => ty = 38) w w' := Chg.grown hg (fun g hg => ⟨_, rfl, own_tag h.1 hg⟩)
 refine ⟨?_, fun x hx => ?_, ?_⟩
 .rw [List.length_append, List.flatMap_append]
  simpa using ho
 .rcases List.mem_append.1 hx with z | z
  .exact own_chg (h.2.1 x z) hk (by decide)
  .rw [List.mem_singleton] at z
   subst z
   exact own_chg hp hk (by decide)
 .refine List.pairwise_append.2 ⟨h.2.2, List.pairwise_singleton _ _, fun x hx y hy c hc hc2 => ?_⟩
  rw [List.mem_singleton] at hy
  subst hy
  exact hn c hc2 x hx hc
theorem oneOb {pv : Value} {o : Obn} {a : Option Addr} {n c : Nat} (h : pv = .slice a n c) : ∀ u ∈ obC (pv, o), u.oneCell' = true := fun u hu => by
 subst h
 unfold obC at hu
 simp at hu
 rcases hu with rfl | rfl | rfl | rfl | rfl <;> rfl
noncomputable def runsF (x : Bas) : List Opn -> Bas × List Obn
 | [] => (x, [])
 | o :: r => let y := runF x o; let z := runsF y.1 r; (z.1, y.2 :: z.2)
theorem runsF_snoc (x : Bas) : ∀ (us : List Opn) (o : Opn), runsF x (us ++ [o]) = ((runF (runsF x us).1 o).1, (runsF x us).2 ++ [(runF (runsF x us).1 o).2])
 | [], o => rfl
 | u :: r, o => by
   show ((runsF (runF x u).1 (r ++ [o])).1, (runF x u).2 :: (runsF (runF x u).1 (r ++ [o])).2) = _
   rw [runsF_snoc (runF x u).1 r o]
   rfl
theorem runsF_len (x : Bas) : ∀ us : List Opn, (runsF x us).2.length = us.length
 | [] => rfl
 | u :: r => by
   show ((runF x u).2 :: (runsF (runF x u).1 r).2).length = _
   rw [List.length_cons, List.length_cons, runsF_len (runF x u).1 r]
def bas0 : Bas := ⟨0, [], [], [tx0, tx0, tx0, tx0]⟩
theorem bndN0 : BndN 0 bas0 := ⟨⟨by decide, by decide⟩, by simp [bas0], by simp [bas0], by simp [bas0], by simp [bas0], by simp [bas0, tx0], by simp [bas0, tx0], by simp [bas0, tx0]⟩
theorem bnd_runs : ∀ (us : List Opn) (m : Nat) (x : Bas), BndN m x -> BndN (m + us.length) (runsF x us).1
 | [], m, x, h => h
 | u :: r, m, x, h => by
   have := bnd_runs r (m + 1) (runF x u).1 (bnd_run h u)
   rw [show m + (u :: r).length = m + 1 + r.length by rw [List.length_cons]; omega]
   exact this
theorem commit_tx4 (x : Bas) (i : Nat) : (commitF x i).1.tx.length = x.tx.length := by
 unfold commitF
 simp only
 split
 .simp
 split <;> simp
theorem saves_tx4 (x : Bas) (i : Nat) (o : Opn) : (savesF x i o).1.tx.length = x.tx.length := by
 unfold savesF
 simp only
 split
 .split <;> simp
 .split
  .rfl
  .split <;> simp
theorem run_tx4 (x : Bas) (o : Opn) : (runF x o).1.tx.length = x.tx.length := by
 unfold runF
 split
 .rfl
 simp only
 split
 .rfl
 split
 .rfl
 split
 .split
  .rfl
  .simp
 split
 .simp
 split
 .simp
 split
 .simp
 split
 .exact commit_tx4 _ _
 split
 .simp
 .exact saves_tx4 _ _ _
theorem runs_tx4 : ∀ (us : List Opn) (x : Bas), (runsF x us).1.tx.length = x.tx.length
 | [], x => rfl
 | u :: r, x => (runs_tx4 r (runF x u).1).trans (run_tx4 x u)
theorem runs_ps : ∀ (us : List Opn) (m : Nat) (x : Bas), BndN m x -> m + us.length <= 1000 -> x.tx.length = 4 -> ∀ t ∈ (runsF x us).2, t.ps.length <= 1048576
 | [], m, x, _, _, _ => by simp [runsF]
 | u :: r, m, x, h, hm, hx => by
   intro t ht
   rw [List.length_cons] at hm
   have ht2 : t ∈ (runF x u).2 :: (runsF (runF x u).1 r).2 := ht
   rcases List.mem_cons.1 ht2 with z | z
   .rw [z]; exact run_ps h (by omega) hx u
   .exact runs_ps r (m + 1) (runF x u).1 (bnd_run h u) (by omega) ((run_tx4 x u).trans hx) t z
noncomputable def txnL (us : List Opn) : List Obn := if 1000 < us.length then [] else (runsF bas0 us).2
noncomputable def txnC (us : List Opn) : Int := if 1000 < us.length then 5 else 0
theorem run_copy_rowK {P : Program} (w : World) (dT sT ty elem : TypeId) (K g o dLen dCap : Nat) (a : Addr) (sLen sCap : Nat) (cur : Array Value) (t : TypeId) (cs : List Value)
 (hu : P.underlying dT = some (.slice elem)) (hs : (P.info? elem).map (·.size) = some K)
 (hg : w.heap[g]? = some (.cells cur t (0, 0))) (hn : cs.length = Nat.min sLen dLen * K)
 (hsrc : ∀ j v, cs[j]? = some v -> w.cell? (a.add j) = some v) (hfit : o + cs.length <= cur.size) (h1 : ∀ v ∈ cs, v.oneCell' = true) :
 (Builtin.copy_ #[dT, sT] ty #[.slice (some ⟨g, o, none⟩) dLen dCap, .slice (some a) sLen sCap]).run P w =
  .ok (goInt (Nat.min sLen dLen)) (w.setRow g (cur.toList.take o ++ cs ++ cur.toList.drop (o + cs.length)).toArray) := by
 have hl := run_loadCells_list (P := P) w a cs hsrc
 have hst := run_storeCells_at P g o t cs 0 cur w hg (by simpa using hfit) h1
 cases hq : P.info? elem with
 | none => simp [hq] at hs
 | some i =>
   have hi : i.size = K := by simpa [hq] using hs
   simp [Builtin.copy_, run_underlying hu, Builtin.lenOf, Builtin.firstCells, sizeOf, typeInfo, hq, hi, <- hn, hl, hst]
theorem grown_setRow (w : World) (g : Nat) (cs : Array Value) : w.grownBy (w.setRow g cs) (some g) :=
 ⟨rfl, rfl, rfl, by simp, fun k _ hk => setRow_other w g k cs (fun e => hk (by rw [e]))⟩
def InsP (B e K : Nat) (w : World) (v : Value) (n : Nat) (ys : List Value) (en : Ending) (w' : World) : Prop := ∃ a c, en = .returned (.slice a (n + 1) c) /\ w'.ownsRow B e K (.slice a (n + 1) c) (n + 1) ys /\ w.grownBy w' v.ownBlock /\ ∀ g, (Value.slice a (n + 1) c).ownBlock = some g -> v.ownBlock = some g \/ w.heap.size <= g
theorem ins_list {α : Type} {cur1 cur : List α} {xs vs : List α} {i n K : Nat} (hi : i < n) (hv : vs.length = K) (hx : xs.length = n * K) (hc : cur.take (n * K) = xs) (hl : (n + 1) * K <= cur.length) (h1 : cur1 = cur.take ((i + 1) * K) ++ xs.drop (i * K) ++ cur.drop ((i + 1) * K + (xs.drop (i * K)).length)) :
 (cur1.take (i * K) ++ vs ++ cur1.drop (i * K + vs.length)).take ((n + 1) * K) = xs.take (i * K) ++ vs ++ xs.drop (i * K) /\ (cur1.take (i * K) ++ vs ++ cur1.drop (i * K + vs.length)).length = cur.length /\ cur1.length = cur.length := by
 have e1 : (i + 1) * K = i * K + K := by rw [Nat.add_mul, Nat.one_mul]
 have e2 : (n + 1) * K = n * K + K := by rw [Nat.add_mul, Nat.one_mul]
 have e3 : i * K + K <= n * K := by rw [<- e1]; exact Nat.mul_le_mul_right _ hi
 have hdl : (xs.drop (i * K)).length = n * K - i * K := by rw [List.length_drop, hx]
 have ht1 : (cur.take ((i + 1) * K)).length = i * K + K := by rw [List.length_take]; omega
 have hl1 : cur1.length = cur.length := by
  rw [h1, List.length_append, List.length_append, ht1, hdl, List.length_drop]
  omega
 have hA : cur1.take (i * K) = xs.take (i * K) := by
  rw [h1, List.append_assoc, List.take_append_of_le_length (by omega), List.take_take, Nat.min_eq_left (by omega), <- hc, List.take_take, Nat.min_eq_left (by omega)]
 have hD : cur1.drop (i * K + vs.length) = xs.drop (i * K) ++ cur.drop (n * K + K) := by
  rw [h1, hv, List.append_assoc, List.drop_append_of_le_length (by omega), List.drop_of_length_le (by omega), List.nil_append, hdl, e1]
  congr 2
  omega
 rw [hA, hD]
 have hxt : (xs.take (i * K)).length = i * K := by rw [List.length_take]; omega
 refine ⟨?_, ?_, hl1⟩
 .rw [<- List.append_assoc, List.take_append_of_le_length (by simp only [List.length_append, hxt, hdl, hv]; omega), List.take_of_length_le (by simp only [List.length_append, hxt, hdl, hv]; omega)]
 .simp only [List.length_append, hxt, hdl, hv, List.length_drop]
  omega
theorem wpList_copy_run {P : Program} (w : World) {ops : Array Oper} {rest : List Oper} {o : Oper} {a : Act} {Q : Exit -> Act -> World -> Prop} (hgd : o.guard = none) (d s : Operand) (t t' : TypeId)
 (ho : o.op = .call { callee := .builtin .copy, args := #[d, s], argTypes := #[t, t'] }) (v u : Value) (hd : a.eval d = v) (hs : a.eval s = u) {v' : Value} {w' : World}
 (hr : (Builtin.copy_ #[t, t'] o.type #[v, u]).run P w = .ok v' w') (h : wpList P ops Q rest (a.put o.dst v') w') : wpList P ops Q (o :: rest) a w :=
 wpList_plain hgd fun _ hK => by
  unfold Oper.wp execOp
  simp only [ho, resolve, invoke, builtin, Sem.run_bind, Sem.run_pure, Result.andThen_ok, List.map_toArray, List.map_cons, List.map_nil, hd, hs, hr]
  exact hK _ _ h
theorem ins_int_end (B n : Nat) (v : Value) (xs vs : List Value) (vb : Nat) (w : World) (hrow : w.ownsRow B 3 1 v n xs) (hn : n <= 1048576) (hvl : vs.length = 1) (hvk : w.heap[vb]? = some (.cells vs.toArray 3 (0, 0))) (hv1 : ∀ u ∈ vs, u.oneCell' = true) (hB : B <= w.heap.size) :
 Calls Tryz.prog 85 #[v, .int .i64 (n : Int), .slice (some ⟨vb, 0, none⟩) 1 1] w fun en w' => InsP B 3 1 w v n (xs ++ vs) en w' := by
 obtain ⟨i0, hi0, hz0, hz1, hz2⟩ := info_parts infoInt
 have hsrc : ∀ j u, vs[j]? = some u -> w.cell? ((⟨vb, 0, none⟩ : Addr).add j) = some u := fun j u hj => by
  have hl : j < vs.length := (List.getElem?_eq_some_iff.1 hj).1
  rw [Addr.add_lit, Nat.zero_add]
  simp [World.cell?, hvk, hj]
 obtain ⟨a, c, hv⟩ := formR hrow
 subst hv
 have HR := hid hrow
 have hcap : n <= c := by
  rcases hrow.2 with ⟨h1, h2⟩ | ⟨g, cap, cur, h1, _, _, h2, _⟩
  .injection h1 with _ _ h3; omega
  .injection h1 with _ _ h3; omega
 clear hrow hvk
 by_cases hcn : n = c
 .subst hcn
  go_enter Tryz.func85, Tryz.ntmps85
  go_wp2_with (at_builtin; go_loud (refine wpList_append_own_at _ rfl (.tmp 23) (.tmp 24) 32 rfl B 3 i0 _ 1 8 Tryz.underlying32 hi0 hz0 hz1 hz2 rfl (by decide) (.slice a n n) n xs rfl HR.out ⟨vb, 0, none⟩ 1 1 vs rfl (by simpa using hvl) hsrc hv1 (by unfold maxLen; omega) (by omega) hB ?_; intro v' w' hown hgrow _ hblk; obtain ⟨na, nc, hvn⟩ := formR hown; subst hvn; have HF : Hid (InsP B 3 1 w (.slice a n n) n (xs ++ vs) (.returned (.slice na (n + 1) nc)) w') := ⟨na, nc, rfl, hown, hgrow, fun g hg => by rcases hblk with z | z; exact .inl (z ▸ hg); rw [z] at hg; injection hg with hg; exact .inr (by omega)⟩; clear hown hgrow hblk))
  all_goals first | (exfalso; go_light; omega) | skip
  go_ret
  exact HF.out
 .have hcn2 : ¬ c = n := fun z => hcn z.symm
  go_enter Tryz.func85, Tryz.ntmps85
  go_wp2_with (at_builtin; go_loud (refine wpList_append_own_at _ rfl (.tmp 23) (.tmp 24) 32 rfl B 3 i0 _ 1 8 Tryz.underlying32 hi0 hz0 hz1 hz2 rfl (by decide) (.slice a n c) n xs rfl HR.out ⟨vb, 0, none⟩ 1 1 vs rfl (by simpa using hvl) hsrc hv1 (by unfold maxLen; omega) (by omega) hB ?_; intro v' w' hown hgrow _ hblk; obtain ⟨na, nc, hvn⟩ := formR hown; subst hvn; have HF : Hid (InsP B 3 1 w (.slice a n c) n (xs ++ vs) (.returned (.slice na (n + 1) nc)) w') := ⟨na, nc, rfl, hown, hgrow, fun g hg => by rcases hblk with z | z; exact .inl (z ▸ hg); rw [z] at hg; injection hg with hg; exact .inr (by omega)⟩; clear hown hgrow hblk))
  all_goals first | (exfalso; go_light; omega) | skip
  go_ret
  exact HF.out
theorem infoVer : (Tryz.prog.info? 121).map (fun i => (i.zero, i.size, i.bytes)) = some (some (.agg #[.int .i64 0, .bool false]), 2, 16) := by kernel_rfl

theorem ins_ver_end (B n : Nat) (v : Value) (xs vs : List Value) (vb : Nat) (w : World) (hrow : w.ownsRow B 121 2 v n xs) (hn : n <= 1048576) (hvl : vs.length = 2) (hvk : w.heap[vb]? = some (.cells vs.toArray 121 (0, 0))) (hv1 : ∀ u ∈ vs, u.oneCell' = true) (hB : B <= w.heap.size) :
 Calls Tryz.prog 104 #[v, .int .i64 (n : Int), .slice (some ⟨vb, 0, none⟩) 1 1] w fun en w' => InsP B 121 2 w v n (xs ++ vs) en w' := by
 obtain ⟨i0, hi0, hz0, hz1, hz2⟩ := info_parts infoVer
 have hsrc : ∀ j u, vs[j]? = some u -> w.cell? ((⟨vb, 0, none⟩ : Addr).add j) = some u := fun j u hj => by
  have hl : j < vs.length := (List.getElem?_eq_some_iff.1 hj).1
  rw [Addr.add_lit, Nat.zero_add]
  simp [World.cell?, hvk, hj]
 obtain ⟨a, c, hv⟩ := formR hrow
 subst hv
 have HR := hid hrow
 have hcap : n <= c := by
  rcases hrow.2 with ⟨h1, h2⟩ | ⟨g, cap, cur, h1, _, _, h2, _⟩
  .injection h1 with _ _ h3; omega
  .injection h1 with _ _ h3; omega
 clear hrow hvk
 by_cases hcn : n = c
 .subst hcn
  go_enter Tryz.func104, Tryz.ntmps104
  go_wp2_with (at_builtin; go_loud (refine wpList_append_own_at _ rfl (.tmp 23) (.tmp 24) 151 rfl B 121 i0 _ 2 16 Tryz.underlying151 hi0 hz0 hz1 hz2 rfl (by decide) (.slice a n n) n xs rfl HR.out ⟨vb, 0, none⟩ 1 1 vs rfl (by simpa using hvl) hsrc hv1 (by unfold maxLen; omega) (by omega) hB ?_; intro v' w' hown hgrow _ hblk; obtain ⟨na, nc, hvn⟩ := formR hown; subst hvn; have HF : Hid (InsP B 121 2 w (.slice a n n) n (xs ++ vs) (.returned (.slice na (n + 1) nc)) w') := ⟨na, nc, rfl, hown, hgrow, fun g hg => by rcases hblk with z | z; exact .inl (z ▸ hg); rw [z] at hg; injection hg with hg; exact .inr (by omega)⟩; clear hown hgrow hblk))
  all_goals first | (exfalso; go_light; omega) | skip
  go_ret
  exact HF.out
 .have hcn2 : ¬ c = n := fun z => hcn z.symm
  go_enter Tryz.func104, Tryz.ntmps104
  go_wp2_with (at_builtin; go_loud (refine wpList_append_own_at _ rfl (.tmp 23) (.tmp 24) 151 rfl B 121 i0 _ 2 16 Tryz.underlying151 hi0 hz0 hz1 hz2 rfl (by decide) (.slice a n c) n xs rfl HR.out ⟨vb, 0, none⟩ 1 1 vs rfl (by simpa using hvl) hsrc hv1 (by unfold maxLen; omega) (by omega) hB ?_; intro v' w' hown hgrow _ hblk; obtain ⟨na, nc, hvn⟩ := formR hown; subst hvn; have HF : Hid (InsP B 121 2 w (.slice a n c) n (xs ++ vs) (.returned (.slice na (n + 1) nc)) w') := ⟨na, nc, rfl, hown, hgrow, fun g hg => by rcases hblk with z | z; exact .inl (z ▸ hg); rw [z] at hg; injection hg with hg; exact .inr (by omega)⟩; clear hown hgrow hblk))
  all_goals first | (exfalso; go_light; omega) | skip
  go_ret
  exact HF.out
theorem infoVss : (Tryz.prog.info? 155).map (fun i => (i.zero, i.size, i.bytes)) = some (some (.agg #[.slice none 0 0, .slice none 0 0]), 2, 48) := by kernel_rfl

theorem ins_vss_end (B n : Nat) (v : Value) (xs vs : List Value) (vb : Nat) (w : World) (hrow : w.ownsRow B 155 2 v n xs) (hn : n <= 1048576) (hvl : vs.length = 2) (hvk : w.heap[vb]? = some (.cells vs.toArray 155 (0, 0))) (hv1 : ∀ u ∈ vs, u.oneCell' = true) (hB : B <= w.heap.size) :
 Calls Tryz.prog 105 #[v, .int .i64 (n : Int), .slice (some ⟨vb, 0, none⟩) 1 1] w fun en w' => InsP B 155 2 w v n (xs ++ vs) en w' := by
 obtain ⟨i0, hi0, hz0, hz1, hz2⟩ := info_parts infoVss
 have hsrc : ∀ j u, vs[j]? = some u -> w.cell? ((⟨vb, 0, none⟩ : Addr).add j) = some u := fun j u hj => by
  have hl : j < vs.length := (List.getElem?_eq_some_iff.1 hj).1
  rw [Addr.add_lit, Nat.zero_add]
  simp [World.cell?, hvk, hj]
 obtain ⟨a, c, hv⟩ := formR hrow
 subst hv
 have HR := hid hrow
 have hcap : n <= c := by
  rcases hrow.2 with ⟨h1, h2⟩ | ⟨g, cap, cur, h1, _, _, h2, _⟩
  .injection h1 with _ _ h3; omega
  .injection h1 with _ _ h3; omega
 clear hrow hvk
 by_cases hcn : n = c
 .subst hcn
  go_enter Tryz.func105, Tryz.ntmps105
  go_wp2_with (at_builtin; go_loud (refine wpList_append_own_at _ rfl (.tmp 23) (.tmp 24) 71 rfl B 155 i0 _ 2 48 Tryz.underlying71 hi0 hz0 hz1 hz2 rfl (by decide) (.slice a n n) n xs rfl HR.out ⟨vb, 0, none⟩ 1 1 vs rfl (by simpa using hvl) hsrc hv1 (by unfold maxLen; omega) (by omega) hB ?_; intro v' w' hown hgrow _ hblk; obtain ⟨na, nc, hvn⟩ := formR hown; subst hvn; have HF : Hid (InsP B 155 2 w (.slice a n n) n (xs ++ vs) (.returned (.slice na (n + 1) nc)) w') := ⟨na, nc, rfl, hown, hgrow, fun g hg => by rcases hblk with z | z; exact .inl (z ▸ hg); rw [z] at hg; injection hg with hg; exact .inr (by omega)⟩; clear hown hgrow hblk))
  all_goals first | (exfalso; go_light; omega) | skip
  go_ret
  exact HF.out
 .have hcn2 : ¬ c = n := fun z => hcn z.symm
  go_enter Tryz.func105, Tryz.ntmps105
  go_wp2_with (at_builtin; go_loud (refine wpList_append_own_at _ rfl (.tmp 23) (.tmp 24) 71 rfl B 155 i0 _ 2 48 Tryz.underlying71 hi0 hz0 hz1 hz2 rfl (by decide) (.slice a n c) n xs rfl HR.out ⟨vb, 0, none⟩ 1 1 vs rfl (by simpa using hvl) hsrc hv1 (by unfold maxLen; omega) (by omega) hB ?_; intro v' w' hown hgrow _ hblk; obtain ⟨na, nc, hvn⟩ := formR hown; subst hvn; have HF : Hid (InsP B 155 2 w (.slice a n c) n (xs ++ vs) (.returned (.slice na (n + 1) nc)) w') := ⟨na, nc, rfl, hown, hgrow, fun g hg => by rcases hblk with z | z; exact .inl (z ▸ hg); rw [z] at hg; injection hg with hg; exact .inr (by omega)⟩; clear hown hgrow hblk))
  all_goals first | (exfalso; go_light; omega) | skip
  go_ret
  exact HF.out
end Go.Proofs.YtblkgicbimflhaaGreat
