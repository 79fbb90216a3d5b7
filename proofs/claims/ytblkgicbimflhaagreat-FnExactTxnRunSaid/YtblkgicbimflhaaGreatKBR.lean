import Derived.Test.YtblkgicbimflhaaGreatKBQ
namespace Go.Proofs.YtblkgicbimflhaaGreat
open Go.ChangeShapes Go.WideShapes Go.ChangeAt Go.RowKit
set_option linter.unusedVariables false
set_option linter.unusedSimpArgs false
set_option maxRecDepth 100000
open List (setIfInBounds_toArray set_cons_zero set_cons_succ)
def opn (x : Bas) (i : Nat) : Bool := (x.tx.getD i tx0).op
def foot (sb : Nat) (L : LIx → Value) (x : Bas) (gh : Nat → TG) (g : Nat) : Prop := g = sb ∨ ldF L g ∨ ∃ i, i < 4 ∧ opn x i = true ∧ trF (gh i) g
structure IMem (B sb : Nat) (w : World) (x : Bas) (L : LIx → Value) (c : Led) (gh : Nat → TG) (op : Nat → Option Addr) : Prop where
 n4 : x.tx.length = 4
 led : LedM B w L c
 ses : Blk w sb (sesC x.ck L op)
 sl : sb < w.heap.size
 sB : B ≤ sb
 cT : ∀ k y, c.T k y = if k < 32 then versC x.cms (k : Int) y else []
 cH : c.hs = x.hs
 tr : ∀ i, i < 4 → opn x i = true → op (i + 1) = some ⟨(gh i).g, 0, none⟩ ∧ TrM B w (gh i) (x.tx.getD i tx0)
 no : ∀ i, i < 4 → opn x i = false → op (i + 1) = none
 ns : ¬ ldF L sb
 dl : ∀ i, i < 4 → opn x i = true → ∀ b, trF (gh i) b → ¬ ldF L b ∧ b ≠ sb
 dt : ∀ i j, i < 4 → j < 4 → i ≠ j → opn x i = true → opn x j = true → ∀ b, trF (gh i) b → ¬ trF (gh j) b
 cs : ∀ m ∈ x.cms, m.st ≤ x.ck
theorem IMem.fr {B sb : Nat} {S : Nat → Prop} {w w' : World} {x : Bas} {L : LIx → Value} {c : Led} {gh : Nat → TG} {op : Nat → Option Addr} (h : IMem B sb w x L c gh op) (hk : Fr S w w') (hS : ∀ g, foot sb L x gh g → ¬ S g) : IMem B sb w' x L c gh op :=
 ⟨h.n4, h.led.fr hk (fun g hg => hS g (.inr (.inl hg))), h.ses.fr hk h.sl (hS _ (.inl rfl)), Nat.lt_of_lt_of_le h.sl hk.size, h.sB, h.cT, h.cH, fun i hi ho => ⟨(h.tr i hi ho).1, (h.tr i hi ho).2.fr hk (fun b hb => hS b (.inr (.inr ⟨i, hi, ho, hb⟩)))⟩, h.no, h.ns, h.dl, h.dt, h.cs⟩
theorem IMem.below {B sb : Nat} {w w' : World} {x : Bas} {L : LIx → Value} {c : Led} {gh : Nat → TG} {op : Nat → Option Addr} (h : IMem B sb w x L c gh op) (hb : Below w.heap.size w w') : IMem B sb w' x L c gh op := h.fr (Fr.of_below (fun _ => False) hb) (fun _ _ z => z)
theorem IMem.lt {B sb : Nat} {w : World} {x : Bas} {L : LIx → Value} {c : Led} {gh : Nat → TG} {op : Nat → Option Addr} (h : IMem B sb w x L c gh op) {g : Nat} (hg : foot sb L x gh g) : B ≤ g ∧ g < w.heap.size := by
 rcases hg with z | z | ⟨i, hi, ho, z⟩
 ·rw [z]; exact ⟨h.sB, h.sl⟩
 ·exact h.led.rm.lt z
 ·exact ⟨(h.tr i hi ho).2.ge g z, (h.tr i hi ho).2.lt z⟩
theorem sub_lenI : ∀ {D E : List Int}, D.Nodup → (∀ d ∈ D, d ∈ E) → D.length ≤ E.length
 | [], _, _, _ => Nat.zero_le _
 | d :: r, E, hn, hs => by
   obtain ⟨h1, h2⟩ := List.nodup_cons.1 hn
   have hd := hs d List.mem_cons_self
   have ih := sub_lenI (D := r) (E := E.erase d) h2 (fun x hx => by
    refine (List.mem_erase_of_ne (fun e => h1 (by rw [← e]; exact hx))).2 (hs x (List.mem_cons_of_mem _ hx)))
   rw [List.length_erase_of_mem hd] at ih
   have : 0 < E.length := List.length_pos_of_mem hd
   rw [List.length_cons]
   omega
theorem sort_nodup {ks : List Int} (h : ks.Pairwise (· < ·)) : ks.Nodup := h.imp (fun h e => by omega)
theorem vers_cell {cms : List Com} {t y : Int} (h : versC cms t y ≠ []) : ∃ d ∈ cms.flatMap (·.cs), d.ky = y := by
 unfold versC at h
 obtain ⟨v, hv⟩ : ∃ v, v ∈ cms.filterMap (fun c => (newC c.cs t y).map (fun x => ((c.st, nrm x) : Ver))) := by
  cases hq : cms.filterMap (fun c => (newC c.cs t y).map (fun x => ((c.st, nrm x) : Ver))) with
  | nil => exact absurd hq h
  | cons a r => exact ⟨a, List.mem_cons_self⟩
 obtain ⟨c, hc, he⟩ := List.mem_filterMap.1 hv
 cases hq : newC c.cs t y with
 | none => rw [hq] at he; cases he
 | some d =>
   obtain ⟨h1, _, h3⟩ := newC_mem hq
   exact ⟨d, List.mem_flatMap.2 ⟨c, hc, h1⟩, h3⟩
theorem IMem.bnd {B sb : Nat} {w : World} {x : Bas} {L : LIx → Value} {c : Led} {gh : Nat → TG} {op : Nat → Option Addr} (h : IMem B sb w x L c gh op) (hb : Bnd x) : LedB c ∧ (∀ k, (c.K k).length ≤ 1000000) ∧ ∀ k y, (c.T k y).length ≤ 1000 := by
 have h1 : ∀ k, (c.K k).length ≤ 1000000 := fun k => by
  have hk : (c.K k).length ≤ ((x.cms.flatMap (·.cs)).map (·.ky)).length := sub_lenI (sort_nodup (h.led.srt k)) (fun y hy => by
   have := (h.led.mem k y).1 hy
   rw [h.cT] at this
   by_cases e : k < 32
   ·rw [if_pos e] at this
    obtain ⟨d, hd, rfl⟩ := vers_cell this
    exact List.mem_map_of_mem hd
   ·rw [if_neg e] at this; exact absurd rfl this)
  rw [List.length_map] at hk
  have h2 := all_small hb.cc
  have h3 := hb.cl
  have : x.cms.length * 1000 ≤ 1000 * 1000 := Nat.mul_le_mul_right _ h3
  omega
 have h2 : ∀ k y, (c.T k y).length ≤ 1000 := fun k y => by
  rw [h.cT]
  split
  ·unfold versC; exact Nat.le_trans (List.length_filterMap_le _ _) hb.cl
  ·simp
 exact ⟨⟨fun k => by have := h1 k; omega, fun k y => by have := h2 k y; omega, by rw [h.cH]; exact hb.hl, by rw [h.cH]; exact hb.ht⟩, h1, h2⟩
theorem rel_len {M : List (Spt × Vsn)} {own : List Cel} (hr : RelM M own) (hn : (M.map Prod.fst).Nodup) : M.length ≤ own.length := by
 have := sub_len (D := M.map Prod.fst) (E := own.map (fun c => (c.tb, c.ky))) hn (fun d hd => by
  obtain ⟨m, hm, rfl⟩ := List.mem_map.1 hd
  obtain ⟨⟨a, y⟩, v⟩ := m
  obtain ⟨c, hc, rfl, rfl⟩ := (rel_mem hr hn).1 ⟨v, hm⟩
  exact List.mem_map_of_mem (f := fun c : Cel => (c.tb, c.ky)) hc)
 rw [List.length_map, List.length_map] at this
 exact this
theorem behind_any2 (vs : List Ver) (hs : (vs.map (·.1)).Pairwise (· < ·)) (bg : Int) : behindB (vs.map (·.1)) bg = vs.any (fun v => decide (bg < v.1)) := by
 rw [any_last hs]
 unfold behindB
 rw [List.getLast?_map]
 cases vs.getLast? <;> rfl
theorem IMem.conf {B sb : Nat} {w : World} {x : Bas} {L : LIx → Value} {c : Led} {gh : Nat → TG} {op : Nat → Option Addr} (h : IMem B sb w x L c gh op) {M : List (Spt × Vsn)} {own : List Cel} {bg : Int} (hr : RelM M own) (hn : (M.map Prod.fst).Nodup) (hi : InT M) : M.any (fun m => behM c bg m.1) = conflictF x.cms bg own := by
 have e1 : ∀ m ∈ M, behM c bg m.1 = x.cms.any (fun k => decide (bg < k.st) && (newC k.cs m.1.1 m.1.2).isSome) := fun m hm => by
  have ht := hi m hm
  unfold behM
  rw [behind_any2 _ (h.led.tst _ _), h.cT, if_pos (by omega), vers_behind]
  rw [show ((m.1.1.toNat : Nat) : Int) = m.1.1 by omega]
 refine Bool.eq_iff_iff.2 ?_
 unfold conflictF clashC
 rw [List.any_eq_true, List.any_eq_true]
 constructor
 ·rintro ⟨m, hm, hb⟩
  rw [e1 m hm] at hb
  obtain ⟨k, hk, hb2⟩ := List.any_eq_true.1 hb
  rw [Bool.and_eq_true] at hb2
  refine ⟨k, hk, ?_⟩
  rw [Bool.and_eq_true]
  refine ⟨hb2.1, List.any_eq_true.2 ?_⟩
  obtain ⟨⟨a, y⟩, v⟩ := m
  obtain ⟨d, hd, rfl, rfl⟩ := (rel_mem hr hn).1 ⟨v, hm⟩
  exact ⟨d, hd, hb2.2⟩
 ·rintro ⟨k, hk, hb⟩
  rw [Bool.and_eq_true] at hb
  obtain ⟨d, hd, hs⟩ := List.any_eq_true.1 hb.2
  obtain ⟨v, hv⟩ := (rel_mem hr hn).2 ⟨d, hd, rfl, rfl⟩
  refine ⟨_, hv, ?_⟩
  rw [e1 _ hv]
  refine List.any_eq_true.2 ⟨k, hk, ?_⟩
  rw [Bool.and_eq_true]
  exact ⟨hb.1, hs⟩
theorem IMem.sees {B sb : Nat} {w : World} {x : Bas} {L : LIx → Value} {c : Led} {gh : Nat → TG} {op : Nat → Option Addr} (h : IMem B sb w x L c gh op) {M : List (Spt × Vsn)} {own : List Cel} {bg : Int} (hr : RelM M own) {n : Nat} (hn : n < 32) (y : Int) : (mget M ((n : Int), y)).getD (verAt (c.T n y) bg) = seesN x.cms bg own (n : Int) y := by
 rw [hr, h.cT, if_pos hn]
 cases hq : newC own (n : Int) y with
 | some d => rw [seesN_own hq]; rfl
 | none => rw [seesN_com hq]; rfl
open Classical in
theorem set_opn (x : Bas) (i j : Nat) (t : Txn) (hi : i < x.tx.length) : (x.tx.set i t).getD j tx0 = if j = i then t else x.tx.getD j tx0 := by
 rw [List.getD_eq_getElem?_getD, List.getD_eq_getElem?_getD, List.getElem?_set]
 by_cases e : i = j
 ·subst e; rw [if_pos rfl, if_pos hi, if_pos rfl]; rfl
 ·rw [if_neg e, if_neg (fun z => e z.symm)]
theorem IMem.ended {B sb n : Nat} {w w1 : World} {x : Bas} {L : LIx → Value} {c : Led} {gh : Nat → TG} {op : Nat → Option Addr} (h : IMem B sb w x L c gh op) (hn1 : 1 ≤ n) (hn2 : n ≤ 4) (ho : opn x (n - 1) = true) (hfr : Fr (trF (gh (n - 1))) w w1) :
 (∃ op', IMem B sb (w1.setCell ⟨sb, 66 + n, none⟩ (.pointer none)) { x with tx := x.tx.set (n - 1) tx0 } L c gh op') ∧ Fr (foot sb L x gh) w (w1.setCell ⟨sb, 66 + n, none⟩ (.pointer none)) := by
 have hi : n - 1 < 4 := by omega
 have hx : n - 1 < x.tx.length := by rw [h.n4]; exact hi
 have f2 := Fr.setCell w1 sb (66 + n) (.pointer none)
 have hnb := fun z => (h.dl (n - 1) hi ho sb z).2 rfl
 have hop : ∀ j, opn { x with tx := x.tx.set (n - 1) tx0 } j = if j = n - 1 then false else opn x j := fun j => by
  unfold opn
  simp only
  rw [set_opn x (n - 1) j tx0 hx]
  split <;> rfl
 have hto : ∀ j, opn { x with tx := x.tx.set (n - 1) tx0 } j = true → j ≠ n - 1 ∧ opn x j = true := fun j hj => by
  rw [hop] at hj
  by_cases e : j = n - 1
  ·rw [if_pos e] at hj; cases hj
  ·rw [if_neg e] at hj; exact ⟨e, hj⟩
 refine ⟨⟨fun i => if i = n then none else op i, by simpa using h.n4, ?_, ?_, ?_, h.sB, h.cT, h.cH, fun j hj hjo => ?_, fun j hj hjo => ?_, h.ns, fun j hj hjo => ?_, fun j l hj hl hn hjo hlo => ?_, h.cs⟩, ?_⟩
 ·exact (h.led.fr hfr (fun g hg z => (h.dl (n - 1) hi ho g z).1 hg)).fr f2 (fun g hg e => h.ns (by rw [← (show g = sb from e)]; exact hg))
 ·exact ses_open (h.ses.fr hfr h.sl hnb) n (by omega) none
 ·have := hfr.size; have := h.sl; simp; omega
 ·obtain ⟨e1, e2⟩ := hto j hjo
  obtain ⟨q1, q2⟩ := h.tr j hj e2
  have eg : (x.tx.set (n - 1) tx0).getD j tx0 = x.tx.getD j tx0 := by rw [set_opn x (n - 1) j tx0 hx, if_neg e1]
  rw [eg]
  refine ⟨(if_neg (by omega)).trans q1, (q2.fr hfr (fun b hb z => h.dt j (n - 1) hj hi e1 e2 ho b hb z)).fr f2 (fun b hb e => (h.dl j hj e2 b hb).2 e)⟩
 ·by_cases e : j = n - 1
  ·exact if_pos (by omega)
  ·rw [hop, if_neg e] at hjo
   exact (if_neg (by omega)).trans (h.no j hj hjo)
 ·exact h.dl j hj (hto j hjo).2
 ·exact h.dt j l hj hl hn (hto j hjo).2 (hto l hlo).2
 ·exact (hfr.mono (fun g z => .inr (.inr ⟨n - 1, hi, ho, z⟩))).trans (f2.mono (fun g z => .inl z))
theorem foot_end {sb n : Nat} {x : Bas} {L : LIx → Value} {gh : Nat → TG} {g : Nat} (hx : n - 1 < x.tx.length) (hg : foot sb L { x with tx := x.tx.set (n - 1) tx0 } gh g) : foot sb L x gh g := by
 rcases hg with z | z | ⟨j, hj, hjo, z⟩
 ·exact .inl z
 ·exact .inr (.inl z)
 ·refine .inr (.inr ⟨j, hj, ?_, z⟩)
  unfold opn at hjo ⊢
  simp only at hjo
  rw [set_opn x (n - 1) j tx0 hx] at hjo
  by_cases e : j = n - 1
  ·rw [if_pos e] at hjo; cases hjo
  ·rw [if_neg e] at hjo; exact hjo
set_option maxHeartbeats 4000000 in
theorem end_any (B sb n : Nat) (w : World) (x : Bas) (L : LIx → Value) (c : Led) (gh : Nat → TG) (op : Nat → Option Addr) (h : IMem B sb w x L c gh op) (hn1 : 1 ≤ n) (hn2 : n ≤ 4) (ho : opn x (n - 1) = true) :
 Calls Tryz.prog 48 #[.pointer (some ⟨sb, 0, none⟩), .int .i64 (n : Int)] w fun e w' => (∃ r, e = .returned r) ∧ (∃ op', IMem B sb w' { x with tx := x.tx.set (n - 1) tx0 } L c gh op') ∧ Fr (foot sb L x gh) w w' := by
 have hi : n - 1 < 4 := by omega
 have e1 : n - 1 + 1 = n := by omega
 obtain ⟨hop, hT⟩ := h.tr (n - 1) hi ho
 rw [e1] at hop
 obtain ⟨c0, f0⟩ := ses_cell h.ses (j := 66 + n) (by omega)
 rw [sesAt_op, hop] at c0
 have hni : (n : Int) < 5 := by omega
 have hsl := h.sl
 have HM := hid h
 have hgu := giveUp_any B w (gh (n - 1)) _ hT
 obtain ⟨gg, hgg⟩ : ∃ z, z = (gh (n - 1)).g := ⟨_, rfl⟩
 rw [← hgg] at hgu c0
 clear hop hT h hgg
 go_enter Tryz.func48, Tryz.ntmps48
 go_wp2_with (go_at_call 72; fail)
 refine hgu.mono ?_
 rintro e w1 ⟨⟨r, rfl⟩, hfr⟩
 have hnb := fun z => (HM.out.dl (n - 1) hi ho sb z).2 rfl
 have hbk := hfr.block sb hsl hnb
 have c1 := (World.cell?_of_block (a := ⟨sb, 66 + n, none⟩) hbk).trans c0
 have f1 := (World.frozen?_of_block (a := ⟨sb, 66 + n, none⟩) hbk).trans f0
 have HE := hid (HM.out.ended hn1 hn2 ho hfr)
 clear hgu hfr hbk c0 f0 HM
 go_wp2
 go_end0
 exact ⟨⟨_, rfl⟩, HE.out⟩
set_option maxHeartbeats 4000000 in
theorem end_def (B sb n : Nat) (w : World) (x : Bas) (L : LIx → Value) (c : Led) (gh : Nat → TG) (op : Nat → Option Addr) (h : IMem B sb w x L c gh op) (hn1 : 1 ≤ n) (hn2 : n ≤ 4) (ho : opn x (n - 1) = true) (u : FrameMode) :
 CallsD Tryz.prog 48 #[.pointer (some ⟨sb, 0, none⟩), .int .i64 (n : Int)] u w fun e u' w' => u' = u ∧ (∃ r, e = .returned r) ∧ (∃ op', IMem B sb w' { x with tx := x.tx.set (n - 1) tx0 } L c gh op') ∧ Fr (foot sb L x gh) w w' := by
 have hi : n - 1 < 4 := by omega
 have e1 : n - 1 + 1 = n := by omega
 obtain ⟨hop, hT⟩ := h.tr (n - 1) hi ho
 rw [e1] at hop
 obtain ⟨c0, f0⟩ := ses_cell h.ses (j := 66 + n) (by omega)
 rw [sesAt_op, hop] at c0
 have hni : (n : Int) < 5 := by omega
 have hsl := h.sl
 have HM := hid h
 have hgu := giveUp_any B w (gh (n - 1)) _ hT
 obtain ⟨gg, hgg⟩ : ∃ z, z = (gh (n - 1)).g := ⟨_, rfl⟩
 rw [← hgg] at hgu c0
 clear hop hT h hgg
 refine callsD_of_wp Tryz.func48 rfl ?_
 simp only [Tryz.ntmps48, List.size_toArray, List.length_cons, List.length_nil, Nat.reduceAdd, Nat.reduceSub, Array.replicate_succ, Array.replicate_zero, List.push_toArray, List.append_toArray, List.nil_append, List.cons_append]
 go_wp2_with (go_at_call 72; fail)
 refine hgu.mono ?_
 rintro e w1 ⟨⟨r, rfl⟩, hfr⟩
 have hnb := fun z => (HM.out.dl (n - 1) hi ho sb z).2 rfl
 have hbk := hfr.block sb hsl hnb
 have c1 := (World.cell?_of_block (a := ⟨sb, 66 + n, none⟩) hbk).trans c0
 have f1 := (World.frozen?_of_block (a := ⟨sb, 66 + n, none⟩) hbk).trans f0
 have HE := hid (HM.out.ended hn1 hn2 ho hfr)
 clear hgu hfr hbk c0 f0 HM
 go_wp2
 go_end0
 exact ⟨⟨_, rfl⟩, HE.out⟩
def AnsP (B sb : Nat) (w : World) (x : Bas) (L : LIx → Value) (gh : Nat → TG) (r : Bas × Obn) (e : Ending) (w' : World) : Prop := ∃ L' c' gh' op' pv, e = .returned (.agg #[.int .i64 r.2.code, .int .i64 r.2.vl, .int .i64 r.2.st, .bool r.2.fd, pv]) ∧ Gr pairV 92 2 w.heap.size w' pv r.2.ps ∧ IMem B sb w' r.1 L' c' gh' op' ∧ Fr (foot sb L x gh) w w' ∧ (∀ g, foot sb L' r.1 gh' g → foot sb L x gh g ∨ w.heap.size ≤ g) ∧ (∀ g, pv.ownBlock = some g → ¬ foot sb L' r.1 gh' g)
theorem nil_own : ∀ g, (Value.slice none 0 0).ownBlock = some g → False := fun g h => by simp [Value.ownBlock] at h
theorem bad_commit {x : Bas} {i : Nat} {c : Led} {M : List (Spt × Vsn)} (hc : M.any (fun m => behM c (x.tx.getD i tx0).bg m.1) = conflictF x.cms (x.tx.getD i tx0).bg (x.tx.getD i tx0).own) (hh : c.hs = x.hs) (hv : verdM c x.ck M (x.tx.getD i tx0) ≠ 0) : commitF x i = ({ x with tx := x.tx.set i tx0 }, 0, verdM c x.ck M (x.tx.getD i tx0)) := by
 unfold verdM at hv ⊢
 rw [hc, hh] at hv ⊢
 unfold commitF
 simp only
 cases hq : conflictF x.cms (x.tx.getD i tx0).bg (x.tx.getD i tx0).own
 ·rw [hq] at hv
  simp only [Bool.false_eq_true, if_false] at hv ⊢
  by_cases hm : (x.tx.getD i tx0).md = 2
  ·rw [if_pos hm] at hv
   rw [if_pos ⟨hm, hv⟩, if_pos hm]
  ·rw [if_neg hm] at hv; exact absurd rfl hv
 ·simp
theorem good_commit {x : Bas} {i : Nat} {c : Led} {M : List (Spt × Vsn)} (hc : M.any (fun m => behM c (x.tx.getD i tx0).bg m.1) = conflictF x.cms (x.tx.getD i tx0).bg (x.tx.getD i tx0).own) (hh : c.hs = x.hs) (hv : verdM c x.ck M (x.tx.getD i tx0) = 0) : commitF x i = ({ ck := x.ck + 1, cms := x.cms ++ [⟨x.ck + 1, (x.tx.getD i tx0).own⟩], hs := if (x.tx.getD i tx0).md = 2 then x.hs ++ [infoF (x.tx.getD i tx0).bg (x.ck + 1) (x.tx.getD i tx0).own (x.tx.getD i tx0).rs] else x.hs, tx := x.tx.set i tx0 }, x.ck + 1, 0) := by
 unfold verdM at hv
 rw [hc, hh] at hv
 unfold commitF
 simp only
 cases hq : conflictF x.cms (x.tx.getD i tx0).bg (x.tx.getD i tx0).own
 ·rw [hq] at hv
  simp only [Bool.false_eq_true, if_false] at hv ⊢
  rw [if_neg (fun z => by rw [if_pos z.1] at hv; exact z.2 hv)]
 ·rw [hq] at hv; simp at hv
theorem IMem.settled {B sb i : Nat} {w w' : World} {x : Bas} {L : LIx → Value} {c : Led} {gh : Nat → TG} {op : Nat → Option Addr} (h : IMem B sb w x L c gh op) (hi : i < 4) (ho : opn x i = true) (hs : SettP B sb w L c x.ck op (gh i) (x.tx.getD i tx0) w') :
 ∃ L' c', IMem B sb w' { x with ck := x.ck + 1, cms := x.cms ++ [⟨x.ck + 1, (x.tx.getD i tx0).own⟩], hs := if (x.tx.getD i tx0).md = 2 then x.hs ++ [infoF (x.tx.getD i tx0).bg (x.ck + 1) (x.tx.getD i tx0).own (x.tx.getD i tx0).rs] else x.hs } L' c' gh op ∧ (∀ g, ldF L' g → ldF L g ∨ w.heap.size ≤ g) ∧ Fr (foot sb L x gh) w w' := by
 obtain ⟨L', c', q1, q2, q3, q4, q5, q6⟩ := hs
 have hT := (h.tr i hi ho).2
 refine ⟨L', c', ⟨h.n4, q1, q2, Nat.lt_of_lt_of_le h.sl q6.size, h.sB, fun k y => ?_, ?_, fun j hj hjo => ?_, h.no, fun z => ?_, fun j hj hjo b hb => ?_, h.dt, fun m hm => ?_⟩, q5, q6.mono (fun g z => ?_)⟩
 ·rw [q3, h.cT]
  by_cases e : k < 32
  ·rw [if_pos e, if_pos e, vers_snoc]
   congr 1
   unfold newV
   rw [hT.mr]
   cases newC (x.tx.getD i tx0).own (k : Int) y <;> rfl
  ·rw [if_neg e, if_neg e]
   unfold newV
   have : mget (gh i).M ((k : Int), y) = none := by
    cases hq : mget (gh i).M ((k : Int), y) with
    | none => rfl
    | some v => have := hT.mi _ (mget_some hq); simp only at this; omega
   rw [this]
   rfl
 ·rw [q4, h.cH]
 ·obtain ⟨a1, a2⟩ := h.tr j hj hjo
  exact ⟨a1, a2.fr q6 (fun b hb z => by
   rcases z with z | z
   ·exact (h.dl j hj hjo b hb).2 z
   ·exact (h.dl j hj hjo b hb).1 z)⟩
 ·rcases q5 sb z with a | a
  ·exact h.ns a
  ·have := h.sl; omega
 ·refine ⟨fun z => ?_, (h.dl j hj hjo b hb).2⟩
  rcases q5 b z with a | a
  ·exact (h.dl j hj hjo b hb).1 a
  ·have := (h.tr j hj hjo).2.lt hb; omega
 ·rcases List.mem_append.1 hm with a | a
  ·have := h.cs m a; simp only; omega
  ·rw [List.mem_singleton] at a; rw [a]; exact Int.le_refl _
 ·rcases z with z | z
  ·exact .inl z
  ·exact .inr (.inl z)
def obsC (a b d : Int) (f : Bool) (pv : Value) : List Value := [.int .i64 a, .int .i64 b, .int .i64 d, .bool f, pv]
theorem chg_5 (w : World) (g : Nat) (a b d : Value) (f pv : Value) : Fr (fun q => q = g) w (set5 w g a b d f pv) := ((((Fr.setCell w g 0 a).trans (Fr.setCell _ g 1 b)).trans (Fr.setCell _ g 2 d)).trans (Fr.setCell _ g 3 f)).trans (Fr.setCell _ g 4 pv)
theorem Fr.drewR {S : Nat → Prop} {w w' : World} (h : Fr S w w') : Fr S w w'.drew := ⟨h.os, h.tape, h.output, h.size, h.block⟩
theorem Blk.drewR {w : World} {b : Nat} {cs : List Value} (h : Blk w b cs) : Blk w.drew b cs := h
theorem blk_set5 {w : World} {g : Nat} {a b d f pv : Value} {cs : List Value} (h : Blk w g cs) (hl : cs.length = 5) : Blk (set5 w g a b d f pv) g [a, b, d, f, pv] := by
 have h1 := ((((h.set 0 a (by omega)).set 1 b (by simp; omega)).set 2 d (by simp; omega)).set 3 f (by simp; omega)).set 4 pv (by simp; omega)
 match cs, hl with
 | [_, _, _, _, _], _ => exact h1
set_option maxHeartbeats 8000000 in
theorem commit_any (B sb n : Nat) (w : World) (x : Bas) (L : LIx → Value) (c : Led) (gh : Nat → TG) (op : Nat → Option Addr) (h : IMem B sb w x L c gh op) (hb : Bnd x) (hck : x.ck < 1000) (hhl : x.hs.length < 1000) (hB : B ≤ w.heap.size) (hn1 : 1 ≤ n) (hn2 : n ≤ 4) (ho : opn x (n - 1) = true) :
 Calls Tryz.prog 47 #[.pointer (some ⟨sb, 0, none⟩), .int .i64 (n : Int)] w fun e w' => AnsP B sb w x L gh ((commitF x (n - 1)).1, ⟨(commitF x (n - 1)).2.2, 0, (commitF x (n - 1)).2.1, false, []⟩) e w' := by
 have hi : n - 1 < 4 := by omega
 have e1 : n - 1 + 1 = n := by omega
 obtain ⟨LB, kb, tb⟩ := h.bnd hb
 obtain ⟨w0, hw0⟩ : ∃ z, z = w.alloc (.cells #[.int .i64 0, .int .i64 0, .int .i64 0, .bool false, .slice none 0 0] 38) := ⟨_, rfl⟩
 have hb0 : Below w.heap.size w w0 := by rw [hw0]; exact below_alloc _ _
 have hz0 : w0.heap.size = w.heap.size + 1 := by rw [hw0]; simp
 have K0 : Blk w0 w.heap.size (obsC 0 0 0 false (.slice none 0 0)) := by rw [hw0]; exact blk_new w (obsC 0 0 0 false (.slice none 0 0)) 38
 have h0 := h.below hb0
 obtain ⟨hop, hT⟩ := h0.tr (n - 1) hi ho
 rw [e1] at hop
 have hT' := (h.tr (n - 1) hi ho).2
 obtain ⟨c0, _⟩ := ses_cell h.ses (j := 66 + n) (by omega)
 rw [sesAt_op, hop] at c0
 have hni : (n : Int) < 5 := by omega
 have hsl := h.sl
 have hck0 := hb.ck.1
 have hml : (gh (n - 1)).M.length ≤ 1000 := Nat.le_trans (rel_len hT.mr hT.mp.nodup) (hb.ow _ (by
  rw [List.getD_eq_getElem?_getD, List.getElem?_eq_getElem (by rw [h.n4]; exact hi)]
  exact List.getElem_mem _))
 have hcf := h0.conf (bg := (x.tx.getD (n - 1) tx0).bg) hT.mr hT.mp.nodup hT.mi
 have hve := verdict_any B sb w0 L c x.ck op (gh (n - 1)) (x.tx.getD (n - 1) tx0) h0.led LB h0.ses h0.sl hT hck0 (by omega)
 have HM := hid h
 have H0 := hid h0
 have HK0 := hid K0
 have HLB := hid LB
 have HCF := hid hcf
 have HCH := hid h.cH
 obtain ⟨gg, hgg⟩ : ∃ z, z = (gh (n - 1)).g := ⟨_, rfl⟩
 obtain ⟨vv, hvv⟩ : ∃ z, z = verdM c x.ck (gh (n - 1)).M (x.tx.getD (n - 1) tx0) := ⟨_, rfl⟩
 rw [← hgg] at c0 hve
 rw [← hvv] at hve
 have HVV := hid hvv
 have HGG := hid hgg
 have hz1 : w.heap.size < w0.heap.size := by omega
 have hnr : ¬ foot sb L x gh w.heap.size := fun z => by have := (h.lt z).2; omega
 have HNR := hid hnr
 clear hop hT hT' h h0 hgg hvv hcf K0 LB hnr hz0
 rw [hw0] at hve
 go_enter_defers Tryz.func47, Tryz.ntmps47
 go_wp2_with (go_at_call 70; fail)
 refine hve.mono ?_
 rw [← hw0]
 rintro e w1 ⟨rfl, hb1⟩
 have b1 : Below w.heap.size w w1 := hb0.trans (hb1.mono hb0.size)
 have hs1 := hb1.size
 have H1 := hid (H0.out.below hb1)
 have K1 := HK0.out.below hb1 hz1
 have r0 : w1.cell? ⟨w.heap.size, 0, none⟩ = some (.int .i64 0) := (K1 0 (by simp [obsC])).1
 have r1 : w1.cell? ⟨w.heap.size, 1, none⟩ = some (.int .i64 0) := (K1 1 (by simp [obsC])).1
 have r2 : w1.cell? ⟨w.heap.size, 2, none⟩ = some (.int .i64 0) := (K1 2 (by simp [obsC])).1
 have r3 : w1.cell? ⟨w.heap.size, 3, none⟩ = some (.bool false) := (K1 3 (by simp [obsC])).1
 have r4 : w1.cell? ⟨w.heap.size, 4, none⟩ = some (.slice none 0 0) := (K1 4 (by simp [obsC])).1
 have s0 : w1.frozen? ⟨w.heap.size, 0, none⟩ = false := (K1 0 (by simp [obsC])).2
 have s1 : w1.frozen? ⟨w.heap.size, 1, none⟩ = false := (K1 1 (by simp [obsC])).2
 have s2 : w1.frozen? ⟨w.heap.size, 2, none⟩ = false := (K1 2 (by simp [obsC])).2
 have s3 : w1.frozen? ⟨w.heap.size, 3, none⟩ = false := (K1 3 (by simp [obsC])).2
 have s4 : w1.frozen? ⟨w.heap.size, 4, none⟩ = false := (K1 4 (by simp [obsC])).2
 have hlw : w.heap.size < w1.heap.size := by omega
 clear hve hb0 hb1 HK0 H0 hw0 hs1
 by_cases hv0 : vv = 0
 ·have HCO := hid (good_commit HCF.out HCH.out (by rw [← HVV.out]; exact hv0))
  have hvb : (vv != 0) = false := by simpa using hv0
  have hm1 := H1.out
  obtain ⟨hop1, hT1⟩ := hm1.tr (n - 1) hi ho
  have hst : ∀ k y z, z ∈ c.T k y → z.1 ≤ x.ck := fun k y z hz => by
   rw [hm1.cT] at hz
   by_cases e : k < 32
   ·rw [if_pos e] at hz
    unfold versC at hz
    obtain ⟨m, hm, he⟩ := List.mem_filterMap.1 hz
    cases hq : newC m.cs (k : Int) y with
    | none => rw [hq] at he; cases he
    | some d => rw [hq] at he; simp at he; rw [← he]; exact hm1.cs m hm
   ·rw [if_neg e] at hz; cases hz
  have hse : Calls Tryz.prog 71 #[.pointer (some ⟨sb, 0, none⟩), .pointer (some ⟨gg, 0, none⟩)] w1 fun e w' => (∃ r, e = .returned r) ∧ SettP B sb w1 L c x.ck op (gh (n - 1)) (x.tx.getD (n - 1) tx0) w' := by
   rw [HGG.out]
   by_cases hmd : (x.tx.getD (n - 1) tx0).md = 2
   ·exact settle_2 B sb w1 L c x.ck op (gh (n - 1)) (x.tx.getD (n - 1) tx0) hm1.led HLB.out hm1.ses hm1.sl hT1 hck0 (by omega) (by omega) hm1.ns (hm1.dl (n - 1) hi ho) hst (fun k => by have := kb k; omega) (fun k y => by have := tb k y; omega) (by rw [HCH.out]; exact hhl) hmd
   ·exact settle_1 B sb w1 L c x.ck op (gh (n - 1)) (x.tx.getD (n - 1) tx0) hm1.led HLB.out hm1.ses hm1.sl hT1 hck0 (by omega) (by omega) hm1.ns (hm1.dl (n - 1) hi ho) hst (fun k => by have := kb k; omega) (fun k y => by have := tb k y; omega) hmd
  have HK1 := hid K1
  clear hm1 hT1 hop1 hst K1 r0 r1 r2 r3 r4 s0 s1 s2 s3 s4
  subst hv0
  go_wp2_with (go_at_call 71; fail)
  refine hse.mono ?_
  rintro e w2 ⟨⟨r, rfl⟩, hsp⟩
  obtain ⟨L', c', hM2, hld, hfr2⟩ := H1.out.settled hi ho hsp
  have hs2 := hfr2.size
  have K2 := HK1.out.fr hfr2 hlw HNR.out
  have r0 : w2.cell? ⟨w.heap.size, 0, none⟩ = some (.int .i64 0) := (K2 0 (by simp [obsC])).1
  have r1 : w2.cell? ⟨w.heap.size, 1, none⟩ = some (.int .i64 0) := (K2 1 (by simp [obsC])).1
  have r2 : w2.cell? ⟨w.heap.size, 2, none⟩ = some (.int .i64 0) := (K2 2 (by simp [obsC])).1
  have r3 : w2.cell? ⟨w.heap.size, 3, none⟩ = some (.bool false) := (K2 3 (by simp [obsC])).1
  have r4 : w2.cell? ⟨w.heap.size, 4, none⟩ = some (.slice none 0 0) := (K2 4 (by simp [obsC])).1
  have s0 : w2.frozen? ⟨w.heap.size, 0, none⟩ = false := (K2 0 (by simp [obsC])).2
  have s1 : w2.frozen? ⟨w.heap.size, 1, none⟩ = false := (K2 1 (by simp [obsC])).2
  have s2 : w2.frozen? ⟨w.heap.size, 2, none⟩ = false := (K2 2 (by simp [obsC])).2
  have s3 : w2.frozen? ⟨w.heap.size, 3, none⟩ = false := (K2 3 (by simp [obsC])).2
  have s4 : w2.frozen? ⟨w.heap.size, 4, none⟩ = false := (K2 4 (by simp [obsC])).2
  have q0 := (ses_cell hM2.ses (j := 0) (by omega)).1
  rw [sesAt_0] at q0
  simp only at q0
  have hlw2 : w.heap.size < w2.heap.size := by omega
  have hn1b : ¬ w.heap.size = sb := by omega
  have hn2b : ¬ sb = w.heap.size := by omega
  have HM2 := hid hM2
  have HLD := hid hld
  have HFR := hid hfr2
  have HK2 := hid K2
  clear hse hsp hM2 hld hfr2 K2 HK1
  obtain ⟨W3, hW3⟩ : ∃ z, z = ((set5 w2 w.heap.size (.int .i64 0) (.int .i64 0) (.int .i64 0) (.bool false) (.slice none 0 0)).setCell ⟨w.heap.size, 2, none⟩ (.int .i64 (x.ck + 1))).drew := ⟨_, rfl⟩
  have f3 : Fr (fun q => q = w.heap.size) w2 W3 := by
   have f := (chg_5 w2 w.heap.size (.int .i64 0) (.int .i64 0) (.int .i64 0) (.bool false) (.slice none 0 0)).trans (Fr.setCell _ w.heap.size 2 (.int .i64 (x.ck + 1)))
   rw [hW3]
   exact f.drewR
  have K3 : Blk W3 w.heap.size (obsC 0 0 (x.ck + 1) false (.slice none 0 0)) := by
   have k := (blk_set5 (a := .int .i64 0) (b := .int .i64 0) (d := .int .i64 0) (f := .bool false) (pv := .slice none 0 0) HK2.out rfl).set 2 (.int .i64 (x.ck + 1)) (by simp)
   rw [hW3]
   exact k.drewR
  have hnr2 : ∀ g, foot sb L' { x with ck := x.ck + 1, cms := x.cms ++ [⟨x.ck + 1, (x.tx.getD (n - 1) tx0).own⟩], hs := if (x.tx.getD (n - 1) tx0).md = 2 then x.hs ++ [infoF (x.tx.getD (n - 1) tx0).bg (x.ck + 1) (x.tx.getD (n - 1) tx0).own (x.tx.getD (n - 1) tx0).rs] else x.hs } gh g → foot sb L x gh g ∨ w1.heap.size ≤ g := fun g hg => by
   rcases hg with z | z | z
   ·exact .inl (.inl z)
   ·rcases HLD.out g z with q | q
    ·exact .inl (.inr (.inl q))
    ·exact .inr q
   ·exact .inl (.inr (.inr z))
  have hnr3 : ¬ foot sb L' { x with ck := x.ck + 1, cms := x.cms ++ [⟨x.ck + 1, (x.tx.getD (n - 1) tx0).own⟩], hs := if (x.tx.getD (n - 1) tx0).md = 2 then x.hs ++ [infoF (x.tx.getD (n - 1) tx0).bg (x.ck + 1) (x.tx.getD (n - 1) tx0).own (x.tx.getD (n - 1) tx0).rs] else x.hs } gh w.heap.size := fun z => by
   rcases hnr2 _ z with q | q
   ·exact HNR.out q
   ·omega
  have HNN := hid hnr3
  have HN2 := hid hnr2
  have H3 := hid (HM2.out.fr f3 (fun g hg e => hnr3 (by rw [← e]; exact hg)))
  have HK3 := hid K3
  have hz3 : w.heap.size < W3.heap.size := Nat.lt_of_lt_of_le hlw2 f3.size
  have HF3 := hid (((Fr.of_below (foot sb L x gh) b1).trans HFR.out).then f3 (fun g e => .inr (by rw [e]; exact Nat.le_refl _)))
  unfold set5 at hW3
  clear K3 f3 hnr2 hnr3 HM2 HLD HK2 HFR
  go_wp2
  go_region
  rw [← hW3]
  clear hW3 r0 r1 r2 r3 r4 s0 s1 s2 s3 s4 q0
  go_wp2
  unfold bodyPostD
  refine leaves_cons (f := 48) (args := #[.pointer (some ⟨sb, 0, none⟩), .int .i64 (n : Int)]) (by simp) (by simp [go_sem]) ?_
  refine (end_def B sb n W3 _ L' c' gh op H3.out hn1 hn2 ho .returning).mono ?_
  rintro e u' w' ⟨rfl, ⟨r, rfl⟩, ⟨op', hM'⟩, hfr⟩
  have K4 := HK3.out.fr hfr hz3 HNN.out
  have t0 : w'.cell? ⟨w.heap.size, 0, none⟩ = some (.int .i64 0) := (K4 0 (by simp [obsC])).1
  have t1 : w'.cell? ⟨w.heap.size, 1, none⟩ = some (.int .i64 0) := (K4 1 (by simp [obsC])).1
  have t2 : w'.cell? ⟨w.heap.size, 2, none⟩ = some (.int .i64 (x.ck + 1)) := (K4 2 (by simp [obsC])).1
  have t3 : w'.cell? ⟨w.heap.size, 3, none⟩ = some (.bool false) := (K4 3 (by simp [obsC])).1
  have t4 : w'.cell? ⟨w.heap.size, 4, none⟩ = some (.slice none 0 0) := (K4 4 (by simp [obsC])).1
  refine ⟨.agg #[.int .i64 0, .int .i64 0, .int .i64 (x.ck + 1), .bool false, .slice none 0 0], by simp [results, Tryz.results47, go_sem, t0, t1, t2, t3, t4], ?_⟩
  rw [HCO.out]
  refine ⟨L', c', gh, op', .slice none 0 0, rfl, gr_nil _ _ _ _ _, hM', HF3.out.then hfr (fun g hg => ?_), fun g hg => ?_, fun g hg => (nil_own g hg).elim⟩
  ·rcases HN2.out g hg with q | q
   ·exact .inl q
   ·exact .inr (by omega)
  ·rcases HN2.out g (foot_end (by rw [HM.out.n4]; exact hi) hg) with q | q
   ·exact .inl q
   ·exact .inr (by omega)
 ·have hvb : (vv != 0) = true := by simpa using hv0
  have HCO := hid (bad_commit HCF.out HCH.out (by rw [← HVV.out]; exact hv0))
  obtain ⟨W2, hW2⟩ : ∃ z, z = set5 w1 w.heap.size (.int .i64 vv) (.int .i64 0) (.int .i64 0) (.bool false) (.slice none 0 0) := ⟨_, rfl⟩
  have f2 : Fr (fun q => q = w.heap.size) w1 W2 := by rw [hW2]; exact chg_5 _ _ _ _ _ _ _
  have H2 := hid (H1.out.fr f2 (fun g hg e => HNR.out (by rw [← e]; exact hg)))
  have K2 : Blk W2 w.heap.size (obsC vv 0 0 false (.slice none 0 0)) := by rw [hW2]; exact blk_set5 K1 rfl
  have HK2 := hid K2
  have hz2 : w.heap.size < W2.heap.size := Nat.lt_of_lt_of_le hlw f2.size
  have HF2 := hid ((Fr.of_below (foot sb L x gh) b1).then f2 (fun g e => .inr (by rw [e]; exact Nat.le_refl _)))
  unfold set5 at hW2
  clear K2 K1 f2
  go_wp2
  rw [← hW2]
  unfold bodyPostD
  refine leaves_cons (f := 48) (args := #[.pointer (some ⟨sb, 0, none⟩), .int .i64 (n : Int)]) (by simp) (by simp [go_sem]) ?_
  refine (end_def B sb n W2 x L c gh op H2.out hn1 hn2 ho .returning).mono ?_
  rintro e u' w' ⟨rfl, ⟨r, rfl⟩, ⟨op', hM'⟩, hfr⟩
  have K3 := HK2.out.fr hfr hz2 HNR.out
  have t0 : w'.cell? ⟨w.heap.size, 0, none⟩ = some (.int .i64 vv) := (K3 0 (by simp [obsC])).1
  have t1 : w'.cell? ⟨w.heap.size, 1, none⟩ = some (.int .i64 0) := (K3 1 (by simp [obsC])).1
  have t2 : w'.cell? ⟨w.heap.size, 2, none⟩ = some (.int .i64 0) := (K3 2 (by simp [obsC])).1
  have t3 : w'.cell? ⟨w.heap.size, 3, none⟩ = some (.bool false) := (K3 3 (by simp [obsC])).1
  have t4 : w'.cell? ⟨w.heap.size, 4, none⟩ = some (.slice none 0 0) := (K3 4 (by simp [obsC])).1
  refine ⟨.agg #[.int .i64 vv, .int .i64 0, .int .i64 0, .bool false, .slice none 0 0], by simp [results, Tryz.results47, go_sem, t0, t1, t2, t3, t4], ?_⟩
  rw [HCO.out, ← HVV.out]
  exact ⟨L, c, gh, op', .slice none 0 0, rfl, gr_nil _ _ _ _ _, hM', HF2.out.trans hfr, fun g hg => .inl (foot_end (by rw [HM.out.n4]; exact hi) hg), fun g hg => (nil_own g hg).elim⟩
end Go.Proofs.YtblkgicbimflhaaGreat
