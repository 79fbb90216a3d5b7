import Derived.Test.YtblkgicbimflhaaGreatSBK
namespace Go.Proofs.YtblkgicbimflhaaGreat
open Go.ChangeShapes Go.WideShapes Go.ChangeAt Go.RowKit
set_option linter.unusedVariables false
set_option linter.unusedSimpArgs false
set_option maxRecDepth 100000
set_option maxHeartbeats 16000000
open Classical in
theorem set_opn (x : Bas) (i j : Nat) (t : Txn) (hi : i < x.tx.length) : (x.tx.set i t).getD j tx0 = if j = i then t else x.tx.getD j tx0 := by
 rw [List.getD_eq_getElem?_getD, List.getD_eq_getElem?_getD, List.getElem?_set]
 by_cases e : i = j
 .subst e; rw [if_pos rfl, if_pos hi, if_pos rfl]; rfl
 .rw [if_neg e, if_neg (fun z => e z.symm)]
theorem IMem.ended {B sb n : Nat} {w w1 : World} {x : Bas} {L : LIx -> Value} {c : Led} {gh : Nat -> TG} {op : Nat -> Option Addr} (h : IMem B sb w x L c gh op) (hn1 : 1 <= n) (hn2 : n <= 4) (ho : opn x (n - 1) = true) (hfr : Fr (trF (gh (n - 1))) w w1) :
 (∃ op', IMem B sb (w1.setCell ⟨sb, 66 + n, none⟩ (.pointer none)) { x with tx := x.tx.set (n - 1) tx0 } L c gh op') /\ Fr (foot sb L x gh) w (w1.setCell ⟨sb, 66 + n, none⟩ (.pointer none)) := by
 have hi : n - 1 < 4 := by omega
 have hx : n - 1 < x.tx.length := by rw [h.n4]; exact hi
 have f2 := Fr.setCell w1 sb (66 + n) (.pointer none)
 have hnb := fun z => (h.dl (n - 1) hi ho sb z).2 rfl
 have hop : ∀ j, opn { x with tx := x.tx.set (n - 1) tx0 } j = if j = n - 1 then false else opn x j := fun j => by
  unfold opn
  simp only
  rw [set_opn x (n - 1) j tx0 hx]
  split <;> rfl
 have hto : ∀ j, opn { x with tx := x.tx.set (n - 1) tx0 } j = true -> j ≠ n - 1 /\ opn x j = true := fun j hj => by
  rw [hop] at hj
  by_cases e : j = n - 1
  .rw [if_pos e] at hj; cases hj
  .rw [if_neg e] at hj; exact ⟨e, hj⟩
 refine ⟨⟨fun i => if i = n then none else op i, by simpa using h.n4, ?_, ?_, ?_, h.sB, h.cT, h.cH, fun j hj hjo => ?_, fun j hj hjo => ?_, h.ns, fun j hj hjo => ?_, fun j l hj hl hn hjo hlo => ?_, h.cs⟩, ?_⟩
 .exact (h.led.fr hfr (fun g hg z => (h.dl (n - 1) hi ho g z).1 hg)).fr f2 (fun g hg e => h.ns (by rw [<- (show g = sb from e)]; exact hg))
 .exact ses_open (h.ses.fr hfr h.sl hnb) n (by omega) none
 .have := hfr.size; have := h.sl; simp; omega
 .obtain ⟨e1, e2⟩ := hto j hjo
  obtain ⟨q1, q2⟩ := h.tr j hj e2
  have eg : (x.tx.set (n - 1) tx0).getD j tx0 = x.tx.getD j tx0 := by rw [set_opn x (n - 1) j tx0 hx, if_neg e1]
  rw [eg]
  refine ⟨(if_neg (by omega)).trans q1, (q2.fr hfr (fun b hb z => h.dt j (n - 1) hj hi e1 e2 ho b hb z)).fr f2 (fun b hb e => (h.dl j hj e2 b hb).2 e)⟩
 .by_cases e : j = n - 1
  .exact if_pos (by omega)
  .rw [hop, if_neg e] at hjo
   exact (if_neg (by omega)).trans (h.no j hj hjo)
 .exact h.dl j hj (hto j hjo).2
 .exact h.dt j l hj hl hn (hto j hjo).2 (hto l hlo).2
 .exact (hfr.mono (fun g z => .inr (.inr ⟨n - 1, hi, ho, z⟩))).trans (f2.mono (fun g z => .inl z))
theorem foot_end {sb n : Nat} {x : Bas} {L : LIx -> Value} {gh : Nat -> TG} {g : Nat} (hx : n - 1 < x.tx.length) (hg : foot sb L { x with tx := x.tx.set (n - 1) tx0 } gh g) : foot sb L x gh g := by
 rcases hg with z | z | ⟨j, hj, hjo, z⟩
 .exact .inl z
 .exact .inr (.inl z)
 .refine .inr (.inr ⟨j, hj, ?_, z⟩)
  unfold opn at hjo ⊢
  simp only at hjo
  rw [set_opn x (n - 1) j tx0 hx] at hjo
  by_cases e : j = n - 1
  .rw [if_pos e] at hjo; cases hjo
  .rw [if_neg e] at hjo; exact hjo
theorem end_any (B sb n : Nat) (w : World) (x : Bas) (L : LIx -> Value) (c : Led) (gh : Nat -> TG) (op : Nat -> Option Addr) (h : IMem B sb w x L c gh op) (hn1 : 1 <= n) (hn2 : n <= 4) (ho : opn x (n - 1) = true) :
 Calls Tryz.prog 48 #[.pointer (some ⟨sb, 0, none⟩), .int .i64 (n : Int)] w fun e w' => (∃ r, e = .returned r) /\ (∃ op', IMem B sb w' { x with tx := x.tx.set (n - 1) tx0 } L c gh op') /\ Fr (foot sb L x gh) w w' := by
 have hi : n - 1 < 4 := by omega
 have e1 : n - 1 + 1 = n := by omega
 obtain ⟨hop, hT⟩ := h.tr (n - 1) hi ho
 rw [e1] at hop
 obtain ⟨c0, f0⟩ := ses_cell h.ses (j := 66 + n) (by omega)
 rw [sesAt_op, hop] at c0
 have hni : (n : Int) < 5 := by omega
 have hsl := h.sl
 have HM := hid h
 have hgu := giveUp_any B w (gh (n - 1)) _ hT
 obtain ⟨gg, hgg⟩ : ∃ z, z = (gh (n - 1)).g := ⟨_, rfl⟩
 rw [<- hgg] at hgu c0
 clear hop hT h hgg
 go_enter Tryz.func48, Tryz.ntmps48
 go_wp2_with (go_at_call 72; fail)
 refine hgu.mono ?_
 rintro e w1 ⟨⟨r, rfl⟩, hfr⟩
 have hnb := fun z => (HM.out.dl (n - 1) hi ho sb z).2 rfl
 have hbk := hfr.block sb hsl hnb
 have c1 := (World.cell?_of_block (a := ⟨sb, 66 + n, none⟩) hbk).trans c0
 have f1 := (World.frozen?_of_block (a := ⟨sb, 66 + n, none⟩) hbk).trans f0
 have HE := hid (HM.out.ended hn1 hn2 ho hfr)
 clear hgu hfr hbk c0 f0 HM
 go_wp2
 go_end0
 exact ⟨⟨_, rfl⟩, HE.out⟩
theorem end_def (B sb n : Nat) (w : World) (x : Bas) (L : LIx -> Value) (c : Led) (gh : Nat -> TG) (op : Nat -> Option Addr) (h : IMem B sb w x L c gh op) (hn1 : 1 <= n) (hn2 : n <= 4) (ho : opn x (n - 1) = true) (u : FrameMode) :
 CallsD Tryz.prog 48 #[.pointer (some ⟨sb, 0, none⟩), .int .i64 (n : Int)] u w fun e u' w' => u' = u /\ (∃ r, e = .returned r) /\ (∃ op', IMem B sb w' { x with tx := x.tx.set (n - 1) tx0 } L c gh op') /\ Fr (foot sb L x gh) w w' := by
 have hi : n - 1 < 4 := by omega
 have e1 : n - 1 + 1 = n := by omega
 obtain ⟨hop, hT⟩ := h.tr (n - 1) hi ho
 rw [e1] at hop
 obtain ⟨c0, f0⟩ := ses_cell h.ses (j := 66 + n) (by omega)
 rw [sesAt_op, hop] at c0
 have hni : (n : Int) < 5 := by omega
 have hsl := h.sl
 have HM := hid h
 have hgu := giveUp_any B w (gh (n - 1)) _ hT
 obtain ⟨gg, hgg⟩ : ∃ z, z = (gh (n - 1)).g := ⟨_, rfl⟩
 rw [<- hgg] at hgu c0
 clear hop hT h hgg
 refine callsD_of_wp Tryz.func48 rfl ?_
 simp only [Tryz.ntmps48, List.size_toArray, List.length_cons, List.length_nil, Nat.reduceAdd, Nat.reduceSub, Array.replicate_succ, Array.replicate_zero, List.push_toArray, List.append_toArray, List.nil_append, List.cons_append]
 go_wp2_with (go_at_call 72; fail)
 refine hgu.mono ?_
 rintro e w1 ⟨⟨r, rfl⟩, hfr⟩
 have hnb := fun z => (HM.out.dl (n - 1) hi ho sb z).2 rfl
 have hbk := hfr.block sb hsl hnb
 have c1 := (World.cell?_of_block (a := ⟨sb, 66 + n, none⟩) hbk).trans c0
 have f1 := (World.frozen?_of_block (a := ⟨sb, 66 + n, none⟩) hbk).trans f0
 have HE := hid (HM.out.ended hn1 hn2 ho hfr)
 clear hgu hfr hbk c0 f0 HM
 go_wp2
 go_end0
 exact ⟨⟨_, rfl⟩, HE.out⟩
def AnsP (B sb : Nat) (w : World) (x : Bas) (L : LIx -> Value) (gh : Nat -> TG) (r : Bas × Obn) (e : Ending) (w' : World) : Prop := ∃ L' c' gh' op' pv, e = .returned (.agg #[.int .i64 r.2.code, .int .i64 r.2.vl, .int .i64 r.2.st, .bool r.2.fd, pv]) /\ Gr pairV 92 2 w.heap.size w' pv r.2.ps /\ IMem B sb w' r.1 L' c' gh' op' /\ Fr (foot sb L x gh) w w' /\ (∀ g, foot sb L' r.1 gh' g -> foot sb L x gh g \/ w.heap.size <= g) /\ (∀ g, pv.ownBlock = some g -> ¬ foot sb L' r.1 gh' g)
theorem nil_own : ∀ g, (Value.slice none 0 0).ownBlock = some g -> False := fun g h => by simp [Value.ownBlock] at h
theorem bad_commit {x : Bas} {i : Nat} {c : Led} {M : List (Spt × Vsn)} (hc : M.any (fun m => behM c (x.tx.getD i tx0).bg m.1) = conflictF x.cms (x.tx.getD i tx0).bg (x.tx.getD i tx0).own) (hh : c.hs = x.hs) (hv : verdM c x.ck M (x.tx.getD i tx0) ≠ 0) : commitF x i = ({ x with tx := x.tx.set i tx0 }, 0, verdM c x.ck M (x.tx.getD i tx0)) := by
 unfold verdM at hv ⊢
 rw [hc, hh] at hv ⊢
 unfold commitF
 simp only
 cases hq : conflictF x.cms (x.tx.getD i tx0).bg (x.tx.getD i tx0).own
 .rw [hq] at hv
  simp only [Bool.false_eq_true, if_false] at hv ⊢
  by_cases hm : (x.tx.getD i tx0).md = 2
  .rw [if_pos hm] at hv
   rw [if_pos ⟨hm, hv⟩, if_pos hm]
  .rw [if_neg hm] at hv; exact absurd rfl hv
 .simp
theorem good_commit {x : Bas} {i : Nat} {c : Led} {M : List (Spt × Vsn)} (hc : M.any (fun m => behM c (x.tx.getD i tx0).bg m.1) = conflictF x.cms (x.tx.getD i tx0).bg (x.tx.getD i tx0).own) (hh : c.hs = x.hs) (hv : verdM c x.ck M (x.tx.getD i tx0) = 0) : commitF x i = ({ ck := x.ck + 1, cms := x.cms ++ [⟨x.ck + 1, (x.tx.getD i tx0).own⟩], hs := if (x.tx.getD i tx0).md = 2 then x.hs ++ [infoF (x.tx.getD i tx0).bg (x.ck + 1) (x.tx.getD i tx0).own (x.tx.getD i tx0).rs] else x.hs, tx := x.tx.set i tx0 }, x.ck + 1, 0) := by
 unfold verdM at hv
 rw [hc, hh] at hv
 unfold commitF
 simp only
 cases hq : conflictF x.cms (x.tx.getD i tx0).bg (x.tx.getD i tx0).own
 .rw [hq] at hv
  simp only [Bool.false_eq_true, if_false] at hv ⊢
  rw [if_neg (fun z => by rw [if_pos z.1] at hv; exact z.2 hv)]
 .rw [hq] at hv; simp at hv
theorem IMem.settled {B sb i : Nat} {w w' : World} {x : Bas} {L : LIx -> Value} {c : Led} {gh : Nat -> TG} {op : Nat -> Option Addr} (h : IMem B sb w x L c gh op) (hi : i < 4) (ho : opn x i = true) (hs : SettP B sb w L c x.ck op (gh i) (x.tx.getD i tx0) w') :
 ∃ L' c', IMem B sb w' { x with ck := x.ck + 1, cms := x.cms ++ [⟨x.ck + 1, (x.tx.getD i tx0).own⟩], hs := if (x.tx.getD i tx0).md = 2 then x.hs ++ [infoF (x.tx.getD i tx0).bg (x.ck + 1) (x.tx.getD i tx0).own (x.tx.getD i tx0).rs] else x.hs } L' c' gh op /\ (∀ g, ldF L' g -> ldF L g \/ w.heap.size <= g) /\ Fr (foot sb L x gh) w w' := by
 obtain ⟨L', c', q1, q2, q3, q4, q5, q6⟩ := hs
 have hT := (h.tr i hi ho).2
 refine ⟨L', c', ⟨h.n4, q1, q2, Nat.lt_of_lt_of_le h.sl q6.size, h.sB, fun k y => ?_, ?_, fun j hj hjo => ?_, h.no, fun z => ?_, fun j hj hjo b hb => ?_, h.dt, fun m hm => ?_⟩, q5, q6.mono (fun g z => ?_)⟩
 .rw [q3, h.cT]
  by_cases e : k < 32
  .rw [if_pos e, if_pos e, vers_snoc]
   congr 1
   unfold newV
   rw [hT.mr]
   cases newC (x.tx.getD i tx0).own (k : Int) y <;> rfl
  .rw [if_neg e, if_neg e]
   unfold newV
   have : mget (gh i).M ((k : Int), y) = none := by
    cases hq : mget (gh i).M ((k : Int), y) with
    | none => rfl
    | some v => have := hT.mi _ (mget_some hq); simp only at this; omega
   rw [this]
   rfl
 .rw [q4, h.cH]
 .obtain ⟨a1, a2⟩ := h.tr j hj hjo
  exact ⟨a1, a2.fr q6 (fun b hb z => by
   rcases z with z | z
   .exact (h.dl j hj hjo b hb).2 z
   .exact (h.dl j hj hjo b hb).1 z)⟩
 .rcases q5 sb z with a | a
  .exact h.ns a
  .have := h.sl; omega
 .refine ⟨fun z => ?_, (h.dl j hj hjo b hb).2⟩
  rcases q5 b z with a | a
  .exact (h.dl j hj hjo b hb).1 a
  .have := (h.tr j hj hjo).2.lt hb; omega
 .rcases List.mem_append.1 hm with a | a
  .have := h.cs m a; simp only; omega
  .rw [List.mem_singleton] at a; rw [a]; exact Int.le_refl _
 .rcases z with z | z
  .exact .inl z
  .exact .inr (.inl z)
def obsC (a b d : Int) (f : Bool) (pv : Value) : List Value := [.int .i64 a, .int .i64 b, .int .i64 d, .bool f, pv]
theorem chg_5 (w : World) (g : Nat) (a b d : Value) (f pv : Value) : Fr (fun q => q = g) w (set5 w g a b d f pv) := ((((Fr.setCell w g 0 a).trans (Fr.setCell _ g 1 b)).trans (Fr.setCell _ g 2 d)).trans (Fr.setCell _ g 3 f)).trans (Fr.setCell _ g 4 pv)
theorem Fr.drewR {S : Nat -> Prop} {w w' : World} (h : Fr S w w') : Fr S w w'.drew := ⟨h.os, h.tape, h.output, h.size, h.block⟩
theorem Blk.drewR {w : World} {b : Nat} {cs : List Value} (h : Blk w b cs) : Blk w.drew b cs := h
theorem blk_set5 {w : World} {g : Nat} {a b d f pv : Value} {cs : List Value} (h : Blk w g cs) (hl : cs.length = 5) : Blk (set5 w g a b d f pv) g [a, b, d, f, pv] := by
 have h1 := ((((h.set 0 a (by omega)).set 1 b (by simp; omega)).set 2 d (by simp; omega)).set 3 f (by simp; omega)).set 4 pv (by simp; omega)
 match cs, hl with
 | [_, _, _, _, _], _ => exact h1
theorem commit_any (B sb n : Nat) (w : World) (x : Bas) (L : LIx -> Value) (c : Led) (gh : Nat -> TG) (op : Nat -> Option Addr) (h : IMem B sb w x L c gh op) (hb : Bnd x) (hck : x.ck < 1000) (hhl : x.hs.length < 1000) (hB : B <= w.heap.size) (hn1 : 1 <= n) (hn2 : n <= 4) (ho : opn x (n - 1) = true) :
 Calls Tryz.prog 47 #[.pointer (some ⟨sb, 0, none⟩), .int .i64 (n : Int)] w fun e w' => AnsP B sb w x L gh ((commitF x (n - 1)).1, ⟨(commitF x (n - 1)).2.2, 0, (commitF x (n - 1)).2.1, false, []⟩) e w' := by
 have hi : n - 1 < 4 := by omega
 have e1 : n - 1 + 1 = n := by omega
 obtain ⟨LB, kb, tb⟩ := h.bnd hb
 obtain ⟨w0, hw0⟩ : ∃ z, z = w.alloc (.cells #[.int .i64 0, .int .i64 0, .int .i64 0, .bool false, .slice none 0 0] 38) := ⟨_, rfl⟩
 have hb0 : Below w.heap.size w w0 := by rw [hw0]; exact below_alloc _ _
 have hz0 : w0.heap.size = w.heap.size + 1 := by rw [hw0]; simp
 have K0 : Blk w0 w.heap.size (obsC 0 0 0 false (.slice none 0 0)) := by rw [hw0]; exact blk_new w (obsC 0 0 0 false (.slice none 0 0)) 38
 have h0 := h.below hb0
 obtain ⟨hop, hT⟩ := h0.tr (n - 1) hi ho
 rw [e1] at hop
 have hT' := (h.tr (n - 1) hi ho).2
 obtain ⟨c0, _⟩ := ses_cell h.ses (j := 66 + n) (by omega)
 rw [sesAt_op, hop] at c0
 have hni : (n : Int) < 5 := by omega
 have hsl := h.sl
 have hck0 := hb.ck.1
 have hml : (gh (n - 1)).M.length <= 1000 := Nat.le_trans (rel_len hT.mr hT.mp.nodup) (hb.ow _ (by
  rw [List.getD_eq_getElem?_getD, List.getElem?_eq_getElem (by rw [h.n4]; exact hi)]
  exact List.getElem_mem _))
 have hcf := h0.conf (bg := (x.tx.getD (n - 1) tx0).bg) hT.mr hT.mp.nodup hT.mi
 have hve := verdict_any B sb w0 L c x.ck op (gh (n - 1)) (x.tx.getD (n - 1) tx0) h0.led LB h0.ses h0.sl hT hck0 (by omega)
 have HM := hid h
 have H0 := hid h0
 have HK0 := hid K0
 have HLB := hid LB
 have HCF := hid hcf
 have HCH := hid h.cH
 obtain ⟨gg, hgg⟩ : ∃ z, z = (gh (n - 1)).g := ⟨_, rfl⟩
 obtain ⟨vv, hvv⟩ : ∃ z, z = verdM c x.ck (gh (n - 1)).M (x.tx.getD (n - 1) tx0) := ⟨_, rfl⟩
 rw [<- hgg] at c0 hve
 rw [<- hvv] at hve
 have HVV := hid hvv
 have HGG := hid hgg
 have hz1 : w.heap.size < w0.heap.size := by omega
 have hnr : ¬ foot sb L x gh w.heap.size := fun z => by have := (h.lt z).2; omega
 have HNR := hid hnr
 clear hop hT hT' h h0 hgg hvv hcf K0 LB hnr hz0
 rw [hw0] at hve
 go_enter_defers Tryz.func47, Tryz.ntmps47
 go_wp2_with (go_at_call 70; fail)
 refine hve.mono ?_
 rw [<- hw0]
 rintro e w1 ⟨rfl, hb1⟩
 have b1 : Below w.heap.size w w1 := hb0.trans (hb1.mono hb0.size)
 have hs1 := hb1.size
 have H1 := hid (H0.out.below hb1)
 have K1 := HK0.out.below hb1 hz1
 obtain ⟨⟨r0, s0⟩, ⟨r1, s1⟩, ⟨r2, s2⟩, ⟨r3, s3⟩, ⟨r4, s4⟩⟩ := kb4 K1
 have hlw : w.heap.size < w1.heap.size := by omega
 clear hve hb0 hb1 HK0 H0 hw0 hs1
 by_cases hv0 : vv = 0
 .have HCO := hid (good_commit HCF.out HCH.out (by rw [<- HVV.out]; exact hv0))
  have hvb : (vv != 0) = false := by simpa using hv0
  have hm1 := H1.out
  obtain ⟨hop1, hT1⟩ := hm1.tr (n - 1) hi ho
  have hst : ∀ k y z, z ∈ c.T k y -> z.1 <= x.ck := fun k y z hz => by
   rw [hm1.cT] at hz
   by_cases e : k < 32
   .rw [if_pos e] at hz
    unfold versC at hz
    obtain ⟨m, hm, he⟩ := List.mem_filterMap.1 hz
    cases hq : newC m.cs (k : Int) y with
    | none => rw [hq] at he; cases he
    | some d => rw [hq] at he; simp at he; rw [<- he]; exact hm1.cs m hm
   .rw [if_neg e] at hz; cases hz
  have hse : Calls Tryz.prog 71 #[.pointer (some ⟨sb, 0, none⟩), .pointer (some ⟨gg, 0, none⟩)] w1 fun e w' => (∃ r, e = .returned r) /\ SettP B sb w1 L c x.ck op (gh (n - 1)) (x.tx.getD (n - 1) tx0) w' := by
   rw [HGG.out]
   by_cases hmd : (x.tx.getD (n - 1) tx0).md = 2
   .exact settle_2 B sb w1 L c x.ck op (gh (n - 1)) (x.tx.getD (n - 1) tx0) hm1.led HLB.out hm1.ses hm1.sl hT1 hck0 (by omega) (by omega) hm1.ns (hm1.dl (n - 1) hi ho) hst (fun k => by have := kb k; omega) (fun k y => by have := tb k y; omega) (by rw [HCH.out]; exact hhl) hmd
   .exact settle_1 B sb w1 L c x.ck op (gh (n - 1)) (x.tx.getD (n - 1) tx0) hm1.led HLB.out hm1.ses hm1.sl hT1 hck0 (by omega) (by omega) hm1.ns (hm1.dl (n - 1) hi ho) hst (fun k => by have := kb k; omega) (fun k y => by have := tb k y; omega) hmd
  have HK1 := hid K1
  clear hm1 hT1 hop1 hst K1 r0 r1 r2 r3 r4 s0 s1 s2 s3 s4
  subst hv0
  go_wp2_with (go_at_call 71; fail)
  refine hse.mono ?_
  rintro e w2 ⟨⟨r, rfl⟩, hsp⟩
  obtain ⟨L', c', hM2, hld, hfr2⟩ := H1.out.settled hi ho hsp
  have hs2 := hfr2.size
  have K2 := HK1.out.fr hfr2 hlw HNR.out
  obtain ⟨⟨r0, s0⟩, ⟨r1, s1⟩, ⟨r2, s2⟩, ⟨r3, s3⟩, ⟨r4, s4⟩⟩ := kb4 K2
  have q0 := (ses_cell hM2.ses (j := 0) (by omega)).1
  rw [sesAt_0] at q0
  simp only at q0
  have hlw2 : w.heap.size < w2.heap.size := by omega
  have hn1b : ¬ w.heap.size = sb := by omega
  have hn2b : ¬ sb = w.heap.size := by omega
  have HM2 := hid hM2
  have HLD := hid hld
  have HFR := hid hfr2
  have HK2 := hid K2
  clear hse hsp hM2 hld hfr2 K2 HK1
  obtain ⟨W3, hW3⟩ : ∃ z, z = ((set5 w2 w.heap.size (.int .i64 0) (.int .i64 0) (.int .i64 0) (.bool false) (.slice none 0 0)).setCell ⟨w.heap.size, 2, none⟩ (.int .i64 (x.ck + 1))).drew := ⟨_, rfl⟩
  have f3 : Fr (fun q => q = w.heap.size) w2 W3 := by
   have f := (chg_5 w2 w.heap.size (.int .i64 0) (.int .i64 0) (.int .i64 0) (.bool false) (.slice none 0 0)).trans (Fr.setCell _ w.heap.size 2 (.int .i64 (x.ck + 1)))
   rw [hW3]
   exact f.drewR
  have K3 : Blk W3 w.heap.size (obsC 0 0 (x.ck + 1) false (.slice none 0 0)) := by
   have k := (blk_set5 (a := .int .i64 0) (b := .int .i64 0) (d := .int .i64 0) (f := .bool false) (pv := .slice none 0 0) HK2.out rfl).set 2 (.int .i64 (x.ck + 1)) (by simp)
   rw [hW3]
   exact k.drewR
  have hnr2 : ∀ g, foot sb L' { x with ck := x.ck + 1, cms := x.cms ++ [⟨x.ck + 1, (x.tx.getD (n - 1) tx0).own⟩], hs := if (x.tx.getD (n - 1) tx0).md = 2 then x.hs ++ [infoF (x.tx.getD (n - 1) tx0).bg (x.ck + 1) (x.tx.getD (n - 1) tx0).own (x.tx.getD (n - 1) tx0).rs] else x.hs } gh g -> foot sb L x gh g \/ w1.heap.size <= g := fun g hg => by
   rcases hg with z | z | z
   .exact .inl (.inl z)
   .rcases HLD.out g z with q | q
    .exact .inl (.inr (.inl q))
    .exact .inr q
   .exact .inl (.inr (.inr z))
  have hnr3 : ¬ foot sb L' { x with ck := x.ck + 1, cms := x.cms ++ [⟨x.ck + 1, (x.tx.getD (n - 1) tx0).own⟩], hs := if (x.tx.getD (n - 1) tx0).md = 2 then x.hs ++ [infoF (x.tx.getD (n - 1) tx0).bg (x.ck + 1) (x.tx.getD (n - 1) tx0).own (x.tx.getD (n - 1) tx0).rs] else x.hs } gh w.heap.size := fun z => by
   rcases hnr2 _ z with q | q
   .exact HNR.out q
   .omega
  have HNN := hid hnr3
  have HN2 := hid hnr2
  have H3 := hid (HM2.out.fr f3 (fun g hg e => hnr3 (by rw [<- e]; exact hg)))
  have HK3 := hid K3
  have hz3 : w.heap.size < W3.heap.size := Nat.lt_of_lt_of_le hlw2 f3.size
  have HF3 := hid (((Fr.of_below (foot sb L x gh) b1).trans HFR.out).then f3 (fun g e => .inr (by rw [e]; exact Nat.le_refl _)))
  unfold set5 at hW3
  clear K3 f3 hnr2 hnr3 HM2 HLD HK2 HFR
  go_wp2
  go_region
  rw [<- hW3]
  clear hW3 r0 r1 r2 r3 r4 s0 s1 s2 s3 s4 q0
  go_wp2
  unfold bodyPostD
  refine leaves_cons (f := 48) (args := #[.pointer (some ⟨sb, 0, none⟩), .int .i64 (n : Int)]) (by simp) (by simp [go_sem]) ?_
  refine (end_def B sb n W3 _ L' c' gh op H3.out hn1 hn2 ho .returning).mono ?_
  rintro e u' w' ⟨rfl, ⟨r, rfl⟩, ⟨op', hM'⟩, hfr⟩
  have K4 := HK3.out.fr hfr hz3 HNN.out
  obtain ⟨t0, t1, t2, t3, t4⟩ := kc4 K4
  refine ⟨.agg #[.int .i64 0, .int .i64 0, .int .i64 (x.ck + 1), .bool false, .slice none 0 0], by simp [results, Tryz.results47, go_sem, t0, t1, t2, t3, t4], ?_⟩
  rw [HCO.out]
  refine ⟨L', c', gh, op', .slice none 0 0, rfl, gr_nil _ _ _ _ _, hM', HF3.out.then hfr (fun g hg => ?_), fun g hg => ?_, fun g hg => (nil_own g hg).elim⟩
  .rcases HN2.out g hg with q | q
   .exact .inl q
   .exact .inr (by omega)
  .rcases HN2.out g (foot_end (by rw [HM.out.n4]; exact hi) hg) with q | q
   .exact .inl q
   .exact .inr (by omega)
 .have hvb : (vv != 0) = true := by simpa using hv0
  have HCO := hid (bad_commit HCF.out HCH.out (by rw [<- HVV.out]; exact hv0))
  obtain ⟨W2, hW2⟩ : ∃ z, z = set5 w1 w.heap.size (.int .i64 vv) (.int .i64 0) (.int .i64 0) (.bool false) (.slice none 0 0) := ⟨_, rfl⟩
  have f2 : Fr (fun q => q = w.heap.size) w1 W2 := by rw [hW2]; exact chg_5 _ _ _ _ _ _ _
  have H2 := hid (H1.out.fr f2 (fun g hg e => HNR.out (by rw [<- e]; exact hg)))
  have K2 : Blk W2 w.heap.size (obsC vv 0 0 false (.slice none 0 0)) := by rw [hW2]; exact blk_set5 K1 rfl
  have HK2 := hid K2
  have hz2 : w.heap.size < W2.heap.size := Nat.lt_of_lt_of_le hlw f2.size
  have HF2 := hid ((Fr.of_below (foot sb L x gh) b1).then f2 (fun g e => .inr (by rw [e]; exact Nat.le_refl _)))
  unfold set5 at hW2
  clear K2 K1 f2
  go_wp2
  rw [<- hW2]
  unfold bodyPostD
  refine leaves_cons (f := 48) (args := #[.pointer (some ⟨sb, 0, none⟩), .int .i64 (n : Int)]) (by simp) (by simp [go_sem]) ?_
  refine (end_def B sb n W2 x L c gh op H2.out hn1 hn2 ho .returning).mono ?_
  rintro e u' w' ⟨rfl, ⟨r, rfl⟩, ⟨op', hM'⟩, hfr⟩
  have K3 := HK2.out.fr hfr hz2 HNR.out
  obtain ⟨t0, t1, t2, t3, t4⟩ := kc4 K3
  refine ⟨.agg #[.int .i64 vv, .int .i64 0, .int .i64 0, .bool false, .slice none 0 0], by simp [results, Tryz.results47, go_sem, t0, t1, t2, t3, t4], ?_⟩
  rw [HCO.out, <- HVV.out]
  exact ⟨L, c, gh, op', .slice none 0 0, rfl, gr_nil _ _ _ _ _, hM', HF2.out.trans hfr, fun g hg => .inl (foot_end (by rw [HM.out.n4]; exact hi) hg), fun g hg => (nil_own g hg).elim⟩
end Go.Proofs.YtblkgicbimflhaaGreat
namespace Go.Proofs.YtblkgicbimflhaaGreat
open Go.ChangeShapes Go.WideShapes Go.ChangeAt Go.RowKit
set_option linter.unusedVariables false
set_option linter.unusedSimpArgs false
set_option maxRecDepth 100000
set_option maxHeartbeats 16000000
open Go.Shelf
attribute [local go_sem] Oper.semAt_some
def KIn (S : Nat -> Prop) (W W' : World) : Prop := ∀ b, S b -> W'.heap[b]? = W.heap[b]?
theorem KIn.refl (S : Nat -> Prop) (W : World) : KIn S W W := fun _ _ => rfl
theorem KIn.trans {S : Nat -> Prop} {A B C : World} (h : KIn S A B) (k : KIn S B C) : KIn S A C := fun b hb => (k b hb).trans (h b hb)
theorem KIn.put {S : Nat -> Prop} {W : World} {l : Nat} {o : Obj} (h : ¬ S l) : KIn S W (W.putObj l o) := fun b hb => World.putObj_heap_other (fun e => h (by rw [<- e]; exact hb))
theorem KIn.of_fr {S T : Nat -> Prop} {W W' : World} (h : Fr T W W') (hs : ∀ b, S b -> b < W.heap.size /\ ¬ T b) : KIn S W W' := fun b hb => h.block b (hs b hb).1 (hs b hb).2
def encP (x : Int × Int) : Array Value := #[.int .i64 x.1, .int .i64 x.2]
def encV (f : Int -> Value × Value) (ks : List Int) (x : { y : Int // y ∈ ks }) : Array Value := #[.int .i64 x.1, .agg #[(f x.1).1, (f x.1).2]]
theorem all1_ii (F : Fence) (m : Nat) (h6 : F.fn 83) (hro : F.round = none) (hm : 1 <= m) (l Bs ob oo : Nat) (B : Nat) (S : Nat -> Prop) (ks us : List Int) (hul : us.length = ks.length) (kv vv : Value) (hBs : S Bs) (hob : S ob) (hkS : ∀ g, kv.ownBlock = some g -> S g) (hvS : ∀ g, vv.ownBlock = some g -> S g) (hn : ks.length <= 1048576) (J Jx : List (Int × Int) -> World -> Prop)
 (hY : ∀ pre x W, J pre W -> pre.length < ks.length -> YieldAt F (m - 1) Tryz.prog l (encP x) W fun e W' =>
  (e = .returned (.bool true) /\ J (pre ++ [x]) W' /\ KIn S W W') \/ (e = .returned (.bool false) /\ Jx (pre ++ [x]) W'))
 (W : World) (c0 : W.cell? ⟨Bs, 0, none⟩ = some (.pointer (some ⟨ob, oo, none⟩))) (c1 : W.cell? ⟨ob, oo, none⟩ = some kv) (c2 : W.cell? ⟨ob, oo + 1, none⟩ = some vv) (hK : W.ownsRow B 3 1 kv ks.length (ks.map (Value.int .i64))) (hV : W.ownsRow B 3 1 vv ks.length (us.map (Value.int .i64))) (h0 : J [] W) :
 CallsIn F m Tryz.prog 83 #[.func (.yield l) #[] #[], .pointer (some ⟨Bs, 0, none⟩)] W fun e W' => (∃ v, e = .returned v) /\
  ((∃ ys, ys = ks.zip us /\ J ys W') \/ (∃ pre, True /\ Jx pre W')) := by
 refine callsIn_of_wp Tryz.func83 rfl h6 ?_ hro
 simp only [Tryz.ntmps83, List.size_toArray, List.length_cons, List.length_nil, Nat.reduceAdd, Nat.reduceSub, Array.replicate_succ, Array.replicate_zero, List.push_toArray, List.append_toArray, List.nil_append, List.cons_append]
 obtain ⟨ka, kc, hkf⟩ := formR hK
 obtain ⟨va, vc, hvf⟩ := formR hV
 have HK := hid hK
 have HV := hid hV
 rw [hkf] at c1
 rw [hvf] at c2
 have HL : Hid ((ks.zip us).length = ks.length) := hid (by rw [List.length_zip, hul, Nat.min_self])
 clear hK hV
 gi_wp2
 gi_loopw [10] (fun i wr => ∃ k : Nat, k <= ks.length /\ i = .int .i64 k /\ Hid (J ((ks.zip us).take k) wr) /\ Hid (KIn S W wr)) (fun i _ => ks.length - (intOf i).toNat)
 case atStart => exact ⟨0, Nat.zero_le _, rfl, h0, KIn.refl _ _⟩
 case round =>
  obtain ⟨k, hk, rfl, HJ, HKI⟩ := hrel
  by_cases hlt : k < ks.length
  .have hlti : (k : Int) < ks.length := by omega
   obtain ⟨kg, kc2, ke, _, _, _⟩ := own_shape HK.out (by omega)
   obtain ⟨vg, vc2, ve, _, _, _⟩ := own_shape HV.out (by omega)
   rw [hkf] at ke
   rw [hvf] at ve
   injection ke with ke _ ke3
   injection ve with ve _ ve3
   subst ke ve ke3 ve3
   have hil : k < (ks.zip us).length := by rw [HL.out]; exact hlt
   have HTK : Hid ((ks.zip us).take (k + 1) = (ks.zip us).take k ++ [(ks.zip us)[k]]) := hid (by rw [List.take_add_one, List.getElem?_eq_getElem hil]; rfl)
   have k0 := (World.cell?_of_block (a := ⟨Bs, 0, none⟩) (HKI.out Bs hBs)).trans c0
   have k2 := (World.cell?_of_block (a := ⟨ob, oo + 1, none⟩) (HKI.out ob hob)).trans c2
   have k3 : wr.cell? ⟨kg, k, none⟩ = some (.int .i64 ks[k]) := (World.cell?_of_block (a := ⟨kg, k, none⟩) (HKI.out kg (hkS kg (by rw [hkf]; rfl)))).trans (own_cells HK.out hkf (by rw [List.getElem?_map, List.getElem?_eq_getElem hlt]; rfl))
   have hu : k < us.length := by omega
   have k4 : wr.cell? ⟨vg, k, none⟩ = some (.int .i64 us[k]) := (World.cell?_of_block (a := ⟨vg, k, none⟩) (HKI.out vg (hvS vg (by rw [hvf]; rfl)))).trans (own_cells HV.out hvf (by rw [List.getElem?_map, List.getElem?_eq_getElem hu]; rfl))
   obtain ⟨fn, tmps, assign, body, hy, hR⟩ := hY _ ((ks.zip us)[k]) wr HJ.out (by rw [List.length_take]; omega)
   rw [<- HTK.out] at hR
   have hit : (ks.zip us)[k] = (ks[k], us[k]) := List.getElem_zip
   rw [hit] at hy
   unfold encP at hy
   dsimp only at hy
   clear hit
   generalize ks[k] = kk at *
   generalize us[k] = uu at *
   clear HTK hil HJ
   gi_wp2
   refine hR.mono ?_
   rintro e W3 (⟨rfl, hJ3, hk3⟩ | ⟨rfl, hJx3⟩)
   .have HJ3 := hid hJ3
    have HK3 := hid (HKI.out.trans hk3)
    clear hy hR hJ3 hk3 HKI
    gi_wp2
    go_roundw
    case rel => exact ⟨k + 1, by omega, by go_num, HJ3, HK3⟩
    case measure => simp [intOf]; omega
   .clear hy hR
    gi_wp2
    refine bodyPost_ret (results_none rfl _ _ _) rfl ?_
    exact ⟨⟨_, rfl⟩, .inr ⟨_, trivial, hJx3⟩⟩
  .obtain rfl : k = ks.length := by omega
   have hJ := HJ.out
   rw [List.take_of_length_le (by rw [HL.out]; exact Nat.le_refl _)] at hJ
   have HJ2 := hid hJ
   have hlti : ¬ (ks.length : Int) < ks.length := by omega
   clear HJ hJ
   gi_wp2
   go_end0
   exact ⟨⟨_, rfl⟩, .inl HJ2.out⟩
theorem all_in_ii (F : Fence) (m : Nat) (h5 : F.fn 66) (hro : F.round = none) (ob oo : Nat) (w : World) :
 CallsIn F m Tryz.prog 66 #[.pointer (some ⟨ob, oo, none⟩)] w fun e w' => e = .returned (.func (.func 83) #[] #[.pointer (some ⟨w.heap.size, 0, none⟩)]) /\ w' = w.alloc (.cells #[.pointer (some ⟨ob, oo, none⟩)] 176) := by
 refine callsIn_of_wp Tryz.func66 rfl h5 ?_ hro
 simp only [Tryz.ntmps66, List.size_toArray, List.length_cons, List.length_nil, Nat.reduceAdd, Nat.reduceSub, Array.replicate_succ, Array.replicate_zero, List.push_toArray, List.append_toArray, List.nil_append, List.cons_append]
 gi_wp2
 go_ret
 exact ⟨rfl, rfl⟩
theorem all1_iv (F : Fence) (m : Nat) (h6 : F.fn 84) (hro : F.round = none) (hm : 1 <= m) (l Bs ob oo : Nat) (B : Nat) (S : Nat -> Prop) (ks : List Int) (f : Int -> Value × Value) (hff : ∀ y, (∃ a n c, (f y).1 = .slice a n c) /\ ∃ a n c, (f y).2 = .slice a n c) (kv vv : Value) (hBs : S Bs) (hob : S ob) (hkS : ∀ g, kv.ownBlock = some g -> S g) (hvS : ∀ g, vv.ownBlock = some g -> S g) (hn : ks.length <= 1048576) (J Jx : List { y : Int // y ∈ ks } -> World -> Prop)
 (hY : ∀ pre x W, J pre W -> pre.length < ks.length -> YieldAt F (m - 1) Tryz.prog l ((encV f ks) x) W fun e W' =>
  (e = .returned (.bool true) /\ J (pre ++ [x]) W' /\ KIn S W W') \/ (e = .returned (.bool false) /\ Jx (pre ++ [x]) W'))
 (W : World) (c0 : W.cell? ⟨Bs, 0, none⟩ = some (.pointer (some ⟨ob, oo, none⟩))) (c1 : W.cell? ⟨ob, oo, none⟩ = some kv) (c2 : W.cell? ⟨ob, oo + 1, none⟩ = some vv) (hK : W.ownsRow B 3 1 kv ks.length (ks.map (Value.int .i64))) (hV : W.ownsRow B 155 2 vv ks.length (ks.flatMap (fun y => [(f y).1, (f y).2]))) (h0 : J [] W) :
 CallsIn F m Tryz.prog 84 #[.func (.yield l) #[] #[], .pointer (some ⟨Bs, 0, none⟩)] W fun e W' => (∃ v, e = .returned v) /\
  ((∃ ys, ys = ks.attach /\ J ys W') \/ (∃ pre, True /\ Jx pre W')) := by
 refine callsIn_of_wp Tryz.func84 rfl h6 ?_ hro
 simp only [Tryz.ntmps84, List.size_toArray, List.length_cons, List.length_nil, Nat.reduceAdd, Nat.reduceSub, Array.replicate_succ, Array.replicate_zero, List.push_toArray, List.append_toArray, List.nil_append, List.cons_append]
 obtain ⟨ka, kc, hkf⟩ := formR hK
 obtain ⟨va, vc, hvf⟩ := formR hV
 have HK := hid hK
 have HV := hid hV
 rw [hkf] at c1
 rw [hvf] at c2
 have HL : Hid ((ks.attach).length = ks.length) := hid (by rw [List.length_attach])
 clear hK hV
 gi_wp2
 gi_loopw [10] (fun i wr => ∃ k : Nat, k <= ks.length /\ i = .int .i64 k /\ Hid (J ((ks.attach).take k) wr) /\ Hid (KIn S W wr)) (fun i _ => ks.length - (intOf i).toNat)
 case atStart => exact ⟨0, Nat.zero_le _, rfl, h0, KIn.refl _ _⟩
 case round =>
  obtain ⟨k, hk, rfl, HJ, HKI⟩ := hrel
  by_cases hlt : k < ks.length
  .have hlti : (k : Int) < ks.length := by omega
   obtain ⟨kg, kc2, ke, _, _, _⟩ := own_shape HK.out (by omega)
   obtain ⟨vg, vc2, ve, _, _, _⟩ := own_shape HV.out (by omega)
   rw [hkf] at ke
   rw [hvf] at ve
   injection ke with ke _ ke3
   injection ve with ve _ ve3
   subst ke ve ke3 ve3
   have hil : k < (ks.attach).length := by rw [HL.out]; exact hlt
   have HTK : Hid ((ks.attach).take (k + 1) = (ks.attach).take k ++ [(ks.attach)[k]]) := hid (by rw [List.take_add_one, List.getElem?_eq_getElem hil]; rfl)
   have k0 := (World.cell?_of_block (a := ⟨Bs, 0, none⟩) (HKI.out Bs hBs)).trans c0
   have k2 := (World.cell?_of_block (a := ⟨ob, oo + 1, none⟩) (HKI.out ob hob)).trans c2
   have k3 : wr.cell? ⟨kg, k, none⟩ = some (.int .i64 ks[k]) := (World.cell?_of_block (a := ⟨kg, k, none⟩) (HKI.out kg (hkS kg (by rw [hkf]; rfl)))).trans (own_cells HK.out hkf (by rw [List.getElem?_map, List.getElem?_eq_getElem hlt]; rfl))
   have hvc := (World.cell?_of_block (a := ⟨vg, k * 2, none⟩) (HKI.out vg (hvS vg (by rw [hvf]; rfl)))).trans (own_cells HV.out hvf (flatN (K := 2) (f := fun y => [(f y).1, (f y).2]) (fun _ => rfl) ks k hlt 0 (by omega)))
   have hvd := (World.cell?_of_block (a := ⟨vg, k * 2 + 1, none⟩) (HKI.out vg (hvS vg (by rw [hvf]; rfl)))).trans (own_cells HV.out hvf (flatN (K := 2) (f := fun y => [(f y).1, (f y).2]) (fun _ => rfl) ks k hlt 1 (by omega)))
   have k4 : wr.cell? ⟨vg, k * 2, none⟩ = some (f ks[k]).1 := hvc
   have k5 : wr.cell? ⟨vg, k * 2 + 1, none⟩ = some (f ks[k]).2 := hvd
   clear hvc hvd
   obtain ⟨fn, tmps, assign, body, hy, hR⟩ := hY _ ((ks.attach)[k]) wr HJ.out (by rw [List.length_take]; omega)
   rw [<- HTK.out] at hR
   have hit : (ks.attach[k]).1 = ks[k] := by simp
   unfold encV at hy
   rw [hit] at hy
   obtain ⟨⟨a1, n1, q1, e1⟩, a2, n2, q2, e2⟩ := hff ks[k]
   rw [e1] at hy k4
   rw [e2] at hy k5
   clear e1 e2 hit
   generalize ks[k] = kk at *
   clear HTK hil HJ
   gi_wp2
   refine hR.mono ?_
   rintro e W3 (⟨rfl, hJ3, hk3⟩ | ⟨rfl, hJx3⟩)
   .have HJ3 := hid hJ3
    have HK3 := hid (HKI.out.trans hk3)
    clear hy hR hJ3 hk3 HKI
    gi_wp2
    go_roundw
    case rel => exact ⟨k + 1, by omega, by go_num, HJ3, HK3⟩
    case measure => simp [intOf]; omega
   .clear hy hR
    gi_wp2
    refine bodyPost_ret (results_none rfl _ _ _) rfl ?_
    exact ⟨⟨_, rfl⟩, .inr ⟨_, trivial, hJx3⟩⟩
  .obtain rfl : k = ks.length := by omega
   have hJ := HJ.out
   rw [List.take_of_length_le (by rw [HL.out]; exact Nat.le_refl _)] at hJ
   have HJ2 := hid hJ
   have hlti : ¬ (ks.length : Int) < ks.length := by omega
   clear HJ hJ
   gi_wp2
   go_end0
   exact ⟨⟨_, rfl⟩, .inl HJ2.out⟩
theorem all_in_iv (F : Fence) (m : Nat) (h5 : F.fn 67) (hro : F.round = none) (ob oo : Nat) (w : World) :
 CallsIn F m Tryz.prog 67 #[.pointer (some ⟨ob, oo, none⟩)] w fun e w' => e = .returned (.func (.func 84) #[] #[.pointer (some ⟨w.heap.size, 0, none⟩)]) /\ w' = w.alloc (.cells #[.pointer (some ⟨ob, oo, none⟩)] 178) := by
 refine callsIn_of_wp Tryz.func67 rfl h5 ?_ hro
 simp only [Tryz.ntmps67, List.size_toArray, List.length_cons, List.length_nil, Nat.reduceAdd, Nat.reduceSub, Array.replicate_succ, Array.replicate_zero, List.push_toArray, List.append_toArray, List.nil_append, List.cons_append]
 gi_wp2
 go_ret
 exact ⟨rfl, rfl⟩
end Go.Proofs.YtblkgicbimflhaaGreat
