import Derived.Test.YtblkgicbimflhaaGreatSBR
import Derived.Test.YtblkgicbimflhaaGreatSAW
import Derived.Test.YtblkgicbimflhaaGreatSAJ
namespace Go.Proofs.YtblkgicbimflhaaGreat
open Go.ChangeShapes Go.WideShapes Go.ChangeAt Go.RowKit
set_option linter.unusedVariables false
set_option linter.unusedSimpArgs false
set_option maxRecDepth 100000
set_option maxHeartbeats 16000000
theorem stS_out {nw ps : List Sn} {o : Opn} {a : Obn} (h : o.ss < 1 \/ 4 < o.ss) : stepS nw ps o a = (nw, ps) := by unfold stepS; rw [if_pos h]
theorem stS_bad {nw ps : List Sn} {o : Opn} {a : Obn} (h : ¬ (o.ss < 1 \/ 4 < o.ss)) (hc : a.code ≠ 0) (h6 : ¬ o.kd = 6) : stepS nw ps o a = (nw, ps) := by unfold stepS; rw [if_neg h, if_pos hc, if_neg h6]
theorem stS_bad6 {nw ps : List Sn} {o : Opn} {a : Obn} (h : ¬ (o.ss < 1 \/ 4 < o.ss)) (hc : a.code ≠ 0) (h6 : o.kd = 6) : stepS nw ps o a = (nw.set o.ss.toNat sn0, ps) := by unfold stepS; rw [if_neg h, if_pos hc, if_pos h6]
theorem stS_1 {nw ps : List Sn} {o : Opn} {a : Obn} (h : ¬ (o.ss < 1 \/ 4 < o.ss)) (hc : a.code = 0) (hk : o.kd = 1) : stepS nw ps o a = (nw.set o.ss.toNat ⟨true, false, a.st, 0, [], rd0, ll0⟩, ps) := by unfold stepS; rw [if_neg h, if_neg (by omega), if_pos hk]
theorem stS_3 {nw ps : List Sn} {o : Opn} {a : Obn} {u : Sn} (h : ¬ (o.ss < 1 \/ 4 < o.ss)) (hc : a.code = 0) (hk : o.kd = 3) (hu : nw.getD o.ss.toNat sn0 = u) : stepS nw ps o a = (nw.set o.ss.toNat { u with td := u.td.set o.tb.toNat true, ls := u.ls.set o.tb.toNat a.ps }, ps) := by unfold stepS; rw [if_neg h, if_neg (by omega), if_neg (by omega), if_pos hk, hu]
theorem stS_45 {nw ps : List Sn} {o : Opn} {a : Obn} {u : Sn} (h : ¬ (o.ss < 1 \/ 4 < o.ss)) (hc : a.code = 0) (hk : o.kd = 4 \/ o.kd = 5) (hu : nw.getD o.ss.toNat sn0 = u) : stepS nw ps o a = (nw.set o.ss.toNat { u with td := u.td.set o.tb.toNat false, ks := u.ks ++ [(o.tb, o.ky)] }, ps) := by unfold stepS; rw [if_neg h, if_neg (by omega), if_neg (by omega), if_neg (by omega), if_pos hk, hu]
theorem stS_9 {nw ps : List Sn} {o : Opn} {a : Obn} {u : Sn} (h : ¬ (o.ss < 1 \/ 4 < o.ss)) (hc : a.code = 0) (hk : o.kd = 9) (hu : nw.getD o.ss.toNat sn0 = u) : stepS nw ps o a = (nw.set o.ss.toNat { u with un := true, td := rd0 }, ps) := by unfold stepS; rw [if_neg h, if_neg (by omega), if_neg (by omega), if_neg (by omega), if_neg (by omega), if_pos hk, hu]
theorem stS_6 {nw ps : List Sn} {o : Opn} {a : Obn} {u : Sn} (h : ¬ (o.ss < 1 \/ 4 < o.ss)) (hc : a.code = 0) (hk : o.kd = 6) (hu : nw.getD o.ss.toNat sn0 = u) : stepS nw ps o a = (nw.set o.ss.toNat sn0, ps ++ [{ u with cm := a.st }]) := by unfold stepS; rw [if_neg h, if_neg (by omega), if_neg (by omega), if_neg (by omega), if_neg (by omega), if_neg (by omega), if_pos hk, hu]
theorem stS_7 {nw ps : List Sn} {o : Opn} {a : Obn} (h : ¬ (o.ss < 1 \/ 4 < o.ss)) (hc : a.code = 0) (hk : o.kd = 7) : stepS nw ps o a = (nw.set o.ss.toNat sn0, ps) := by unfold stepS; rw [if_neg h, if_neg (by omega), if_neg (by omega), if_neg (by omega), if_neg (by omega), if_neg (by omega), if_neg (by omega), if_pos hk]
theorem stS_0 {nw ps : List Sn} {o : Opn} {a : Obn} {u : Sn} (h : ¬ (o.ss < 1 \/ 4 < o.ss)) (hc : a.code = 0) (h1 : o.kd ≠ 1) (h3 : o.kd ≠ 3) (h4 : o.kd ≠ 4) (h5 : o.kd ≠ 5) (h6 : o.kd ≠ 6) (h7 : o.kd ≠ 7) (h9 : o.kd ≠ 9) (hu : nw.getD o.ss.toNat sn0 = u) : stepS nw ps o a = (nw.set o.ss.toNat u, ps) := by unfold stepS; rw [if_neg h, if_neg (by omega), if_neg h1, if_neg h3, if_neg (by omega), if_neg h9, if_neg h6, if_neg h7, hu]
structure DN (W0 : World) (gn : Nat) (os : List Opn) (k : Nat) (nw : List Sn) (vs : List (Value × Value × Value)) (s : Nat) (o : Opn) (bo bx : Nat) (n : Sn) (v : Value × Value × Value) (pv : Value) (ps : List (Sn × (Value × Value × Value))) (wx : World) : Prop where
 lq : LQ W0.heap.size W0 wx gn nw vs s n v bx
 pm : PM W0.heap.size wx pv ps
 pn : pv.ownBlock ≠ some gn
 bel : Below W0.heap.size W0 wx
 bo : Blk wx bo (opK o)
 si : SI (runsF bas0 (os.take (k + 1))).1 (nw.set s n) (ps.map Prod.fst)
 nk : n.ks.length <= k + 1
 pb : ∀ p ∈ ps, p.1.ks.length <= k + 1
 pl : ps.length <= k + 1
theorem SnM.form {B : Nat} {W0 w : World} {n : Sn} {v : Value × Value × Value} (h : SnM B W0 w n v) : ∃ a c a2 m2 c2 a3 m3 c3, v = (.slice a n.ks.length c, .slice a2 m2 c2, .slice a3 m3 c3) := by
 obtain ⟨a, c, e, _⟩ := h.ks.1
 obtain ⟨a2, m2, c2, e2⟩ := h.tf.1
 obtain ⟨a3, m3, c3, e3⟩ := h.lf.1
 obtain ⟨v1, v2, v3⟩ := v
 simp only at e e2 e3
 exact ⟨a, c, a2, m2, c2, a3, m3, c3, by rw [e, e2, e3]⟩
theorem LL.done {W0 : World} {gn : Nat} {os : List Opn} {k : Nat} {wr wx : World} {nw : List Sn} {vs : List (Value × Value × Value)} {pv pv' : Value} {ps ps' : List (Sn × (Value × Value × Value))} {s bo bx : Nat} {o : Opn} {op un : Bool} {bg cm : Int} {ks : List (Int × Int)} {td : List Bool} {ls : List (List (Int × Int))} {v1 v2 v3 : Value} (h : LL W0 gn os k wr nw vs pv ps) (hd : DN W0 gn os k nw vs s o bo bx ⟨op, un, bg, cm, ks, td, ls⟩ (v1, v2, v3) pv' ps' wx) (hs : s < 5) :
 LL W0 gn os (k + 1) (((((((wx.setCell ⟨gn, s * 7, none⟩ (.bool op)).setCell ⟨gn, s * 7 + 1, none⟩ (.bool un)).setCell ⟨gn, s * 7 + 2, none⟩ (.int .i64 bg)).setCell ⟨gn, s * 7 + 3, none⟩ (.int .i64 cm)).setCell ⟨gn, s * 7 + 4, none⟩ v1).setCell ⟨gn, s * 7 + 5, none⟩ v2).setCell ⟨gn, s * 7 + 6, none⟩ v3) (nw.set s ⟨op, un, bg, cm, ks, td, ls⟩) (vs.set s (v1, v2, v3)) pv' ps' := by
 have := h.put hd.lq.toLR hs hd.pm hd.pn hd.bel hd.si hd.nk hd.pb hd.pl
 rw [show snV ⟨op, un, bg, cm, ks, td, ls⟩ (v1, v2, v3) = [.bool op, .bool un, .int .i64 bg, .int .i64 cm, v1, v2, v3] from rfl, setW7] at this
 exact this
theorem LQ.put2 {B : Nat} {W0 w w' : World} {gn : Nat} {nw : List Sn} {vs : List (Value × Value × Value)} {s : Nat} {n n' : Sn} {v v' : Value × Value × Value} {bx : Nat} (h : LQ B W0 w gn nw vs s n v bx) (hf : Fr (fun g => g = bx) w w') (hb : Blk w' bx (snV n' v')) (ht : tag w' bx 47) (hm : SnM B W0 w' n' v') (he : ∀ g, v'.2.1.ownBlock = some g -> v.2.1.ownBlock = some g \/ w.heap.size <= g) (hl : ∀ g, v'.2.2.ownBlock = some g -> v.2.2.ownBlock = some g \/ w.heap.size <= g) : LQ B W0 w' gn nw vs s n' v' bx := by
 have k : ∀ {ty g : Nat}, ty ≠ 47 -> g = bx -> ¬ tag w g ty := fun hne hg ht => tag_ne ht (hg ▸ h.bt) hne rfl
 have hmm : ∀ {u q}, SnM B W0 w u q -> SnM B W0 w' u q := fun z => z.fr hf (fun g hg => k (by decide) hg) (fun g hg ht => (k (by decide) hg ht).elim) (fun g hg ht => (k (by decide) hg ht).elim)
 have hlt : ∀ i q, i ≠ s -> vs[i]? = some q -> ∃ u, SnM B W0 w u q := fun i q hi hq => by
  have h5 := h.n5
  have h6 := h.m5
  have hl : i < nw.length := by have := (List.getElem?_eq_some_iff.1 hq).1; omega
  exact ⟨_, h.sm i _ q hi (List.getElem?_eq_getElem hl) hq⟩
 refine ⟨⟨h.n5, h.m5, h.xs.fr hf (tag_lt h.gt) (fun e => h.bn e.symm), tag_fr h.gt hf (fun e => h.bn e.symm), h.gB, fun i u q hi hu hq => hmm (h.sm i u q hi hu hq), hm, h.dt, h.dl, fun i q hi hq g hg => ?_, fun i q hi hq g hg => ?_⟩, hb, ht, h.bn⟩
 .rcases he g hg with z | z
  .exact h.et i q hi hq g z
  .intro e
   obtain ⟨u, hu⟩ := hlt i q hi hq
   have := hu.tf.2 g e
   omega
 .rcases hl g hg with z | z
  .exact h.el i q hi hq g z
  .intro e
   obtain ⟨u, hu⟩ := hlt i q hi hq
   have := hu.lf.2 g e
   omega
def t32 : List Value := rd0.map Value.bool
def l32 : List Value := List.replicate 32 (.slice none 0 0)
theorem infoBoo2 : (Tryz.prog.info? 4).map (fun i => (i.zero, i.size, i.bytes)) = some (some (.bool false), 1, 1) := by kernel_rfl
theorem infoPs : (Tryz.prog.info? 36).map (fun i => (i.zero, i.size, i.bytes)) = some (some (.slice none 0 0), 1, 24) := by kernel_rfl
theorem mk32b (W : World) : (Instr.makeSlice 39 (.int .i64 32) (.int .i64 32)).run Tryz.prog W = .ok (.slice (some ⟨W.heap.size, 0, none⟩) 32 32) (W.alloc (.cells t32.toArray 4)) := by
 obtain ⟨i0, hi, hz0, hz1, hz2⟩ := info_parts infoBoo2
 have h := run_makeSlice W 39 4 i0 _ Tryz.underlying39 hi hz0 .i64 .i64 32 32 (by decide) (by decide) (by rw [hz1]; decide) (by rw [hz2]; decide) (by decide)
 rw [hz1] at h
 have e : madeCells (Value.bool false).cells (Int.toNat 32 * 1) = t32.toArray := by first | rfl | kernel_rfl | decide
 rw [e] at h
 exact h
theorem mk32l (W : World) : (Instr.makeSlice 45 (.int .i64 32) (.int .i64 32)).run Tryz.prog W = .ok (.slice (some ⟨W.heap.size, 0, none⟩) 32 32) (W.alloc (.cells l32.toArray 36)) := by
 obtain ⟨i0, hi, hz0, hz1, hz2⟩ := info_parts infoPs
 have h := run_makeSlice W 45 36 i0 _ Tryz.underlying45 hi hz0 .i64 .i64 32 32 (by decide) (by decide) (by rw [hz1]; decide) (by rw [hz2]; decide) (by decide)
 rw [hz1] at h
 have e : madeCells (Value.slice none 0 0).cells (Int.toNat 32 * 1) = l32.toArray := by first | rfl | kernel_rfl | decide
 rw [e] at h
 exact h
theorem infoK2 : (Tryz.prog.info? 48).map (fun i => (i.zero, i.size, i.bytes)) = some (some (.agg #[.int .i64 0, .int .i64 0]), 2, 16) := by kernel_rfl
theorem l32_len : l32.length = 32 := by unfold l32; rw [List.length_replicate]
theorem l32_at (k : Nat) : l32.getD k (.slice none 0 0) = .slice none 0 0 := by
 unfold l32
 rw [List.getD_eq_getElem?_getD, List.getElem?_replicate]
 split <;> rfl
theorem ll0_at (k : Nat) : ll0.getD k [] = [] := by
 unfold ll0
 rw [List.getD_eq_getElem?_getD, List.getElem?_replicate]
 split <;> rfl
theorem rs_nilN {α : Type} (k : Nat) (C : Nat -> World -> List Value -> α -> Prop) (B : Nat) (w : World) : RS k C B w (.slice none 0 0) ([] : List α) := ⟨none, 0, rfl, fun h => absurd h (by simp)⟩
theorem snm1 {B : Nat} {W0 w : World} {st : Int} {gt gl : Nat} (h1 : B <= gt) (h2 : B <= gl) (t1 : tag w gt 4) (t2 : tag w gl 36) (b1 : Blk w gt t32) (b2 : Blk w gl l32) : SnM B W0 w ⟨true, false, st, 0, [], rd0, ll0⟩ (.slice none 0 0, .slice (some ⟨gt, 0, none⟩) 32 32, .slice (some ⟨gl, 0, none⟩) 32 32) :=
 ⟨TL.nil _ _ _ _, fun _ => ⟨gt, rfl, h1, t1, b1⟩, ⟨⟨_, _, _, rfl⟩, fun g hg => by simp [Value.ownBlock] at hg; rw [<- hg]; exact tag_lt t1⟩, fun _ => ⟨gl, l32, rfl, h2, t2, b2, l32_len, fun k _ => by rw [l32_at, ll0_at]; exact rs_nilN _ _ _ _⟩, ⟨⟨_, _, _, rfl⟩, fun g hg => by simp [Value.ownBlock] at hg; rw [<- hg]; exact tag_lt t2⟩⟩
theorem SnM.forget {B : Nat} {W0 w : World} {n : Sn} {v : Value × Value × Value} (h : SnM B W0 w n v) {gt : Nat} (h1 : B <= gt) (t1 : tag w gt 4) (b1 : Blk w gt t32) : SnM B W0 w { n with un := true, td := rd0 } (v.1, .slice (some ⟨gt, 0, none⟩) 32 32, v.2.2) :=
 ⟨h.ks, fun _ => ⟨gt, rfl, h1, t1, b1⟩, ⟨⟨_, _, _, rfl⟩, fun g hg => by simp [Value.ownBlock] at hg; rw [<- hg]; exact tag_lt t1⟩, h.ls, h.lf⟩
theorem SnM.keys {B : Nat} {W0 w : World} {n : Sn} {v : Value × Value × Value} (h : SnM B W0 w n v) {ks : List (Int × Int)} {kv : Value} (hk : TL 48 2 CPr w kv ks) : SnM B W0 w { n with ks := ks } (kv, v.2.1, v.2.2) := ⟨hk, h.td, h.tf, h.ls, h.lf⟩
theorem blk_set7N {w : World} {g : Nat} {a b c d e f h : Value} {cs : List Value} (hk : Blk w g cs) (hl : cs.length = 7) : Blk (((((((w.setCell ⟨g, 0, none⟩ a).setCell ⟨g, 1, none⟩ b).setCell ⟨g, 2, none⟩ c).setCell ⟨g, 3, none⟩ d).setCell ⟨g, 4, none⟩ e).setCell ⟨g, 5, none⟩ f).setCell ⟨g, 6, none⟩ h) g [a, b, c, d, e, f, h] := by
 match cs, hl with
 | [q0, q1, q2, q3, q4, q5, q6], _ =>
   exact ((((((hk.set 0 a (by simp)).set 1 b (by simp)).set 2 c (by simp)).set 3 d (by simp)).set 4 e (by simp)).set 5 f (by simp)).set 6 h (by simp)
theorem fr_set7N (w : World) (g : Nat) (a b c d e f h : Value) : Fr (fun q => q = g) w (((((((w.setCell ⟨g, 0, none⟩ a).setCell ⟨g, 1, none⟩ b).setCell ⟨g, 2, none⟩ c).setCell ⟨g, 3, none⟩ d).setCell ⟨g, 4, none⟩ e).setCell ⟨g, 5, none⟩ f).setCell ⟨g, 6, none⟩ h) := fr_setW g [a, b, c, d, e, f, h] 0 w
theorem tag_set7N {w : World} {g q ty : Nat} {a b c d e f h : Value} (ht : tag w q ty) : tag (((((((w.setCell ⟨g, 0, none⟩ a).setCell ⟨g, 1, none⟩ b).setCell ⟨g, 2, none⟩ c).setCell ⟨g, 3, none⟩ d).setCell ⟨g, 4, none⟩ e).setCell ⟨g, 5, none⟩ f).setCell ⟨g, 6, none⟩ h) q ty := tag_setW (g := g) [a, b, c, d, e, f, h] 0 w ht
theorem size_set7N (w : World) (g : Nat) (a b c d e f h : Value) : (((((((w.setCell ⟨g, 0, none⟩ a).setCell ⟨g, 1, none⟩ b).setCell ⟨g, 2, none⟩ c).setCell ⟨g, 3, none⟩ d).setCell ⟨g, 4, none⟩ e).setCell ⟨g, 5, none⟩ f).setCell ⟨g, 6, none⟩ h).heap.size = w.heap.size := by simp
structure DB (W0 : World) (gn : Nat) (os : List Opn) (k : Nat) (nw : List Sn) (vs : List (Value × Value × Value)) (s : Nat) (o : Opn) (bo bx : Nat) (n : Sn) (v : Value × Value × Value) (pv : Value) (ps : List (Sn × (Value × Value × Value))) (w : World) : Prop where
 lq : LQ W0.heap.size W0 w gn nw vs s n v bx
 pm : PM W0.heap.size w pv ps
 pn : pv.ownBlock ≠ some gn
 px : pv.ownBlock ≠ some bx
 bel : Below W0.heap.size W0 w
 ob : Blk w bo (opK o)
 bl : bo < w.heap.size
 ot : tag w bo 41
 bb : bo ≠ bx
 bg : bo ≠ gn
 bp : pv.ownBlock ≠ some bo
 bB : W0.heap.size <= bx
 nk : n.ks.length <= k
 pb : ∀ p ∈ ps, p.1.ks.length <= k
 pl : ps.length <= k
theorem DB.fin {W0 : World} {gn : Nat} {os : List Opn} {k : Nat} {nw : List Sn} {vs : List (Value × Value × Value)} {s : Nat} {o : Opn} {bo bx : Nat} {n : Sn} {v : Value × Value × Value} {pv : Value} {ps : List (Sn × (Value × Value × Value))} {w w' : World} (h : DB W0 gn os k nw vs s o bo bx n v pv ps w) {n' : Sn} {v' : Value × Value × Value} (hq : LQ W0.heap.size W0 w' gn nw vs s n' v' bx) {S : Nat -> Prop} (hf : Fr S w w') (hS : ∀ g, S g -> W0.heap.size <= g /\ g ≠ bo /\ pv.ownBlock ≠ some g /\ ¬ tag w g 48) (hsi : SI (runsF bas0 (os.take (k + 1))).1 (nw.set s n') (ps.map Prod.fst)) (hn : n'.ks.length <= k + 1) : DN W0 gn os k nw vs s o bo bx n' v' pv ps w' :=
 ⟨hq, h.pm.fr hf (fun g hg => (hS g hg).2.2.2) (fun g hg z => (hS g z).2.2.1 hg), h.pn, h.bel.trans (hf.below h.bel.size (fun g hg => (hS g hg).1)), h.ob.fr hf h.bl (fun z => (hS bo z).2.1 rfl), hsi, hn, fun p hp => Nat.le_succ_of_le (h.pb p hp), Nat.le_succ_of_le h.pl⟩
theorem DB.sx {W0 : World} {gn : Nat} {os : List Opn} {k : Nat} {nw : List Sn} {vs : List (Value × Value × Value)} {s : Nat} {o : Opn} {bo bx : Nat} {n : Sn} {v : Value × Value × Value} {pv : Value} {ps : List (Sn × (Value × Value × Value))} {w : World} (h : DB W0 gn os k nw vs s o bo bx n v pv ps w) : ∀ g, g = bx -> W0.heap.size <= g /\ g ≠ bo /\ pv.ownBlock ≠ some g /\ ¬ tag w g 48 := fun g hg => by
 subst hg
 exact ⟨h.bB, h.bb.symm, h.px, fun ht => tag_ne ht h.lq.bt (by decide) rfl⟩
theorem DB.arm1 {W0 : World} {gn : Nat} {os : List Opn} {k : Nat} {nw : List Sn} {vs : List (Value × Value × Value)} {s : Nat} {o : Opn} {bo bx : Nat} {n : Sn} {v : Value × Value × Value} {pv : Value} {ps : List (Sn × (Value × Value × Value))} {w w2 : World} (h : DB W0 gn os k nw vs s o bo bx n v pv ps w) {st : Int} {gt gl : Nat} (hsi : SI (runsF bas0 (os.take (k + 1))).1 (nw.set s ⟨true, false, st, 0, [], rd0, ll0⟩) (ps.map Prod.fst)) (h1 : w.heap.size <= gt) (h2 : w.heap.size <= gl) (hb2 : Below w.heap.size (((((((w.setCell ⟨bx, 0, none⟩ (.bool true)).setCell ⟨bx, 1, none⟩ (.bool false)).setCell ⟨bx, 2, none⟩ (.int .i64 st)).setCell ⟨bx, 3, none⟩ (.int .i64 0)).setCell ⟨bx, 4, none⟩ (.slice none 0 0)).setCell ⟨bx, 5, none⟩ (.slice (some ⟨gt, 0, none⟩) 32 32)).setCell ⟨bx, 6, none⟩ (.slice (some ⟨gl, 0, none⟩) 32 32)) w2) (t1 : tag w2 gt 4) (t2 : tag w2 gl 36) (b1 : Blk w2 gt t32) (b2 : Blk w2 gl l32) : DN W0 gn os k nw vs s o bo bx ⟨true, false, st, 0, [], rd0, ll0⟩ (.slice none 0 0, .slice (some ⟨gt, 0, none⟩) 32 32, .slice (some ⟨gl, 0, none⟩) 32 32) pv ps w2 := by
 have hw := h.bel.size
 have hlx := tag_lt h.lq.bt
 have hf := (fr_set7N w bx (.bool true) (.bool false) (.int .i64 st) (.int .i64 0) (.slice none 0 0) (.slice (some ⟨gt, 0, none⟩) 32 32) (.slice (some ⟨gl, 0, none⟩) 32 32)).trans (Fr.of_below _ (by rw [size_set7N]; exact hb2))
 have hB := blk_set7N (a := .bool true) (b := .bool false) (c := .int .i64 st) (d := .int .i64 0) (e := .slice none 0 0) (f := .slice (some ⟨gt, 0, none⟩) 32 32) (h := .slice (some ⟨gl, 0, none⟩) 32 32) h.lq.bk rfl
 have hT := tag_set7N (g := bx) (a := .bool true) (b := .bool false) (c := .int .i64 st) (d := .int .i64 0) (e := .slice none 0 0) (f := .slice (some ⟨gt, 0, none⟩) 32 32) (h := .slice (some ⟨gl, 0, none⟩) 32 32) h.lq.bt
 have hb3 := hb2
 rw [<- size_set7N w bx (.bool true) (.bool false) (.int .i64 st) (.int .i64 0) (.slice none 0 0) (.slice (some ⟨gt, 0, none⟩) 32 32) (.slice (some ⟨gl, 0, none⟩) 32 32)] at hb3
 refine h.fin (h.lq.put2 hf (hB.below hb3 (tag_lt hT)) (tag_below hT hb3) (snm1 (by omega) (by omega) t1 t2 b1 b2) (fun g hg => ?_) (fun g hg => ?_)) hf h.sx hsi (by simp)
 .simp [Value.ownBlock] at hg; exact .inr (by omega)
 .simp [Value.ownBlock] at hg; exact .inr (by omega)
theorem DB.arm7 {W0 : World} {gn : Nat} {os : List Opn} {k : Nat} {nw : List Sn} {vs : List (Value × Value × Value)} {s : Nat} {o : Opn} {bo bx : Nat} {n : Sn} {v : Value × Value × Value} {pv : Value} {ps : List (Sn × (Value × Value × Value))} {w : World} (h : DB W0 gn os k nw vs s o bo bx n v pv ps w) (hsi : SI (runsF bas0 (os.take (k + 1))).1 (nw.set s sn0) (ps.map Prod.fst)) : DN W0 gn os k nw vs s o bo bx sn0 v30 pv ps (((((((w.setCell ⟨bx, 0, none⟩ (.bool false)).setCell ⟨bx, 1, none⟩ (.bool false)).setCell ⟨bx, 2, none⟩ (.int .i64 0)).setCell ⟨bx, 3, none⟩ (.int .i64 0)).setCell ⟨bx, 4, none⟩ (.slice none 0 0)).setCell ⟨bx, 5, none⟩ (.slice none 0 0)).setCell ⟨bx, 6, none⟩ (.slice none 0 0)) := by
 have hf := fr_set7N w bx (.bool false) (.bool false) (.int .i64 0) (.int .i64 0) (.slice none 0 0) (.slice none 0 0) (.slice none 0 0)
 refine h.fin (h.lq.put2 hf (blk_set7N h.lq.bk rfl) (tag_set7N h.lq.bt) (snm0 _ _ _) (fun g hg => ?_) (fun g hg => ?_)) hf h.sx hsi (by simp [sn0])
 .simp [v30, Value.ownBlock] at hg
 .simp [v30, Value.ownBlock] at hg
theorem DB.arm9 {W0 : World} {gn : Nat} {os : List Opn} {k : Nat} {nw : List Sn} {vs : List (Value × Value × Value)} {s : Nat} {o : Opn} {bo bx : Nat} {n : Sn} {v : Value × Value × Value} {pv : Value} {ps : List (Sn × (Value × Value × Value))} {w : World} (h : DB W0 gn os k nw vs s o bo bx n v pv ps w) (hsi : SI (runsF bas0 (os.take (k + 1))).1 (nw.set s { n with un := true, td := rd0 }) (ps.map Prod.fst)) : DN W0 gn os k nw vs s o bo bx { n with un := true, td := rd0 } (v.1, .slice (some ⟨w.heap.size, 0, none⟩) 32 32, v.2.2) pv ps (((w.setCell ⟨bx, 1, none⟩ (.bool true)).setCell ⟨bx, 5, none⟩ (.slice (some ⟨w.heap.size, 0, none⟩) 32 32)).alloc (.cells t32.toArray 4)) := by
 have hw := h.bel.size
 have f1 := (Fr.setCell w bx 1 (.bool true)).trans (Fr.setCell _ bx 5 (.slice (some ⟨w.heap.size, 0, none⟩) 32 32))
 have hsz : ((w.setCell ⟨bx, 1, none⟩ (.bool true)).setCell ⟨bx, 5, none⟩ (.slice (some ⟨w.heap.size, 0, none⟩) 32 32)).heap.size = w.heap.size := by simp
 have ba := below_alloc ((w.setCell ⟨bx, 1, none⟩ (.bool true)).setCell ⟨bx, 5, none⟩ (.slice (some ⟨w.heap.size, 0, none⟩) 32 32)) (.cells t32.toArray 4)
 have hf := f1.trans (Fr.of_below _ ba)
 have hB := (h.lq.bk.set 1 (.bool true) (by simp [snV])).set 5 (.slice (some ⟨w.heap.size, 0, none⟩) 32 32) (by simp [snV])
 have hT : tag ((w.setCell ⟨bx, 1, none⟩ (.bool true)).setCell ⟨bx, 5, none⟩ (.slice (some ⟨w.heap.size, 0, none⟩) 32 32)) bx 47 := tag_set _ (tag_set _ h.lq.bt)
 have bN := blk_new ((w.setCell ⟨bx, 1, none⟩ (.bool true)).setCell ⟨bx, 5, none⟩ (.slice (some ⟨w.heap.size, 0, none⟩) 32 32)) t32 4
 have tN := tag_new ((w.setCell ⟨bx, 1, none⟩ (.bool true)).setCell ⟨bx, 5, none⟩ (.slice (some ⟨w.heap.size, 0, none⟩) 32 32)) t32 4
 rw [hsz] at bN tN
 have kk : ∀ {ty g : Nat}, ty ≠ 47 -> g = bx -> ¬ tag w g ty := fun hne hg ht => tag_ne ht (hg ▸ h.lq.bt) hne rfl
 have hm := h.lq.me.fr hf (fun g hg => kk (by decide) hg) (fun g hg ht => (kk (by decide) hg ht).elim) (fun g hg ht => (kk (by decide) hg ht).elim)
 refine h.fin (h.lq.put2 hf (hB.below ba (tag_lt hT)) (tag_below hT ba) (hm.forget (by omega) tN bN) (fun g hg => ?_) (fun g hg => .inl hg)) hf h.sx hsi (Nat.le_succ_of_le h.nk)
 simp [Value.ownBlock] at hg; exact .inr (by omega)
theorem DB.arm0 {W0 : World} {gn : Nat} {os : List Opn} {k : Nat} {nw : List Sn} {vs : List (Value × Value × Value)} {s : Nat} {o : Opn} {bo bx : Nat} {n : Sn} {v : Value × Value × Value} {pv : Value} {ps : List (Sn × (Value × Value × Value))} {w : World} (h : DB W0 gn os k nw vs s o bo bx n v pv ps w) (hsi : SI (runsF bas0 (os.take (k + 1))).1 (nw.set s n) (ps.map Prod.fst)) : DN W0 gn os k nw vs s o bo bx n v pv ps w :=
 h.fin h.lq (Fr.refl (fun _ => False) w) (fun _ z => z.elim) hsi (Nat.le_succ_of_le h.nk)
theorem DB.ne {W0 : World} {gn : Nat} {os : List Opn} {k : Nat} {nw : List Sn} {vs : List (Value × Value × Value)} {s : Nat} {o : Opn} {bo bx : Nat} {n : Sn} {v : Value × Value × Value} {pv : Value} {ps : List (Sn × (Value × Value × Value))} {w : World} (h : DB W0 gn os k nw vs s o bo bx n v pv ps w) {g ty : Nat} (hB : W0.heap.size <= g) (ht : tag w g ty) (h1 : ty ≠ 41) (h2 : ty ≠ 47) (h3 : ty ≠ 48) : W0.heap.size <= g /\ g ≠ bo /\ pv.ownBlock ≠ some g /\ ¬ tag w g 48 :=
 ⟨hB, tag_ne ht h.ot h1, fun e => tag_ne ht (own_tag h.pm.row e) h2 rfl, fun z => tag_ne ht z h3 rfl⟩
theorem DB.arm3 {W0 : World} {gn : Nat} {os : List Opn} {k : Nat} {nw : List Sn} {vs : List (Value × Value × Value)} {s : Nat} {o : Opn} {bo bx : Nat} {n : Sn} {v : Value × Value × Value} {pv : Value} {ps : List (Sn × (Value × Value × Value))} {w : World} (h : DB W0 gn os k nw vs s o bo bx n v pv ps w) {gt gl t : Nat} (e1 : v.2.1 = .slice (some ⟨gt, 0, none⟩) 32 32) (e2 : v.2.2 = .slice (some ⟨gl, 0, none⟩) 32 32) (l1 : n.td.length = 32) (l2 : n.ls.length = 32) (ht : t < 32) {pw : Value} {qs : List (Int × Int)} (hp : RS 2 CPr 0 W0 pw qs) (hsi : SI (runsF bas0 (os.take (k + 1))).1 (nw.set s { n with td := n.td.set t true, ls := n.ls.set t qs }) (ps.map Prod.fst)) : DN W0 gn os k nw vs s o bo bx { n with td := n.td.set t true, ls := n.ls.set t qs } v pv ps ((w.setCell ⟨gt, t, none⟩ (.bool true)).setCell ⟨gl, t, none⟩ pw) := by
 obtain ⟨g1, q1, hB1, t1, b1⟩ := h.lq.me.td l1
 obtain ⟨g2, pv2, q2, hB2, t2, b2, _⟩ := h.lq.me.ls l2
 rw [e1] at q1
 rw [e2] at q2
 cases q1
 cases q2
 have h1 := h.lq.told e1 l1 ht true
 have h2 := h1.list e2 l2 ht hp
 have hf : Fr (fun g => g = gt \/ g = gl) w ((w.setCell ⟨gt, t, none⟩ (.bool true)).setCell ⟨gl, t, none⟩ pw) := ((Fr.setCell w gt t (.bool true)).mono (fun g z => .inl z)).trans ((Fr.setCell _ gl t pw).mono (fun g z => .inr z))
 refine h.fin h2 hf (fun g hg => ?_) hsi (Nat.le_succ_of_le h.nk)
 rcases hg with rfl | rfl
 .exact h.ne hB1 t1 (by decide) (by decide) (by decide)
 .exact h.ne hB2 t2 (by decide) (by decide) (by decide)
theorem DB.arm45 {W0 : World} {gn : Nat} {os : List Opn} {k : Nat} {nw : List Sn} {vs : List (Value × Value × Value)} {s : Nat} {o : Opn} {bo bx : Nat} {n : Sn} {v : Value × Value × Value} {pv : Value} {ps : List (Sn × (Value × Value × Value))} {w w7 : World} (h : DB W0 gn os k nw vs s o bo bx n v pv ps w) {gt t : Nat} (e1 : v.2.1 = .slice (some ⟨gt, 0, none⟩) 32 32) (l1 : n.td.length = 32) (ht : t < 32) {tb ky : Int} {v2 : Value} {news : List Value} (hb7 : Below (w.setCell ⟨gt, t, none⟩ (.bool false)).heap.size (w.setCell ⟨gt, t, none⟩ (.bool false)) w7) (hfl : Fill 2 CPr 0 n.ks n.ks.length news (w.setCell ⟨gt, t, none⟩ (.bool false))) (ho : w7.ownsRow (w.setCell ⟨gt, t, none⟩ (.bool false)).heap.size 48 2 v2 (n.ks.length + 1) (news ++ [.int .i64 tb, .int .i64 ky])) (hsi : SI (runsF bas0 (os.take (k + 1))).1 (nw.set s { n with td := n.td.set t false, ks := n.ks ++ [(tb, ky)] }) (ps.map Prod.fst)) : DN W0 gn os k nw vs s o bo bx { n with td := n.td.set t false, ks := n.ks ++ [(tb, ky)] } (v2, v.2.1, v.2.2) pv ps (w7.setCell ⟨bx, 4, none⟩ v2) := by
 obtain ⟨g1, q1, hB1, t1, b1⟩ := h.lq.me.td l1
 rw [e1] at q1
 cases q1
 have h1 := (h.lq.told e1 l1 ht false).below hb7
 have hf2 := (hfl.below liesPr hb7).append (fill_one (B := 0) (w := w7) liesPr (t := ((tb, ky) : Int × Int)) rfl)
 have hrs : RS 2 CPr 0 w7 v2 (n.ks ++ [(tb, ky)]) := Fill.own liesPr hf2 (own_base0 (by simpa [pairV] using ho)) (Nat.le_refl _)
 have htl : TL 48 2 CPr w7 v2 (n.ks ++ [(tb, ky)]) := ⟨hrs, fun g o n c hv _ => own_tag ho (by rw [hv]; simp [Value.ownBlock])⟩
 have f3 := Fr.setCell w7 bx 4 v2
 have kk : ∀ {ty g : Nat}, ty ≠ 47 -> g = bx -> ¬ tag w7 g ty := fun hne hg ht => tag_ne ht (hg ▸ h1.bt) hne rfl
 have hm := (h1.me.keys htl).fr f3 (fun g hg => kk (by decide) hg) (fun g hg ht => (kk (by decide) hg ht).elim) (fun g hg ht => (kk (by decide) hg ht).elim)
 have hq := h1.put2 (n' := { n with td := n.td.set t false, ks := n.ks ++ [(tb, ky)] }) (v' := (v2, v.2.1, v.2.2)) f3 (h1.bk.set 4 v2 (by simp [snV])) (tag_set _ h1.bt) hm (fun g hg => .inl hg) (fun g hg => .inl hg)
 have hf : Fr (fun g => g = gt \/ g = bx) w (w7.setCell ⟨bx, 4, none⟩ v2) := (((Fr.setCell w gt t (.bool false)).mono (fun g z => .inl z)).trans (Fr.of_below _ hb7)).trans (f3.mono (fun g z => .inr z))
 refine h.fin hq hf (fun g hg => ?_) hsi (by have := h.nk; simp; omega)
 rcases hg with rfl | hg
 .exact h.ne hB1 t1 (by decide) (by decide) (by decide)
 .exact h.sx g hg
theorem DB.arm6 {W0 : World} {gn : Nat} {os : List Opn} {k : Nat} {nw : List Sn} {vs : List (Value × Value × Value)} {s : Nat} {o : Opn} {bo bx : Nat} {n : Sn} {v : Value × Value × Value} {pv pv' : Value} {ps : List (Sn × (Value × Value × Value))} {w w3 : World} (h : DB W0 gn os k nw vs s o bo bx n v pv ps w) {st : Int} {ob : Obj} (hg : ((w.setCell ⟨bx, 3, none⟩ (.int .i64 st)).alloc ob).grownBy w3 pv.ownBlock) (ho : w3.ownsRow W0.heap.size 47 7 pv' (ps.length + 1) (ps.flatMap (fun p => snV p.1 p.2) ++ snV { n with cm := st } v)) (hat : pv'.ownBlock = pv.ownBlock \/ pv'.ownBlock = some ((w.setCell ⟨bx, 3, none⟩ (.int .i64 st)).alloc ob).heap.size) (hsi : SI (runsF bas0 (os.take (k + 1))).1 (nw.set s sn0) (ps.map Prod.fst ++ [{ n with cm := st }])) :
 DN W0 gn os k nw vs s o bo bx sn0 v30 pv' (ps ++ [({ n with cm := st }, v)]) (((((((w3.setCell ⟨bx, 0, none⟩ (.bool false)).setCell ⟨bx, 1, none⟩ (.bool false)).setCell ⟨bx, 2, none⟩ (.int .i64 0)).setCell ⟨bx, 3, none⟩ (.int .i64 0)).setCell ⟨bx, 4, none⟩ (.slice none 0 0)).setCell ⟨bx, 5, none⟩ (.slice none 0 0)).setCell ⟨bx, 6, none⟩ (.slice none 0 0)) := by
 have f0 := Fr.setCell w bx 3 (.int .i64 st)
 have ba := below_alloc (w.setCell ⟨bx, 3, none⟩ (.int .i64 st)) ob
 have f1 := f0.trans (Fr.of_below _ ba)
 have hk1 : ∀ g, g = bx -> ¬ tag w g 48 := fun g hg => (h.sx g hg).2.2.2
 have p1 := h.pm.fr f1 hk1 (fun g hg z => h.px (by rw [hg, z]))
 have kt := h.lq.me.ks.fr f1 hk1 (fun h => h)
 have p3 := p1.push (n := { n with cm := st }) (v := v) hg ho kt (by
  obtain ⟨a, m, c, e1⟩ := h.lq.me.tf.1
  obtain ⟨a2, m2, c2, e2⟩ := h.lq.me.lf.1
  exact ⟨a, m, c, a2, m2, c2, by rw [<- e1, <- e2]⟩)
 have f3 := Fr.grown hg
 have hlx := tag_lt h.lq.bt
 have hne : ∀ g, pv.ownBlock = some g -> tag w g 47 := fun g hg => own_tag h.pm.row hg
 have hq1 := (h.lq.put2 (n' := { n with cm := st }) (v' := v) f0 (h.lq.bk.set 3 (.int .i64 st) (by simp [snV])) (tag_set _ h.lq.bt) (by
  have kk : ∀ {ty g : Nat}, ty ≠ 47 -> g = bx -> ¬ tag w g ty := fun hne hg ht => tag_ne ht (hg ▸ h.lq.bt) hne rfl
  have hm := h.lq.me.fr f0 (fun g hg => kk (by decide) hg) (fun g hg ht => (kk (by decide) hg ht).elim) (fun g hg ht => (kk (by decide) hg ht).elim)
  exact ⟨hm.ks, hm.td, hm.tf, hm.ls, hm.lf⟩) (fun g hg => .inl hg) (fun g hg => .inl hg)).below ba
 have hq3 := hq1.fr f3 (fun g hg => own_tag p1.row hg) (fun e => h.pn e) (fun e => h.px e)
 have f4 := fr_set7N w3 bx (.bool false) (.bool false) (.int .i64 0) (.int .i64 0) (.slice none 0 0) (.slice none 0 0) (.slice none 0 0)
 have hq4 := hq3.put2 (n' := sn0) (v' := v30) f4 (blk_set7N hq3.bk rfl) (tag_set7N hq3.bt) (snm0 _ _ _) (fun g hg => by simp [v30, Value.ownBlock] at hg) (fun g hg => by simp [v30, Value.ownBlock] at hg)
 have hsz : ((w.setCell ⟨bx, 3, none⟩ (.int .i64 st)).alloc ob).heap.size = w.heap.size + 1 := by simp
 have hpx : pv'.ownBlock ≠ some bx := fun e => by
  rcases hat with z | z
  .exact h.px (z ▸ e)
  .rw [z, hsz] at e; injection e with e; omega
 have hgl := tag_lt h.lq.gt
 have hf : Fr (fun g => g = bx \/ pv.ownBlock = some g) w (((((((w3.setCell ⟨bx, 0, none⟩ (.bool false)).setCell ⟨bx, 1, none⟩ (.bool false)).setCell ⟨bx, 2, none⟩ (.int .i64 0)).setCell ⟨bx, 3, none⟩ (.int .i64 0)).setCell ⟨bx, 4, none⟩ (.slice none 0 0)).setCell ⟨bx, 5, none⟩ (.slice none 0 0)).setCell ⟨bx, 6, none⟩ (.slice none 0 0)) := ((f1.mono (fun g z => .inl z)).trans (f3.mono (fun g z => .inr z))).trans (f4.mono (fun g z => .inl z))
 refine ⟨hq4, p3.fr f4 (fun g hg ht => tag_ne ht (hg ▸ hq3.bt) (by decide) rfl) (fun g hg e => hpx (by rw [hg, e])), fun e => ?_, h.bel.trans (hf.below h.bel.size (fun g hg => ?_)), h.ob.fr hf h.bl (fun z => ?_), by rw [List.map_append]; exact hsi, by simp [sn0], fun p hp => ?_, by have := h.pl; simp; omega⟩
 .rcases hat with z | z
  .exact h.pn (z ▸ e)
  .rw [z, hsz] at e; injection e with e; omega
 .rcases hg with z | z
  .rw [z]; exact h.bB
  .exact (h.pm.row.lt g z).1
 .rcases z with z | z
  .exact h.bb z
  .exact h.bp z
 .rcases List.mem_append.1 hp with z | z
  .exact Nat.le_succ_of_le (h.pb p z)
  .rw [List.mem_singleton] at z; subst z; exact Nat.le_succ_of_le h.nk
theorem DB.arm1a {W0 : World} {gn : Nat} {os : List Opn} {k : Nat} {nw : List Sn} {vs : List (Value × Value × Value)} {s : Nat} {o : Opn} {bo bx : Nat} {n : Sn} {v : Value × Value × Value} {pv : Value} {ps : List (Sn × (Value × Value × Value))} {w : World} (h : DB W0 gn os k nw vs s o bo bx n v pv ps w) {st : Int} (hsi : SI (runsF bas0 (os.take (k + 1))).1 (nw.set s ⟨true, false, st, 0, [], rd0, ll0⟩) (ps.map Prod.fst)) : DN W0 gn os k nw vs s o bo bx ⟨true, false, st, 0, [], rd0, ll0⟩ (.slice none 0 0, .slice (some ⟨w.heap.size, 0, none⟩) 32 32, .slice (some ⟨w.heap.size + 1, 0, none⟩) 32 32) pv ps (((((((((w.setCell ⟨bx, 0, none⟩ (.bool true)).setCell ⟨bx, 1, none⟩ (.bool false)).setCell ⟨bx, 2, none⟩ (.int .i64 st)).setCell ⟨bx, 3, none⟩ (.int .i64 0)).setCell ⟨bx, 4, none⟩ (.slice none 0 0)).setCell ⟨bx, 5, none⟩ (.slice (some ⟨w.heap.size, 0, none⟩) 32 32)).setCell ⟨bx, 6, none⟩ (.slice (some ⟨w.heap.size + 1, 0, none⟩) 32 32)).alloc (.cells t32.toArray 4)).alloc (.cells l32.toArray 36)).drew := by
 have hz := (size_set7N w bx (.bool true) (.bool false) (.int .i64 st) (.int .i64 0) (.slice none 0 0) (.slice (some ⟨w.heap.size, 0, none⟩) 32 32) (.slice (some ⟨w.heap.size + 1, 0, none⟩) 32 32))
 obtain ⟨S, hS⟩ : ∃ z, z = (((((((w.setCell ⟨bx, 0, none⟩ (.bool true)).setCell ⟨bx, 1, none⟩ (.bool false)).setCell ⟨bx, 2, none⟩ (.int .i64 st)).setCell ⟨bx, 3, none⟩ (.int .i64 0)).setCell ⟨bx, 4, none⟩ (.slice none 0 0)).setCell ⟨bx, 5, none⟩ (.slice (some ⟨w.heap.size, 0, none⟩) 32 32)).setCell ⟨bx, 6, none⟩ (.slice (some ⟨w.heap.size + 1, 0, none⟩) 32 32)) := ⟨_, rfl⟩
 have key := fun w2 => h.arm1 (w2 := w2) (st := st) (gt := w.heap.size) (gl := w.heap.size + 1) hsi (by omega) (by omega)
 rw [<- hS] at hz key ⊢
 clear hS
 have b1 := below_alloc S (.cells t32.toArray 4)
 have b2 := below_alloc (S.alloc (.cells t32.toArray 4)) (.cells l32.toArray 36)
 have hz1 : (S.alloc (.cells t32.toArray 4)).heap.size = w.heap.size + 1 := by simp [hz]
 have n1 := blk_new S t32 4
 have n2 := blk_new (S.alloc (.cells t32.toArray 4)) l32 36
 have t1 := tag_new S t32 4
 have t2 := tag_new (S.alloc (.cells t32.toArray 4)) l32 36
 rw [hz] at n1 t1
 rw [hz1] at n2 t2
 have hd := below_drewNt ((S.alloc (.cells t32.toArray 4)).alloc (.cells l32.toArray 36)) 1
 have hz2 : ((S.alloc (.cells t32.toArray 4)).alloc (.cells l32.toArray 36)).heap.size = w.heap.size + 1 + 1 := by simp [hz]
 have m1 := (n1.below b2 (by omega)).below hd (by omega)
 have m2 := n2.below hd (by omega)
 have u1 := tag_below (tag_below t1 b2) hd
 have u2 := tag_below t2 hd
 have B3 : Below w.heap.size S ((S.alloc (.cells t32.toArray 4)).alloc (.cells l32.toArray 36)).drew := by
  have e : S.heap.size = w.heap.size := hz
  rw [<- e]
  exact (b1.trans (b2.mono (by omega))).trans (hd.mono (by omega))
 exact key _ B3 u1 u2 m1 m2
theorem DB.arm1b {W0 : World} {gn : Nat} {os : List Opn} {k : Nat} {nw : List Sn} {vs : List (Value × Value × Value)} {s : Nat} {o : Opn} {bo bx : Nat} {n : Sn} {v : Value × Value × Value} {pv : Value} {ps : List (Sn × (Value × Value × Value))} {w : World} (h : DB W0 gn os k nw vs s o bo bx n v pv ps w) {st : Int} (hsi : SI (runsF bas0 (os.take (k + 1))).1 (nw.set s ⟨true, false, st, 0, [], rd0, ll0⟩) (ps.map Prod.fst)) : DN W0 gn os k nw vs s o bo bx ⟨true, false, st, 0, [], rd0, ll0⟩ (.slice none 0 0, .slice (some ⟨w.heap.size + 1, 0, none⟩) 32 32, .slice (some ⟨w.heap.size, 0, none⟩) 32 32) pv ps (((((((((w.setCell ⟨bx, 0, none⟩ (.bool true)).setCell ⟨bx, 1, none⟩ (.bool false)).setCell ⟨bx, 2, none⟩ (.int .i64 st)).setCell ⟨bx, 3, none⟩ (.int .i64 0)).setCell ⟨bx, 4, none⟩ (.slice none 0 0)).setCell ⟨bx, 5, none⟩ (.slice (some ⟨w.heap.size + 1, 0, none⟩) 32 32)).setCell ⟨bx, 6, none⟩ (.slice (some ⟨w.heap.size, 0, none⟩) 32 32)).alloc (.cells l32.toArray 36)).alloc (.cells t32.toArray 4)).drew := by
 have hz := (size_set7N w bx (.bool true) (.bool false) (.int .i64 st) (.int .i64 0) (.slice none 0 0) (.slice (some ⟨w.heap.size + 1, 0, none⟩) 32 32) (.slice (some ⟨w.heap.size, 0, none⟩) 32 32))
 obtain ⟨S, hS⟩ : ∃ z, z = (((((((w.setCell ⟨bx, 0, none⟩ (.bool true)).setCell ⟨bx, 1, none⟩ (.bool false)).setCell ⟨bx, 2, none⟩ (.int .i64 st)).setCell ⟨bx, 3, none⟩ (.int .i64 0)).setCell ⟨bx, 4, none⟩ (.slice none 0 0)).setCell ⟨bx, 5, none⟩ (.slice (some ⟨w.heap.size + 1, 0, none⟩) 32 32)).setCell ⟨bx, 6, none⟩ (.slice (some ⟨w.heap.size, 0, none⟩) 32 32)) := ⟨_, rfl⟩
 have key := fun w2 => h.arm1 (w2 := w2) (st := st) (gt := w.heap.size + 1) (gl := w.heap.size) hsi (by omega) (by omega)
 rw [<- hS] at hz key ⊢
 clear hS
 have b1 := below_alloc S (.cells l32.toArray 36)
 have b2 := below_alloc (S.alloc (.cells l32.toArray 36)) (.cells t32.toArray 4)
 have hz1 : (S.alloc (.cells l32.toArray 36)).heap.size = w.heap.size + 1 := by simp [hz]
 have n1 := blk_new S l32 36
 have n2 := blk_new (S.alloc (.cells l32.toArray 36)) t32 4
 have t1 := tag_new S l32 36
 have t2 := tag_new (S.alloc (.cells l32.toArray 36)) t32 4
 rw [hz] at n1 t1
 rw [hz1] at n2 t2
 have hd := below_drewNt ((S.alloc (.cells l32.toArray 36)).alloc (.cells t32.toArray 4)) 1
 have hz2 : ((S.alloc (.cells l32.toArray 36)).alloc (.cells t32.toArray 4)).heap.size = w.heap.size + 1 + 1 := by simp [hz]
 have m1 := (n1.below b2 (by omega)).below hd (by omega)
 have m2 := n2.below hd (by omega)
 have u1 := tag_below (tag_below t1 b2) hd
 have u2 := tag_below t2 hd
 have B3 : Below w.heap.size S ((S.alloc (.cells l32.toArray 36)).alloc (.cells t32.toArray 4)).drew := by
  have e : S.heap.size = w.heap.size := hz
  rw [<- e]
  exact (b1.trans (b2.mono (by omega))).trans (hd.mono (by omega))
 exact key _ B3 u2 u1 m2 m1
theorem DB.below {W0 : World} {gn : Nat} {os : List Opn} {k : Nat} {nw : List Sn} {vs : List (Value × Value × Value)} {s : Nat} {o : Opn} {bo bx : Nat} {n : Sn} {v : Value × Value × Value} {pv : Value} {ps : List (Sn × (Value × Value × Value))} {w : World} {w' : World} (h : DB W0 gn os k nw vs s o bo bx n v pv ps w) (hb : Below w.heap.size w w') : DB W0 gn os k nw vs s o bo bx n v pv ps w' := ⟨h.lq.below hb, h.pm.below hb, h.pn, h.px, h.bel.trans (hb.mono h.bel.size), h.ob.below hb h.bl, Nat.lt_of_lt_of_le h.bl hb.size, tag_below h.ot hb, h.bb, h.bg, h.bp, h.bB, h.nk, h.pb, h.pl⟩
theorem pw_at {ps : List Sn} (h : ps.Pairwise (fun y x => OKp x y)) {i j : Nat} {x y : Sn} (hx : ps[i]? = some x) (hy : ps[j]? = some y) (hij : j < i) : OKp x y := by
 obtain ⟨h1, rfl⟩ := List.getElem?_eq_some_iff.1 hx
 obtain ⟨h2, rfl⟩ := List.getElem?_eq_some_iff.1 hy
 exact List.pairwise_iff_getElem.1 h j i h2 h1 hij
end Go.Proofs.YtblkgicbimflhaaGreat
