import Derived.Test.YtblkgicbimflhaaGreatSAT
import Derived.Test.YtblkgicbimflhaaGreatSAC
import Derived.Deep.MidRow
namespace Go.Proofs.YtblkgicbimflhaaGreat
open Go.ChangeShapes Go.WideShapes Go.ChangeAt Go.RowKit
set_option linter.unusedVariables false
set_option linter.unusedSimpArgs false
set_option maxRecDepth 100000
set_option maxHeartbeats 16000000
open Go.ChangeMaps (setBlock)
def mput : List (Spt × Vsn) -> Spt -> Vsn -> List (Spt × Vsn)
 | [], k, v => [(k, v)]
 | m :: r, k, v => if m.1 = k then (k, v) :: r else m :: mput r k v
theorem sameSpot (k : Spt) : Instr.sameBits 10000 (sptV k) (sptV k) = true := by
 have key : ∀ N, Instr.sameBits (N + 1 + 1) (sptV k) (sptV k) = true := fun N => by simp [Instr.sameBits, sptV]
 exact key 9998
theorem mput_keys (k : Spt) (v : Vsn) : ∀ M : List (Spt × Vsn), (M.map Prod.fst).Nodup -> ((mput M k v).map Prod.fst).Nodup /\ ∀ q, q ∈ (mput M k v).map Prod.fst -> q ∈ M.map Prod.fst \/ q = k
 | [], _ => ⟨by simp [mput], fun q hq => by simp [mput] at hq; exact .inr hq⟩
 | m :: r, h => by
   rw [List.map_cons] at h
   obtain ⟨h1, h2⟩ := List.nodup_cons.1 h
   obtain ⟨i1, i2⟩ := mput_keys k v r h2
   unfold mput
   by_cases e : m.1 = k
   .rw [if_pos e]
    refine ⟨?_, fun q hq => .inl (by rw [List.map_cons] at hq ⊢; rw [e]; exact hq)⟩
    rw [List.map_cons]
    exact List.nodup_cons.2 ⟨by rw [<- e]; exact h1, h2⟩
   .rw [if_neg e]
    refine ⟨?_, fun q hq => ?_⟩
    .rw [List.map_cons]
     exact List.nodup_cons.2 ⟨fun z => by
      rcases i2 _ z with y | y
      .exact h1 y
      .exact e y, i1⟩
    .rw [List.map_cons] at hq ⊢
     rcases List.mem_cons.1 hq with y | y
     .exact .inl (by rw [y]; exact List.mem_cons_self)
     .rcases i2 q y with z | z
      .exact .inl (List.mem_cons_of_mem _ z)
      .exact .inr z
theorem mget_put (k : Spt) (v : Vsn) (q : Spt) : ∀ M : List (Spt × Vsn), mget (mput M k v) q = if q = k then some v else mget M q
 | [] => by
   unfold mput mget
   by_cases e : q = k
   .rw [if_pos e, List.find?_cons_of_pos (by simp [e])]; rfl
   .rw [if_neg e, List.find?_cons_of_neg (by simp; exact fun z => e z.symm)]
 | m :: r => by
   have ih := mget_put k v q r
   unfold mput
   by_cases e : m.1 = k
   .rw [if_pos e]
    unfold mget
    by_cases e2 : q = k
    .rw [if_pos e2, List.find?_cons_of_pos (by simp [e2])]; rfl
    .rw [if_neg e2, List.find?_cons_of_neg (by simp; exact fun z => e2 z.symm), List.find?_cons_of_neg (by simp; intro z; exact e2 (z.symm.trans e))]
   .rw [if_neg e]
    unfold mget at ih ⊢
    by_cases e3 : m.1 = q
    .rw [List.find?_cons_of_pos (by simpa using e3), List.find?_cons_of_pos (by simpa using e3), if_neg (fun z => e (e3.trans z))]
    .rw [List.find?_cons_of_neg (by simpa using e3), List.find?_cons_of_neg (by simpa using e3)]
     exact ih
theorem upd_found (k : Spt) (v : Vsn) : ∀ (M : List (Spt × Vsn)) (es : List MapEntry) (j i : Nat) (u : Value), Ents es M -> findM M k j = some (i, u) -> j <= i /\ Ents (es.modify (i - j) (fun e => { e with key := sptV k, val := vsnV v })) (mput M k v) /\ (es.modify (i - j) (fun e => { e with key := sptV k, val := vsnV v })).map (·.born) = es.map (·.born) /\ (es[i - j]?).map (·.key) = some (sptV k)
 | [], _, _, _, _, _, h => by cases h
 | m :: M, [], _, _, _, h, _ => by have := h.len; simp at this
 | m :: M, e :: r, j, i, u, h, hf => by
   obtain ⟨h1, h2, h3⟩ := h.cons
   unfold findM at hf
   by_cases e1 : m.1 = k
   .rw [if_pos e1] at hf
    injection hf with hf
    injection hf with hf1 hf2
    subst hf1
    refine ⟨Nat.le_refl _, ?_, ?_, ?_⟩
    .rw [Nat.sub_self]
     unfold mput
     rw [if_pos e1]
     unfold Ents at h3 ⊢
     simp [List.modify_zero_cons, h3]
    .rw [Nat.sub_self]; simp [List.modify_zero_cons]
    .rw [Nat.sub_self, <- e1, <- h1]; rfl
   .rw [if_neg e1] at hf
    obtain ⟨i1, i2, i3, i4⟩ := upd_found k v M r (j + 1) i u h3 hf
    obtain ⟨n, hn⟩ : ∃ n, i - j = n + 1 := ⟨i - j - 1, by omega⟩
    have hn2 : i - (j + 1) = n := by omega
    rw [hn2] at i2 i3 i4
    rw [hn]
    refine ⟨by omega, ?_, ?_, ?_⟩
    .unfold mput
     rw [if_neg e1, List.modify_succ_cons]
     unfold Ents at i2 ⊢
     rw [List.map_cons, List.map_cons, i2, h1, h2]
    .rw [List.modify_succ_cons, List.map_cons, List.map_cons, i3]
    .rw [List.getElem?_cons_succ]; exact i4
theorem upd_none (k : Spt) (v : Vsn) : ∀ (M : List (Spt × Vsn)) (j : Nat), findM M k j = none -> mput M k v = M ++ [(k, v)] /\ ¬ k ∈ M.map Prod.fst
 | [], _, _ => ⟨rfl, by simp⟩
 | m :: r, j, h => by
   unfold findM at h
   by_cases e : m.1 = k
   .rw [if_pos e] at h; cases h
   .rw [if_neg e] at h
    obtain ⟨i1, i2⟩ := upd_none k v r (j + 1) h
    refine ⟨?_, ?_⟩
    .unfold mput; rw [if_neg e, i1]; rfl
    .rw [List.map_cons]
     intro z
     rcases List.mem_cons.1 z with y | y
     .exact e y.symm
     .exact i2 y
theorem fr_setBlock (w : World) (b : Nat) (o : Obj) : Fr (fun g => g = b) w (setBlock w b o) := ⟨rfl, rfl, rfl, by unfold setBlock; simp, fun g _ hn => by
 unfold setBlock
 exact Array.getElem?_setIfInBounds_ne (fun z => hn z.symm)⟩
theorem heap_setBlock {w : World} {b : Nat} {o : Obj} (h : b < w.heap.size) : (setBlock w b o).heap[b]? = some o := by
 unfold setBlock
 exact Array.getElem?_setIfInBounds_self_of_lt h
theorem run_upd (W : World) (b : Nat) (M : List (Spt × Vsn)) (h : MP W b M) (k : Spt) (v : Vsn) : ∃ o, (Instr.mapUpdate 116 (.map (some b)) (sptV k) (vsnV v)).run Tryz.prog W = .ok () (setBlock W b o) /\ MP (setBlock W b o) b (mput M k v) := by
 have hl := h.lt
 obtain ⟨es, cl, h1, h2, h3, h4, h5⟩ := h
 have hf := run_findKey W k M es.toList h2
 cases hq : findM M k 0 with
 | none =>
   obtain ⟨e1, e2⟩ := upd_none k v M 0 hq
   refine ⟨.map (es.push { key := sptV k, val := vsnV v, born := cl }) (cl + 1), ?_, ?_⟩
   .unfold Instr.mapUpdate
    simp only [Sem.run_bind, run_underlying Tryz.underlying116, Result.andThen_ok, MapKept.run_getObj_map h1, run_checkSpot, hf, hq, MapKept.run_setObj_map _ h1]
    rfl
   .refine ⟨_, _, heap_setBlock hl, ?_, ?_, ?_, (mput_keys k v M h5).1⟩
    .rw [e1, Array.toList_push]
     unfold Ents at h2 ⊢
     simp [h2]
    .rw [Array.toList_push, List.map_append]
     refine List.nodup_append.2 ⟨h3, by simp, fun x hx y hy => ?_⟩
     simp at hy
     obtain ⟨e, he, rfl⟩ := List.mem_map.1 hx
     have := h4 e he
     omega
    .intro e he
     rw [Array.toList_push] at he
     rcases List.mem_append.1 he with z | z
     .have := h4 e z; omega
     .rw [List.mem_singleton] at z; subst z; simp
 | some z =>
   obtain ⟨i, u⟩ := z
   obtain ⟨_, g2, g3, g4⟩ := upd_found k v M es.toList 0 i u h2 hq
   rw [Nat.sub_zero] at g2 g3 g4
   have hk : ((es[i]?).map (·.key)).getD (sptV k) = sptV k := by
    rw [<- Array.getElem?_toList, g4]; rfl
   refine ⟨.map (es.modify i fun e => { e with key := sptV k, val := vsnV v }) cl, ?_, ?_⟩
   .unfold Instr.mapUpdate
    simp only [Sem.run_bind, run_underlying Tryz.underlying116, Result.andThen_ok, MapKept.run_getObj_map h1, run_checkSpot, hf, hq, hk, Instr.keyThatStays, sameSpot, if_true, Sem.run_pure, MapKept.run_setObj_map _ h1]
    rfl
   .refine ⟨_, _, heap_setBlock hl, ?_, ?_, ?_, (mput_keys k v M h5).1⟩
    .rw [Array.toList_modify]; exact g2
    .rw [Array.toList_modify, g3]; exact h3
    .intro e he
     rw [Array.toList_modify] at he
     have hb : e.born ∈ es.toList.map (·.born) := by rw [<- g3]; exact List.mem_map_of_mem he
     obtain ⟨e', he', hbe⟩ := List.mem_map.1 hb
     have := h4 e' he'
     omega
end Go.Proofs.YtblkgicbimflhaaGreat
namespace Go.Proofs.YtblkgicbimflhaaGreat
open Go.ChangeShapes Go.WideShapes Go.ChangeAt Go.RowKit
set_option linter.unusedVariables false
set_option linter.unusedSimpArgs false
set_option maxRecDepth 100000
set_option maxHeartbeats 16000000
open Go.ChangeMaps (setBlock)
open Go.Maps
theorem run_clearM (W : World) (b ty : Nat) (M : List (Spt × Vsn)) (h : MP W b M) : ∃ o, (Builtin.clear_ #[116] ty #[.map (some b)]).run Tryz.prog W = .ok (.tuple #[]) (setBlock W b o) /\ MP (setBlock W b o) b [] := by
 have hl := h.lt
 obtain ⟨es, cl, h1, _⟩ := h
 refine ⟨.map #[] cl, ?_, ⟨#[], cl, heap_setBlock hl, rfl, List.Pairwise.nil, by simp, List.Pairwise.nil⟩⟩
 unfold Builtin.clear_
 simp [run_underlying Tryz.underlying116, MapKept.run_getObj_map h1, MapKept.run_setObj_map _ h1, setBlock, Result.andThen]
theorem ents_at : ∀ {es : List MapEntry} {M : List (Spt × Vsn)}, Ents es M -> ∀ e ∈ es, ∃ m ∈ M, e.key = sptV m.1 /\ e.val = vsnV m.2
 | [], _, _ => fun e he => by cases he
 | e :: r, [], h => by have := h.len; simp at this
 | e :: r, m :: M, h => fun x hx => by
   obtain ⟨h1, h2, h3⟩ := h.cons
   rcases List.mem_cons.1 hx with z | z
   .subst z; exact ⟨m, List.mem_cons_self, h1, h2⟩
   .obtain ⟨n, hn, q⟩ := ents_at h3 x z; exact ⟨n, List.mem_cons_of_mem _ hn, q⟩
theorem ents_of : ∀ {es : List MapEntry} {M : List (Spt × Vsn)}, Ents es M -> ∀ m ∈ M, ∃ e ∈ es, e.key = sptV m.1 /\ e.val = vsnV m.2
 | _, [], _ => fun m hm => by cases hm
 | [], m :: M, h => by have := h.len; simp at this
 | e :: r, m :: M, h => fun x hx => by
   obtain ⟨h1, h2, h3⟩ := h.cons
   rcases List.mem_cons.1 hx with z | z
   .subst z; exact ⟨e, List.mem_cons_self, h1, h2⟩
   .obtain ⟨n, hn, q⟩ := ents_of h3 x z; exact ⟨n, List.mem_cons_of_mem _ hn, q⟩
theorem sptV_inj {a b : Spt} (h : sptV a = sptV b) : a = b := by
 unfold sptV at h
 simp at h
 exact Prod.ext h.1 h.2
theorem ents_key : ∀ {es : List MapEntry} {M : List (Spt × Vsn)}, Ents es M -> (M.map Prod.fst).Nodup -> ∀ e ∈ es, ∀ e' ∈ es, e.key = e'.key -> e = e'
 | [], _, _, _ => fun e he => by cases he
 | e :: r, [], h, _ => by have := h.len; simp at this
 | e :: r, m :: M, h, hn => by
   obtain ⟨h1, h2, h3⟩ := h.cons
   rw [List.map_cons] at hn
   obtain ⟨n1, n2⟩ := List.nodup_cons.1 hn
   have hne : ∀ x ∈ r, x.key ≠ e.key := fun x hx hq => by
    obtain ⟨n, hnM, q1, _⟩ := ents_at h3 x hx
    rw [q1, h1] at hq
    have := sptV_inj hq
    exact n1 (by rw [<- this]; exact List.mem_map_of_mem hnM)
   intro x hx y hy hk
   rcases List.mem_cons.1 hx with z | z
   .rcases List.mem_cons.1 hy with u | u
    .rw [z, u]
    .subst z; exact absurd hk.symm (hne y u)
   .rcases List.mem_cons.1 hy with u | u
    .subst u; exact absurd hk (hne x z)
    .exact ents_key h3 n2 x z y u hk
def IT (w : World) (r b : Nat) (M : List (Spt × Vsn)) (D : List Spt) : Prop := ∃ es cl seen, w.heap[b]? = some (.map es cl) /\ Ents es.toList M /\ (es.toList.map (·.born)).Nodup /\ (∀ e ∈ es.toList, e.born < cl) /\ (M.map Prod.fst).Nodup /\ w.heap[r]? = some (.mapIter (some b) cl seen cl) /\ ∀ e ∈ es.toList, ∀ k, e.key = sptV k -> (seen.contains e.born = true ↔ k ∈ D)
theorem IT.mp {w : World} {r b : Nat} {M : List (Spt × Vsn)} {D : List Spt} (h : IT w r b M D) : MP w b M := by
 obtain ⟨es, cl, seen, h1, h2, h3, h4, h5, _⟩ := h
 exact ⟨es, cl, h1, h2, h3, h4, h5⟩
theorem IT.ne {w : World} {r b : Nat} {M : List (Spt × Vsn)} {D : List Spt} (h : IT w r b M D) : r ≠ b := fun e => by
 obtain ⟨es, cl, seen, h1, h2, h3, h4, h5, h6, _⟩ := h
 rw [e, h1] at h6
 cases h6
theorem IT.lt {w : World} {r b : Nat} {M : List (Spt × Vsn)} {D : List Spt} (h : IT w r b M D) : r < w.heap.size := by
 obtain ⟨es, cl, seen, h1, h2, h3, h4, h5, h6, _⟩ := h
 exact (Array.getElem?_eq_some_iff.1 h6).1
theorem IT.fr {S : Nat -> Prop} {w w' : World} {r b : Nat} {M : List (Spt × Vsn)} {D : List Spt} (h : IT w r b M D) (hk : Fr S w w') (hb : ¬ S b) (hr : ¬ S r) : IT w' r b M D /\ w'.rangeLeft b r = w.rangeLeft b r := by
 have h1 := h.mp.lt
 have h2 := h.lt
 have e1 := hk.block b h1 hb
 have e2 := hk.block r h2 hr
 obtain ⟨es, cl, seen, a1, a2, a3, a4, a5, a6, a7⟩ := h
 exact ⟨⟨es, cl, seen, e1.trans a1, a2, a3, a4, a5, e2.trans a6, a7⟩, by simp only [World.rangeLeft, e1, e2]⟩
theorem run_rangeM (W : World) (b : Nat) (M : List (Spt × Vsn)) (h : MP W b M) : ∃ o, (Instr.range 116 (.map (some b))).run Tryz.prog W = .ok (.pointer (some ⟨W.heap.size, 0, none⟩)) (W.alloc o) /\ IT (W.alloc o) W.heap.size b M [] := by
 have hl := h.lt
 obtain ⟨es, cl, h1, h2, h3, h4, h5⟩ := h
 refine ⟨.mapIter (some b) cl #[] cl, ?_, ⟨es, cl, #[], ?_, h2, h3, h4, h5, Array.getElem?_push_size, fun e he k hk => by simp⟩⟩
 .unfold Instr.range
  simp [run_underlying Tryz.underlying116, MapKept.run_getObj_map h1, Result.andThen, go_sem]
 .rw [Below.heap_alloc W _ b hl]; exact h1
theorem IT.next {w : World} {r b : Nat} {M : List (Spt × Vsn)} {D : List Spt} (h : IT w r b M D) (ty : Nat) :
 ((∀ m ∈ M, m.1 ∈ D) /\ (Instr.next (.pointer (some ⟨r, 0, none⟩)) false ty).run Tryz.prog w = .ok (.tuple #[.bool false]) w) \/
 ∃ m w', m ∈ M /\ ¬ m.1 ∈ D /\ (Instr.next (.pointer (some ⟨r, 0, none⟩)) false ty).run Tryz.prog w = .ok (.tuple #[.bool true, sptV m.1, vsnV m.2]) w' /\ IT w' r b M (m.1 :: D) /\ Fr (fun g => g = r) w w' /\ w'.heap.size = w.heap.size /\ w'.rangeLeft b r < w.rangeLeft b r /\ (Instr.entry (.pointer (some ⟨r, 0, none⟩))).run Tryz.prog w' = .ok (.tuple #[sptV m.1, vsnV m.2]) w' := by
 have hne := h.ne
 have hrl := h.lt
 obtain ⟨es, cl, seen, h1, h2, h3, h4, h5, h6, h7⟩ := h
 rcases run_next_at (P := Tryz.prog) w ty r b cl cl seen es cl h6 h1 h4 (Nat.le_refl _) with ⟨h0, hrun⟩ | ⟨e, he, w1, hal, hrun⟩
 .refine .inl ⟨fun m hm => ?_, hrun⟩
  obtain ⟨e, he, k1, _⟩ := ents_of h2 m hm
  exact (h7 e he m.1 k1).1 (all_seen es seen h0 e he)
 .obtain ⟨hem, hes⟩ := mem_left he
  obtain ⟨m, hm, k1, k2⟩ := ents_at h2 e hem
  have hr1 : w1.heap[r]? = some (.mapIter (some b) cl seen cl) := by rcases hal with rfl | rfl <;> exact h6
  have hb1 : w1.heap[b]? = some (.map es cl) := by rcases hal with rfl | rfl <;> exact h1
  have hsz : w1.heap.size = w.heap.size := by rcases hal with rfl | rfl <;> rfl
  have hset := MapKept.heap_set (o' := .mapIter (some b) cl (seen.push e.born) cl) hr1
  have hb' : (setBlock w1 r (.mapIter (some b) cl (seen.push e.born) cl)).heap[b]? = some (.map es cl) := (hset.2 b (fun e1 => hne e1.symm)).trans hb1
  have hr' : (setBlock w1 r (.mapIter (some b) cl (seen.push e.born) cl)).heap[r]? = some (.mapIter (some b) cl (seen.push e.born) cl) := hset.1
  rw [k1, k2] at hrun
  have hen := run_entry_at (P := Tryz.prog) _ r b cl seen es cl e hr' hb' hem h3
  rw [k1, k2] at hen
  refine .inr ⟨m, _, hm, fun z => ?_, hrun, ⟨es, cl, seen.push e.born, hb', h2, h3, h4, h5, hr', fun x hx k hk => ?_⟩, ?_, by simp [setBlock, hsz], ?_, hen⟩
  .have := (h7 e hem m.1 k1).2 z
   rw [hes] at this
   cases this
  .rw [contains_push, Bool.or_eq_true, h7 x hx k hk, List.mem_cons]
   constructor
   .rintro (z | z)
    .exact .inr z
    .have hb : x.born = e.born := by simpa using z
     have hxe : x = e := by
      have := find_born e es.toList h3 hem
      have h8 := find_born x es.toList h3 hx
      rw [hb] at h8
      rw [this] at h8
      injection h8 with h8
      exact h8.symm
     subst hxe
     rw [k1] at hk
     exact .inl (sptV_inj hk).symm
   .rintro (z | z)
    .subst z
     have hxe := ents_key h2 h5 x hx e hem (hk.trans k1.symm)
     subst hxe
     exact .inr (by simp)
    .exact .inl z
  .have hf := fr_setBlock w1 r (.mapIter (some b) cl (seen.push e.born) cl)
   rcases hal with rfl | rfl
   .exact hf
   .exact ⟨hf.os, hf.tape, hf.output, hf.size, hf.block⟩
  .simp only [World.rangeLeft, hb', hr', h1, h6]
   exact left_shrinks es seen e he
end Go.Proofs.YtblkgicbimflhaaGreat
namespace Go.Proofs.YtblkgicbimflhaaGreat
open Go.ChangeShapes Go.WideShapes Go.ChangeAt Go.RowKit
set_option linter.unusedVariables false
set_option linter.unusedSimpArgs false
set_option maxRecDepth 100000
set_option maxHeartbeats 16000000
def nrm (c : Cel) : Vsn := (if c.gn then 0 else c.vl, !c.gn)
def versC (cms : List Com) (t y : Int) : List Ver := cms.filterMap (fun c => (newC c.cs t y).map (fun x => (c.st, nrm x)))
def seesN (cms : List Com) (bg : Int) (own : List Cel) (t y : Int) : Vsn := match (newC own t y).or (seenC cms bg t y) with
 | some c => nrm c
 | none => (0, false)
theorem last_fm {α β : Type} (f : α -> Option β) (l : List α) : (l.filterMap f).getLast? = l.reverse.findSome? f := by
 rw [List.getLast?_eq_head?_reverse, <- List.filterMap_reverse, List.head?_filterMap]
theorem verAt_vers (cms : List Com) (bg t y : Int) : verAt (versC cms t y) bg = match seenC cms bg t y with
 | some c => nrm c
 | none => (0, false) := by
 have e : (versC cms t y).filter (fun v => decide (v.1 <= bg)) = cms.filterMap (fun c => (comN bg t y c).map (fun x => (c.st, nrm x))) := by
  unfold versC
  rw [List.filter_filterMap]
  congr 1
  funext c
  unfold comN
  by_cases h : bg < c.st
  .rw [if_pos h]
   cases newC c.cs t y with
   | none => rfl
   | some x => simp [Option.filter, h]
  .rw [if_neg h]
   cases newC c.cs t y with
   | none => rfl
   | some x => simp [Option.filter]; omega
 unfold verAt
 rw [e, last_fm]
 unfold seenC
 have key : ∀ l : List Com, l.findSome? (fun c => (comN bg t y c).map (fun x => ((c.st, nrm x) : Ver))) = none /\ l.findSome? (comN bg t y) = none \/ ∃ v x, l.findSome? (fun c => (comN bg t y c).map (fun x => ((c.st, nrm x) : Ver))) = some v /\ l.findSome? (comN bg t y) = some x /\ v.2 = nrm x := by
  intro l
  induction l with
  | nil => exact .inl ⟨rfl, rfl⟩
  | cons c r ih =>
    rw [List.findSome?_cons, List.findSome?_cons]
    cases hc : comN bg t y c with
    | none => simpa using ih
    | some x => exact .inr ⟨(c.st, nrm x), x, rfl, rfl, rfl⟩
 rcases key cms.reverse with ⟨h1, h2⟩ | ⟨v, x, h1, h2, h3⟩
 .rw [h1, h2]
 .rw [h1, h2]; exact h3
theorem seesN_own {cms : List Com} {bg t y : Int} {own : List Cel} {c : Cel} (h : newC own t y = some c) : seesN cms bg own t y = nrm c := by
 unfold seesN; rw [h]; rfl
theorem seesN_com {cms : List Com} {bg t y : Int} {own : List Cel} (h : newC own t y = none) : seesN cms bg own t y = verAt (versC cms t y) bg := by
 unfold seesN; rw [h, verAt_vers]; rfl
theorem seesF_N (cms : List Com) (bg : Int) (own : List Cel) (t y : Int) : (if (seesF cms bg own t y).2 then ((seesF cms bg own t y).1, true) else ((0 : Int), false)) = seesN cms bg own t y := by
 unfold seesF seesN
 cases (newC own t y).or (seenC cms bg t y) with
 | none => rfl
 | some c =>
   unfold telC nrm
   simp only
   cases hg : c.gn <;> simp
theorem vers_snoc (cms : List Com) (c : Com) (t y : Int) : versC (cms ++ [c]) t y = versC cms t y ++ (match newC c.cs t y with
 | some x => [(c.st, nrm x)]
 | none => []) := by
 unfold versC
 rw [List.filterMap_append]
 congr 1
 rw [List.filterMap_cons]
 cases newC c.cs t y <;> rfl
theorem vers_behind (cms : List Com) (t y bg : Int) : (versC cms t y).any (fun v => decide (bg < v.1)) = cms.any (fun c => decide (bg < c.st) && (newC c.cs t y).isSome) := by
 unfold versC
 induction cms with
 | nil => rfl
 | cons c r ih =>
   rw [List.filterMap_cons, List.any_cons, <- ih]
   cases newC c.cs t y with
   | none => simp
   | some x => simp
theorem any_last {vs : List Ver} (hs : (vs.map (·.1)).Pairwise (· < ·)) (bg : Int) : vs.any (fun v => decide (bg < v.1)) = match vs.getLast? with
 | some v => decide (bg < v.1)
 | none => false := by
 cases hq : vs.getLast? with
 | none =>
   have : vs = [] := List.getLast?_eq_none_iff.1 hq
   rw [this]; rfl
 | some v =>
   simp only
   obtain ⟨r, hr⟩ : ∃ r, vs = r ++ [v] := by
    have := List.getLast?_eq_some_iff.1 hq
    exact this
   subst hr
   rw [List.map_append] at hs
   have h1 := (List.pairwise_append.1 hs).2.2
   rw [List.any_append, List.any_cons, List.any_nil, Bool.or_false]
   by_cases hv : bg < v.1
   .simp [hv]
   .have : r.any (fun v => decide (bg < v.1)) = false := List.any_eq_false.2 (fun z hz => by
     have := h1 z.1 (List.mem_map_of_mem hz) v.1 (by simp)
     simp; omega)
    rw [this]
    simp [hv]
theorem insK_sorted {out : List Int} (hs : out.Pairwise (· < ·)) (k : Int) : (insK out k).Pairwise (· < ·) /\ ∀ q, q ∈ insK out k ↔ q ∈ out \/ q = k := by
 have hsplit : out.takeWhile (fun x => decide (x < k)) ++ out.dropWhile (fun x => decide (x < k)) = out := List.takeWhile_append_dropWhile
 have hT : ∀ q ∈ out.takeWhile (fun x => decide (x < k)), q < k := fun q hq => by
  have h := List.all_eq_true.1 (List.all_takeWhile (p := fun x => decide (x < k)) (l := out)) q hq
  simpa using h
 have hD : ∀ q ∈ out.dropWhile (fun x => decide (x < k)), k <= q := by
  have hs2 : (out.dropWhile (fun x => decide (x < k))).Pairwise (· < ·) := by
   rw [<- hsplit] at hs
   exact (List.pairwise_append.1 hs).2.1
  cases hq : out.dropWhile (fun x => decide (x < k)) with
  | nil => intro q h; cases h
  | cons a r =>
    have ha : ¬ a < k := by
     have := List.head?_dropWhile_not (fun x => decide (x < k)) out
     rw [hq] at this
     simpa using this
    rw [hq] at hs2
    intro q h
    rcases List.mem_cons.1 h with z | z
    .rw [z]; omega
    .have := (List.pairwise_cons.1 hs2).1 q z; omega
 unfold insK
 by_cases hh : (out.dropWhile (fun x => decide (x < k))).head? = some k
 .rw [if_pos hh]
  refine ⟨hs, fun q => ⟨fun h => .inl h, fun h => ?_⟩⟩
  rcases h with z | z
  .exact z
  .subst z
   rw [<- hsplit]
   exact List.mem_append_right _ (List.mem_of_mem_head? hh)
 .rw [if_neg hh]
  refine ⟨?_, fun q => ?_⟩
  .rw [<- hsplit] at hs
   obtain ⟨p1, p2, p3⟩ := List.pairwise_append.1 hs
   refine List.pairwise_append.2 ⟨p1, List.pairwise_cons.2 ⟨fun q hq => ?_, p2⟩, fun a ha b hb => ?_⟩
   .have h1 := hD q hq
    rcases Int.lt_or_eq_of_le h1 with z | z
    .exact z
    .exfalso
     subst z
     cases hd : out.dropWhile (fun x => decide (x < k)) with
     | nil => rw [hd] at hq; cases hq
     | cons a r =>
       rw [hd] at hq p2 hh hD
       have ha := hD a List.mem_cons_self
       rcases List.mem_cons.1 hq with y | y
       .exact hh (by rw [y]; rfl)
       .have := (List.pairwise_cons.1 p2).1 k y; omega
   .rcases List.mem_cons.1 hb with z | z
    .rw [z]; exact hT a ha
    .exact p3 a ha b z
  .constructor
   .intro h
    rcases List.mem_append.1 h with z | z
    .exact .inl (by rw [<- hsplit]; exact List.mem_append_left _ z)
    .rcases List.mem_cons.1 z with y | y
     .exact .inr y
     .exact .inl (by rw [<- hsplit]; exact List.mem_append_right _ y)
   .intro h
    rcases h with z | z
    .rw [<- hsplit] at z
     rcases List.mem_append.1 z with y | y
     .exact List.mem_append_left _ y
     .exact List.mem_append_right _ (List.mem_cons_of_mem _ y)
    .rw [z]; exact List.mem_append_right _ List.mem_cons_self
theorem foldK_sorted (tb : Int) : ∀ (cs : List Cel) (out : List Int), out.Pairwise (· < ·) -> (cs.foldl (putK tb) out).Pairwise (· < ·) /\ ∀ q, q ∈ cs.foldl (putK tb) out ↔ q ∈ out \/ ∃ c ∈ cs, c.tb = tb /\ c.ky = q
 | [], out, h => ⟨h, fun q => by simp⟩
 | c :: r, out, h => by
   rw [List.foldl_cons]
   unfold putK
   by_cases e : c.tb = tb
   .rw [if_pos e]
    obtain ⟨s1, s2⟩ := insK_sorted h c.ky
    obtain ⟨i1, i2⟩ := foldK_sorted tb r (insK out c.ky) s1
    refine ⟨i1, fun q => ?_⟩
    have := i2 q
    unfold putK at this
    rw [this, s2]
    constructor
    .rintro ((z | z) | ⟨d, hd, y⟩)
     .exact .inl z
     .exact .inr ⟨c, List.mem_cons_self, e, z.symm⟩
     .exact .inr ⟨d, List.mem_cons_of_mem _ hd, y⟩
    .rintro (z | ⟨d, hd, y⟩)
     .exact .inl (.inl z)
     .rcases List.mem_cons.1 hd with u | u
      .subst u; exact .inl (.inr y.2.symm)
      .exact .inr ⟨d, u, y⟩
   .rw [if_neg e]
    obtain ⟨i1, i2⟩ := foldK_sorted tb r out h
    refine ⟨i1, fun q => ?_⟩
    have := i2 q
    unfold putK at this
    rw [this]
    constructor
    .rintro (z | ⟨d, hd, y⟩)
     .exact .inl z
     .exact .inr ⟨d, List.mem_cons_of_mem _ hd, y⟩
    .rintro (z | ⟨d, hd, y⟩)
     .exact .inl z
     .rcases List.mem_cons.1 hd with u | u
      .subst u; exact absurd y.1 e
      .exact .inr ⟨d, u, y⟩
theorem keysF_sorted (cms : List Com) (own : List Cel) (tb : Int) : (keysF cms own tb).Pairwise (· < ·) /\ ∀ q, q ∈ keysF cms own tb ↔ ∃ c ∈ allC cms own, c.tb = tb /\ c.ky = q := by
 obtain ⟨h1, h2⟩ := foldK_sorted tb (allC cms own) [] List.Pairwise.nil
 refine ⟨h1, fun q => ?_⟩
 have := h2 q
 show q ∈ List.foldl (putK tb) [] (allC cms own) ↔ _
 simpa using this
theorem rise_ext : ∀ {L M : List (Int × Int)}, (L.map Prod.fst).Pairwise (· < ·) -> (M.map Prod.fst).Pairwise (· < ·) -> (∀ p, p ∈ L ↔ p ∈ M) -> L = M
 | [], [], _, _, _ => rfl
 | [], b :: M, _, _, h => by have := (h b).2 List.mem_cons_self; cases this
 | a :: L, [], _, _, h => by have := (h a).1 List.mem_cons_self; cases this
 | a :: L, b :: M, h1, h2, h => by
   rw [List.map_cons] at h1 h2
   obtain ⟨p1, p2⟩ := List.pairwise_cons.1 h1
   obtain ⟨q1, q2⟩ := List.pairwise_cons.1 h2
   have hab : a = b := by
    rcases List.mem_cons.1 ((h a).1 List.mem_cons_self) with z | z
    .exact z
    .rcases List.mem_cons.1 ((h b).2 List.mem_cons_self) with y | y
     .exact y.symm
     .have u1 := q1 a.1 (List.mem_map_of_mem z)
      have u2 := p1 b.1 (List.mem_map_of_mem y)
      omega
   subst hab
   congr 1
   refine rise_ext p2 q2 (fun p => ⟨fun hp => ?_, fun hp => ?_⟩)
   .rcases List.mem_cons.1 ((h p).1 (List.mem_cons_of_mem _ hp)) with z | z
    .exfalso; have := p1 p.1 (List.mem_map_of_mem hp); rw [z] at this; omega
    .exact z
   .rcases List.mem_cons.1 ((h p).2 (List.mem_cons_of_mem _ hp)) with z | z
    .exfalso; have := q1 p.1 (List.mem_map_of_mem hp); rw [z] at this; omega
    .exact z
theorem newC_mem {cs : List Cel} {t y : Int} {c : Cel} (h : newC cs t y = some c) : c ∈ cs /\ c.tb = t /\ c.ky = y := by
 unfold newC at h
 have hm := List.mem_of_getLast? h
 rw [List.mem_filter] at hm
 refine ⟨hm.1, ?_⟩
 have := hm.2
 unfold hits at this
 simpa using this
theorem seen_mem {cms : List Com} {bg t y : Int} {c : Cel} (h : seenC cms bg t y = some c) : c ∈ cms.flatMap (·.cs) /\ c.tb = t /\ c.ky = y := by
 unfold seenC at h
 obtain ⟨d, hd, he⟩ := List.exists_of_findSome?_eq_some h
 unfold comN at he
 split at he
 .cases he
 .obtain ⟨h1, h2⟩ := newC_mem he
  exact ⟨List.mem_flatMap.2 ⟨d, List.mem_reverse.1 hd, h1⟩, h2⟩
theorem sees_key {cms : List Com} {bg t y v : Int} {own : List Cel} (h : seesN cms bg own t y = (v, true)) : y ∈ keysF cms own t := by
 rw [(keysF_sorted cms own t).2]
 unfold seesN at h
 cases hq : newC own t y with
 | some c =>
   obtain ⟨h1, h2⟩ := newC_mem hq
   exact ⟨c, List.mem_append_left _ h1, h2⟩
 | none =>
   rw [hq] at h
   cases hs : seenC cms bg t y with
   | none => rw [hs] at h; cases h
   | some c =>
     obtain ⟨h1, h2⟩ := seen_mem hs
     exact ⟨c, List.mem_append_right _ h1, h2⟩
theorem fm_fst {f : Int -> Option (Int × Int)} (hf : ∀ k p, f k = some p -> p.1 = k) : ∀ (ks : List Int), ks.Pairwise (· < ·) -> ((ks.filterMap f).map Prod.fst).Pairwise (· < ·)
 | [], _ => List.Pairwise.nil
 | k :: r, h => by
   obtain ⟨h1, h2⟩ := List.pairwise_cons.1 h
   rw [List.filterMap_cons]
   cases hk : f k with
   | none => exact fm_fst hf r h2
   | some p =>
     simp only
     rw [List.map_cons]
     refine List.pairwise_cons.2 ⟨fun q hq => ?_, fm_fst hf r h2⟩
     obtain ⟨z, hz, rfl⟩ := List.mem_map.1 hq
     obtain ⟨j, hj, he⟩ := List.mem_filterMap.1 hz
     rw [hf k p hk, hf j z he]
     exact h1 j hj
theorem list_is {cms : List Com} {bg t : Int} {own : List Cel} {L : List (Int × Int)} (hs : (L.map Prod.fst).Pairwise (· < ·)) (h : ∀ y v, (y, v) ∈ L ↔ seesN cms bg own t y = (v, true)) : L = listF cms bg own t := by
 have hpa : ∀ k p, pairAt cms bg own t k = some p -> p.1 = k /\ seesN cms bg own t k = (p.2, true) := fun k p hp => by
  have hn := seesF_N cms bg own t k
  unfold pairAt at hp
  revert hp
  generalize seesF cms bg own t k = z at hn
  obtain ⟨z1, z2⟩ := z
  cases z2
  .intro hp; simp at hp
  .intro hp; simp at hp hn; subst hp; exact ⟨rfl, hn.symm⟩
 have hpb : ∀ k v, seesN cms bg own t k = (v, true) -> pairAt cms bg own t k = some (k, v) := fun k v hv => by
  have hn := seesF_N cms bg own t k
  unfold pairAt
  revert hn
  generalize seesF cms bg own t k = z
  obtain ⟨z1, z2⟩ := z
  rw [hv]
  cases z2
  .intro hn; simp at hn
  .intro hn; simp at hn ⊢; exact hn
 refine rise_ext hs ?_ (fun p => ?_)
 .exact fm_fst (fun k p hp => (hpa k p hp).1) _ (keysF_sorted cms own t).1
 .obtain ⟨y, v⟩ := p
  rw [h]
  unfold listF pairsF
  rw [List.mem_filterMap]
  constructor
  .intro hv
   exact ⟨y, sees_key hv, hpb y v hv⟩
  .rintro ⟨k, hk, he⟩
   obtain ⟨h1, h2⟩ := hpa k _ he
   simp only at h1 h2
   subst h1
   exact h2
theorem range_blk {w : World} {b : Nat} {cs : List Value} (h : Blk w b cs) (o : Nat) (ds : List Value) (hd : ∀ j v, ds[j]? = some v -> cs[o + j]? = some v) : w.rangeAt b o ds := fun j v hv => by
 have h1 := hd j v hv
 have hl : o + j < cs.length := (List.getElem?_eq_some_iff.1 h1).1
 exact (h (o + j) hl).1.trans h1
theorem range_new (w : World) (cs : List Value) (t : Nat) : (w.alloc (.cells cs.toArray t)).rangeAt w.heap.size 0 cs := range_blk (blk_new w cs t) 0 cs (fun j v h => by rw [Nat.zero_add]; exact h)
theorem run_indexB (W : World) (ms : List Bool) (k : Nat) (hk : k < 32) (hm : ms.length = 32) : (Instr.index 115 (.agg (ms.map Value.bool).toArray) (.int .i64 (k : Int))).run Tryz.prog W = .ok (.bool (readAt ms k)) W := by
 have h1 : k < ms.length := by omega
 have e : (ms.map Value.bool)[k]? = some (.bool (readAt ms k)) := by
  rw [List.getElem?_map, List.getElem?_eq_getElem h1]
  unfold readAt
  rw [List.getD_eq_getElem?_getD, List.getElem?_eq_getElem h1]
  rfl
 have hk2 : (k : Int) < 32 := by omega
 unfold Instr.index
 simp [run_underlying Tryz.underlying115, asIntOf, part, isAgg, run_underlying Tryz.underlying4, go_sem, hk2]
 rw [<- List.getElem?_map, e, if_pos hk]
 rfl
theorem size32 : (Tryz.prog.info? 115).map (·.size) = some 32 := by kernel_rfl
theorem marked_any (ms : List Bool) (w : World) (hm : ms.length = 32) :
 Calls Tryz.prog 103 #[.agg (ms.map Value.bool).toArray] w fun e w' => ∃ v, e = .returned v /\ IGr w.heap.size w' v (tabsT (readAt ms) 32) /\ Below w.heap.size w w' := by
 obtain ⟨i0, hi, hz0, hz1, hz2⟩ := info_parts infoInt
 obtain ⟨vs, hvs⟩ : ∃ vs, vs = ms.map Value.bool := ⟨_, rfl⟩
 have hix := fun W k hk => run_indexB W ms k hk hm
 rw [<- hvs] at hix ⊢
 have HM : Hid (vs.length = 32) := hid (by rw [hvs, List.length_map]; exact hm)
 clear hvs
 have hb0 := below_alloc w (.cells vs.toArray 115)
 go_enter Tryz.func103, Tryz.ntmps103
 go_wp2_with (refine wpList_load_mid rfl 115 (.tmp 1) rfl w.heap.size 0 rfl vs _ (range_new w vs _) Tryz.underlying115 rfl (by rw [size32, HM.out]) ?_)
 go_loopw [3, 7] (fun tv iv wr => ∃ (k : Nat), k <= 32 /\ iv = .int .i64 k /\ IGr w.heap.size wr tv (tabsT (readAt ms) k) /\ Below w.heap.size w wr) (fun _ iv _ => 32 - (intOf iv).toNat)
 case atStart => exact ⟨0, by omega, rfl, IGr.nil _ _, hb0⟩
 case round =>
  obtain ⟨k, hk, rfl, hG, hbel⟩ := hrel
  have hbs := hbel.size
  by_cases hlt : k < 32
  .have hlti : (k : Int) < 32 := by omega
   have hi1 := fun W => hix W k hlt
   have HLN := hid (tabsT_len (readAt ms) k)
   have hln := HLN.out
   obtain ⟨ta, tc, rfl⟩ := hG.form
   clear hix
   rcases hb : readAt ms k with _ | _
   .rw [hb] at hi1
    have HT := hid (tabsT_no (p := readAt ms) hb)
    clear hb
    go_wp2
    go_roundw
    case rel => exact ⟨k + 1, by omega, by go_num, by rw [HT.out]; exact hG, hbel⟩
    case measure => simp [intOf]; omega
   .rw [hb] at hi1
    have HT := hid (tabsT_yes (p := readAt ms) hb)
    clear hb
    have HG := hid (hG.below (below_alloc wr (.cells #[.int .i64 (k : Int)] 3)))
    have hb2 : Below w.heap.size w (wr.alloc (.cells #[.int .i64 (k : Int)] 3)) := hbel.alloc hbs _
    clear hG
    go_wp2_with (at_builtin; go_loud (refine wpList_append_own_at _ rfl (.tmp 12) (.tmp 14) 32 rfl w.heap.size 3 i0 (.int .i64 0) 1 8 Tryz.underlying32 hi hz0 hz1 hz2 rfl (by decide) _ _ _ rfl HG.out ⟨wr.heap.size, 0, none⟩ 1 1 [.int .i64 (k : Int)] rfl rfl (cells_new _ [.int .i64 (k : Int)] 3 _ rfl) (by intro u hu; simp at hu; subst hu; rfl) (by unfold maxLen; omega) (by omega) (by simp; omega) ?_; intro v' w' hown hgrow _ hblk; obtain ⟨na, nc, hvn⟩ := form_push hown; subst hvn; have HN := hid (IGr.push hown); have bwN : Below w.heap.size w w' := hb2.grown hgrow hb2.size (fun q hq => (HG.out.lt hq).1); clear hown hgrow hblk))
    go_roundw
    case rel => exact ⟨k + 1, by omega, by go_num, by rw [HT.out]; exact HN.out, bwN⟩
    case measure => simp [intOf]; omega
  .have hkn : k = 32 := by omega
   have hlti : ¬ (k : Int) < 32 := by omega
   have HG := hid hG
   rw [hkn] at HG
   obtain ⟨ta, tc, htv⟩ := hG.form
   clear hG hkn hix
   subst htv
   go_wp2
   go_ret
   exact ⟨_, rfl, HG.out, hbel⟩
end Go.Proofs.YtblkgicbimflhaaGreat
