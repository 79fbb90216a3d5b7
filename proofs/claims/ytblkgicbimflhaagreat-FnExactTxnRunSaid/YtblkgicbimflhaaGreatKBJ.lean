import Derived.Test.YtblkgicbimflhaaGreatKBI
import Derived.Shelf.SlMaps.Clone
import Derived.Deep.RegionWith
import Derived.Deep.RegionHeld3
import Derived.Maps.AppendAt
namespace Go.Proofs.YtblkgicbimflhaaGreat
open Go.ChangeShapes Go.WideShapes Go.ChangeAt Go.RowKit
set_option linter.unusedVariables false
set_option linter.unusedSimpArgs false
set_option maxRecDepth 100000
open List (setIfInBounds_toArray set_cons_zero set_cons_succ)
open Go.ChangeMaps (setBlock)
theorem svC_at : ∀ (ss : List Sav) (bs : List Nat) (i : Nat) (h : i < ss.length) (h' : i < bs.length), (svC ss bs)[i * 2]? = some (.string ss[i].nm) ∧ (svC ss bs)[i * 2 + 1]? = some (.map (some bs[i]))
 | s :: r, b :: q, 0, _, _ => ⟨rfl, rfl⟩
 | s :: r, b :: q, i + 1, h, h' => by
   have ih := svC_at r q i (by simpa using h) (by simpa using h')
   have e : svC (s :: r) (b :: q) = [.string s.nm, .map (some b)] ++ svC r q := rfl
   rw [e, show (i + 1) * 2 = i * 2 + 2 by omega]
   exact ⟨ih.1, ih.2⟩
theorem svC_take : ∀ (ss : List Sav) (bs : List Nat) (n : Nat), svC (ss.take n) (bs.take n) = (svC ss bs).take (n * 2)
 | _, _, 0 => by simp [svC]
 | [], _, n + 1 => by simp [svC]
 | s :: r, [], n + 1 => by simp [svC]
 | s :: r, b :: q, n + 1 => by
   have ih := svC_take r q n
   have e : svC (s :: r) (b :: q) = [.string s.nm, .map (some b)] ++ svC r q := rfl
   have e2 : svC ((s :: r).take (n + 1)) ((b :: q).take (n + 1)) = [.string s.nm, .map (some b)] ++ svC (r.take n) (q.take n) := rfl
   rw [e, e2, ih, show (n + 1) * 2 = n * 2 + 2 by omega]
   rfl
theorem own_take {B e K n m : Nat} {w : World} {a : Option Addr} {c : Nat} {xs : List Value} (h : w.ownsRow B e K (.slice a n c) n xs) (hm : m ≤ n) : w.ownsRow B e K (.slice a m c) m (xs.take (m * K)) := by
 obtain ⟨h1, h2⟩ := h
 have hmk : m * K ≤ n * K := Nat.mul_le_mul_right K hm
 refine ⟨by rw [List.length_take, h1]; omega, ?_⟩
 rcases h2 with ⟨e1, e2⟩ | ⟨g, cap, cur, e1, hg1, hg2, hg3, hg4, hg5, hg6⟩
 ·injection e1 with e1 _ e3
  left
  refine ⟨?_, by omega⟩
  rw [e1, e3, show m = 0 by omega]
 ·injection e1 with e1 _ e3
  right
  refine ⟨g, cap, cur, by rw [e1, e3], hg1, hg2, by omega, hg4, hg5, ?_⟩
  rw [← hg6, List.take_take, Nat.min_eq_left hmk]
theorem nd_take {t : TG} (hn : (t.mb :: t.sm.map Prod.fst).Nodup) (n : Nat) {j : Nat} (hj : j < t.sm.length) (hjn : j < n) : ¬ t.sm[j].1 ∈ (t.sm.drop n).map Prod.fst := fun z => by
 have h2 := (List.nodup_cons.1 hn).2
 have e : t.sm.map Prod.fst = (t.sm.take n).map Prod.fst ++ (t.sm.drop n).map Prod.fst := by rw [← List.map_append, List.take_append_drop]
 rw [e] at h2
 have hm : t.sm[j].1 ∈ (t.sm.take n).map Prod.fst := List.mem_map_of_mem (List.mem_take_iff_getElem.2 ⟨j, by omega, rfl⟩)
 exact (List.nodup_append.1 h2).2.2 _ hm _ z rfl
theorem nd_mb {t : TG} (hn : (t.mb :: t.sm.map Prod.fst).Nodup) (n : Nat) : ¬ t.mb ∈ (t.sm.drop n).map Prod.fst := fun z => by
 obtain ⟨p, hp, e⟩ := List.mem_map.1 z
 exact (List.nodup_cons.1 hn).1 (by rw [← e]; exact List.mem_map_of_mem (List.mem_of_mem_drop hp))
theorem TrM.cut {B : Nat} {w w1 : World} {t : TG} {x : Txn} (h : TrM B w t x) {n : Nat} (hn : n ≤ x.sv.length) (hfr : Fr (fun b => b ∈ (t.sm.drop n).map Prod.fst) w w1) {a : Option Addr} {c : Nat} (hsv : t.sv = .slice a x.sv.length c) :
 (∃ sv', TrM B (w1.setCell ⟨t.g, 35, none⟩ (.slice a n c)) ⟨t.g, t.mb, t.M, sv', t.sm.take n⟩ { x with sv := x.sv.take n } ∧ sv'.ownBlock = t.sv.ownBlock) ∧ Fr (fun b => b = t.g ∨ b ∈ (t.sm.drop n).map Prod.fst) w (w1.setCell ⟨t.g, 35, none⟩ (.slice a n c)) := by
 have hob : (Value.slice a n c).ownBlock = t.sv.ownBlock := by rw [hsv]; cases a <;> rfl
 have hdm : ∀ b, b ∈ (t.sm.drop n).map Prod.fst → b ∈ t.sm.map Prod.fst := fun b hb => by
  obtain ⟨p, hp, e⟩ := List.mem_map.1 hb
  rw [← e]; exact List.mem_map_of_mem (List.mem_of_mem_drop hp)
 have f2 := Fr.setCell w1 t.g 35 (.slice a n c)
 refine ⟨⟨.slice a n c, ⟨?_, ?_, h.rl, ?_, h.mr, h.mi, ?_, ?_, ?_, fun j hj hj' => ?_, ?_, ?_, fun b hb => ?_⟩, hob⟩, (hfr.mono (fun b z => .inr z)).trans (f2.mono (fun b z => .inl z))⟩
 ·have k1 := (h.bk.fr hfr h.gl (fun z => h.g_sm (hdm _ z))).set 35 (.slice a n c) (by rw [tranC_len _ _ _ _ _ h.rl]; omega)
  rw [tranC_setsv _ _ _ _ _ _ h.rl] at k1
  exact k1
 ·simpa using Nat.lt_of_lt_of_le h.gl hfr.size
 ·exact (h.mp.fr hfr (nd_mb h.nd n)).fr f2 (fun e => h.g_mb e.symm)
 ·simp only [List.length_take, h.sl]
 ·simp only [List.length_take]; have := h.s8; omega
 ·simp only
  have hr := h.sr
  rw [hsv] at hr
  have r1 := own_take hr hn
  rw [List.map_take, svC_take, List.length_take, Nat.min_eq_left hn]
  refine own_fr (own_fr r1 hfr (fun g hg z => ?_)) f2 (fun g hg z => ?_)
  ·exact h.sv_sm (by rw [← hob]; exact hg) (hdm _ z)
  ·have e : g = t.g := z
   subst e
   exact h.sg (by rw [← hob]; exact hg)
 ·simp only [List.length_take] at hj hj'
  simp only [List.getElem_take]
  have hj1 : j < t.sm.length := by omega
  have hj2 : j < x.sv.length := by omega
  obtain ⟨q1, q2⟩ := h.ss j hj1 hj2
  refine ⟨(q1.fr hfr (nd_take h.nd n hj1 (by omega))).fr f2 (fun e => ?_), q2⟩
  have e2 : t.sm[j].1 = t.g := e
  exact h.g_sm (by rw [← e2]; exact List.mem_map_of_mem (List.getElem_mem hj1))
 ·refine List.Sublist.nodup ?_ h.nd
  exact List.Sublist.cons_cons _ ((List.take_sublist n t.sm).map Prod.fst)
 ·rw [hob]; exact h.sg
 ·refine h.ge b ?_
  rcases hb with z | z | z | z
  ·exact .inl z
  ·exact .inr (.inl z)
  ·refine .inr (.inr (.inl ?_))
   obtain ⟨p, hp, e⟩ := List.mem_map.1 z
   rw [← e]; exact List.mem_map_of_mem (List.mem_of_mem_take hp)
  ·exact .inr (.inr (.inr (by rw [← hob]; exact z)))
set_option maxHeartbeats 4000000 in
theorem giveUpSaves_any (B : Nat) (w : World) (t : TG) (x : Txn) (h : TrM B w t x) (n : Nat) (hn : n ≤ x.sv.length) :
 Calls Tryz.prog 75 #[.pointer (some ⟨t.g, 0, none⟩), .int .i64 (n : Int)] w fun e w' => (∃ r, e = .returned r) ∧ (∃ sv', TrM B w' ⟨t.g, t.mb, t.M, sv', t.sm.take n⟩ { x with sv := x.sv.take n } ∧ sv'.ownBlock = t.sv.ownBlock) ∧ Fr (fun b => b = t.g ∨ b ∈ (t.sm.drop n).map Prod.fst) w w' := by
 obtain ⟨c35, f35⟩ := h.c35
 have hs8 := h.s8
 have hgl := h.gl
 rcases h.sr.2 with ⟨e1, e2⟩ | ⟨gs, cap, cur, e1, hg1, hg2, hg3, hg4, hg5, hg6⟩
 ·rw [e1] at c35
  have hn0 : n = 0 := by omega
  subst hn0
  have HC := hid (h.cut (n := 0) hn (Fr.refl _ w) (a := none) (c := 0) (by rw [e1, e2]))
  go_enter Tryz.func75, Tryz.ntmps75
  go_wp2
  go_loopw [13] (fun iv wr => iv = .int .i64 0 ∧ wr = w) (fun _ _ => 0)
  case atStart => exact ⟨rfl, rfl⟩
  case round =>
   obtain ⟨rfl, rfl⟩ := hrel
   go_wp2
   go_end0
   exact ⟨⟨_, rfl⟩, HC.out⟩
 ·rw [e1] at c35
  have hcn : (n : Int) ≤ x.sv.length := by omega
  have hcc : n ≤ cap := by omega
  obtain ⟨o', ho', hoc⟩ : ∃ o' : Nat, (if cap = n then (some ⟨gs, 0, none⟩ : Option Addr) else some ⟨gs, n * 2, none⟩) = some ⟨gs, o', none⟩ ∧ (n < cap → o' = n * 2) := by
   by_cases e : cap = n
   ·exact ⟨0, by rw [if_pos e], fun z => by omega⟩
   ·exact ⟨n * 2, by rw [if_neg e], fun z => rfl⟩
  go_enter Tryz.func75, Tryz.ntmps75
  go_wp2
  have HT := hid h
  have HOC := hid hoc
  clear hoc ho' hg2 hg6 h
  go_loopw [13] (fun iv wr => ∃ j : Nat, j ≤ x.sv.length - n ∧ iv = .int .i64 j ∧ Fr (fun b => b ∈ ((t.sm.drop n).take j).map Prod.fst) w wr) (fun iv _ => x.sv.length - n - (intOf iv).toNat)
  case atStart => exact ⟨0, Nat.zero_le _, rfl, Fr.refl _ _⟩
  case round =>
   obtain ⟨j, hj, rfl, hfr⟩ := hrel
   have hsz := hfr.size
   by_cases hlt : j < x.sv.length - n
   ·have hlti : (j : Int) < ((x.sv.length - n : Nat) : Int) := by omega
    have hoe := HOC.out (by omega)
    subst hoe
    have h1 : n + j < x.sv.length := by omega
    have h2 : n + j < t.sm.length := by rw [HT.out.sl]; exact h1
    have hsub : ∀ b, b ∈ ((t.sm.drop n).take j).map Prod.fst → b ∈ t.sm.map Prod.fst := fun b hb => by
     obtain ⟨p, hp, e⟩ := List.mem_map.1 hb
     rw [← e]; exact List.mem_map_of_mem (List.mem_of_mem_drop (List.mem_of_mem_take hp))
    have hgs : t.sv.ownBlock = some gs := by rw [e1]; rfl
    have hgsl : gs < w.heap.size := (HT.out.sr.lt gs hgs).2
    obtain ⟨k1, k2⟩ := svC_at x.sv (t.sm.map Prod.fst) (n + j) h1 (by rw [List.length_map]; exact h2)
    rw [List.getElem_map, show (n + j) * 2 = n * 2 + j * 2 by omega] at *
    have hb := hfr.block gs hgsl (fun z => HT.out.sv_sm hgs (hsub _ z))
    have d0 : wr.cell? ⟨gs, n * 2 + j * 2, none⟩ = some (.string x.sv[n + j].nm) := (World.cell?_of_block (a := ⟨gs, n * 2 + j * 2, none⟩) hb).trans (own_cells HT.out.sr e1 k1)
    have d1 : wr.cell? ⟨gs, n * 2 + j * 2 + 1, none⟩ = some (.map (some t.sm[n + j].1)) := (World.cell?_of_block (a := ⟨gs, n * 2 + j * 2 + 1, none⟩) hb).trans (own_cells HT.out.sr e1 k2)
    have hnot : ¬ t.sm[n + j].1 ∈ ((t.sm.drop n).take j).map Prod.fst := fun z => by
     have hnd := (List.nodup_cons.1 HT.out.nd).2
     have hnd2 : ((t.sm.drop n).map Prod.fst).Nodup := List.Sublist.nodup ((List.drop_sublist n t.sm).map Prod.fst) hnd
     have e : (t.sm.drop n).map Prod.fst = ((t.sm.drop n).take j).map Prod.fst ++ ((t.sm.drop n).drop j).map Prod.fst := by rw [← List.map_append, List.take_append_drop]
     rw [e] at hnd2
     refine (List.nodup_append.1 hnd2).2.2 _ z _ ?_ rfl
     refine List.mem_map_of_mem ?_
     rw [List.drop_drop]
     exact List.mem_drop_iff_getElem.2 ⟨0, by omega, by simp⟩
    obtain ⟨q1, _⟩ := HT.out.ss (n + j) h2 h1
    have q2 := (q1.fr hfr hnot).fr (Fr.of_below (fun _ => False) (below_alloc wr (.cells #[.string x.sv[n + j].nm, .map (some t.sm[n + j].1)] 169))) (fun z => z)
    obtain ⟨o, hcl, _⟩ := run_clearM _ t.sm[n + j].1 0 _ q2
    have HFN : Hid (Fr (fun b => b ∈ ((t.sm.drop n).take (j + 1)).map Prod.fst) w (setBlock (wr.alloc (.cells #[.string x.sv[n + j].nm, .map (some t.sm[n + j].1)] 169)) t.sm[n + j].1 o)) := hid (by
     have hm : (t.sm.drop n).take (j + 1) = (t.sm.drop n).take j ++ [t.sm[n + j]] := by
      rw [List.take_add_one, List.getElem?_drop, List.getElem?_eq_getElem h2]
      rfl
     rw [hm, List.map_append]
     exact ((hfr.mono (fun b z => List.mem_append_left _ z)).trans (Fr.of_below _ (below_alloc _ _))).trans ((fr_setBlock _ _ _).mono (fun b z => List.mem_append_right _ (by rw [z]; exact List.mem_cons_self))))
    clear q1 q2 hnot k1 k2 hsub hfr hb
    generalize x.sv[n + j].nm = nm at *
    generalize t.sm[n + j].1 = mj at *
    go_wp2
    go_roundw
    case rel => exact ⟨j + 1, by omega, by go_num, HFN.out⟩
    case measure => simp [intOf]; omega
   ·have hje : j = x.sv.length - n := by omega
    have hlti : ¬ (j : Int) < ((x.sv.length - n : Nat) : Int) := by omega
    have hfr2 : Fr (fun b => b ∈ (t.sm.drop n).map Prod.fst) w wr := by
     have e : (t.sm.drop n).take j = t.sm.drop n := List.take_of_length_le (by rw [List.length_drop, HT.out.sl]; omega)
     rw [e] at hfr; exact hfr
    have HC := hid (HT.out.cut hn hfr2 e1)
    have hng : ¬ t.g ∈ (t.sm.drop n).map Prod.fst := fun z => by
     obtain ⟨p, hp, e⟩ := List.mem_map.1 z
     exact HT.out.g_sm (by rw [← e]; exact List.mem_map_of_mem (List.mem_of_mem_drop hp))
    have KB := HT.out.bk.fr hfr2 hgl hng
    have d35 : wr.cell? ⟨t.g, 35, none⟩ = some (.slice (some ⟨gs, 0, none⟩) x.sv.length cap) := (KB 35 (by rw [tranC_len _ _ _ _ _ HT.out.rl]; omega)).1.trans (by rw [tranC_35 _ _ _ _ _ HT.out.rl, e1])
    have k35 : wr.frozen? ⟨t.g, 35, none⟩ = false := (KB 35 (by rw [tranC_len _ _ _ _ _ HT.out.rl]; omega)).2
    clear KB hng hfr2 hfr hje HOC
    go_wp2
    go_end0
    have hc := HC.out
    rw [e1, List.map_drop] at hc
    exact ⟨⟨_, rfl⟩, hc⟩
end Go.Proofs.YtblkgicbimflhaaGreat
namespace Go.Proofs.YtblkgicbimflhaaGreat
open Go.ChangeShapes Go.WideShapes Go.ChangeAt Go.RowKit
set_option linter.unusedVariables false
set_option linter.unusedSimpArgs false
set_option maxRecDepth 100000
open List (setIfInBounds_toArray set_cons_zero set_cons_succ)
open Go.ChangeMaps (setBlock)
set_option maxHeartbeats 4000000 in
theorem giveUp_any (B : Nat) (w : World) (t : TG) (x : Txn) (h : TrM B w t x) :
 Calls Tryz.prog 72 #[.pointer (some ⟨t.g, 0, none⟩)] w fun e w' => (∃ r, e = .returned r) ∧ Fr (trF t) w w' := by
 have hgu := giveUpSaves_any B w t x h 0 (Nat.zero_le _)
 rw [show ((0 : Nat) : Int) = 0 from rfl] at hgu
 go_enter Tryz.func72, Tryz.ntmps72
 go_wp2_with (go_at_call 75; fail)
 refine hgu.mono ?_
 rintro e w1 ⟨⟨r, rfl⟩, ⟨sv', hT, _⟩, hfr⟩
 have c34 := hT.c34
 obtain ⟨o, hcl, _⟩ := run_clearM w1 t.mb 0 _ hT.mp
 have HF : Hid (Fr (trF t) w (setBlock w1 t.mb o)) := hid ((hfr.mono (fun b z => by
  rcases z with z | z
  ·exact .inl z
  ·refine .inr (.inr (.inl ?_))
   obtain ⟨p, hp, e⟩ := List.mem_map.1 z
   rw [← e]; exact List.mem_map_of_mem (List.mem_of_mem_drop hp))).trans ((fr_setBlock w1 t.mb o).mono (fun b z => .inr (.inl z))))
 clear hgu hT hfr h
 simp only at c34
 go_wp2
 go_end0
 exact ⟨⟨_, rfl⟩, HF.out⟩
end Go.Proofs.YtblkgicbimflhaaGreat
namespace Go.Proofs.YtblkgicbimflhaaGreat
open Go.ChangeShapes Go.WideShapes Go.ChangeAt Go.RowKit
set_option linter.unusedVariables false
set_option linter.unusedSimpArgs false
set_option maxRecDepth 100000
open List (setIfInBounds_toArray set_cons_zero set_cons_succ)
open Go.ChangeMaps (setBlock)
set_option maxHeartbeats 2000000 in
theorem clone_any (b : Nat) (M : List (Spt × Vsn)) (w : World) (h : MP w b M) :
 Calls Tryz.prog 73 #[.map (some b)] w fun e w' => e = .returned (.map (some w.heap.size)) ∧ MP w' w.heap.size M ∧ Below w.heap.size w w' ∧ w'.heap.size = w.heap.size + 1 := by
 obtain ⟨es, cl, h1, h2⟩ := h
 have hq := fun w => run_eql_map_nil_sl (P := Tryz.prog) w 116 _ _ (some b) Tryz.underlying116
 have HF : Hid (MP (w.alloc (.map es cl)) w.heap.size M ∧ Below w.heap.size w (w.alloc (.map es cl)) ∧ (w.alloc (.map es cl)).heap.size = w.heap.size + 1) := hid (⟨⟨es, cl, Array.getElem?_push_size, h2⟩, below_alloc _ _, by simp⟩)
 go_enter Tryz.func73, Tryz.ntmps73
 go_wp2
 rw [run_callFunc_extern Tryz.func92 (by kernel_rfl) (by kernel_rfl) (by kernel_rfl) (e := Extern.MapsClone.clone) (by kernel_rfl), run_maps_clone_sl w 116 h1]
 simp only [Result.andThen]
 rw [Oper.upon_value]
 go_wp2
 rw [run_typeAssert_map_sl _ 116 20 _ _ _ Tryz.underlying116]
 simp only [Result.andThen]
 rw [Oper.upon_value]
 go_wp2
 go_ret
 exact ⟨rfl, HF.out⟩
def TrP (B : Nat) (w : World) (t : TG) (x' : Txn) (w' : World) : Prop := ∃ t', TrM B w' t' x' ∧ t'.g = t.g ∧ (∀ b, trF t' b → trF t b ∨ w.heap.size ≤ b) ∧ Fr (trF t) w w'
theorem infoSv : (Tryz.prog.info? 169).map (fun i => (i.zero, i.size, i.bytes)) = some (some (.agg #[.string ByteArray.empty, .map none]), 2, 24) := by kernel_rfl
theorem svC_snoc : ∀ (ss : List Sav) (bs : List Nat) (s : Sav) (b : Nat), bs.length = ss.length → svC (ss ++ [s]) (bs ++ [b]) = svC ss bs ++ [.string s.nm, .map (some b)]
 | [], [], s, b, _ => rfl
 | [], _ :: _, _, _, h => by simp at h
 | _ :: _, [], _, _, h => by simp at h
 | a :: r, c :: q, s, b, h => by
   have ih := svC_snoc r q s b (by simpa using h)
   have e : svC (a :: r ++ [s]) (c :: q ++ [b]) = [.string a.nm, .map (some c)] ++ svC (r ++ [s]) (q ++ [b]) := rfl
   have e2 : svC (a :: r) (c :: q) = [.string a.nm, .map (some c)] ++ svC r q := rfl
   rw [e, e2, ih, List.append_assoc]
theorem TrM.pushed {B : Nat} {w W1 W2 : World} {t : TG} {x : Txn} (h : TrM B w t x) {nm : ByteArray} {v' : Value} (hl : x.sv.length < 8) (hB : B ≤ w.heap.size) (hb1 : Below w.heap.size w W1) (hm : MP W1 w.heap.size t.M) (hf : Fr (fun b => t.sv.ownBlock = some b) W1 W2) (ho : W2.ownsRow B 169 2 v' (x.sv.length + 1) (svC x.sv (t.sm.map Prod.fst) ++ [.string nm, .map (some w.heap.size)])) (hv : v'.ownBlock = t.sv.ownBlock ∨ ∃ q, v'.ownBlock = some q ∧ w.heap.size < q) :
 TrP B w t { x with sv := x.sv ++ [⟨nm, x.own⟩] } (W2.setCell ⟨t.g, 35, none⟩ v') := by
 have h1 := h.below hb1
 have f2 := Fr.setCell W2 t.g 35 v'
 have hng : ¬ t.sv.ownBlock = some t.g := h.sg
 have nv : ∀ b, v'.ownBlock = some b → t.sv.ownBlock = some b ∨ w.heap.size < b := fun b hb => by
  rcases hv with e | ⟨q, e, hq⟩
  ·exact .inl (e ▸ hb)
  ·rw [e] at hb; injection hb with hb; subst hb; exact .inr hq
 have hlt : ∀ b, trF t b → b < w.heap.size := fun b hb => h.lt hb
 refine ⟨⟨t.g, t.mb, t.M, v', t.sm ++ [(w.heap.size, t.M)]⟩, ⟨?_, ?_, h.rl, ?_, h.mr, h.mi, ?_, ?_, ?_, fun j hj hj' => ?_, ?_, ?_, fun b hb => ?_⟩, rfl, fun b hb => ?_, ?_⟩
 ·have k1 := (h1.bk.fr hf h1.gl hng).set 35 v' (by rw [tranC_len _ _ _ _ _ h.rl]; omega)
  rw [tranC_setsv _ _ _ _ _ _ h.rl] at k1
  exact k1
 ·have := hf.size; have := h1.gl; simp; omega
 ·exact (h1.mp.fr hf h.sv_mb).fr f2 (fun e => h.g_mb e.symm)
 ·simp [h.sl]
 ·simp; omega
 ·simp only [List.map_append, List.map_cons, List.map_nil, List.length_append, List.length_cons, List.length_nil]
  rw [svC_snoc _ _ _ _ (by rw [List.length_map]; exact h.sl)]
  refine own_fr ho f2 (fun b hb e => ?_)
  have e2 : b = t.g := e
  subst e2
  rcases nv _ hb with z | z
  ·exact h.sg z
  ·have := h.gl; omega
 ·by_cases hjl : j < t.sm.length
  ·have hj2 : j < x.sv.length := by rw [← h.sl]; exact hjl
   simp only [List.getElem_append_left hjl, List.getElem_append_left hj2]
   obtain ⟨q1, q2⟩ := h1.ss j hjl hj2
   refine ⟨(q1.fr hf (fun e => h.sv_sm e (List.mem_map_of_mem (List.getElem_mem hjl)))).fr f2 (fun e => ?_), q2⟩
   have e2 : t.sm[j].1 = t.g := e
   exact h.g_sm (by rw [← e2]; exact List.mem_map_of_mem (List.getElem_mem hjl))
  ·simp at hj
   have hje : j = t.sm.length := by omega
   subst hje
   have e1 : (t.sm ++ [(w.heap.size, t.M)])[t.sm.length]'(by simp) = (w.heap.size, t.M) := by simp
   have e2 : (x.sv ++ [(⟨nm, x.own⟩ : Sav)])[t.sm.length]'(by simp [h.sl]) = ⟨nm, x.own⟩ := by simp [h.sl]
   simp only [e1, e2]
   refine ⟨(hm.fr hf (fun e => ?_)).fr f2 (fun e => ?_), h.mr, h.mi⟩
   ·have := (h.sr.lt _ e).2; omega
   ·have e2 : w.heap.size = t.g := e; have := h.gl; omega
 ·simp only [List.map_append, List.map_cons, List.map_nil]
  have hn := h.nd
  rw [List.nodup_cons] at hn ⊢
  refine ⟨fun z => ?_, List.nodup_append.2 ⟨hn.2, by simp, fun a ha b hb e => ?_⟩⟩
  ·rcases List.mem_append.1 z with q | q
   ·exact hn.1 q
   ·rw [List.mem_singleton] at q; have := h.mp.lt; omega
  ·rw [List.mem_singleton] at hb
   have := hlt a (.inr (.inr (.inl ha)))
   omega
 ·intro e
  have e' : v'.ownBlock = some t.g := e
  rcases nv _ e' with z | z
  ·exact h.sg z
  ·have := h.gl; omega
 ·rcases hb with z | z | z | z
  ·exact h.ge b (.inl z)
  ·exact h.ge b (.inr (.inl z))
  ·simp only [List.map_append, List.map_cons, List.map_nil] at z
   rcases List.mem_append.1 z with q | q
   ·exact h.ge b (.inr (.inr (.inl q)))
   ·rw [List.mem_singleton] at q; omega
  ·rcases nv b z with q | q
   ·exact h.ge b (.inr (.inr (.inr q)))
   ·omega
 ·rcases hb with z | z | z | z
  ·exact .inl (.inl z)
  ·exact .inl (.inr (.inl z))
  ·simp only [List.map_append, List.map_cons, List.map_nil] at z
   rcases List.mem_append.1 z with q | q
   ·exact .inl (.inr (.inr (.inl q)))
   ·rw [List.mem_singleton] at q; exact .inr (by omega)
  ·rcases nv b z with q | q
   ·exact .inl (.inr (.inr (.inr q)))
   ·exact .inr (by omega)
 ·exact ((Fr.of_below _ hb1).trans (hf.mono (fun b z => .inr (.inr (.inr z))))).trans (f2.mono (fun b z => .inl z))
theorem step_append_run {P : Program} {ops : Array Oper} {o : Oper} {a : Act} {w : World} {K : Act → World → Prop} {Q : Exit → Act → World → Prop} {E : Prop} (hg : o.guard = none) (s x : Operand) (t : TypeId) (hop : o.op = Op.call { callee := Callee.builtin Builtin.append, args := #[s, x], argTypes := #[t, t] }) (v y : Value) (hs : a.eval s = v) (hx : a.eval x = y) (v' : Value) (w' : World) (hrun : (Builtin.append_ #[t, t] o.type #[v, y]).run P w = .ok v' w') (hK : K (a.put o.dst v') w') :
 if Region.wanted o (yielded ops a.tmps) = true then Oper.wp P o a w K Q else E := by
 have hw : Region.wanted o (yielded ops a.tmps) = true := by simp [Region.wanted, hg]
 rw [if_pos hw]
 unfold Oper.wp
 simp [execOp, hop, resolve, invoke, builtin, hs, hx, hrun, Result.andThen]
 exact hK
def SaveP (B : Nat) (w : World) (t : TG) (x : Txn) (nm : ByteArray) (e : Ending) (w' : World) : Prop := (x.sv.length = 8 ∧ e = .returned (.int .i64 5) ∧ w' = w) ∨ (x.sv.length < 8 ∧ e = .returned (.int .i64 0) ∧ TrP B w t { x with sv := x.sv ++ [⟨nm, x.own⟩] } w')
set_option maxHeartbeats 4000000 in
theorem save_any (B : Nat) (w : World) (t : TG) (x : Txn) (h : TrM B w t x) (nm : ByteArray) (hB : B ≤ w.heap.size) :
 Calls Tryz.prog 49 #[.pointer (some ⟨t.g, 0, none⟩), .string nm] w fun e w' => SaveP B w t x nm e w' := by
 obtain ⟨i0, hi, hz0, hz1, hz2⟩ := info_parts infoSv
 obtain ⟨c35, f35⟩ := h.c35
 have c34 := h.c34
 obtain ⟨sa, sc, hsv⟩ := h.svf
 rw [hsv] at c35
 have hs8 := h.s8
 have hgl := h.gl
 by_cases h8 : x.sv.length = 8
 ·have HE : Hid (SaveP B w t x nm (.returned (.int .i64 5)) w) := .inl ⟨h8, rfl, rfl⟩
  have h8b : ((x.sv.length : Int) == 8) = true := by rw [h8]; rfl
  clear h8
  go_enter Tryz.func49, Tryz.ntmps49
  go_wp2
  refine bodyPost_ret (v := .int .i64 5) (by simp [results, Tryz.results49, go_sem]) rfl ?_
  exact HE.out
 ·have hl8 : x.sv.length < 8 := by omega
  have h8b : ((x.sv.length : Int) == 8) = false := beq_eq_false_iff_ne.2 (by omega)
  have HT := hid h
  have HSR := hid h.sr
  have hcl : Calls Tryz.prog 73 #[.map (some t.mb)] w.drew fun e w' => e = .returned (.map (some w.heap.size)) ∧ MP w' w.heap.size t.M ∧ Below w.heap.size w w' ∧ w'.heap.size = w.heap.size + 1 := (clone_any t.mb t.M w.drew h.mp).mono (fun e w' z => ⟨z.1, z.2.1, undrew z.2.2.1, z.2.2.2⟩)
  clear h8 h
  go_enter Tryz.func49, Tryz.ntmps49
  go_wp2
  refine wp_region_till_drew (S := (fun W => W.cell? ⟨t.g, 35, none⟩ = some (.slice sa x.sv.length sc) ∧ W.cell? ⟨t.g, 34, none⟩ = some (.map (some t.mb)))) (late := [14, 15, 16]) (by kernel_rfl) (by go_keep) (fun hHeld => ?_)
  refine till_tk (i := 0) (v := ?_) rfl (Or.inl ⟨by rfl, ?_⟩) hHeld ?_
  rotate_left
  ·intro w
   go_simp
   try with_reducible rfl
  try simp only [Act.put, setIfInBounds_toArray, set_cons_zero, set_cons_succ]
  refine till_tk (i := 1) (v := ?_) rfl (Or.inl ⟨by rfl, ?_⟩) hHeld ?_
  rotate_left
  ·intro w
   go_simp
   try with_reducible rfl
  try simp only [Act.put, setIfInBounds_toArray, set_cons_zero, set_cons_succ]
  refine till_tk (i := 2) (v := ?_) rfl (Or.inl ⟨by rfl, ?_⟩) hHeld ?_
  rotate_left
  ·intro w
   go_simp
   try with_reducible rfl
  try simp only [Act.put, setIfInBounds_toArray, set_cons_zero, set_cons_succ]
  refine till_tk (i := 3) (v := ?_) rfl (Or.inl ⟨by rfl, ?_⟩) hHeld ?_
  rotate_left
  ·intro w
   go_simp
   try with_reducible rfl
  try simp only [Act.put, setIfInBounds_toArray, set_cons_zero, set_cons_succ]
  refine till_ld (i := 4) (v := ?_) rfl (Or.inl ⟨by rfl, ?_⟩) hHeld ?_
  rotate_left
  ·intro w hSw
   try dsimp only at hSw
   go_simp
   try with_reducible rfl
  try simp only [Act.put, setIfInBounds_toArray, set_cons_zero, set_cons_succ]
  refine till_tk (i := 5) (v := ?_) rfl (Or.inl ⟨by rfl, ?_⟩) hHeld ?_
  rotate_left
  ·intro w
   go_simp
   try with_reducible rfl
  try simp only [Act.put, setIfInBounds_toArray, set_cons_zero, set_cons_succ]
  refine till_tk (i := 6) (v := ?_) rfl (Or.inl ⟨by rfl, ?_⟩) hHeld ?_
  rotate_left
  ·intro w
   go_simp
   try with_reducible rfl
  try simp only [Act.put, setIfInBounds_toArray, set_cons_zero, set_cons_succ]
  refine till_tk (i := 7) (v := ?_) rfl (Or.inl ⟨by rfl, ?_⟩) hHeld ?_
  rotate_left
  ·intro w
   go_simp
   try with_reducible rfl
  try simp only [Act.put, setIfInBounds_toArray, set_cons_zero, set_cons_succ]
  refine till_tk (i := 8) (v := ?_) rfl (Or.inl ⟨by rfl, ?_⟩) hHeld ?_
  rotate_left
  ·intro w
   go_simp
   try with_reducible rfl
  try simp only [Act.put, setIfInBounds_toArray, set_cons_zero, set_cons_succ]
  refine till_ld (i := 9) (v := ?_) rfl (Or.inl ⟨by rfl, ?_⟩) hHeld ?_
  rotate_left
  ·intro w hSw
   try dsimp only at hSw
   go_simp
   try with_reducible rfl
  try simp only [Act.put, setIfInBounds_toArray, set_cons_zero, set_cons_succ]
  refine till_ready (rs := [10]) (by kernel_rfl) (by simp) (TillAll.cons rfl (fun K hK => ?_) TillAll.nil)
  go_simp
  refine hcl.mono ?_
  rintro e W1 ⟨rfl, hm1, hb1, hq1⟩
  have hq2 : w.heap.size < W1.heap.size := by omega
  clear hq1
  have HM1 := hid hm1
  have HB1 := hid hb1
  have c5 : W1.cell? ⟨t.g, 35, none⟩ = some (.slice sa x.sv.length sc) := (hb1.cell (p := ⟨t.g, 35, none⟩) hgl).trans c35
  have c4 : W1.cell? ⟨t.g, 34, none⟩ = some (.map (some t.mb)) := (hb1.cell (p := ⟨t.g, 34, none⟩) hgl).trans c34
  have f5 : W1.frozen? ⟨t.g, 35, none⟩ = false := (hb1.frozen (p := ⟨t.g, 35, none⟩) hgl).trans f35
  refine hK _ _ ⟨⟨c5, c4⟩, ?_⟩
  clear hK K hcl hm1 hb1
  try simp only [Act.put, setIfInBounds_toArray, set_cons_zero, set_cons_succ]
  refine till_ready (rs := [11]) (by kernel_rfl) (by simp) (TillAll.cons rfl (fun K hK => ?_) TillAll.nil)
  go_simp
  refine hK _ _ ⟨⟨c5, c4⟩, ?_⟩
  clear hK K
  try simp only [Act.put, setIfInBounds_toArray, set_cons_zero, set_cons_succ]
  refine till_ready (rs := [12]) (by kernel_rfl) (by simp) (TillAll.cons rfl (fun K hK => ?_) TillAll.nil)
  go_simp
  have hgl1 : t.g < W1.heap.size := by omega
  have b2 : Below w.heap.size w (W1.alloc (.cells #[.string nm, .map (some w.heap.size)] 169)) := HB1.out.alloc (by omega) _
  have c52 : (W1.alloc (.cells #[.string nm, .map (some w.heap.size)] 169)).cell? ⟨t.g, 35, none⟩ = some (.slice sa x.sv.length sc) := ((below_alloc W1 _).cell (p := ⟨t.g, 35, none⟩) hgl1).trans c5
  have c42 : (W1.alloc (.cells #[.string nm, .map (some w.heap.size)] 169)).cell? ⟨t.g, 34, none⟩ = some (.map (some t.mb)) := ((below_alloc W1 _).cell (p := ⟨t.g, 34, none⟩) hgl1).trans c4
  have f52 : (W1.alloc (.cells #[.string nm, .map (some w.heap.size)] 169)).frozen? ⟨t.g, 35, none⟩ = false := ((below_alloc W1 _).frozen (p := ⟨t.g, 35, none⟩) hgl1).trans f5
  refine hK _ _ ⟨⟨c52, c42⟩, ?_⟩
  clear hK K
  try simp only [Act.put, setIfInBounds_toArray, set_cons_zero, set_cons_succ]
  have hr0 := own_below HSR.out b2
  rw [hsv] at hr0
  obtain ⟨v', W3, hrun, hown, hgrow, _, hat⟩ := run_append_own_at (P := Tryz.prog) (W1.alloc (.cells #[.string nm, .map (some w.heap.size)] 169)) B 117 117 169 i0 _ 2 24 Tryz.underlying117 hi hz0 hz1 hz2 rfl (by decide) (.slice sa x.sv.length sc) x.sv.length _ hr0 ⟨W1.heap.size, 0, none⟩ 1 1 [.string nm, .map (some w.heap.size)] rfl (cells_new _ [.string nm, .map (some w.heap.size)] 169 _ rfl) (by intro u hu; simp at hu; rcases hu with rfl | rfl <;> rfl) (by unfold maxLen; omega) (by omega) (by simp; omega)
  obtain ⟨na, nc, hvn⟩ := formR hown
  subst hvn
  have hfg : Fr (fun b => t.sv.ownBlock = some b) (W1.alloc (.cells #[.string nm, .map (some w.heap.size)] 169)) W3 := by rw [hsv]; exact Fr.grown hgrow
  have HP : Hid (TrP B w t { x with sv := x.sv ++ [⟨nm, x.own⟩] } (W3.setCell ⟨t.g, 35, none⟩ (.slice na (x.sv.length + 1) nc))) := hid (HT.out.pushed hl8 hB b2 (HM1.out.fr (Fr.of_below (fun _ => False) (below_alloc _ _)) (fun z => z)) hfg hown (by
   rcases hat with z | z
   ·exact .inl (by rw [hsv]; exact z)
   ·exact .inr ⟨_, z, by simp; omega⟩))
  have HQ : Hid (SaveP B w t x nm (.returned (.int .i64 0)) (W3.setCell ⟨t.g, 35, none⟩ (.slice na (x.sv.length + 1) nc))) := .inr ⟨hl8, rfl, HP.out⟩
  have hgl2 : t.g < (W1.alloc (.cells #[.string nm, .map (some w.heap.size)] 169)).heap.size := by simp; omega
  have hbk := hfg.block t.g hgl2 HT.out.sg
  have c53 : W3.cell? ⟨t.g, 35, none⟩ = some (.slice sa x.sv.length sc) := (World.cell?_of_block (a := ⟨t.g, 35, none⟩) hbk).trans c52
  have c43 : W3.cell? ⟨t.g, 34, none⟩ = some (.map (some t.mb)) := (World.cell?_of_block (a := ⟨t.g, 34, none⟩) hbk).trans c42
  have f53 : W3.frozen? ⟨t.g, 35, none⟩ = false := (World.frozen?_of_block (a := ⟨t.g, 35, none⟩) hbk).trans f52
  clear hown hgrow hat hfg HP hbk hr0
  refine till_ready (rs := [13]) (by kernel_rfl) (by simp) (TillAll.cons rfl (fun K hK => ?_) TillAll.nil)
  refine step_append_run rfl (.tmp 15) (.tmp 23) 117 rfl _ _ rfl rfl _ _ hrun ?_
  refine hK _ _ ⟨⟨c53, c43⟩, ?_⟩
  clear hK K
  try simp only [Act.put, setIfInBounds_toArray, set_cons_zero, set_cons_succ]
  clear hrun c52 c42 f52 c5 c4 f5 b2
  refine till_ready (rs := [14]) (by kernel_rfl) (by simp) (TillAll.cons2 rfl (by kernel_rfl) (fun K hK => ?_) TillAll.nil)
  go_simp
  refine hK _ _ ?_
  clear hK K
  try simp only [Act.put, setIfInBounds_toArray, set_cons_zero, set_cons_succ]
  refine till_ready (rs := [15]) (by kernel_rfl) (by simp) (TillAll.cons2 rfl (by kernel_rfl) (fun K hK => ?_) TillAll.nil)
  go_simp
  refine hK _ _ ?_
  clear hK K
  try simp only [Act.put, setIfInBounds_toArray, set_cons_zero, set_cons_succ]
  refine till_ready (rs := [16]) (by kernel_rfl) (by simp) (TillAll.cons2 rfl (by kernel_rfl) (fun K hK => ?_) TillAll.nil)
  go_simp
  refine hK _ _ ?_
  clear hK K
  try simp only [Act.put, setIfInBounds_toArray, set_cons_zero, set_cons_succ]
  refine till_done (by kernel_rfl) ?_ _
  go_wp2
  refine bodyPost_ret (v := .int .i64 0) (by simp [results, Tryz.results49, go_sem]) rfl ?_
  exact HQ.out
end Go.Proofs.YtblkgicbimflhaaGreat
