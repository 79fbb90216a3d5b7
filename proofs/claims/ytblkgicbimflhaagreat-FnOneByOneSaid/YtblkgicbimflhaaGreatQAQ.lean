import Derived.Test.YtblkgicbimflhaaGreatQAP
import Derived.Shelf.SlMaps.Clone
import Derived.Deep.RegionWith
import Derived.Deep.RegionHeld3
import Derived.Maps.AppendAt
import Derived.RangeFuncNested
import Derived.RangeFuncBound
import Derived.RangeFuncCalls
import Derived.RangeFuncLeaves
import Derived.Shelf.Abstract
import Derived.Shelf.RegionOpen
import Derived.WalkKit
import Derived.OwnWalkIn
import Derived.TacticsInMore
import Derived.LoopNIn
import Derived.LoopIn
import Derived.Test.YtblkgicbimflhaaGreatQAE
import Derived.Test.YtblkgicbimflhaaGreatQAJ
namespace Go.Proofs.YtblkgicbimflhaaGreat
open Go.ChangeShapes Go.WideShapes Go.ChangeAt Go.RowKit
set_option linter.unusedVariables false
set_option linter.unusedSimpArgs false
set_option maxRecDepth 100000
set_option maxHeartbeats 16000000
open Go.ChangeMaps (setBlock)
theorem svC_at : ∀ (ss : List Sav) (bs : List Nat) (i : Nat) (h : i < ss.length) (h' : i < bs.length), (svC ss bs)[i * 2]? = some (.string ss[i].nm) /\ (svC ss bs)[i * 2 + 1]? = some (.map (some bs[i]))
 | s :: r, b :: q, 0, _, _ => ⟨rfl, rfl⟩
 | s :: r, b :: q, i + 1, h, h' => by
   have ih := svC_at r q i (by simpa using h) (by simpa using h')
   have e : svC (s :: r) (b :: q) = [.string s.nm, .map (some b)] ++ svC r q := rfl
   rw [e, show (i + 1) * 2 = i * 2 + 2 by omega]
   exact ⟨ih.1, ih.2⟩
theorem svC_take : ∀ (ss : List Sav) (bs : List Nat) (n : Nat), svC (ss.take n) (bs.take n) = (svC ss bs).take (n * 2)
 | _, _, 0 => by simp [svC]
 | [], _, n + 1 => by simp [svC]
 | s :: r, [], n + 1 => by simp [svC]
 | s :: r, b :: q, n + 1 => by
   have ih := svC_take r q n
   have e : svC (s :: r) (b :: q) = [.string s.nm, .map (some b)] ++ svC r q := rfl
   have e2 : svC ((s :: r).take (n + 1)) ((b :: q).take (n + 1)) = [.string s.nm, .map (some b)] ++ svC (r.take n) (q.take n) := rfl
   rw [e, e2, ih, show (n + 1) * 2 = n * 2 + 2 by omega]
   rfl
theorem own_take {B e K n m : Nat} {w : World} {a : Option Addr} {c : Nat} {xs : List Value} (h : w.ownsRow B e K (.slice a n c) n xs) (hm : m <= n) : w.ownsRow B e K (.slice a m c) m (xs.take (m * K)) := by
 obtain ⟨h1, h2⟩ := h
 have hmk : m * K <= n * K := Nat.mul_le_mul_right K hm
 refine ⟨by rw [List.length_take, h1]; omega, ?_⟩
 rcases h2 with ⟨e1, e2⟩ | ⟨g, cap, cur, e1, hg1, hg2, hg3, hg4, hg5, hg6⟩
 .injection e1 with e1 _ e3
  left
  refine ⟨?_, by omega⟩
  rw [e1, e3, show m = 0 by omega]
 .injection e1 with e1 _ e3
  right
  refine ⟨g, cap, cur, by rw [e1, e3], hg1, hg2, by omega, hg4, hg5, ?_⟩
  rw [<- hg6, List.take_take, Nat.min_eq_left hmk]
theorem nd_take {t : TG} (hn : (t.mb :: t.sm.map Prod.fst).Nodup) (n : Nat) {j : Nat} (hj : j < t.sm.length) (hjn : j < n) : ¬ t.sm[j].1 ∈ (t.sm.drop n).map Prod.fst := fun z => by
 have h2 := (List.nodup_cons.1 hn).2
 have e : t.sm.map Prod.fst = (t.sm.take n).map Prod.fst ++ (t.sm.drop n).map Prod.fst := by rw [<- List.map_append, List.take_append_drop]
 rw [e] at h2
 have hm : t.sm[j].1 ∈ (t.sm.take n).map Prod.fst := List.mem_map_of_mem (List.mem_take_iff_getElem.2 ⟨j, by omega, rfl⟩)
 exact (List.nodup_append.1 h2).2.2 _ hm _ z rfl
theorem nd_mb {t : TG} (hn : (t.mb :: t.sm.map Prod.fst).Nodup) (n : Nat) : ¬ t.mb ∈ (t.sm.drop n).map Prod.fst := fun z => by
 obtain ⟨p, hp, e⟩ := List.mem_map.1 z
 exact (List.nodup_cons.1 hn).1 (by rw [<- e]; exact List.mem_map_of_mem (List.mem_of_mem_drop hp))
theorem TrM.cut {B : Nat} {w w1 : World} {t : TG} {x : Txn} (h : TrM B w t x) {n : Nat} (hn : n <= x.sv.length) (hfr : Fr (fun b => b ∈ (t.sm.drop n).map Prod.fst) w w1) {a : Option Addr} {c : Nat} (hsv : t.sv = .slice a x.sv.length c) :
 (∃ sv', TrM B (w1.setCell ⟨t.g, 35, none⟩ (.slice a n c)) ⟨t.g, t.mb, t.M, sv', t.sm.take n⟩ { x with sv := x.sv.take n } /\ sv'.ownBlock = t.sv.ownBlock) /\ Fr (fun b => b = t.g \/ b ∈ (t.sm.drop n).map Prod.fst) w (w1.setCell ⟨t.g, 35, none⟩ (.slice a n c)) := by
 have hob : (Value.slice a n c).ownBlock = t.sv.ownBlock := by rw [hsv]; cases a <;> rfl
 have hdm : ∀ b, b ∈ (t.sm.drop n).map Prod.fst -> b ∈ t.sm.map Prod.fst := fun b hb => by
  obtain ⟨p, hp, e⟩ := List.mem_map.1 hb
  rw [<- e]; exact List.mem_map_of_mem (List.mem_of_mem_drop hp)
 have f2 := Fr.setCell w1 t.g 35 (.slice a n c)
 refine ⟨⟨.slice a n c, ⟨?_, ?_, h.rl, ?_, h.mr, h.mi, ?_, ?_, ?_, fun j hj hj' => ?_, ?_, ?_, fun b hb => ?_⟩, hob⟩, (hfr.mono (fun b z => .inr z)).trans (f2.mono (fun b z => .inl z))⟩
 .have k1 := (h.bk.fr hfr h.gl (fun z => h.g_sm (hdm _ z))).set 35 (.slice a n c) (by rw [tranC_len _ _ _ _ _ h.rl]; omega)
  rw [tranC_setsv _ _ _ _ _ _ h.rl] at k1
  exact k1
 .simpa using Nat.lt_of_lt_of_le h.gl hfr.size
 .exact (h.mp.fr hfr (nd_mb h.nd n)).fr f2 (fun e => h.g_mb e.symm)
 .simp only [List.length_take, h.sl]
 .simp only [List.length_take]; have := h.s8; omega
 .simp only
  have hr := h.sr
  rw [hsv] at hr
  have r1 := own_take hr hn
  rw [List.map_take, svC_take, List.length_take, Nat.min_eq_left hn]
  refine own_fr (own_fr r1 hfr (fun g hg z => ?_)) f2 (fun g hg z => ?_)
  .exact h.sv_sm (by rw [<- hob]; exact hg) (hdm _ z)
  .have e : g = t.g := z
   subst e
   exact h.sg (by rw [<- hob]; exact hg)
 .simp only [List.length_take] at hj hj'
  simp only [List.getElem_take]
  have hj1 : j < t.sm.length := by omega
  have hj2 : j < x.sv.length := by omega
  obtain ⟨q1, q2⟩ := h.ss j hj1 hj2
  refine ⟨(q1.fr hfr (nd_take h.nd n hj1 (by omega))).fr f2 (fun e => ?_), q2⟩
  have e2 : t.sm[j].1 = t.g := e
  exact h.g_sm (by rw [<- e2]; exact List.mem_map_of_mem (List.getElem_mem hj1))
 .refine List.Sublist.nodup ?_ h.nd
  exact List.Sublist.cons_cons _ ((List.take_sublist n t.sm).map Prod.fst)
 .rw [hob]; exact h.sg
 .refine h.ge b ?_
  rcases hb with z | z | z | z
  .exact .inl z
  .exact .inr (.inl z)
  .refine .inr (.inr (.inl ?_))
   obtain ⟨p, hp, e⟩ := List.mem_map.1 z
   rw [<- e]; exact List.mem_map_of_mem (List.mem_of_mem_take hp)
  .exact .inr (.inr (.inr (by rw [<- hob]; exact z)))
theorem giveUpSaves_any (B : Nat) (w : World) (t : TG) (x : Txn) (h : TrM B w t x) (n : Nat) (hn : n <= x.sv.length) :
 Calls Tryz.prog 75 #[.pointer (some ⟨t.g, 0, none⟩), .int .i64 (n : Int)] w fun e w' => (∃ r, e = .returned r) /\ (∃ sv', TrM B w' ⟨t.g, t.mb, t.M, sv', t.sm.take n⟩ { x with sv := x.sv.take n } /\ sv'.ownBlock = t.sv.ownBlock) /\ Fr (fun b => b = t.g \/ b ∈ (t.sm.drop n).map Prod.fst) w w' := by
 obtain ⟨c35, f35⟩ := h.c35
 have hs8 := h.s8
 have hgl := h.gl
 rcases h.sr.2 with ⟨e1, e2⟩ | ⟨gs, cap, cur, e1, hg1, hg2, hg3, hg4, hg5, hg6⟩
 .rw [e1] at c35
  have hn0 : n = 0 := by omega
  subst hn0
  have HC := hid (h.cut (n := 0) hn (Fr.refl _ w) (a := none) (c := 0) (by rw [e1, e2]))
  go_enter Tryz.func75, Tryz.ntmps75
  go_wp2
  go_loopw [13] (fun iv wr => iv = .int .i64 0 /\ wr = w) (fun _ _ => 0)
  case atStart => exact ⟨rfl, rfl⟩
  case round =>
   obtain ⟨rfl, rfl⟩ := hrel
   go_wp2
   go_end0
   exact ⟨⟨_, rfl⟩, HC.out⟩
 .rw [e1] at c35
  have hcn : (n : Int) <= x.sv.length := by omega
  have hcc : n <= cap := by omega
  obtain ⟨o', ho', hoc⟩ : ∃ o' : Nat, (if cap = n then (some ⟨gs, 0, none⟩ : Option Addr) else some ⟨gs, n * 2, none⟩) = some ⟨gs, o', none⟩ /\ (n < cap -> o' = n * 2) := by
   by_cases e : cap = n
   .exact ⟨0, by rw [if_pos e], fun z => by omega⟩
   .exact ⟨n * 2, by rw [if_neg e], fun z => rfl⟩
  go_enter Tryz.func75, Tryz.ntmps75
  go_wp2
  have HT := hid h
  have HOC := hid hoc
  clear hoc ho' hg2 hg6 h
  go_loopw [13] (fun iv wr => ∃ j : Nat, j <= x.sv.length - n /\ iv = .int .i64 j /\ Fr (fun b => b ∈ ((t.sm.drop n).take j).map Prod.fst) w wr) (fun iv _ => x.sv.length - n - (intOf iv).toNat)
  case atStart => exact ⟨0, Nat.zero_le _, rfl, Fr.refl _ _⟩
  case round =>
   obtain ⟨j, hj, rfl, hfr⟩ := hrel
   have hsz := hfr.size
   by_cases hlt : j < x.sv.length - n
   .have hlti : (j : Int) < ((x.sv.length - n : Nat) : Int) := by omega
    have hoe := HOC.out (by omega)
    subst hoe
    have h1 : n + j < x.sv.length := by omega
    have h2 : n + j < t.sm.length := by rw [HT.out.sl]; exact h1
    have hsub : ∀ b, b ∈ ((t.sm.drop n).take j).map Prod.fst -> b ∈ t.sm.map Prod.fst := fun b hb => by
     obtain ⟨p, hp, e⟩ := List.mem_map.1 hb
     rw [<- e]; exact List.mem_map_of_mem (List.mem_of_mem_drop (List.mem_of_mem_take hp))
    have hgs : t.sv.ownBlock = some gs := by rw [e1]; rfl
    have hgsl : gs < w.heap.size := (HT.out.sr.lt gs hgs).2
    obtain ⟨k1, k2⟩ := svC_at x.sv (t.sm.map Prod.fst) (n + j) h1 (by rw [List.length_map]; exact h2)
    rw [List.getElem_map, show (n + j) * 2 = n * 2 + j * 2 by omega] at *
    have hb := hfr.block gs hgsl (fun z => HT.out.sv_sm hgs (hsub _ z))
    have d0 : wr.cell? ⟨gs, n * 2 + j * 2, none⟩ = some (.string x.sv[n + j].nm) := (World.cell?_of_block (a := ⟨gs, n * 2 + j * 2, none⟩) hb).trans (own_cells HT.out.sr e1 k1)
    have d1 : wr.cell? ⟨gs, n * 2 + j * 2 + 1, none⟩ = some (.map (some t.sm[n + j].1)) := (World.cell?_of_block (a := ⟨gs, n * 2 + j * 2 + 1, none⟩) hb).trans (own_cells HT.out.sr e1 k2)
    have hnot : ¬ t.sm[n + j].1 ∈ ((t.sm.drop n).take j).map Prod.fst := fun z => by
     have hnd := (List.nodup_cons.1 HT.out.nd).2
     have hnd2 : ((t.sm.drop n).map Prod.fst).Nodup := List.Sublist.nodup ((List.drop_sublist n t.sm).map Prod.fst) hnd
     have e : (t.sm.drop n).map Prod.fst = ((t.sm.drop n).take j).map Prod.fst ++ ((t.sm.drop n).drop j).map Prod.fst := by rw [<- List.map_append, List.take_append_drop]
     rw [e] at hnd2
     refine (List.nodup_append.1 hnd2).2.2 _ z _ ?_ rfl
     refine List.mem_map_of_mem ?_
     rw [List.drop_drop]
     exact List.mem_drop_iff_getElem.2 ⟨0, by omega, by simp⟩
    obtain ⟨q1, _⟩ := HT.out.ss (n + j) h2 h1
    have q2 := (q1.fr hfr hnot).fr (Fr.of_below (fun _ => False) (below_alloc wr (.cells #[.string x.sv[n + j].nm, .map (some t.sm[n + j].1)] 169))) (fun z => z)
    obtain ⟨o, hcl, _⟩ := run_clearM _ t.sm[n + j].1 0 _ q2
    have HFN : Hid (Fr (fun b => b ∈ ((t.sm.drop n).take (j + 1)).map Prod.fst) w (setBlock (wr.alloc (.cells #[.string x.sv[n + j].nm, .map (some t.sm[n + j].1)] 169)) t.sm[n + j].1 o)) := hid (by
     have hm : (t.sm.drop n).take (j + 1) = (t.sm.drop n).take j ++ [t.sm[n + j]] := by
      rw [List.take_add_one, List.getElem?_drop, List.getElem?_eq_getElem h2]
      rfl
     rw [hm, List.map_append]
     exact ((hfr.mono (fun b z => List.mem_append_left _ z)).trans (Fr.of_below _ (below_alloc _ _))).trans ((fr_setBlock _ _ _).mono (fun b z => List.mem_append_right _ (by rw [z]; exact List.mem_cons_self))))
    clear q1 q2 hnot k1 k2 hsub hfr hb
    generalize x.sv[n + j].nm = nm at *
    generalize t.sm[n + j].1 = mj at *
    go_wp2
    go_roundw
    case rel => exact ⟨j + 1, by omega, by go_num, HFN.out⟩
    case measure => simp [intOf]; omega
   .have hje : j = x.sv.length - n := by omega
    have hlti : ¬ (j : Int) < ((x.sv.length - n : Nat) : Int) := by omega
    have hfr2 : Fr (fun b => b ∈ (t.sm.drop n).map Prod.fst) w wr := by
     have e : (t.sm.drop n).take j = t.sm.drop n := List.take_of_length_le (by rw [List.length_drop, HT.out.sl]; omega)
     rw [e] at hfr; exact hfr
    have HC := hid (HT.out.cut hn hfr2 e1)
    have hng : ¬ t.g ∈ (t.sm.drop n).map Prod.fst := fun z => by
     obtain ⟨p, hp, e⟩ := List.mem_map.1 z
     exact HT.out.g_sm (by rw [<- e]; exact List.mem_map_of_mem (List.mem_of_mem_drop hp))
    have KB := HT.out.bk.fr hfr2 hgl hng
    have d35 : wr.cell? ⟨t.g, 35, none⟩ = some (.slice (some ⟨gs, 0, none⟩) x.sv.length cap) := (KB 35 (by rw [tranC_len _ _ _ _ _ HT.out.rl]; omega)).1.trans (by rw [tranC_35 _ _ _ _ _ HT.out.rl, e1])
    have k35 : wr.frozen? ⟨t.g, 35, none⟩ = false := (KB 35 (by rw [tranC_len _ _ _ _ _ HT.out.rl]; omega)).2
    clear KB hng hfr2 hfr hje HOC
    go_wp2
    go_end0
    have hc := HC.out
    rw [e1, List.map_drop] at hc
    exact ⟨⟨_, rfl⟩, hc⟩
end Go.Proofs.YtblkgicbimflhaaGreat
namespace Go.Proofs.YtblkgicbimflhaaGreat
open Go.ChangeShapes Go.WideShapes Go.ChangeAt Go.RowKit
set_option linter.unusedVariables false
set_option linter.unusedSimpArgs false
set_option maxRecDepth 100000
set_option maxHeartbeats 16000000
open Go.ChangeMaps (setBlock)
theorem giveUp_any (B : Nat) (w : World) (t : TG) (x : Txn) (h : TrM B w t x) :
 Calls Tryz.prog 72 #[.pointer (some ⟨t.g, 0, none⟩)] w fun e w' => (∃ r, e = .returned r) /\ Fr (trF t) w w' := by
 have hgu := giveUpSaves_any B w t x h 0 (Nat.zero_le _)
 rw [show ((0 : Nat) : Int) = 0 from rfl] at hgu
 go_enter Tryz.func72, Tryz.ntmps72
 go_wp2_with (go_at_call 75; fail)
 refine hgu.mono ?_
 rintro e w1 ⟨⟨r, rfl⟩, ⟨sv', hT, _⟩, hfr⟩
 have c34 := hT.c34
 obtain ⟨o, hcl, _⟩ := run_clearM w1 t.mb 0 _ hT.mp
 have HF : Hid (Fr (trF t) w (setBlock w1 t.mb o)) := hid ((hfr.mono (fun b z => by
  rcases z with z | z
  .exact .inl z
  .refine .inr (.inr (.inl ?_))
   obtain ⟨p, hp, e⟩ := List.mem_map.1 z
   rw [<- e]; exact List.mem_map_of_mem (List.mem_of_mem_drop hp))).trans ((fr_setBlock w1 t.mb o).mono (fun b z => .inr (.inl z))))
 clear hgu hT hfr h
 simp only at c34
 go_wp2
 go_end0
 exact ⟨⟨_, rfl⟩, HF.out⟩
end Go.Proofs.YtblkgicbimflhaaGreat
namespace Go.Proofs.YtblkgicbimflhaaGreat
open Go.ChangeShapes Go.WideShapes Go.ChangeAt Go.RowKit
set_option linter.unusedVariables false
set_option linter.unusedSimpArgs false
set_option maxRecDepth 100000
set_option maxHeartbeats 16000000
open Go.ChangeMaps (setBlock)
theorem clone_any (b : Nat) (M : List (Spt × Vsn)) (w : World) (h : MP w b M) :
 Calls Tryz.prog 73 #[.map (some b)] w fun e w' => e = .returned (.map (some w.heap.size)) /\ MP w' w.heap.size M /\ Below w.heap.size w w' /\ w'.heap.size = w.heap.size + 1 := by
 obtain ⟨es, cl, h1, h2⟩ := h
 have hq := fun w => run_eql_map_nil_sl (P := Tryz.prog) w 116 _ _ (some b) Tryz.underlying116
 have HF : Hid (MP (w.alloc (.map es cl)) w.heap.size M /\ Below w.heap.size w (w.alloc (.map es cl)) /\ (w.alloc (.map es cl)).heap.size = w.heap.size + 1) := hid (⟨⟨es, cl, Array.getElem?_push_size, h2⟩, below_alloc _ _, by simp⟩)
 go_enter Tryz.func73, Tryz.ntmps73
 go_wp2
 rw [run_callFunc_extern Tryz.func92 (by kernel_rfl) (by kernel_rfl) (by kernel_rfl) (e := Extern.MapsClone.clone) (by kernel_rfl), run_maps_clone_sl w 116 h1]
 simp only [Result.andThen]
 rw [Oper.upon_value]
 go_wp2
 rw [run_typeAssert_map_sl _ 116 20 _ _ _ Tryz.underlying116]
 simp only [Result.andThen]
 rw [Oper.upon_value]
 go_wp2
 go_ret
 exact ⟨rfl, HF.out⟩
def TrP (B : Nat) (w : World) (t : TG) (x' : Txn) (w' : World) : Prop := ∃ t', TrM B w' t' x' /\ t'.g = t.g /\ (∀ b, trF t' b -> trF t b \/ w.heap.size <= b) /\ Fr (trF t) w w'
theorem infoSv : (Tryz.prog.info? 169).map (fun i => (i.zero, i.size, i.bytes)) = some (some (.agg #[.string ByteArray.empty, .map none]), 2, 24) := by kernel_rfl
theorem svC_snoc : ∀ (ss : List Sav) (bs : List Nat) (s : Sav) (b : Nat), bs.length = ss.length -> svC (ss ++ [s]) (bs ++ [b]) = svC ss bs ++ [.string s.nm, .map (some b)]
 | [], [], s, b, _ => rfl
 | [], _ :: _, _, _, h => by simp at h
 | _ :: _, [], _, _, h => by simp at h
 | a :: r, c :: q, s, b, h => by
   have ih := svC_snoc r q s b (by simpa using h)
   have e : svC (a :: r ++ [s]) (c :: q ++ [b]) = [.string a.nm, .map (some c)] ++ svC (r ++ [s]) (q ++ [b]) := rfl
   have e2 : svC (a :: r) (c :: q) = [.string a.nm, .map (some c)] ++ svC r q := rfl
   rw [e, e2, ih, List.append_assoc]
theorem TrM.pushed {B : Nat} {w W1 W2 : World} {t : TG} {x : Txn} (h : TrM B w t x) {nm : ByteArray} {v' : Value} (hl : x.sv.length < 8) (hB : B <= w.heap.size) (hb1 : Below w.heap.size w W1) (hm : MP W1 w.heap.size t.M) (hf : Fr (fun b => t.sv.ownBlock = some b) W1 W2) (ho : W2.ownsRow B 169 2 v' (x.sv.length + 1) (svC x.sv (t.sm.map Prod.fst) ++ [.string nm, .map (some w.heap.size)])) (hv : v'.ownBlock = t.sv.ownBlock \/ ∃ q, v'.ownBlock = some q /\ w.heap.size < q) :
 TrP B w t { x with sv := x.sv ++ [⟨nm, x.own⟩] } (W2.setCell ⟨t.g, 35, none⟩ v') := by
 have h1 := h.below hb1
 have f2 := Fr.setCell W2 t.g 35 v'
 have hng : ¬ t.sv.ownBlock = some t.g := h.sg
 have nv : ∀ b, v'.ownBlock = some b -> t.sv.ownBlock = some b \/ w.heap.size < b := fun b hb => by
  rcases hv with e | ⟨q, e, hq⟩
  .exact .inl (e ▸ hb)
  .rw [e] at hb; injection hb with hb; subst hb; exact .inr hq
 have hlt : ∀ b, trF t b -> b < w.heap.size := fun b hb => h.lt hb
 refine ⟨⟨t.g, t.mb, t.M, v', t.sm ++ [(w.heap.size, t.M)]⟩, ⟨?_, ?_, h.rl, ?_, h.mr, h.mi, ?_, ?_, ?_, fun j hj hj' => ?_, ?_, ?_, fun b hb => ?_⟩, rfl, fun b hb => ?_, ?_⟩
 .have k1 := (h1.bk.fr hf h1.gl hng).set 35 v' (by rw [tranC_len _ _ _ _ _ h.rl]; omega)
  rw [tranC_setsv _ _ _ _ _ _ h.rl] at k1
  exact k1
 .have := hf.size; have := h1.gl; simp; omega
 .exact (h1.mp.fr hf h.sv_mb).fr f2 (fun e => h.g_mb e.symm)
 .simp [h.sl]
 .simp; omega
 .simp only [List.map_append, List.map_cons, List.map_nil, List.length_append, List.length_cons, List.length_nil]
  rw [svC_snoc _ _ _ _ (by rw [List.length_map]; exact h.sl)]
  refine own_fr ho f2 (fun b hb e => ?_)
  have e2 : b = t.g := e
  subst e2
  rcases nv _ hb with z | z
  .exact h.sg z
  .have := h.gl; omega
 .by_cases hjl : j < t.sm.length
  .have hj2 : j < x.sv.length := by rw [<- h.sl]; exact hjl
   simp only [List.getElem_append_left hjl, List.getElem_append_left hj2]
   obtain ⟨q1, q2⟩ := h1.ss j hjl hj2
   refine ⟨(q1.fr hf (fun e => h.sv_sm e (List.mem_map_of_mem (List.getElem_mem hjl)))).fr f2 (fun e => ?_), q2⟩
   have e2 : t.sm[j].1 = t.g := e
   exact h.g_sm (by rw [<- e2]; exact List.mem_map_of_mem (List.getElem_mem hjl))
  .simp at hj
   have hje : j = t.sm.length := by omega
   subst hje
   have e1 : (t.sm ++ [(w.heap.size, t.M)])[t.sm.length]'(by simp) = (w.heap.size, t.M) := by simp
   have e2 : (x.sv ++ [(⟨nm, x.own⟩ : Sav)])[t.sm.length]'(by simp [h.sl]) = ⟨nm, x.own⟩ := by simp [h.sl]
   simp only [e1, e2]
   refine ⟨(hm.fr hf (fun e => ?_)).fr f2 (fun e => ?_), h.mr, h.mi⟩
   .have := (h.sr.lt _ e).2; omega
   .have e2 : w.heap.size = t.g := e; have := h.gl; omega
 .simp only [List.map_append, List.map_cons, List.map_nil]
  have hn := h.nd
  rw [List.nodup_cons] at hn ⊢
  refine ⟨fun z => ?_, List.nodup_append.2 ⟨hn.2, by simp, fun a ha b hb e => ?_⟩⟩
  .rcases List.mem_append.1 z with q | q
   .exact hn.1 q
   .rw [List.mem_singleton] at q; have := h.mp.lt; omega
  .rw [List.mem_singleton] at hb
   have := hlt a (.inr (.inr (.inl ha)))
   omega
 .intro e
  have e' : v'.ownBlock = some t.g := e
  rcases nv _ e' with z | z
  .exact h.sg z
  .have := h.gl; omega
 .rcases hb with z | z | z | z
  .exact h.ge b (.inl z)
  .exact h.ge b (.inr (.inl z))
  .simp only [List.map_append, List.map_cons, List.map_nil] at z
   rcases List.mem_append.1 z with q | q
   .exact h.ge b (.inr (.inr (.inl q)))
   .rw [List.mem_singleton] at q; omega
  .rcases nv b z with q | q
   .exact h.ge b (.inr (.inr (.inr q)))
   .omega
 .rcases hb with z | z | z | z
  .exact .inl (.inl z)
  .exact .inl (.inr (.inl z))
  .simp only [List.map_append, List.map_cons, List.map_nil] at z
   rcases List.mem_append.1 z with q | q
   .exact .inl (.inr (.inr (.inl q)))
   .rw [List.mem_singleton] at q; exact .inr (by omega)
  .rcases nv b z with q | q
   .exact .inl (.inr (.inr (.inr q)))
   .exact .inr (by omega)
 .exact ((Fr.of_below _ hb1).trans (hf.mono (fun b z => .inr (.inr (.inr z))))).trans (f2.mono (fun b z => .inl z))
theorem step_append_run {P : Program} {ops : Array Oper} {o : Oper} {a : Act} {w : World} {K : Act -> World -> Prop} {Q : Exit -> Act -> World -> Prop} {E : Prop} (hg : o.guard = none) (s x : Operand) (t : TypeId) (hop : o.op = Op.call { callee := Callee.builtin Builtin.append, args := #[s, x], argTypes := #[t, t] }) (v y : Value) (hs : a.eval s = v) (hx : a.eval x = y) (v' : Value) (w' : World) (hrun : (Builtin.append_ #[t, t] o.type #[v, y]).run P w = .ok v' w') (hK : K (a.put o.dst v') w') :
 if Region.wanted o (yielded ops a.tmps) = true then Oper.wp P o a w K Q else E := by
 have hw : Region.wanted o (yielded ops a.tmps) = true := by simp [Region.wanted, hg]
 rw [if_pos hw]
 unfold Oper.wp
 simp [execOp, hop, resolve, invoke, builtin, hs, hx, hrun, Result.andThen]
 exact hK
def SaveP (B : Nat) (w : World) (t : TG) (x : Txn) (nm : ByteArray) (e : Ending) (w' : World) : Prop := (x.sv.length = 8 /\ e = .returned (.int .i64 5) /\ w' = w) \/ (x.sv.length < 8 /\ e = .returned (.int .i64 0) /\ TrP B w t { x with sv := x.sv ++ [⟨nm, x.own⟩] } w')
theorem save_any (B : Nat) (w : World) (t : TG) (x : Txn) (h : TrM B w t x) (nm : ByteArray) (hB : B <= w.heap.size) :
 Calls Tryz.prog 49 #[.pointer (some ⟨t.g, 0, none⟩), .string nm] w fun e w' => SaveP B w t x nm e w' := by
 obtain ⟨i0, hi, hz0, hz1, hz2⟩ := info_parts infoSv
 obtain ⟨c35, f35⟩ := h.c35
 have c34 := h.c34
 obtain ⟨sa, sc, hsv⟩ := h.svf
 rw [hsv] at c35
 have hs8 := h.s8
 have hgl := h.gl
 by_cases h8 : x.sv.length = 8
 .have HE : Hid (SaveP B w t x nm (.returned (.int .i64 5)) w) := .inl ⟨h8, rfl, rfl⟩
  have h8b : ((x.sv.length : Int) == 8) = true := by rw [h8]; rfl
  clear h8
  go_enter Tryz.func49, Tryz.ntmps49
  go_wp2
  refine bodyPost_ret (v := .int .i64 5) (by simp [results, Tryz.results49, go_sem]) rfl ?_
  exact HE.out
 .have hl8 : x.sv.length < 8 := by omega
  have h8b : ((x.sv.length : Int) == 8) = false := beq_eq_false_iff_ne.2 (by omega)
  have HT := hid h
  have HSR := hid h.sr
  have hcl : Calls Tryz.prog 73 #[.map (some t.mb)] w.drew fun e w' => e = .returned (.map (some w.heap.size)) /\ MP w' w.heap.size t.M /\ Below w.heap.size w w' /\ w'.heap.size = w.heap.size + 1 := (clone_any t.mb t.M w.drew h.mp).mono (fun e w' z => ⟨z.1, z.2.1, undrew z.2.2.1, z.2.2.2⟩)
  clear h8 h
  go_enter Tryz.func49, Tryz.ntmps49
  go_wp2
  refine wp_region_till_drew (S := (fun W => W.cell? ⟨t.g, 35, none⟩ = some (.slice sa x.sv.length sc) /\ W.cell? ⟨t.g, 34, none⟩ = some (.map (some t.mb)))) (late := [14, 15, 16]) (by kernel_rfl) (by go_keep) (fun hHeld => ?_)
  refine tT 0 rfl hHeld ?_
  try simp only [Act.put, q1, q2, q3]
  refine tT 1 rfl hHeld ?_
  try simp only [Act.put, q1, q2, q3]
  refine tT 2 rfl hHeld ?_
  try simp only [Act.put, q1, q2, q3]
  refine tT 3 rfl hHeld ?_
  try simp only [Act.put, q1, q2, q3]
  refine till_ld (i := 4) (v := ?_) rfl (Or.inl ⟨by rfl, ?_⟩) hHeld ?_
  rotate_left
  .intro w hSw
   try dsimp only at hSw
   go_simp
   try with_reducible rfl
  try simp only [Act.put, q1, q2, q3]
  refine tT 5 rfl hHeld ?_
  try simp only [Act.put, q1, q2, q3]
  refine tT 6 rfl hHeld ?_
  try simp only [Act.put, q1, q2, q3]
  refine tT 7 rfl hHeld ?_
  try simp only [Act.put, q1, q2, q3]
  refine tT 8 rfl hHeld ?_
  try simp only [Act.put, q1, q2, q3]
  refine till_ld (i := 9) (v := ?_) rfl (Or.inl ⟨by rfl, ?_⟩) hHeld ?_
  rotate_left
  .intro w hSw
   try dsimp only at hSw
   go_simp
   try with_reducible rfl
  try simp only [Act.put, q1, q2, q3]
  refine rE 10 rfl fun K hK => ?_
  go_simp
  refine hcl.mono ?_
  rintro e W1 ⟨rfl, hm1, hb1, hq1⟩
  have hq2 : w.heap.size < W1.heap.size := by omega
  clear hq1
  have HM1 := hid hm1
  have HB1 := hid hb1
  have c5 : W1.cell? ⟨t.g, 35, none⟩ = some (.slice sa x.sv.length sc) := ct hb1 hgl c35
  have c4 : W1.cell? ⟨t.g, 34, none⟩ = some (.map (some t.mb)) := ct hb1 hgl c34
  have f5 : W1.frozen? ⟨t.g, 35, none⟩ = false := (hb1.frozen (p := ⟨t.g, 35, none⟩) hgl).trans f35
  refine hK _ _ ⟨⟨c5, c4⟩, ?_⟩
  clear hK K hcl hm1 hb1
  try simp only [Act.put, q1, q2, q3]
  refine rE 11 rfl fun K hK => ?_
  go_simp
  refine hK _ _ ⟨⟨c5, c4⟩, ?_⟩
  clear hK K
  try simp only [Act.put, q1, q2, q3]
  refine rE 12 rfl fun K hK => ?_
  go_simp
  have hgl1 : t.g < W1.heap.size := by omega
  have b2 : Below w.heap.size w (W1.alloc (.cells #[.string nm, .map (some w.heap.size)] 169)) := HB1.out.alloc (by omega) _
  have c52 : (W1.alloc (.cells #[.string nm, .map (some w.heap.size)] 169)).cell? ⟨t.g, 35, none⟩ = some (.slice sa x.sv.length sc) := ((below_alloc W1 _).cell (p := ⟨t.g, 35, none⟩) hgl1).trans c5
  have c42 : (W1.alloc (.cells #[.string nm, .map (some w.heap.size)] 169)).cell? ⟨t.g, 34, none⟩ = some (.map (some t.mb)) := ((below_alloc W1 _).cell (p := ⟨t.g, 34, none⟩) hgl1).trans c4
  have f52 : (W1.alloc (.cells #[.string nm, .map (some w.heap.size)] 169)).frozen? ⟨t.g, 35, none⟩ = false := ((below_alloc W1 _).frozen (p := ⟨t.g, 35, none⟩) hgl1).trans f5
  refine hK _ _ ⟨⟨c52, c42⟩, ?_⟩
  clear hK K
  try simp only [Act.put, q1, q2, q3]
  have hr0 := own_below HSR.out b2
  rw [hsv] at hr0
  obtain ⟨v', W3, hrun, hown, hgrow, _, hat⟩ := run_append_own_at (P := Tryz.prog) (W1.alloc (.cells #[.string nm, .map (some w.heap.size)] 169)) B 117 117 169 i0 _ 2 24 Tryz.underlying117 hi hz0 hz1 hz2 rfl (by decide) (.slice sa x.sv.length sc) x.sv.length _ hr0 ⟨W1.heap.size, 0, none⟩ 1 1 [.string nm, .map (some w.heap.size)] rfl (cells_new _ [.string nm, .map (some w.heap.size)] 169 _ rfl) (by intro u hu; simp at hu; rcases hu with rfl | rfl <;> rfl) (by unfold maxLen; omega) (by omega) (by simp; omega)
  obtain ⟨na, nc, hvn⟩ := formR hown
  subst hvn
  have hfg : Fr (fun b => t.sv.ownBlock = some b) (W1.alloc (.cells #[.string nm, .map (some w.heap.size)] 169)) W3 := by rw [hsv]; exact Fr.grown hgrow
  have HP : Hid (TrP B w t { x with sv := x.sv ++ [⟨nm, x.own⟩] } (W3.setCell ⟨t.g, 35, none⟩ (.slice na (x.sv.length + 1) nc))) := hid (HT.out.pushed hl8 hB b2 (HM1.out.fr (Fr.of_below (fun _ => False) (below_alloc _ _)) (fun z => z)) hfg hown (by
   rcases hat with z | z
   .exact .inl (by rw [hsv]; exact z)
   .exact .inr ⟨_, z, by simp; omega⟩))
  have HQ : Hid (SaveP B w t x nm (.returned (.int .i64 0)) (W3.setCell ⟨t.g, 35, none⟩ (.slice na (x.sv.length + 1) nc))) := .inr ⟨hl8, rfl, HP.out⟩
  have hgl2 : t.g < (W1.alloc (.cells #[.string nm, .map (some w.heap.size)] 169)).heap.size := by simp; omega
  have hbk := hfg.block t.g hgl2 HT.out.sg
  have c53 : W3.cell? ⟨t.g, 35, none⟩ = some (.slice sa x.sv.length sc) := (World.cell?_of_block (a := ⟨t.g, 35, none⟩) hbk).trans c52
  have c43 : W3.cell? ⟨t.g, 34, none⟩ = some (.map (some t.mb)) := (World.cell?_of_block (a := ⟨t.g, 34, none⟩) hbk).trans c42
  have f53 : W3.frozen? ⟨t.g, 35, none⟩ = false := (World.frozen?_of_block (a := ⟨t.g, 35, none⟩) hbk).trans f52
  clear hown hgrow hat hfg HP hbk hr0
  refine rE 13 rfl fun K hK => ?_
  refine step_append_run rfl (.tmp 15) (.tmp 23) 117 rfl _ _ rfl rfl _ _ hrun ?_
  refine hK _ _ ⟨⟨c53, c43⟩, ?_⟩
  clear hK K
  try simp only [Act.put, q1, q2, q3]
  clear hrun c52 c42 f52 c5 c4 f5 b2
  refine rL 14 rfl fun K hK => ?_
  go_simp
  refine hK _ _ ?_
  clear hK K
  try simp only [Act.put, q1, q2, q3]
  refine rL 15 rfl fun K hK => ?_
  go_simp
  refine hK _ _ ?_
  clear hK K
  try simp only [Act.put, q1, q2, q3]
  refine rL 16 rfl fun K hK => ?_
  go_simp
  refine hK _ _ ?_
  clear hK K
  try simp only [Act.put, q1, q2, q3]
  refine till_done (by kernel_rfl) ?_ _
  go_wp2
  refine bodyPost_ret (v := .int .i64 0) (by simp [results, Tryz.results49, go_sem]) rfl ?_
  exact HQ.out
end Go.Proofs.YtblkgicbimflhaaGreat
namespace Go.Proofs.YtblkgicbimflhaaGreat
open Go.ChangeShapes Go.WideShapes Go.ChangeAt Go.RowKit
set_option linter.unusedVariables false
set_option linter.unusedSimpArgs false
set_option maxRecDepth 100000
set_option maxHeartbeats 16000000
open Go.Shelf
attribute [local go_sem] Oper.semAt_some
def backL {α : Type} [Inhabited α] (zs : List α) (k : Nat) : List (Nat × α) := (List.range k).map (fun j => (zs.length - 1 - j, zs[zs.length - 1 - j]?.getD default))
theorem backL_succ {α : Type} [Inhabited α] (zs : List α) (k : Nat) : backL zs (k + 1) = backL zs k ++ [(zs.length - 1 - k, zs[zs.length - 1 - k]?.getD default)] := by simp [backL, List.range_succ]
theorem backL_len {α : Type} [Inhabited α] (zs : List α) (k : Nat) : (backL zs k).length = k := by simp [backL]
def encS (x : Nat × (ByteArray × Nat)) : Array Value := #[.int .i64 (x.1 : Int), .agg #[.string x.2.1, .map (some x.2.2)]]
theorem back1_in (F : Fence) (n : Nat) (h6 : F.fn 106) (hro : F.round = none) (hn : 1 <= n) (l Bs n₀ : Nat) (a : Option Addr) (cap : Nat) (zs : List (ByteArray × Nat)) (h8 : zs.length <= 8) (hBn : Bs < n₀) (J Jx : List (Nat × (ByteArray × Nat)) -> World -> Prop)
 (hY : ∀ pre x W, J pre W -> pre.length < zs.length -> YieldAt F (n - 1) Tryz.prog l (encS x) W fun e W' =>
  (e = .returned (.bool true) /\ J (pre ++ [x]) W' /\ Below n₀ W W') \/ (e = .returned (.bool false) /\ Jx (pre ++ [x]) W'))
 (W : World) (hBs : W.cell? ⟨Bs, 0, none⟩ = some (.slice a zs.length cap)) (hc : 0 < zs.length -> ∃ b, a = some ⟨b, 0, none⟩ /\ b < n₀ /\ ∀ j, j < zs.length -> W.cell? ⟨b, j * 2, none⟩ = some (.string (zs[j]?.getD default).1) /\ W.cell? ⟨b, j * 2 + 1, none⟩ = some (.map (some (zs[j]?.getD default).2))) (h0 : J [] W) :
 CallsIn F n Tryz.prog 106 #[.func (.yield l) #[] #[], .pointer (some ⟨Bs, 0, none⟩)] W fun e W' => (∃ v, e = .returned v) /\
  ((∃ ys, ys = backL zs zs.length /\ J ys W') \/ (∃ pre, (∃ k, 0 < k /\ k <= zs.length /\ pre = backL zs k) /\ Jx pre W')) := by
 refine callsIn_of_wp Tryz.func106 rfl h6 ?_ hro
 simp only [Tryz.ntmps106, List.size_toArray, List.length_cons, List.length_nil, Nat.reduceAdd, Nat.reduceSub, Array.replicate_succ, Array.replicate_zero, List.push_toArray, List.append_toArray, List.nil_append, List.cons_append]
 have hw0 : IntKind.i64.wrap ((zs.length : Int) - 1) = (zs.length : Int) - 1 := by simp only [IntKind.wrap_i64, wrap64]; omega
 gi_wp2
 gi_loopw [3] (fun i wr => ∃ k : Nat, k <= zs.length /\ i = .int .i64 ((zs.length : Int) - 1 - k) /\ J (backL zs k) wr /\ Below n₀ W wr)
  (fun i _ => (intOf i + 1).toNat)
 case atStart => exact ⟨0, Nat.zero_le _, by simp, h0, Below.refl _ _⟩
 case round =>
  obtain ⟨k, hk, rfl, hJs, hnx⟩ := hrel
  by_cases hlt : k < zs.length
  .obtain ⟨b, rfl, hb, hcs⟩ := hc (by omega)
   obtain ⟨m, hm⟩ : ∃ m : Nat, (zs.length : Int) - 1 - k = m := ⟨zs.length - 1 - k, by omega⟩
   have hmn : zs.length - 1 - k = m := by omega
   obtain ⟨c0, c1⟩ := hcs m (by omega)
   have HBS := hid (backL_succ zs k)
   rw [hmn] at HBS
   obtain ⟨fn, tmps, assign, body, hy, hR⟩ := hY _ (m, zs[m]?.getD default) wr hJs (by rw [backL_len]; exact hlt)
   unfold encS at hy
   dsimp only at hy
   have d0 : wr.cell? ⟨b, m * 2, none⟩ = some (.string (zs[m]?.getD default).1) := ct hnx hb c0
   have d1 : wr.cell? ⟨b, m * 2 + 1, none⟩ = some (.map (some (zs[m]?.getD default).2)) := ct hnx hb c1
   have d2 : wr.cell? ⟨Bs, 0, none⟩ = some (.slice (some ⟨b, 0, none⟩) zs.length cap) := ct hnx hBn hBs
   have hmi : (m : Int) < zs.length := by omega
   have hw1 : IntKind.i64.wrap ((m : Int) - 1) = (m : Int) - 1 := by simp only [IntKind.wrap_i64, wrap64]; omega
   have HM := hid hm
   rw [hm]
   clear hm hmn hcs c0 c1 hc
   generalize hzz : zs[m]?.getD default = zz at *
   obtain ⟨z1, z2⟩ := zz
   dsimp only at hy d0 d1
   gi_wp2
   refine hR.mono ?_
   rintro e W3 (⟨rfl, hJ3, hk3⟩ | ⟨rfl, hJx3⟩)
   .rw [<- HBS.out] at hJ3
    clear hy hR
    gi_wp2
    go_roundw
    case rel => exact ⟨k + 1, by omega, by have := HM.out; congr 1; omega, hJ3, hnx.trans hk3⟩
    case measure => simp [intOf]
   .rw [<- HBS.out] at hJx3
    clear hy hR
    gi_wp2
    refine bodyPost_ret (results_none rfl _ _ _) rfl ?_
    exact ⟨⟨_, rfl⟩, .inr ⟨_, ⟨k + 1, by omega, by omega, rfl⟩, hJx3⟩⟩
  .obtain rfl : k = zs.length := by omega
   have hneg : ¬ (0 : Int) <= (zs.length : Int) - 1 - zs.length := by omega
   gi_wp2
   go_end0
   exact ⟨⟨_, rfl⟩, .inl hJs⟩
theorem backward_in (F : Fence) (n : Nat) (h5 : F.fn 93) (hro : F.round = none) (a : Option Addr) (len cap : Nat) (w : World) :
 CallsIn F n Tryz.prog 93 #[.slice a len cap] w fun e w' => e = .returned (.func (.func 106) #[] #[.pointer (some ⟨w.heap.size, 0, none⟩)]) /\ w' = w.alloc (.cells #[.slice a len cap] 117) := by
 refine callsIn_of_wp Tryz.func93 rfl h5 ?_ hro
 simp only [Tryz.ntmps93, List.size_toArray, List.length_cons, List.length_nil, Nat.reduceAdd, Nat.reduceSub, Array.replicate_succ, Array.replicate_zero, List.push_toArray, List.append_toArray, List.nil_append, List.cons_append]
 gi_wp2
 go_ret
 exact ⟨rfl, rfl⟩
def SvAt (n₀ : Nat) (W : World) (a : Option Addr) (zs : List (ByteArray × Nat)) : Prop := 0 < zs.length -> ∃ b, a = some ⟨b, 0, none⟩ /\ b < n₀ /\ ∀ j, j < zs.length -> W.cell? ⟨b, j * 2, none⟩ = some (.string (zs[j]?.getD default).1) /\ W.cell? ⟨b, j * 2 + 1, none⟩ = some (.map (some (zs[j]?.getD default).2))
theorem SvAt.below {n₀ : Nat} {A B : World} (h : Below n₀ A B) {a : Option Addr} {zs : List (ByteArray × Nat)} (hs : SvAt n₀ A a zs) : SvAt n₀ B a zs := fun hp => by
 obtain ⟨b, e, hb, hc⟩ := hs hp
 exact ⟨b, e, hb, fun j hj => ⟨(h.cell (p := ⟨b, j * 2, none⟩) hb).trans (hc j hj).1, (h.cell (p := ⟨b, j * 2 + 1, none⟩) hb).trans (hc j hj).2⟩⟩
theorem back_stops (F : Fence) (n : Nat) (h6 : F.fn 106) (hro : F.round = none) (hn : 1 <= n) (Bs n₀ : Nat) (a : Option Addr) (cap : Nat) (zs : List (ByteArray × Nat)) (h8 : zs.length <= 8) (w : World) (hBs : Bs < n₀) (hn₀ : n₀ <= w.heap.size) (hc : w.cell? ⟨Bs, 0, none⟩ = some (.slice a zs.length cap)) (hI : SvAt n₀ w a zs) :
 SeqStopsK F n Tryz.prog 106 #[.pointer (some ⟨Bs, 0, none⟩)] encS (Below n₀) (fun ys => ys = backL zs zs.length) (fun pre => ∃ k, 0 < k /\ k <= zs.length /\ pre = backL zs k) zs.length w := fun l J Jx W hW _ _ hY h0 => by
 have hc' := ((hW.mono hn₀).cell (p := ⟨Bs, 0, none⟩) hBs).trans hc
 exact back1_in F n h6 hro hn l Bs n₀ a cap zs h8 hBs J Jx hY W hc' (hI.below (hW.mono hn₀)) h0
end Go.Proofs.YtblkgicbimflhaaGreat
namespace Go.Proofs.YtblkgicbimflhaaGreat
open Go.ChangeShapes Go.WideShapes Go.ChangeAt Go.RowKit
set_option linter.unusedVariables false
set_option linter.unusedSimpArgs false
set_option maxRecDepth 100000
set_option maxHeartbeats 16000000
open Go.Shelf
attribute [local go_sem] Oper.semAt_some
theorem Blk.owned {W W' : World} {b : Nat} {cs : List Value} {row : Option Nat} (h : Blk W b cs) (hg : W.grownBy W' row) (hr : ∀ r, row = some r -> ∃ o : Obj, W.heap[r]? = some o /\ o.isCells = false) : Blk W' b cs := fun j hj => by
 have h1 := (h j hj).1
 rw [List.getElem?_eq_getElem hj] at h1 ⊢
 exact ⟨cell_kept h1 hg hr, (frozen_kept h1 hg hr).trans (h j hj).2⟩
def zsOf (ss : List Sav) (sm : List (Nat × List (Spt × Vsn))) : List (ByteArray × Nat) := List.zipWith (fun s p => (s.nm, p.1)) ss sm
theorem zsOf_len {ss : List Sav} {sm : List (Nat × List (Spt × Vsn))} (h : sm.length = ss.length) : (zsOf ss sm).length = ss.length := by unfold zsOf; simp [h]
theorem zsOf_at {ss : List Sav} {sm : List (Nat × List (Spt × Vsn))} {j : Nat} (h1 : j < ss.length) (h2 : j < sm.length) : (zsOf ss sm)[j]?.getD default = (ss[j].nm, sm[j].1) := by
 unfold zsOf
 rw [List.getElem?_zipWith, List.getElem?_eq_getElem h1, List.getElem?_eq_getElem h2]
 rfl
theorem TrM.svAt {B : Nat} {w : World} {t : TG} {x : Txn} (h : TrM B w t x) {a : Option Addr} {c : Nat} (hsv : t.sv = .slice a x.sv.length c) : SvAt w.heap.size w a (zsOf x.sv t.sm) := fun hp => by
 rw [zsOf_len h.sl] at hp
 obtain ⟨b, c', e, _, _, hb⟩ := own_shape h.sr hp
 rw [e] at hsv
 injection hsv with e1 _ e3
 refine ⟨b, e1.symm, hb, fun j hj => ?_⟩
 rw [zsOf_len h.sl] at hj
 have h2 : j < t.sm.length := by rw [h.sl]; exact hj
 obtain ⟨k1, k2⟩ := svC_at x.sv (t.sm.map Prod.fst) j hj (by rw [List.length_map]; exact h2)
 rw [List.getElem_map] at k2
 rw [zsOf_at hj h2]
 exact ⟨own_cells h.sr e k1, own_cells h.sr e k2⟩
def newAx (w : World) (g : Nat) (sv : Value) (nm : ByteArray) (x : Nat × (ByteArray × Nat)) (a' : Act) (W : World) : Prop := ∃ Bx, w.heap.size + 1 + 1 < Bx /\ Bx < W.heap.size /\ Blk W Bx [.string x.2.1, .map (some x.2.2)] /\ a' = { tmps := #[.pointer (some ⟨g, 0, none⟩), .string nm, undef, .pointer (some ⟨w.heap.size, 0, none⟩), .pointer (some ⟨w.heap.size + 1, 0, none⟩), .int .i64 (x.1 : Int), .pointer (some ⟨Bx, 0, none⟩), .pointer (some ⟨g, 0, none⟩), .pointer (some ⟨g, 0, none⟩), .pointer (some ⟨g, 35, none⟩), sv, .func (.func 106) #[] #[.pointer (some ⟨w.heap.size + 1 + 1, 0, none⟩)], .int .i64 (x.1 : Int), .agg #[.string x.2.1, .map (some x.2.2)], undef, undef, undef, undef, undef], defers := [] }
theorem bat_t {x y : ByteArray} (h : (x.toList == y.toList) = true) : x = y := by
 rw [Lib.toList_data, Lib.toList_data, beq_iff_eq] at h
 exact ba_ext h
theorem bat_f {x y : ByteArray} (h : (x.toList == y.toList) = false) : x ≠ y := fun e => by rw [e] at h; simp at h
theorem saved_none {ss : List Sav} {sm : List (Nat × List (Spt × Vsn))} {nm : ByteArray} (hl : sm.length = ss.length) (h : ∀ y ∈ backL (zsOf ss sm) (zsOf ss sm).length, y.2.1 ≠ nm) : savedF ss nm = none := lastK_none (fun s hs => by
 obtain ⟨j, hj, rfl⟩ := List.getElem_of_mem hs
 have hz := zsOf_len hl
 have hm : (j, (zsOf ss sm)[j]?.getD default) ∈ backL (zsOf ss sm) (zsOf ss sm).length := by
  unfold backL
  refine List.mem_map.2 ⟨(zsOf ss sm).length - 1 - j, List.mem_range.2 (by omega), ?_⟩
  rw [show (zsOf ss sm).length - 1 - ((zsOf ss sm).length - 1 - j) = j by omega]
 have h2 := h _ hm
 rw [zsOf_at hj (by omega)] at h2
 exact decide_eq_false h2)
theorem saved_some {ss : List Sav} {sm : List (Nat × List (Spt × Vsn))} {nm : ByteArray} (hl : sm.length = ss.length) {k : Nat} (hk0 : 0 < k) (hk : k <= (zsOf ss sm).length) {p : List (Nat × (ByteArray × Nat))} {y : Nat × (ByteArray × Nat)} (e : backL (zsOf ss sm) k = p ++ [y]) (hy : y.2.1 = nm) (hp : ∀ z ∈ p, z.2.1 ≠ nm) : savedF ss nm = some y.1 := by
 have hz := zsOf_len hl
 obtain ⟨m, rfl⟩ : ∃ m, k = m + 1 := ⟨k - 1, by omega⟩
 rw [backL_succ] at e
 obtain ⟨e1, e2⟩ := List.append_inj' e rfl
 injection e2 with e2 _
 have hj : (zsOf ss sm).length - 1 - m < ss.length := by omega
 rw [<- e2] at hy ⊢
 simp only at hy ⊢
 rw [zsOf_at hj (by omega)] at hy
 refine lastK_hit hj (decide_eq_true hy) (fun s hs => ?_)
 obtain ⟨i, hi, rfl⟩ := List.getElem_of_mem hs
 rw [List.length_drop] at hi
 rw [List.getElem_drop]
 refine decide_eq_false (fun z => ?_)
 have hq : (zsOf ss sm).length - 1 - m + 1 + i < ss.length := by omega
 have hm : ((zsOf ss sm).length - 1 - m + 1 + i, (zsOf ss sm)[(zsOf ss sm).length - 1 - m + 1 + i]?.getD default) ∈ p := by
  rw [<- e1]
  unfold backL
  refine List.mem_map.2 ⟨m - 1 - i, List.mem_range.2 (by omega), ?_⟩
  rw [show (zsOf ss sm).length - 1 - (m - 1 - i) = (zsOf ss sm).length - 1 - m + 1 + i by omega]
 have := hp _ hm
 rw [zsOf_at hq (by omega)] at this
 exact this z
theorem newest_any (B : Nat) (w : World) (t : TG) (x : Txn) (h : TrM B w t x) (nm : ByteArray) :
 Calls Tryz.prog 74 #[.pointer (some ⟨t.g, 0, none⟩), .string nm] w fun e w' => e = .returned (.int .i64 (savedI (savedF x.sv nm))) /\ Below w.heap.size w w' := by
 have c35 := h.c35.1
 obtain ⟨sa, sc, hsv⟩ := h.svf
 rw [hsv] at c35
 have hgl := h.gl
 have hl8 := h.s8
 have hzl := zsOf_len h.sl
 have HSV := hid (h.svAt hsv)
 obtain ⟨zs, hzs⟩ : ∃ zs, zs = zsOf x.sv t.sm := ⟨_, rfl⟩
 rw [<- hzs] at hzl HSV
 rw [<- hzl] at c35 hl8
 have HZS := hid hzs
 have HZL := hid hzl
 clear hzs hzl
 refine (callsIn_wide (n := 3)).1 ?_
 refine callsIn_of_wp_marks Tryz.func74 rfl trivial ?_ rfl
 simp only [Tryz.ntmps74, List.size_toArray, List.length_cons, List.length_nil, Nat.reduceAdd, Nat.reduceSub, Array.replicate_succ, Array.replicate_zero, List.push_toArray, List.append_toArray, List.nil_append, List.cons_append]
 gi_wp2_with (refine ⟨trivial, ?_⟩; gi_at_call 93; refine (backward_in Fence.wide _ trivial rfl _ _ _ _).mono ?_; rintro e w' ⟨rfl, rfl⟩)
 obtain ⟨W0, hW0⟩ : ∃ W0, ((w.alloc (.cells #[.string nm] 9)).alloc (.cells #[.int .i64 0] 3)).alloc (.cells #[.slice sa zs.length sc] 117) = W0 := ⟨_, rfl⟩
 have hsz : W0.heap.size = w.heap.size + 1 + 1 + 1 := by rw [<- hW0]; simp
 have hB0 : Below w.heap.size w W0 := by rw [<- hW0]; exact (((Below.refl _ w).alloc (Nat.le_refl _) _).alloc (by simp) _).alloc (by simp; omega) _
 have KA : Blk W0 w.heap.size [.string nm] := by rw [<- hW0]; exact blkA w [.string nm] [.int .i64 0] [.slice sa zs.length sc] _ _ _
 have KB : Blk W0 (w.heap.size + 1) [.int .i64 0] := by rw [<- hW0]; exact blkB w [.string nm] [.int .i64 0] [.slice sa zs.length sc] _ _ _
 have KC : Blk W0 (w.heap.size + 1 + 1) [.slice sa zs.length sc] := by rw [<- hW0]; exact blkC w [.string nm] [.int .i64 0] [.slice sa zs.length sc] _ _ _
 have c0 : W0.cell? ⟨w.heap.size, 0, none⟩ = some (.string nm) := (KA 0 (by simp)).1
 have c1 : W0.cell? ⟨w.heap.size + 1, 0, none⟩ = some (.int .i64 0) /\ W0.frozen? ⟨w.heap.size + 1, 0, none⟩ = false := KB 0 (by simp)
 have c2 : W0.cell? ⟨w.heap.size + 1 + 1, 0, none⟩ = some (.slice sa zs.length sc) := (KC 0 (by simp)).1
 clear KA KB KC
 rw [hW0]
 clear hW0
 have HT := hid h
 clear h c35 hsv
 refine wpIn_rangeFunc_ownH rfl (by omega) (gf := 106) (lb := #[.pointer (some ⟨w.heap.size + 1 + 1, 0, none⟩)]) rfl trivial (enters_of Tryz.func106 (by kernel_rfl) rfl)
  (back_stops Fence.wide _ trivial rfl (by omega) (w.heap.size + 1 + 1) W0.heap.size sa sc zs hl8 W0 (by omega) (Nat.le_refl _) c2 (fun hp => by obtain ⟨b, e, hb, hc⟩ := HSV.out.below hB0 hp; exact ⟨b, e, by omega, hc⟩)) belowK_t (belowK_b (Nat.le_refl _)) (Below.refl _ _) (fun _ => rfl)
  (fun pre W => (w.heap.size + 1 + 1 < W.heap.size /\ (∀ y ∈ pre, y.2.1 ≠ nm) /\ W.cell? ⟨w.heap.size, 0, none⟩ = some (.string nm) /\ W.cell? ⟨w.heap.size + 1, 0, none⟩ = some (.int .i64 0) /\ W.frozen? ⟨w.heap.size + 1, 0, none⟩ = false) /\ Below w.heap.size w W)
  (fun c pre W => (c = .ret /\ ∃ p y, pre = p ++ [y] /\ y.2.1 = nm /\ (∀ z ∈ p, z.2.1 ≠ nm) /\ W.cell? ⟨w.heap.size + 1, 0, none⟩ = some (.int .i64 (y.1 : Int))) /\ Below w.heap.size w W)
  (OwnFrom.and (Own.from (fun s A B row hs hg hr => ⟨Nat.lt_of_lt_of_le hs.1 hg.size, hs.2.1, cell_kept hs.2.2.1 hg hr, cell_kept hs.2.2.2.1 hg hr, (frozen_kept hs.2.2.2.1 hg hr).trans hs.2.2.2.2⟩) _) (ownFrom_below (Nat.le_refl _) (by omega)))
  (fun c => OwnFrom.and (Own.from (fun s A B row hs hg hr => by obtain ⟨e, p, y, k1, k2, k3, k4⟩ := hs; exact ⟨e, p, y, k1, k2, k3, cell_kept k4 hg hr⟩) _) (ownFrom_below (Nat.le_refl _) (by omega)))
  ⟨⟨by omega, by simp, c0, c1.1, c1.2⟩, hB0⟩
  (newAx w t.g (.slice sa zs.length sc) nm)
  (fun y a' => fun s A B row hs hg hr => by
   obtain ⟨Bx, k1, k2, k3, k4⟩ := hs
   exact ⟨Bx, k1, Nat.lt_of_lt_of_le k2 hg.size, k3.owned hg (fun r e => (hr r e).2), k4⟩) ?assign ?body ?done ?stop
 case assign =>
  rintro l pre y W K ⟨⟨k1, k2, k3, k4, k5⟩, k6⟩ hK
  have ba := below_alloc W (.cells #[.string y.2.1, .map (some y.2.2)] 169)
  have hsW := k6.size
  have q1 := (ba.cell (p := ⟨w.heap.size, 0, none⟩) (by show w.heap.size < _; omega)).trans k3
  have q2 := (ba.cell (p := ⟨w.heap.size + 1, 0, none⟩) (by show w.heap.size + 1 < _; omega)).trans k4
  have q3 := (ba.frozen (p := ⟨w.heap.size + 1, 0, none⟩) (by show w.heap.size + 1 < _; omega)).trans k5
  have q4 := k6.alloc hsW (.cells #[.string y.2.1, .map (some y.2.2)] 169)
  have kn := blk_new W [.string y.2.1, .map (some y.2.2)] 169
  have HH := hid (hK { tmps := #[.pointer (some ⟨t.g, 0, none⟩), .string nm, undef, .pointer (some ⟨w.heap.size, 0, none⟩), .pointer (some ⟨w.heap.size + 1, 0, none⟩), .int .i64 (y.1 : Int), .pointer (some ⟨W.heap.size, 0, none⟩), .pointer (some ⟨t.g, 0, none⟩), .pointer (some ⟨t.g, 0, none⟩), .pointer (some ⟨t.g, 35, none⟩), .slice sa zs.length sc, .func (.func 106) #[] #[.pointer (some ⟨w.heap.size + 1 + 1, 0, none⟩)], .int .i64 (y.1 : Int), .agg #[.string y.2.1, .map (some y.2.2)], undef, undef, undef, undef, undef], defers := [] } (W.alloc (.cells #[.string y.2.1, .map (some y.2.2)] 169)) ((KeepsOthers.alloc _ _).from _) ((Below.refl W0.heap.size W).alloc (by omega) _) ⟨⟨by simp; omega, k2, q1, q2, q3⟩, q4⟩ ⟨W.heap.size, k1, by simp, kn, rfl⟩)
  clear hK k1 k2 k3 k4 k5 k6 q1 q2 q3 q4 kn ba
  simp only [encS]
  gi_wp2
  exact HH.out
 case body =>
  rintro l pre y a' W hl ⟨r, hr⟩ ⟨⟨k1, k2, k3, k4, k5⟩, k6⟩ ⟨Bx, m1, m2, m3, rfl⟩ hlt
  have n0 : W.cell? ⟨Bx, 0, none⟩ = some (.string y.2.1) := (m3 0 (by simp)).1
  clear m3
  gi_wp2
  .rename_i hx
   exact ⟨(KeepsOthers.setCell _ _ _).from _, ⟨rfl, pre, y, rfl, bat_t hx, k2, World.cell?_setCell_same' _ _ _ (by rw [k4]; rfl)⟩, k6.setCell (p := ⟨w.heap.size + 1, 0, none⟩) (by simp) _⟩
  .rename_i hx
   exact ⟨(KeepsOthers.refl _).from _, Below.refl _ _, ⟨k1, fun z hz => (List.mem_append.1 hz).elim (k2 z) (fun e => by simp at e; subst e; exact bat_f hx), k3, k4, k5⟩, k6⟩
 case done =>
  rintro D ys W hD rfl ⟨⟨k1, k2, k3, k4, k5⟩, k6⟩ hK
  have HV : Hid (savedI (savedF x.sv nm) = -1) := hid (by rw [HZS.out] at k2; rw [saved_none HT.out.sl k2]; rfl)
  gi_wp2
  have hK' := (KeepsOthers.setCell W ⟨w.heap.size + 1, 0, none⟩ (.int .i64 (-1))).same D _ hK rfl
  refine ⟨by simp, .inl ⟨_, _, rfl, run_takeDeferred hK', ?_⟩⟩
  have hc5 := cell_kept (World.cell?_setCell_same' W ⟨w.heap.size + 1, 0, none⟩ (.int .i64 (-1)) (by rw [k4]; rfl)) (grownBy_putObj' _ D (.deferred none)) (fun r e => by cases e; exact ⟨_, hK', rfl⟩)
  refine ⟨.int .i64 (-1), ?_, by rw [HV.out], (k6.setCell (p := ⟨w.heap.size + 1, 0, none⟩) (by simp) _).trans (belowK_b (w := w) (Nat.le_refl _) _ D _ _ (by omega) hK' rfl rfl)⟩
  simp [results, Tryz.results74, go_sem, hc5]
 case stop =>
  rintro D c pre W hD ⟨k, hk0, hk, rfl⟩ ⟨⟨rfl, p, y, e1, e2, e3, e4⟩, k6⟩ hK
  have HV : Hid (savedI (savedF x.sv nm) = (y.1 : Int)) := hid (by rw [HZS.out] at hk e1; rw [saved_some HT.out.sl hk0 hk e1 e2 e3]; rfl)
  gi_wp2
  refine ⟨by simp, .inl ⟨_, _, rfl, run_takeDeferred hK, ?_⟩⟩
  have hc5 := cell_kept e4 (grownBy_putObj' _ D (.deferred none)) (fun r e => by cases e; exact ⟨_, hK, rfl⟩)
  refine ⟨.int .i64 (y.1 : Int), ?_, by rw [HV.out], k6.trans (belowK_b (w := w) (Nat.le_refl _) W D _ _ (by omega) hK rfl rfl)⟩
  simp [results, Tryz.results74, go_sem, hc5]
end Go.Proofs.YtblkgicbimflhaaGreat
namespace Go.Proofs.YtblkgicbimflhaaGreat
open Go.ChangeShapes Go.WideShapes Go.ChangeAt Go.RowKit
set_option linter.unusedVariables false
set_option linter.unusedSimpArgs false
set_option maxRecDepth 100000
set_option maxHeartbeats 16000000
open Go.ChangeMaps (setBlock)
theorem TrP.of_below {B : Nat} {w w' : World} {t : TG} {x : Txn} (h : TrM B w t x) (hb : Below w.heap.size w w') : TrP B w t x w' := ⟨t, h.below hb, rfl, fun b hb => .inl hb, Fr.of_below _ hb⟩
theorem TrM.remap {B : Nat} {w w' : World} {t : TG} {x : Txn} (h : TrM B w t x) (hf : Fr (fun b => b = t.mb) w w') {M' : List (Spt × Vsn)} {own' : List Cel} (hm : MP w' t.mb M') (hr : RelM M' own') (hi : InT M') : TrM B w' ⟨t.g, t.mb, M', t.sv, t.sm⟩ { x with own := own' } :=
 ⟨h.bk.fr hf h.gl (fun e => h.g_mb e), Nat.lt_of_lt_of_le h.gl hf.size, h.rl, hm, hr, hi, h.sl, h.s8, own_fr h.sr hf (fun g hg e => by have e2 : g = t.mb := e; subst e2; exact h.sv_mb hg), fun j hj hj' => ⟨(h.ss j hj hj').1.fr hf (fun e => by
  have e2 : t.sm[j].1 = t.mb := e
  exact (List.nodup_cons.1 h.nd).1 (by rw [<- e2]; exact List.mem_map_of_mem (List.getElem_mem hj))), (h.ss j hj hj').2⟩, h.nd, h.sg, h.ge⟩
def RelP (B : Nat) (w : World) (t : TG) (x : Txn) (f : Nat -> Txn) (o : Option Nat) (e : Ending) (w' : World) : Prop := match o with
 | none => e = .returned (.int .i64 23) /\ TrP B w t x w'
 | some k => e = .returned (.int .i64 0) /\ TrP B w t (f k) w'
theorem cut_foot {t : TG} {n : Nat} {sv' : Value} {M' : List (Spt × Vsn)} (ho : sv'.ownBlock = t.sv.ownBlock) {b : Nat} (hb2 : trF ⟨t.g, t.mb, M', sv', t.sm.take n⟩ b) : trF t b := by
 rcases hb2 with z | z | z | z
 .exact .inl z
 .exact .inr (.inl z)
 .obtain ⟨p, hp, e⟩ := List.mem_map.1 z
  exact .inr (.inr (.inl (by rw [<- e]; exact List.mem_map_of_mem (List.mem_of_mem_take hp))))
 .exact .inr (.inr (.inr (by rw [<- ho]; exact z)))
theorem cut_fr {w w1 w2 : World} {t : TG} {n : Nat} (hb : Below w.heap.size w w1) (hf : Fr (fun b => b = t.g \/ b ∈ (t.sm.drop n).map Prod.fst) w1 w2) : Fr (trF t) w w2 := (Fr.of_below _ hb).trans (hf.mono (fun b z => by
 rcases z with z | z
 .exact .inl z
 .obtain ⟨p, hp, e⟩ := List.mem_map.1 z
  exact .inr (.inr (.inl (by rw [<- e]; exact List.mem_map_of_mem (List.mem_of_mem_drop hp))))))
theorem cut_trp {B : Nat} {w w1 w2 : World} {t : TG} {x' : Txn} {n : Nat} {sv' : Value} (hb : Below w.heap.size w w1) (hT : TrM B w2 ⟨t.g, t.mb, t.M, sv', t.sm.take n⟩ x') (ho : sv'.ownBlock = t.sv.ownBlock) (hf : Fr (fun b => b = t.g \/ b ∈ (t.sm.drop n).map Prod.fst) w1 w2) : TrP B w t x' w2 :=
 ⟨_, hT, rfl, fun b hb2 => .inl (cut_foot ho hb2), cut_fr hb hf⟩
theorem release_any (B : Nat) (w : World) (t : TG) (x : Txn) (h : TrM B w t x) (nm : ByteArray) :
 Calls Tryz.prog 51 #[.pointer (some ⟨t.g, 0, none⟩), .string nm] w fun e w' => RelP B w t x (fun k => { x with sv := x.sv.take k }) (savedF x.sv nm) e w' := by
 have hnw := newest_any B w t x h nm
 cases hq : savedF x.sv nm with
 | none =>
   rw [hq] at hnw
   have e1 : savedI none = -1 := rfl
   rw [e1] at hnw
   have HT := hid h
   clear e1 hq h
   go_enter Tryz.func51, Tryz.ntmps51
   go_wp2_with (go_at_call 74; fail)
   refine hnw.mono ?_
   rintro e w1 ⟨rfl, hb⟩
   have HF : Hid (RelP B w t x (fun k => { x with sv := x.sv.take k }) none (.returned (.int .i64 23)) w1) := ⟨rfl, TrP.of_below HT.out hb⟩
   go_wp2
   refine bodyPost_ret (v := .int .i64 23) (by simp [results, Tryz.results51, go_sem]) rfl ?_
   exact HF.out
 | some k =>
   have hkl := lastK_lt hq
   rw [hq] at hnw
   have e1 : savedI (some k) = (k : Int) := rfl
   rw [e1] at hnw
   have hk0 : ¬ (k : Int) < 0 := by omega
   have HT := hid h
   clear e1 hq h
   go_enter Tryz.func51, Tryz.ntmps51
   go_wp2_with (go_at_call 74; fail)
   refine hnw.mono ?_
   rintro e w1 ⟨rfl, hb⟩
   have hgu := giveUpSaves_any B w1 t x (HT.out.below hb) k (by omega)
   go_wp2_with (go_at_call 75; fail)
   refine hgu.mono ?_
   rintro e w2 ⟨⟨r, rfl⟩, ⟨sv', hT, ho⟩, hf⟩
   have HF : Hid (RelP B w t x (fun k => { x with sv := x.sv.take k }) (some k) (.returned (.int .i64 0)) w2) := ⟨rfl, cut_trp hb hT ho hf⟩
   clear hgu hT hf ho
   go_wp2
   refine bodyPost_ret (v := .int .i64 0) (by simp [results, Tryz.results51, go_sem]) rfl ?_
   exact HF.out
theorem copied {M' N : List (Spt × Vsn)} {cs : List Cel} (hN : RelM N cs) (hI : InT N) (hn : (M'.map Prod.fst).Nodup) (h : ∀ k, mget M' k = (mget N k).or (mget [] k)) : RelM M' cs /\ InT M' := by
 have h2 : ∀ k, mget M' k = mget N k := fun k => by rw [h k]; cases mget N k <;> rfl
 refine ⟨fun a y => by rw [h2]; exact hN a y, fun m hm => ?_⟩
 have h3 := mget_mem hn hm
 rw [h2] at h3
 exact hI _ (mget_some h3)
theorem back_any (B : Nat) (w : World) (t : TG) (x : Txn) (h : TrM B w t x) (nm : ByteArray) :
 Calls Tryz.prog 50 #[.pointer (some ⟨t.g, 0, none⟩), .string nm] w fun e w' => RelP B w t x (fun k => { x with own := (x.sv.getD k sv0).cs, sv := x.sv.take (k + 1) }) (savedF x.sv nm) e w' := by
 have hnw := newest_any B w t x h nm
 cases hq : savedF x.sv nm with
 | none =>
   rw [hq] at hnw
   have e1 : savedI none = -1 := rfl
   rw [e1] at hnw
   have HT := hid h
   clear e1 hq h
   go_enter Tryz.func50, Tryz.ntmps50
   go_wp2_with (go_at_call 74; fail)
   refine hnw.mono ?_
   rintro e w1 ⟨rfl, hb⟩
   have HF : Hid (RelP B w t x (fun k => { x with own := (x.sv.getD k sv0).cs, sv := x.sv.take (k + 1) }) none (.returned (.int .i64 23)) w1) := ⟨rfl, TrP.of_below HT.out hb⟩
   go_wp2
   refine bodyPost_ret (v := .int .i64 23) (by simp [results, Tryz.results50, go_sem]) rfl ?_
   exact HF.out
 | some k =>
   have hkl := lastK_lt hq
   rw [hq] at hnw
   have e1 : savedI (some k) = (k : Int) := rfl
   rw [e1] at hnw
   have hk0 : ¬ (k : Int) < 0 := by omega
   have hk8 : k < 8 := by have := h.s8; omega
   have hw1 : IntKind.i64.wrap ((k : Int) + 1) = (k : Int) + 1 := by simp only [IntKind.wrap_i64, wrap64]; omega
   have HT := hid h
   clear e1 hq h
   go_enter Tryz.func50, Tryz.ntmps50
   go_wp2_with (go_at_call 74; fail)
   refine hnw.mono ?_
   rintro e w1 ⟨rfl, hb⟩
   have hgu := giveUpSaves_any B w1 t x (HT.out.below hb) (k + 1) (by omega)
   rw [show ((k + 1 : Nat) : Int) = (k : Int) + 1 by omega] at hgu
   go_wp2_with (go_at_call 75; fail)
   refine hgu.mono ?_
   rintro e w2 ⟨⟨r, rfl⟩, ⟨sv', hT, ho⟩, hf⟩
   have c34 := hT.c34
   have c35 := hT.c35.1
   simp only at c34 c35
   have hlk : (x.sv.take (k + 1)).length = k + 1 := by rw [List.length_take]; omega
   have hlm : (t.sm.take (k + 1)).length = k + 1 := by have := hT.sl; simp only at this; rw [this, hlk]
   have hks : k < t.sm.length := by rw [List.length_take] at hlm; omega
   obtain ⟨gs, cap, hsv, hcc, _, hgs⟩ := own_shape hT.sr (by simp only; omega)
   simp only at hsv
   rw [hlk] at hsv
   obtain ⟨k1, k2⟩ := svC_at (x.sv.take (k + 1)) ((t.sm.take (k + 1)).map Prod.fst) k (by omega) (by rw [List.length_map]; omega)
   simp only [List.getElem_map, List.getElem_take] at k1 k2
   have d1 : w2.cell? ⟨gs, k * 2 + 1, none⟩ = some (.map (some t.sm[k].1)) := own_cells hT.sr (by simp only; rw [hlk]; exact hsv) k2
   obtain ⟨q1, q2, q3⟩ := hT.ss k (by simp only; omega) (by simp only; omega)
   simp only [List.getElem_take] at q1 q2 q3
   have hgd : x.sv.getD k sv0 = x.sv[k] := by rw [List.getD_eq_getElem?_getD, List.getElem?_eq_getElem hkl]; rfl
   obtain ⟨pk, hpk⟩ : ∃ z, z = t.sm[k]'hks := ⟨_, rfl⟩
   have q2' : RelM pk.2 (x.sv.getD k sv0).cs := by rw [hgd, hpk]; exact q2
   have q3' : InT pk.2 := by rw [hpk]; exact q3
   have q1b : MP w2 pk.1 pk.2 := by rw [hpk]; exact q1
   have hne : t.mb ≠ pk.1 := fun e => (List.nodup_cons.1 HT.out.nd).1 (by rw [e, hpk]; exact List.mem_map_of_mem (List.getElem_mem hks))
   have d1b : w2.cell? ⟨gs, k * 2 + 1, none⟩ = some (.map (some pk.1)) := by rw [hpk]; exact d1
   clear q1 q2 q3 d1 hpk hgd
   obtain ⟨mk, Nk⟩ := pk
   simp only at q1b q2' q3' hne d1b
   have hgm : t.g ≠ t.mb := HT.out.g_mb
   have hgsm : gs ≠ t.mb := fun e => own_map hT.sr (g := gs) (by simp only; rw [hsv]; rfl) (by rw [e]; exact hT.mp)
   rw [hsv] at c35
   obtain ⟨o, hcl, hmp⟩ := run_clearM w2 t.mb 0 _ hT.mp
   have f3 := fr_setBlock w2 t.mb o
   have b34 := (World.cell?_of_block (a := ⟨t.g, 34, none⟩) (f3.block t.g hT.gl hgm)).trans c34
   have b35 := (World.cell?_of_block (a := ⟨t.g, 35, none⟩) (f3.block t.g hT.gl hgm)).trans c35
   have bd1 := (World.cell?_of_block (a := ⟨gs, k * 2 + 1, none⟩) (f3.block gs hgs hgsm)).trans d1b
   have q1' : MP (setBlock w2 t.mb o) mk Nk := q1b.fr f3 (fun (e : mk = t.mb) => hne e.symm)
   have HCP := hid (copy_any t.mb mk [] Nk (setBlock w2 t.mb o).drew hmp q1' hne)
   have HB := hid hb
   have HT2 := hid hT
   have HF2 := hid hf
   have HF3 := hid f3
   have HQ2 := hid q2'
   have HQ3 := hid q3'
   have HO := hid ho
   have hki : (k : Int) < k + 1 := by omega
   clear hgu hT hf f3 q1' q1b q2' q3' ho k1 k2 hmp hlk hlm d1b hsv hb hks
   go_wp2
   refine wp_region_till_drew (S := (fun W => W.cell? ⟨t.g, 34, none⟩ = some (.map (some t.mb)) /\ W.cell? ⟨t.g, 35, none⟩ = some (.slice (some ⟨gs, 0, none⟩) (k + 1) cap) /\ W.cell? ⟨gs, k * 2 + 1, none⟩ = some (.map (some mk)))) (late := []) (by kernel_rfl) ⟨b34, b35, bd1⟩ (fun hHeld => ?_)
   refine tT 0 rfl hHeld ?_
   try simp only [Act.put, q1, q2, q3]
   refine tT 1 rfl hHeld ?_
   try simp only [Act.put, q1, q2, q3]
   refine tT 2 rfl hHeld ?_
   try simp only [Act.put, q1, q2, q3]
   refine till_ld (i := 3) (v := ?_) rfl (Or.inl ⟨by rfl, ?_⟩) hHeld ?_
   rotate_left
   .intro w hSw
    try dsimp only at hSw
    go_simp
    try with_reducible rfl
   try simp only [Act.put, q1, q2, q3]
   refine tT 4 rfl hHeld ?_
   try simp only [Act.put, q1, q2, q3]
   refine tT 5 rfl hHeld ?_
   try simp only [Act.put, q1, q2, q3]
   refine tT 6 rfl hHeld ?_
   try simp only [Act.put, q1, q2, q3]
   refine till_ld (i := 7) (v := ?_) rfl (Or.inl ⟨by rfl, ?_⟩) hHeld ?_
   rotate_left
   .intro w hSw
    try dsimp only at hSw
    go_simp
    try with_reducible rfl
   try simp only [Act.put, q1, q2, q3]
   refine tT 8 rfl hHeld ?_
   try simp only [Act.put, q1, q2, q3]
   refine tT 9 rfl hHeld ?_
   try simp only [Act.put, q1, q2, q3]
   refine tT 10 rfl hHeld ?_
   try simp only [Act.put, q1, q2, q3]
   refine till_ld (i := 11) (v := ?_) rfl (Or.inl ⟨by rfl, ?_⟩) hHeld ?_
   rotate_left
   .intro w hSw
    try dsimp only at hSw
    go_simp
    try with_reducible rfl
   try simp only [Act.put, q1, q2, q3]
   refine rE 12 rfl fun K hK => ?_
   go_simp
   refine HCP.out.mono ?_
   rintro e w4 ⟨⟨r2, rfl⟩, ⟨M', hM', hmg⟩, hf4⟩
   have hf5 : Fr (fun b => b = t.mb) (setBlock w2 t.mb o) w4 := ⟨hf4.os, hf4.tape, hf4.output, hf4.size, hf4.block⟩
   have hz2 : t.g < (setBlock w2 t.mb o).heap.size := Nat.lt_of_lt_of_le HT2.out.gl HF3.out.size
   have hz3 : gs < (setBlock w2 t.mb o).heap.size := Nat.lt_of_lt_of_le hgs HF3.out.size
   have g34 := (World.cell?_of_block (a := ⟨t.g, 34, none⟩) (hf5.block t.g hz2 hgm)).trans b34
   have g35 := (World.cell?_of_block (a := ⟨t.g, 35, none⟩) (hf5.block t.g hz2 hgm)).trans b35
   have gd1 := (World.cell?_of_block (a := ⟨gs, k * 2 + 1, none⟩) (hf5.block gs hz3 hgsm)).trans bd1
   have HF : Hid (RelP B w t x (fun k => { x with own := (x.sv.getD k sv0).cs, sv := x.sv.take (k + 1) }) (some k) (.returned (.int .i64 0)) w4) := hid (by
    obtain ⟨c1, c2⟩ := copied HQ2.out HQ3.out hM'.nodup hmg
    have fx := HF3.out.trans hf5
    exact ⟨rfl, _, HT2.out.remap fx hM' c1 c2, rfl, fun b hb2 => .inl (cut_foot HO.out hb2), (cut_fr HB.out HF2.out).trans (fx.mono (fun b z => .inr (.inl z)))⟩)
   clear hM' hmg hf4 hf5 HCP HT2 HF2 HF3 HQ2 HQ3
   refine hK _ _ ⟨⟨g34, g35, gd1⟩, ?_⟩
   clear hK K
   try simp only [Act.put, q1, q2, q3]
   refine till_done (by kernel_rfl) ?_ _
   go_wp2
   refine bodyPost_ret (v := .int .i64 0) (by simp [results, Tryz.results50, go_sem]) rfl ?_
   exact HF.out
end Go.Proofs.YtblkgicbimflhaaGreat
namespace Go.Proofs.YtblkgicbimflhaaGreat
open Go.ChangeShapes Go.WideShapes Go.ChangeAt Go.RowKit
set_option linter.unusedVariables false
set_option linter.unusedSimpArgs false
set_option maxRecDepth 100000
set_option maxHeartbeats 16000000
open Go.ChangeMaps (setBlock)
structure LedB (c : Led) : Prop where
 kb : ∀ k, (c.K k).length < 1048576
 tb : ∀ k y, (c.T k y).length < 1048576
 hl : c.hs.length <= 1000
 hb : ∀ h ∈ c.hs, BT 32 h
theorem LedM.ff {B : Nat} {w : World} {L : LIx -> Value} {c : Led} (h : LedM B w L c) (k : Nat) (y : Int) : (∃ a n q, L (.ek k y) = .slice a n q) /\ ∃ a n q, L (.ev k y) = .slice a n q := by
 obtain ⟨a, q, e⟩ := h.form (.ek k y)
 obtain ⟨a2, q2, e2⟩ := h.form (.ev k y)
 exact ⟨⟨_, _, _, e⟩, _, _, _, e2⟩
theorem LedM.vat {B sb : Nat} {w : World} {L : LIx -> Value} {c : Led} {ck : Int} {op : Nat -> Option Addr} (h : LedM B w L c) (hb : LedB c) (hS : Blk w sb (sesC ck L op)) (hsb : sb < w.heap.size) (n : Nat) (hn : n < 32) (y : Int) :
 Calls Tryz.prog 64 #[.pointer (some ⟨sb, 0, none⟩), .agg #[.int .i64 (n : Int), .int .i64 y]] w fun e w' => e = .returned (.agg #[L (.ek n y), L (.ev n y)]) /\ Below w.heap.size w w' := by
 have c0 := (ses_cell hS (j := 1 + n * 2) (by omega)).1
 have c1 := (ses_cell hS (j := 1 + n * 2 + 1) (by omega)).1
 rw [sesAt_tk _ _ _ hn] at c0
 rw [sesAt_tv _ _ _ hn] at c1
 exact versionsAt_any B sb 0 n hn (L (.tk n)) (L (.tv n)) (c.K n) (fun y => (L (.ek n y), L (.ev n y))) y w hsb (by rw [Nat.zero_add]; exact c0) (by rw [Nat.zero_add]; exact c1) (h.rm.rows (.tk n)) (h.rm.rows (.tv n)) (h.srt n) (Nat.le_of_lt (hb.kb n)) (fun y hy => by rw [(h.nil n y hy).1, (h.nil n y hy).2]) (fun y => h.ff n y)
theorem LedM.seen {B sb : Nat} {w : World} {L : LIx -> Value} {c : Led} {ck : Int} {op : Nat -> Option Addr} {t : TG} {x : Txn} (h : LedM B w L c) (hb : LedB c) (hS : Blk w sb (sesC ck L op)) (hsb : sb < w.heap.size) (hT : TrM B w t x) (n : Nat) (hn : n < 32) (y : Int) :
 Calls Tryz.prog 44 #[.pointer (some ⟨sb, 0, none⟩), .pointer (some ⟨t.g, 0, none⟩), .agg #[.int .i64 (n : Int), .int .i64 y]] w fun e w' => (∃ v : Vsn, e = .returned (.agg #[.int .i64 v.1, .bool v.2]) /\ v = (mget t.M ((n : Int), y)).getD (verAt (c.T n y) x.bg)) /\ Below w.heap.size w w' := by
 cases hg : mget t.M ((n : Int), y) with
 | some v =>
   refine (seen_own sb 0 t.g t.mb n y x.bg v t.M w hT.gl hT.c0 hT.c34 hT.mp hg).mono ?_
   rintro e w' ⟨h1, h2⟩
   exact ⟨⟨v, h1, rfl⟩, h2⟩
 | none =>
   have c0 := (ses_cell hS (j := 1 + n * 2) (by omega)).1
   have c1 := (ses_cell hS (j := 1 + n * 2 + 1) (by omega)).1
   rw [sesAt_tk _ _ _ hn] at c0
   rw [sesAt_tv _ _ _ hn] at c1
   refine (seen_past sb 0 t.g t.mb n y x.bg t.M w hT.gl hT.c0 hT.c34 hT.mp hg hn B (L (.tk n)) (L (.tv n)) (c.K n) (fun y => (L (.ek n y), L (.ev n y))) (c.T n y) hsb (by rw [Nat.zero_add]; exact c0) (by rw [Nat.zero_add]; exact c1) (h.rm.rows (.tk n)) (h.rm.rows (.tv n)) (h.srt n) (Nat.le_of_lt (hb.kb n)) (fun y hy => by rw [(h.nil n y hy).1, (h.nil n y hy).2]) (fun y => h.ff n y) (h.rm.rows (.ek n y)) (h.rm.rows (.ev n y)) (h.tst n y) (Nat.le_of_lt (hb.tb n y))).mono ?_
   rintro e w' ⟨h1, h2⟩
   exact ⟨⟨_, h1, rfl⟩, h2⟩
theorem flatN {α β : Type} {K : Nat} {f : α -> List β} (hf : ∀ x, (f x).length = K) : ∀ (l : List α) (i : Nat) (hi : i < l.length) (j : Nat), j < K -> (l.flatMap f)[i * K + j]? = (f l[i])[j]?
 | x :: r, 0, _, j, hj => by
   rw [List.flatMap_cons, List.getElem?_append_left (by rw [hf]; omega)]
   simp
 | x :: r, i + 1, hi, j, hj => by
   rw [List.flatMap_cons, List.getElem?_append_right (by rw [hf, Nat.succ_mul]; omega), hf, show (i + 1) * K + j - K = i * K + j by rw [Nat.succ_mul]; omega]
   rw [flatN hf r i (by simpa using hi) j hj]
   rfl
theorem flatN_len {α β : Type} {K : Nat} {f : α -> List β} (hf : ∀ x, (f x).length = K) : ∀ (l : List α), (l.flatMap f).length = l.length * K
 | [] => by simp
 | x :: r => by rw [List.flatMap_cons, List.length_append, hf, flatN_len hf r, List.length_cons, Nat.succ_mul]; omega
theorem LedM.hist {B : Nat} {w : World} {L : LIx -> Value} {c : Led} (h : LedM B w L c) : RS 4 CT 0 w (L .hs) c.hs := by
 have hf : ∀ j, (hsC L c.hs j).length = 4 := fun j => rfl
 have F : Fill 4 CT 0 c.hs c.hs.length ((List.range c.hs.length).flatMap (hsC L c.hs)) w := by
  refine ⟨by rw [flatN_len hf, List.length_range], fun i hi _ => ⟨hsC L c.hs i, ?_, fun j hj => ?_⟩⟩
  .have r1 : IGr B w (L (.hr i)) (c.hs.getD i ti0).reads := h.rm.rows (.hr i)
   have r2 : IGr B w (L (.hw i)) (c.hs.getD i ti0).writes := h.rm.rows (.hw i)
   have e : c.hs.getD i ti0 = c.hs[i] := by rw [List.getD_eq_getElem?_getD, List.getElem?_eq_getElem hi]; rfl
   rw [<- e]
   exact ⟨L (.hr i), L (.hw i), rfl, r1.rs.mono liesI (Nat.zero_le _), r2.rs.mono liesI (Nat.zero_le _)⟩
  .rw [flatN hf _ i (by rw [List.length_range]; exact hi) j hj, List.getElem_range]
 exact F.own liesT (own_bs (h.rm.rows .hs) (Nat.zero_le _)) (Nat.le_refl _)
theorem LedM.hform {B : Nat} {w : World} {L : LIx -> Value} {c : Led} (h : LedM B w L c) : ∃ ga ca, L .hs = .slice ga c.hs.length ca /\ ((ga = none /\ c.hs = [] /\ ca = 0) \/ ∃ g, ga = some ⟨g, 0, none⟩) := by
 rcases (h.rm.rows .hs).2 with ⟨e1, e2⟩ | ⟨g, cap, cur, e1, _⟩
 .have e3 : c.hs.length = 0 := e2
  exact ⟨none, 0, by rw [e1, e3], .inl ⟨rfl, List.length_eq_zero_iff.1 e3, rfl⟩⟩
 .exact ⟨_, cap, e1, .inr ⟨g, rfl⟩⟩
end Go.Proofs.YtblkgicbimflhaaGreat
