import Derived.Test.YtblkgicbimflhaaGreatSBE
import Derived.Test.YtblkgicbimflhaaGreatSAI
import Derived.Test.YtblkgicbimflhaaGreatSAD
import Derived.Test.YtblkgicbimflhaaGreatSAG
import Derived.Lib.AppendZerosOnto
import Derived.BigQuiet
import Derived.Deep.QuietTactic
namespace Go.Proofs.YtblkgicbimflhaaGreat
open Go.ChangeShapes Go.WideShapes Go.ChangeAt Go.RowKit
set_option linter.unusedVariables false
set_option linter.unusedSimpArgs false
set_option maxRecDepth 100000
set_option maxHeartbeats 16000000
theorem grow_impl (n : Nat) (w : World) (h1 : 1 <= n) (hn : n <= 1048577) :
 Calls Tryz.prog 110 #[.slice none 0 0, .int .i64 (n : Int)] w fun e w' => ∃ v, e = .returned v /\ w'.ownsRow w.heap.size 131 4 v 0 [] /\ Below w.heap.size w w' := by
 obtain ⟨i0, hi, hz0, hz1, hz2⟩ := info_parts infoTI
 have hrz : ∀ ty, (Builtin.append_ #[25, 3] ty #[.slice none 0 0, .int .i64 (n : Int)]).run Tryz.prog w =
  .ok (.slice (some ⟨w.heap.size, 0, none⟩) n (grownCap w n 0 131)) (w.drew.alloc (.cells (([] : List Value).toArray ++ Builtin.zeroCells (Value.agg #[.int .i64 0, .int .i64 0, .slice none 0 0, .slice none 0 0]).cells n ++ Builtin.zeroCells (Value.agg #[.int .i64 0, .int .i64 0, .slice none 0 0, .slice none 0 0]).cells (grownCap w n 0 131 - n)) 131)) := fun ty => by
  have h := Lib.run_append_grow_zeros (P := Tryz.prog) w 25 3 ty 131 i0 _ .i64 .i64 Tryz.underlying25 Tryz.underlying3 hi hz0 none 0 0 [] (run_firstCells_none (w := w.drew) _ 0 0 0) n (by omega) (by rw [hz1]; decide) (by omega) (by omega) (by rw [hz2]; omega)
   (growslice_fits (by omega) (by rw [hz2]; omega))
  simp only [Nat.zero_add] at h
  exact h
 have hGn : n <= grownCap w n 0 131 := grownCap_ge w _ _ _
 have hGm := grownCap_le_maxLen w n 0 131 (by unfold maxLen; omega)
 obtain ⟨G, hG⟩ : ∃ G, G = grownCap w n 0 131 := ⟨_, rfl⟩
 rw [<- hG] at hrz hGn hGm
 have HGM := hid hGm
 unfold maxLen at hGm
 obtain ⟨cur, hcur⟩ : ∃ cur, cur = (([] : List Value).toArray ++ Builtin.zeroCells (Value.agg #[.int .i64 0, .int .i64 0, .slice none 0 0, .slice none 0 0]).cells n ++ Builtin.zeroCells (Value.agg #[.int .i64 0, .int .i64 0, .slice none 0 0, .slice none 0 0]).cells (G - n)) := ⟨_, rfl⟩
 have hsz : cur.size = G * 4 := by
  rw [hcur, Array.size_append, Array.size_append, size_zeroCells, size_zeroCells]
  have : ((Value.agg #[.int .i64 0, .int .i64 0, .slice none 0 0, .slice none 0 0]).cells).size = 4 := rfl
  rw [this]
  simp
  omega
 rw [<- hcur] at hrz
 clear hcur hG
 have HOW : Hid ((w.drew.alloc (.cells cur 131)).ownsRow w.heap.size 131 4 (.slice (some ⟨w.heap.size, 0, none⟩) 0 G) 0 []) := hid (World.ownsRow_made (base := w.heap.size) (e := 131) (size := 4) w.drew cur G (Nat.le_refl _) HGM.out hsz)
 have HBW : Hid (Below w.heap.size w (w.drew.alloc (.cells cur 131))) := hid ((Below.refl _ w).drew.alloc (Nat.le_refl _) _)
 have e0 : ¬ ((n : Int) < 0) := by omega
 have e2 : wrap64 ((n : Int)) = (n : Int) := by unfold wrap64; omega
 have e4 : (n : Int) > 0 := by omega
 clear hsz HGM
 go_enter Tryz.func110, Tryz.ntmps110
 go_wp2_with (at_builtin; refine Lib.wpList_append_run _ rfl _ _ _ _ rfl _ _ rfl rfl _ _ (hrz _) ?_)
 all_goals
  go_ret
  exact ⟨_, rfl, HOW.out, HBW.out⟩
theorem concat_impl (g ca g2 gt : Nat) (us : List TI) (t : TI) (w : World) (hn : us.length <= 1048576) (hg2 : g2 < w.heap.size) (h0 : w.cell? ⟨g2, 0, none⟩ = some (.slice (some ⟨g, 0, none⟩) us.length ca)) (h1 : w.cell? ⟨g2, 1, none⟩ = some (.slice (some ⟨gt, 0, none⟩) 1 1))
 (ha : RS 4 CT 0 w (.slice (some ⟨g, 0, none⟩) us.length ca) us) (ht : RS 4 CT 0 w (.slice (some ⟨gt, 0, none⟩) [t].length 1) [t]) :
 Calls Tryz.prog 100 #[.slice (some ⟨g2, 0, none⟩) 2 2] w fun e w' => ∃ v, e = .returned v /\ RS 4 CT 0 w' v (us ++ [t]) /\ Below w.heap.size w w' := by
 obtain ⟨i0, hi, hz0, hz1, hz2⟩ := info_parts infoTI
 obtain ⟨news, hfill, hcells⟩ := RS.flat liesT ha
 obtain ⟨cs, cfill, ccells⟩ := RS.flat liesT ht
 have HG : Hid (0 < us.length -> g < w.heap.size) := hid (fun h => by obtain ⟨_, _, he, hh⟩ := ha; obtain ⟨g', o', e2, _, h3, _⟩ := hh h; simp only [Value.slice.injEq] at he; rw [<- he.1] at e2; cases e2; exact h3)
 have HT : Hid (gt < w.heap.size) := hid (by obtain ⟨_, _, he, hh⟩ := ht; obtain ⟨g', o', e2, _, h3, _⟩ := hh (by simp); simp only [Value.slice.injEq] at he; rw [<- he.1] at e2; cases e2; exact h3)
 have HNL : Hid (news.length = us.length * 4) := hfill.1
 have HCL : Hid (cs.length = 1 * 4) := cfill.1
 have HON : Hid (∀ u ∈ news, u.oneCell' = true) := hfill.one oneT liesT
 have HOC : Hid (∀ u ∈ cs, u.oneCell' = true) := cfill.one oneT liesT
 have HCW : Hid (∀ W, Below w.heap.size w W -> ∀ j u, news[j]? = some u -> W.cell? ((⟨g, 0, none⟩ : Addr).add j) = some u) := hid (fun W hW j u hj => by
  have hp : 0 < us.length := by
   have h1 := (List.getElem?_eq_some_iff.1 hj).1
   rw [hfill.1] at h1; omega
  rw [Addr.add_lit]
  exact (hW.cell (p := ⟨g, 0 + j, none⟩) (HG.out hp)).trans (hcells j u hj))
 have HCT : Hid (∀ W, Below w.heap.size w W -> ∀ j u, cs[j]? = some u -> W.cell? ((⟨gt, 0, none⟩ : Addr).add j) = some u) := hid (fun W hW j u hj => by
  rw [Addr.add_lit]
  exact (hW.cell (p := ⟨gt, 0 + j, none⟩) HT.out).trans (ccells j u hj))
 have HRS : Hid (∀ W v, Below w.heap.size w W -> W.ownsRow w.heap.size 131 4 v (us.length + 1) (news ++ cs) -> RS 4 CT 0 W v (us ++ [t])) := hid (fun W v hW ho => by
  have F := (hfill.below liesT hW).append (cfill.below liesT hW)
  exact F.own liesT (own_bs (by simpa using ho) (Nat.zero_le _)) (Nat.le_refl _))
 have e1 : wrap64 ((0 : Int) + (us.length : Int)) = (us.length : Int) := by unfold wrap64; omega
 have e2 : wrap64 ((us.length : Int) + 1) = (us.length : Int) + 1 := by unfold wrap64; omega
 have e3 : ¬ (us.length : Int) < 0 := by omega
 have e4 : ¬ (us.length : Int) + 1 < 0 := by omega
 clear ha ht hfill cfill hcells ccells HG HT
 go_enter Tryz.func100, Tryz.ntmps100
 go_wp2
 go_loopw [3, 11] (fun sv iv wr => ((iv = .int .i64 0 /\ sv = .int .i64 0) \/ (iv = .int .i64 1 /\ sv = .int .i64 us.length) \/ (iv = .int .i64 2 /\ sv = .int .i64 ((us.length : Int) + 1))) /\ wr = w) (fun _ iv _ => 2 - (intOf iv).toNat)
 case atStart => exact ⟨.inl ⟨rfl, rfl⟩, rfl⟩
 case round =>
  obtain ⟨hcs, hww⟩ := hrel
  replace hww := hww.symm
  subst hww
  rcases hcs with ⟨rfl, rfl⟩ | ⟨rfl, rfl⟩ | ⟨rfl, rfl⟩
  .go_wp2
   go_roundw
   case rel => exact ⟨.inr (.inl ⟨rfl, by first | rfl | go_num⟩), by first | exact rfl | trivial⟩
   case measure => simp [intOf]
  .go_wp2
   go_roundw
   case rel => exact ⟨.inr (.inr ⟨rfl, by first | rfl | go_num⟩), by first | exact rfl | trivial⟩
   case measure => simp [intOf]
  .go_wp2_with (go_at_call 110; fail)
   have hgr := grow_impl (us.length + 1) w (by omega) (by omega)
   rw [show ((us.length + 1 : Nat) : Int) = (us.length : Int) + 1 by omega] at hgr
   refine hgr.mono ?_
   rintro e w1 ⟨v, rfl, ho, hb⟩
   have HO := hid ho
   clear hgr ho
   go_wp2
   go_loopw [6, 27] (fun sv iv wr => ((iv = .int .i64 0 /\ Hid (wr.ownsRow w.heap.size 131 4 sv 0 [])) \/ (iv = .int .i64 1 /\ Hid (wr.ownsRow w.heap.size 131 4 sv us.length news)) \/ (iv = .int .i64 2 /\ Hid (wr.ownsRow w.heap.size 131 4 sv (us.length + 1) (news ++ cs)))) /\ Below w.heap.size w wr) (fun _ iv _ => 2 - (intOf iv).toNat)
   case atStart => exact ⟨.inl ⟨rfl, HO⟩, hb⟩
   case round =>
    clear HO hb e1 e2 e3 e4
    obtain ⟨hcs, hb⟩ := hrel
    have k0 : wr.cell? ⟨g2, 0, none⟩ = some (.slice (some ⟨g, 0, none⟩) us.length ca) := ct hb hg2 h0
    have k1 : wr.cell? ⟨g2, 1, none⟩ = some (.slice (some ⟨gt, 0, none⟩) 1 1) := ct hb hg2 h1
    rcases hcs with ⟨rfl, HO⟩ | ⟨rfl, HO⟩ | ⟨rfl, HO⟩
    .go_wp2_with (at_builtin; refine wpList_append_own _ rfl (.tmp 31) (.tmp 32) 25 rfl w.heap.size 131 i0 _ 4 64 Tryz.underlying25 hi hz0 hz1 hz2 rfl (by decide) _ _ _ rfl HO.out ⟨g, 0, none⟩ us.length ca news rfl HNL.out (HCW.out _ hb) HON.out (by unfold maxLen; omega) (by omega) hb.size ?_; intro v' w' hown hgrow _)
     have HO2 := hid hown
     have bw2 : Below w.heap.size w w' := hb.grown hgrow hb.size (fun k hk => (HO.out.lt k hk).1)
     clear hown hgrow HO
     go_wp2
     go_roundw
     case rel => exact ⟨.inr (.inl ⟨rfl, (by simpa using HO2.out : w'.ownsRow w.heap.size 131 4 v' us.length news)⟩), bw2⟩
     case measure => simp [intOf]
    .go_wp2_with (at_builtin; refine wpList_append_own _ rfl (.tmp 31) (.tmp 32) 25 rfl w.heap.size 131 i0 _ 4 64 Tryz.underlying25 hi hz0 hz1 hz2 rfl (by decide) _ _ _ rfl HO.out ⟨gt, 0, none⟩ 1 1 cs rfl HCL.out (HCT.out _ hb) HOC.out (by unfold maxLen; omega) (by omega) hb.size ?_; intro v' w' hown hgrow _)
     have HO2 := hid hown
     have bw2 : Below w.heap.size w w' := hb.grown hgrow hb.size (fun k hk => (HO.out.lt k hk).1)
     clear hown hgrow HO
     go_wp2
     go_roundw
     case rel => exact ⟨.inr (.inr ⟨rfl, HO2⟩), bw2⟩
     case measure => simp [intOf]
    .go_wp2
     go_ret
     exact ⟨_, rfl, HRS.out _ _ hb HO.out, hb⟩
theorem rs_nil {α : Type} (K : Nat) (C : Nat -> World -> List Value -> α -> Prop) (B : Nat) (w : World) : RS K C B w (.slice none ([] : List α).length 0) [] := ⟨none, 0, rfl, fun h => absurd h (Nat.lt_irrefl 0)⟩
theorem concat_nil (g2 gt : Nat) (t : TI) (w : World) (hg2 : g2 < w.heap.size) (h0 : w.cell? ⟨g2, 0, none⟩ = some (.slice none 0 0)) (h1 : w.cell? ⟨g2, 1, none⟩ = some (.slice (some ⟨gt, 0, none⟩) 1 1))
 (ht : RS 4 CT 0 w (.slice (some ⟨gt, 0, none⟩) [t].length 1) [t]) :
 Calls Tryz.prog 100 #[.slice (some ⟨g2, 0, none⟩) 2 2] w fun e w' => ∃ v, e = .returned v /\ RS 4 CT 0 w' v [t] /\ Below w.heap.size w w' := by
 obtain ⟨i0, hi, hz0, hz1, hz2⟩ := info_parts infoTI
 obtain ⟨cs, cfill, ccells⟩ := RS.flat liesT ht
 have HT : Hid (gt < w.heap.size) := hid (by obtain ⟨_, _, he, hh⟩ := ht; obtain ⟨g', o', e2, _, h3, _⟩ := hh (by simp); simp only [Value.slice.injEq] at he; rw [<- he.1] at e2; cases e2; exact h3)
 have HCL : Hid (cs.length = 1 * 4) := cfill.1
 have HOC : Hid (∀ u ∈ cs, u.oneCell' = true) := cfill.one oneT liesT
 have HCT : Hid (∀ W, Below w.heap.size w W -> ∀ j u, cs[j]? = some u -> W.cell? ((⟨gt, 0, none⟩ : Addr).add j) = some u) := hid (fun W hW j u hj => by
  rw [Addr.add_lit]
  exact (hW.cell (p := ⟨gt, 0 + j, none⟩) HT.out).trans (ccells j u hj))
 have HRS : Hid (∀ W v, Below w.heap.size w W -> W.ownsRow w.heap.size 131 4 v 1 cs -> RS 4 CT 0 W v [t]) := hid (fun W v hW ho => (cfill.below liesT hW).own liesT (own_bs ho (Nat.zero_le _)) (Nat.le_refl _))
 clear ht cfill ccells HT
 go_enter Tryz.func100, Tryz.ntmps100
 go_wp2
 go_loopw [3, 11] (fun sv iv wr => ((iv = .int .i64 0 /\ sv = .int .i64 0) \/ (iv = .int .i64 1 /\ sv = .int .i64 0) \/ (iv = .int .i64 2 /\ sv = .int .i64 1)) /\ wr = w) (fun _ iv _ => 2 - (intOf iv).toNat)
 case atStart => exact ⟨.inl ⟨rfl, rfl⟩, rfl⟩
 case round =>
  obtain ⟨hcs, hww⟩ := hrel
  replace hww := hww.symm
  subst hww
  rcases hcs with ⟨rfl, rfl⟩ | ⟨rfl, rfl⟩ | ⟨rfl, rfl⟩
  .go_wp2
   go_roundw
   case rel => exact ⟨.inr (.inl ⟨rfl, by first | rfl | go_num⟩), by first | exact rfl | trivial⟩
   case measure => simp [intOf]
  .go_wp2
   go_roundw
   case rel => exact ⟨.inr (.inr ⟨rfl, by first | rfl | go_num⟩), by first | exact rfl | trivial⟩
   case measure => simp [intOf]
  .go_wp2_with (go_at_call 110; fail)
   have hgr := grow_impl 1 w (by omega) (by omega)
   rw [show ((1 : Nat) : Int) = 1 from rfl] at hgr
   refine hgr.mono ?_
   rintro e w1 ⟨v, rfl, ho, hb⟩
   have HO := hid ho
   clear hgr ho
   go_wp2
   go_loopw [6, 27] (fun sv iv wr => ((iv = .int .i64 0 /\ Hid (wr.ownsRow w.heap.size 131 4 sv 0 [])) \/ (iv = .int .i64 1 /\ Hid (wr.ownsRow w.heap.size 131 4 sv 0 [])) \/ (iv = .int .i64 2 /\ Hid (wr.ownsRow w.heap.size 131 4 sv 1 cs))) /\ Below w.heap.size w wr) (fun _ iv _ => 2 - (intOf iv).toNat)
   case atStart => exact ⟨.inl ⟨rfl, HO⟩, hb⟩
   case round =>
    clear HO hb
    obtain ⟨hcs, hb⟩ := hrel
    have k0 : wr.cell? ⟨g2, 0, none⟩ = some (.slice none 0 0) := ct hb hg2 h0
    have k1 : wr.cell? ⟨g2, 1, none⟩ = some (.slice (some ⟨gt, 0, none⟩) 1 1) := ct hb hg2 h1
    rcases hcs with ⟨rfl, HO⟩ | ⟨rfl, HO⟩ | ⟨rfl, HO⟩
    .go_wp2_with (at_builtin; refine wpList_append_rs liesT oneT _ rfl (.tmp 31) (.tmp 32) 25 rfl w.heap.size 131 i0 _ 64 Tryz.underlying25 hi hz0 hz1 hz2 rfl (by decide) _ _ _ rfl HO.out none 0 ([] : List TI) rfl (rs_nil _ _ _ _) (by unfold maxLen; simp) (by simp) hb.size ?_; intro news v' w' hfi hown hgrow _; have hnn : news = [] := List.length_eq_zero_iff.1 (by have := hfi.1; simpa using this); subst hnn; clear hfi)
     have HO2 := hid hown
     have bw2 : Below w.heap.size w w' := hb.grown hgrow hb.size (fun k hk => (HO.out.lt k hk).1)
     clear hown hgrow HO
     go_wp2
     go_roundw
     case rel => exact ⟨.inr (.inl ⟨rfl, (by simpa using HO2.out : w'.ownsRow w.heap.size 131 4 v' 0 [])⟩), bw2⟩
     case measure => simp [intOf]
    .go_wp2_with (at_builtin; refine wpList_append_own _ rfl (.tmp 31) (.tmp 32) 25 rfl w.heap.size 131 i0 _ 4 64 Tryz.underlying25 hi hz0 hz1 hz2 rfl (by decide) _ _ _ rfl HO.out ⟨gt, 0, none⟩ 1 1 cs rfl HCL.out (HCT.out _ hb) HOC.out (by unfold maxLen; omega) (by omega) hb.size ?_; intro v' w' hown hgrow _)
     have HO2 := hid hown
     have bw2 : Below w.heap.size w w' := hb.grown hgrow hb.size (fun k hk => (HO.out.lt k hk).1)
     clear hown hgrow HO
     go_wp2
     go_roundw
     case rel => exact ⟨.inr (.inr ⟨rfl, (by simpa using HO2.out : w'.ownsRow w.heap.size 131 4 v' 1 cs)⟩), bw2⟩
     case measure => simp [intOf]
    .go_wp2
     go_ret
     exact ⟨_, rfl, HRS.out _ _ hb HO.out, hb⟩
theorem info55 : (Tryz.prog.info? 89).map (fun i => (i.zero, i.size, i.bytes)) = some (some (.agg #[.int .i64 0, .int .i64 0, .int .u64 0, .int .u64 0]), 4, 32) := by kernel_rfl
theorem bits_told {xs : List Int} {e : Ending} (h : BitsR xs e) : ∃ (n : Nat) (r : Bool), e = .returned (.tuple #[.int .u64 (n : Int), .bool r]) /\ (r = true ↔ tabP xs) /\ (r = true -> n = bitsOf xs) := by
 rcases h with ⟨h, rfl⟩ | ⟨h, rfl⟩
 .exact ⟨bitsOf xs, true, rfl, ⟨fun _ => h, fun _ => rfl⟩, fun _ => rfl⟩
 .exact ⟨0, false, rfl, ⟨fun z => (by cases z), fun z => absurd z h⟩, fun z => (by cases z)⟩
theorem fill_deals (B : Nat) (w : World) : ∀ us : List TI, (∀ t ∈ us, tabP t.reads /\ tabP t.writes) -> Fill 4 CDl B us us.length (us.flatMap dealV) w
 | [], _ => fill_nil _ _ _ _
 | t :: r, h => by
   have h1 := fill_one liesD (B := B) (w := w) (t := t) (cs := dealV t) ⟨rfl, h t List.mem_cons_self⟩
   exact h1.append (fill_deals B w r (fun x hx => h x (List.mem_cons_of_mem _ hx)))
theorem flat_step {us : List TI} {k : Nat} (h : k < us.length) : (us.take (k + 1)).flatMap dealV = (us.take k).flatMap dealV ++ dealV us[k] := by
 rw [show us.take (k + 1) = us.take k ++ [us[k]] by rw [List.take_add_one, List.getElem?_eq_getElem h]; rfl, List.flatMap_append]
 simp
theorem hist_tabs {us : List TI} (h : ∀ i, i < us.length -> histAt us i) : ∀ t ∈ us, tabP t.reads /\ tabP t.writes := fun t ht => by
 obtain ⟨i, hi, rfl⟩ := List.getElem_of_mem ht
 exact (h i hi _ (List.getElem?_eq_getElem hi)).2.2.2
def PastR (us : List TI) (w : World) (e : Ending) (w' : World) : Prop := (histP us /\ ∃ v, e = .returned (.tuple #[v, .bool true]) /\ RS 4 CDl w.heap.size w' v us) \/ (¬ histP us /\ e = .returned (.tuple #[.slice none 0 0, .bool false]))
theorem past_impl (a : Option Addr) (ca : Nat) (us : List TI) (w : World) (hn : us.length <= 1048577) (hz : ∀ t ∈ us, BT 1048576 t) (ha : RS 4 CT 0 w (.slice a us.length ca) us) :
 Calls Tryz.prog 23 #[.slice a us.length ca] w fun e w' => PastR us w e w' /\ Below w.heap.size w w' := by
 have HZ : Hid (∀ t ∈ us, BT 1048576 t) := hz
 clear hz
 by_cases hbig : (1000 : Int) < us.length
 .have HF : Hid (¬ histP us) := hid (fun h => by have := h.1; omega)
  clear ha
  go_enter Tryz.func23, Tryz.ntmps23
  go_wp2
  refine bodyPost_ret (v := .tuple #[.slice none 0 0, .bool false]) (by simp [results, Tryz.results23, go_sem]) rfl ⟨.inr ⟨HF.out, rfl⟩, Below.refl _ _⟩
 obtain ⟨i0, hi, hz0, hz1, hz2⟩ := info_parts info55
 obtain ⟨a', ca', he, hva⟩ := ha
 simp only [Value.slice.injEq] at he
 obtain ⟨rfl, _, rfl⟩ := he
 go_enter Tryz.func23, Tryz.ntmps23
 go_wp2
 go_loopw [4, 17] (fun pv i wr => ∃ k : Nat, k <= us.length /\ i = .int .i64 k /\ Hid (∀ j, j < k -> histAt us j) /\ Hid (wr.ownsRow w.heap.size 89 4 pv k ((us.take k).flatMap dealV)) /\ Below w.heap.size w wr) (fun _ i _ => us.length - (intOf i).toNat)
 case atStart => exact ⟨0, Nat.zero_le _, rfl, (fun x h => absurd h (Nat.not_lt_zero _) : ∀ j, j < 0 -> histAt us j), World.ownsRow_nil _ _ _ _, Below.refl _ _⟩
 case round =>
  obtain ⟨k, hk, rfl, HO, HOW, hbel⟩ := hrel
  have hbs := hbel.size
  by_cases hlt : k < us.length
  .have hlti : (k : Int) < us.length := by omega
   obtain ⟨g, o, rfl, _, hg, hgc⟩ := hva (by omega)
   obtain ⟨cs, hC0, hcell⟩ := hgc k hlt
   have hC := liesT.below hC0 hbel
   have hB := HZ.out us[k] (List.getElem_mem hlt)
   have HST : Hid (histAt us k -> ∀ j, j < k + 1 -> histAt us j) := hid (fun z j hj => by
    by_cases e : j = k
    .subst e; exact z
    .exact HO.out j (by omega))
   have HNo : Hid (¬ histAt us k -> ¬ histP us) := hid (fun z h => z (h.2 k hlt))
   have HD : Hid (us[k]? = some us[k]) := List.getElem?_eq_getElem hlt
   have HFS := hid (flat_step hlt)
   clear HO hC0
   generalize hx : us[k] = t at *
   clear hx
   obtain ⟨v0, v1, rfl, r0, r1⟩ := hC
   have R0 := hid r0
   obtain ⟨a0, q0, rfl, _⟩ := r0
   have R1 := hid r1
   obtain ⟨a1, q1, rfl, _⟩ := r1
   have c0 : wr.cell? ⟨g, o + k * 4, none⟩ = some (.int .i64 t.bgn) := ct hbel hg (hcell 0 (by omega))
   have c1 : wr.cell? ⟨g, o + k * 4 + 1, none⟩ = some (.int .i64 t.com) := ct hbel hg (hcell 1 (by omega))
   have c2 : wr.cell? ⟨g, o + k * 4 + 2, none⟩ = some (.slice a0 t.reads.length q0) := ct hbel hg (hcell 2 (by omega))
   have c3 : wr.cell? ⟨g, o + k * 4 + 3, none⟩ = some (.slice a1 t.writes.length q1) := ct hbel hg (hcell 3 (by omega))
   clear hcell
   have bwA : Below w.heap.size w (wr.alloc (.cells #[.int .i64 t.bgn, .int .i64 t.com, .slice a0 t.reads.length q0, .slice a1 t.writes.length q1] 131)) := hbel.alloc hbs _
   have bwB : Below wr.heap.size wr (wr.alloc (.cells #[.int .i64 t.bgn, .int .i64 t.com, .slice a0 t.reads.length q0, .slice a1 t.writes.length q1] 131)) := below_alloc _ _
   have hzA : wr.heap.size < (wr.alloc (.cells #[.int .i64 t.bgn, .int .i64 t.com, .slice a0 t.reads.length q0, .slice a1 t.writes.length q1] 131)).heap.size := by simp
   have hq1 := tableBits_impl a0 q0 t.reads (wr.alloc (.cells #[.int .i64 t.bgn, .int .i64 t.com, .slice a0 t.reads.length q0, .slice a1 t.writes.length q1] 131)) (by have := hB.1; omega) (R0.out.below liesI bwB)
   have hq2 := tableBits_impl a1 q1 t.writes (wr.alloc (.cells #[.int .i64 t.bgn, .int .i64 t.com, .slice a0 t.reads.length q0, .slice a1 t.writes.length q1] 131)) (by have := hB.2; omega) (R1.out.below liesI bwB)
   clear R0 R1
   by_cases hk0 : (0 : Int) < k
   .obtain ⟨ds, hE, hcell2⟩ := hgc (k - 1) (by omega)
    have HE : Hid (us[k - 1]? = some us[k - 1]) := List.getElem?_eq_getElem (by omega)
    generalize us[k - 1] = s at *
    obtain ⟨xv0, xv1, rfl, _, _⟩ := hE
    have d1 : wr.cell? ⟨g, o + (k - 1) * 4 + 1, none⟩ = some (.int .i64 s.com) := ct hbel hg (hcell2 1 (by omega))
    have hw : IntKind.i64.wrap ((k : Int) - 1) = ((k - 1 : Nat) : Int) := by simp only [IntKind.wrap_i64, wrap64]; omega
    have hk1 : ((k - 1 : Nat) : Int) < us.length := by omega
    have d1A := (bwB.cell (p := ⟨g, o + (k - 1) * 4 + 1, none⟩) (show g < wr.heap.size by omega)).trans d1
    have hgr : g < wr.heap.size := by omega
    clear hgc hva hcell2
    generalize hkp : k - 1 = kp at d1 d1A HE hw hk1
    by_cases h2 : t.com <= s.com
    .have HF := hid (HNo.out (fun h => by have := (h t HD.out).2.2.1 s (by omega) (by rw [hkp]; exact HE.out); omega))
     clear HST HNo HD HE hkp HFS
     go_wp2_with (go_at_call 52; fail)
     refine hq1.mono ?_
     rintro e w' ⟨hR1, rfl⟩
     obtain ⟨n1, r1, rfl, hr1, hn1⟩ := bits_told hR1
     have HR1 := hid hr1
     have HN1 := hid hn1
     clear hR1 hr1 hn1 hq1
     go_wp2_with (go_at_call 52; fail)
     refine hq2.mono ?_
     rintro e w' ⟨hR2, rfl⟩
     obtain ⟨n2, r2, rfl, hr2, hn2⟩ := bits_told hR2
     have HR2 := hid hr2
     have HN2 := hid hn2
     clear hR2 hr2 hn2 hq2
     go_wp2
     have g0 : ((k : Int) == 0) = false := by simp; omega
     have g0n : decide (k = 0) = false := decide_eq_false (by omega)
     have g1 : decide (s.com < t.com) = false := decide_eq_false (by omega)
     go_quiet (fail)
     rcases r1 with _ | _ <;> rcases r2 with _ | _
     all_goals
      go_wp2
      refine bodyPost_ret (v := .tuple #[.slice none 0 0, .bool false]) (by simp [results, Tryz.results23, go_sem]) rfl ⟨.inr ⟨HF.out, rfl⟩, bwA.trans ((below_drewNt _ _).mono bwA.size)⟩
    .have HV : Hid (0 <= t.bgn -> t.bgn < t.com -> tabP t.reads -> tabP t.writes -> ∀ j, j < k + 1 -> histAt us j) := hid (fun b1 b2 r z => HST.out (fun t' ht => by
      have := HD.out.symm.trans ht
      cases this
      exact ⟨b1, b2, fun s' _ hs => by rw [hkp, HE.out] at hs; cases hs; omega, r, z⟩))
     clear HE hkp
     go_wp2_with (go_at_call 52; fail)
     refine hq1.mono ?_
     rintro e w' ⟨hR1, rfl⟩
     obtain ⟨n1, r1, rfl, hr1, hn1⟩ := bits_told hR1
     have HR1 := hid hr1
     have HN1 := hid hn1
     clear hR1 hr1 hn1 hq1
     go_wp2_with (go_at_call 52; fail)
     refine hq2.mono ?_
     rintro e w' ⟨hR2, rfl⟩
     obtain ⟨n2, r2, rfl, hr2, hn2⟩ := bits_told hR2
     have HR2 := hid hr2
     have HN2 := hid hn2
     clear hR2 hr2 hn2 hq2
     go_wp2
     have g0 : ((k : Int) == 0) = false := by simp; omega
     have g0n : decide (k = 0) = false := decide_eq_false (by omega)
     have g1 : decide (s.com < t.com) = true := decide_eq_true (by omega)
     go_quiet (fail)
     rcases r1 with _ | _
     .have HF := hid (HNo.out (fun h => by have := HR1.out.2 (h t HD.out).2.2.2.1; cases this))
      clear HST HNo HD HFS HV HR1 HN1 HR2 HN2
      go_wp2
      refine bodyPost_ret (v := .tuple #[.slice none 0 0, .bool false]) (by simp [results, Tryz.results23, go_sem]) rfl ⟨.inr ⟨HF.out, rfl⟩, bwA.trans ((below_drewNt _ _).mono bwA.size)⟩
     rcases r2 with _ | _
     .have HF := hid (HNo.out (fun h => by have := HR2.out.2 (h t HD.out).2.2.2.2; cases this))
      clear HST HNo HD HFS HV HR1 HN1 HR2 HN2
      go_wp2
      refine bodyPost_ret (v := .tuple #[.slice none 0 0, .bool false]) (by simp [results, Tryz.results23, go_sem]) rfl ⟨.inr ⟨HF.out, rfl⟩, bwA.trans ((below_drewNt _ _).mono bwA.size)⟩
     by_cases h0 : t.bgn < 0
     .have HF := hid (HNo.out (fun h => by have := (h t HD.out).1; omega))
      clear HST HNo HD HFS HV HR1 HN1 HR2 HN2
      go_wp2
      refine bodyPost_ret (v := .tuple #[.slice none 0 0, .bool false]) (by simp [results, Tryz.results23, go_sem]) rfl ⟨.inr ⟨HF.out, rfl⟩, bwA.trans ((below_drewNt _ _).mono bwA.size)⟩
     by_cases h1 : t.com <= t.bgn
     .have HF := hid (HNo.out (fun h => by have := (h t HD.out).2.1; omega))
      clear HST HNo HD HFS HV HR1 HN1 HR2 HN2
      go_wp2
      refine bodyPost_ret (v := .tuple #[.slice none 0 0, .bool false]) (by simp [results, Tryz.results23, go_sem]) rfl ⟨.inr ⟨HF.out, rfl⟩, bwA.trans ((below_drewNt _ _).mono bwA.size)⟩
     have HVV := hid (HV.out (by omega) (by omega) (HR1.out.1 rfl) (HR2.out.1 rfl))
     have hN1 := HN1.out rfl
     have hN2 := HN2.out rfl
     have HDV : Hid (dealV t = [.int .i64 t.bgn, .int .i64 t.com, .int .u64 (n1 : Int), .int .u64 (n2 : Int)]) := hid (by rw [hN1, hN2]; rfl)
     clear HST HNo HD HV HR1 HN1 HR2 HN2 hN1 hN2
     go_wp2_with (at_builtin; refine wpList_append_own _ rfl (.tmp 69) (.tmp 77) 82 rfl w.heap.size 89 i0 _ 4 32 Tryz.underlying82 hi hz0 hz1 hz2 rfl (by decide) _ k ((us.take k).flatMap dealV) rfl ?hown ⟨_, 0, none⟩ 1 1 [.int .i64 t.bgn, .int .i64 t.com, .int .u64 (n1 : Int), .int .u64 (n2 : Int)] rfl rfl ?hcl (by intro u hu; simp at hu; rcases hu with rfl | rfl | rfl | rfl <;> rfl) (by unfold maxLen; omega) (by omega) ?hbase ?_; (case hown => exact own_below HOW.out (((bwB.trans ((below_drewNt _ _).mono bwB.size))).alloc (by simp) _)); (case hcl => exact cells_new _ [.int .i64 t.bgn, .int .i64 t.com, .int .u64 (n1 : Int), .int .u64 (n2 : Int)] 89 _ (by simp)); (case hbase => simp; omega); intro v' w' hown hgrow _)
     have bw3 : Below w.heap.size w w' := by
      refine Below.grown ((bwA.trans ((below_drewNt _ _).mono bwA.size)).alloc (by simp; omega) _) hgrow (by simp; omega) ?_
      intro q hq
      exact (HOW.out.lt q hq).1
     have HOW2 : Hid (w'.ownsRow w.heap.size 89 4 v' (k + 1) ((us.take (k + 1)).flatMap dealV)) := hid (by rw [HFS.out, HDV.out]; exact hown)
     clear hown hgrow HOW HFS HDV bwA bwB
     go_wp2
     go_roundw
     case rel => exact ⟨k + 1, by omega, by go_num, HVV, HOW2, bw3⟩
     case measure => simp [intOf]; omega
   .have HV : Hid (0 <= t.bgn -> t.bgn < t.com -> tabP t.reads -> tabP t.writes -> ∀ j, j < k + 1 -> histAt us j) := hid (fun b1 b2 r z => HST.out (fun t' ht => by
     have := HD.out.symm.trans ht
     cases this
     exact ⟨b1, b2, fun s' h _ => by omega, r, z⟩))
    clear hgc hva
    go_wp2_with (go_at_call 52; fail)
    refine hq1.mono ?_
    rintro e w' ⟨hR1, rfl⟩
    obtain ⟨n1, r1, rfl, hr1, hn1⟩ := bits_told hR1
    have HR1 := hid hr1
    have HN1 := hid hn1
    clear hR1 hr1 hn1 hq1
    go_wp2_with (go_at_call 52; fail)
    refine hq2.mono ?_
    rintro e w' ⟨hR2, rfl⟩
    obtain ⟨n2, r2, rfl, hr2, hn2⟩ := bits_told hR2
    have HR2 := hid hr2
    have HN2 := hid hn2
    clear hR2 hr2 hn2 hq2
    go_wp2
    have g0 : ((k : Int) == 0) = true := by simp; omega
    have g0n : decide (k = 0) = true := decide_eq_true (by omega)
    go_quiet (fail)
    rcases r1 with _ | _
    .have HF := hid (HNo.out (fun h => by have := HR1.out.2 (h t HD.out).2.2.2.1; cases this))
     clear HST HNo HD HFS HV HR1 HN1 HR2 HN2
     go_wp2
     refine bodyPost_ret (v := .tuple #[.slice none 0 0, .bool false]) (by simp [results, Tryz.results23, go_sem]) rfl ⟨.inr ⟨HF.out, rfl⟩, bwA.trans ((below_drewNt _ _).mono bwA.size)⟩
    rcases r2 with _ | _
    .have HF := hid (HNo.out (fun h => by have := HR2.out.2 (h t HD.out).2.2.2.2; cases this))
     clear HST HNo HD HFS HV HR1 HN1 HR2 HN2
     go_wp2
     refine bodyPost_ret (v := .tuple #[.slice none 0 0, .bool false]) (by simp [results, Tryz.results23, go_sem]) rfl ⟨.inr ⟨HF.out, rfl⟩, bwA.trans ((below_drewNt _ _).mono bwA.size)⟩
    by_cases h0 : t.bgn < 0
    .have HF := hid (HNo.out (fun h => by have := (h t HD.out).1; omega))
     clear HST HNo HD HFS HV HR1 HN1 HR2 HN2
     go_wp2
     refine bodyPost_ret (v := .tuple #[.slice none 0 0, .bool false]) (by simp [results, Tryz.results23, go_sem]) rfl ⟨.inr ⟨HF.out, rfl⟩, bwA.trans ((below_drewNt _ _).mono bwA.size)⟩
    by_cases h1 : t.com <= t.bgn
    .have HF := hid (HNo.out (fun h => by have := (h t HD.out).2.1; omega))
     clear HST HNo HD HFS HV HR1 HN1 HR2 HN2
     go_wp2
     refine bodyPost_ret (v := .tuple #[.slice none 0 0, .bool false]) (by simp [results, Tryz.results23, go_sem]) rfl ⟨.inr ⟨HF.out, rfl⟩, bwA.trans ((below_drewNt _ _).mono bwA.size)⟩
    have HVV := hid (HV.out (by omega) (by omega) (HR1.out.1 rfl) (HR2.out.1 rfl))
    have hN1 := HN1.out rfl
    have hN2 := HN2.out rfl
    have HDV : Hid (dealV t = [.int .i64 t.bgn, .int .i64 t.com, .int .u64 (n1 : Int), .int .u64 (n2 : Int)]) := hid (by rw [hN1, hN2]; rfl)
    clear HST HNo HD HV HR1 HN1 HR2 HN2 hN1 hN2
    go_wp2_with (at_builtin; refine wpList_append_own _ rfl (.tmp 69) (.tmp 77) 82 rfl w.heap.size 89 i0 _ 4 32 Tryz.underlying82 hi hz0 hz1 hz2 rfl (by decide) _ k ((us.take k).flatMap dealV) rfl ?hown ⟨_, 0, none⟩ 1 1 [.int .i64 t.bgn, .int .i64 t.com, .int .u64 (n1 : Int), .int .u64 (n2 : Int)] rfl rfl ?hcl (by intro u hu; simp at hu; rcases hu with rfl | rfl | rfl | rfl <;> rfl) (by unfold maxLen; omega) (by omega) ?hbase ?_; (case hown => exact own_below HOW.out (((bwB.trans ((below_drewNt _ _).mono bwB.size))).alloc (by simp) _)); (case hcl => exact cells_new _ [.int .i64 t.bgn, .int .i64 t.com, .int .u64 (n1 : Int), .int .u64 (n2 : Int)] 89 _ (by simp)); (case hbase => simp; omega); intro v' w' hown hgrow _)
    have bw3 : Below w.heap.size w w' := by
     refine Below.grown ((bwA.trans ((below_drewNt _ _).mono bwA.size)).alloc (by simp; omega) _) hgrow (by simp; omega) ?_
     intro q hq
     exact (HOW.out.lt q hq).1
    have HOW2 : Hid (w'.ownsRow w.heap.size 89 4 v' (k + 1) ((us.take (k + 1)).flatMap dealV)) := hid (by rw [HFS.out, HDV.out]; exact hown)
    clear hown hgrow HOW HFS HDV bwA bwB
    go_wp2
    go_roundw
    case rel => exact ⟨k + 1, by omega, by go_num, HVV, HOW2, bw3⟩
    case measure => simp [intOf]; omega
  .have hkn : k = us.length := by omega
   subst hkn
   have hlti : ¬ (us.length : Int) < us.length := by omega
   have HT : Hid (histP us) := hid (⟨by omega, HO.out⟩)
   rw [List.take_length] at HOW
   have HRS : Hid (RS 4 CDl w.heap.size wr _ us) := (fill_deals w.heap.size wr us (hist_tabs HO.out)).own liesD HOW.out (Nat.le_refl _)
   obtain ⟨pa, pc, hpv, _⟩ := id HRS.out
   clear HO HOW
   subst hpv
   go_wp2
   refine bodyPost_ret (v := .tuple #[.slice pa us.length pc, .bool true]) (by simp [results, Tryz.results23, go_sem]) rfl ⟨.inl ⟨HT.out, _, rfl, HRS.out⟩, hbel⟩
end Go.Proofs.YtblkgicbimflhaaGreat
