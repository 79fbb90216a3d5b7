import Derived.Test.YtblkgicbimflhaaGreatKBL
import Derived.BigQuiet
import Derived.Deep.QuietTactic
namespace Go.Proofs.YtblkgicbimflhaaGreat
open Go.ChangeShapes Go.WideShapes Go.ChangeAt Go.RowKit
set_option linter.unusedVariables false
set_option linter.unusedSimpArgs false
set_option maxRecDepth 100000
open List (setIfInBounds_toArray set_cons_zero set_cons_succ)
theorem info55 : (Tryz.prog.info? 89).map (fun i => (i.zero, i.size, i.bytes)) = some (some (.agg #[.int .i64 0, .int .i64 0, .int .u64 0, .int .u64 0]), 4, 32) := by kernel_rfl
theorem bits_told {xs : List Int} {e : Ending} (h : BitsR xs e) : ∃ (n : Nat) (r : Bool), e = .returned (.tuple #[.int .u64 (n : Int), .bool r]) ∧ (r = true ↔ tabP xs) ∧ (r = true → n = bitsOf xs) := by
 rcases h with ⟨h, rfl⟩ | ⟨h, rfl⟩
 ·exact ⟨bitsOf xs, true, rfl, ⟨fun _ => h, fun _ => rfl⟩, fun _ => rfl⟩
 ·exact ⟨0, false, rfl, ⟨fun z => (by cases z), fun z => absurd z h⟩, fun z => (by cases z)⟩
theorem fill_deals (B : Nat) (w : World) : ∀ us : List TI, (∀ t ∈ us, tabP t.reads ∧ tabP t.writes) → Fill 4 CDl B us us.length (us.flatMap dealV) w
 | [], _ => fill_nil _ _ _ _
 | t :: r, h => by
   have h1 := fill_one liesD (B := B) (w := w) (t := t) (cs := dealV t) ⟨rfl, h t List.mem_cons_self⟩
   exact h1.append (fill_deals B w r (fun x hx => h x (List.mem_cons_of_mem _ hx)))
theorem flat_step {us : List TI} {k : Nat} (h : k < us.length) : (us.take (k + 1)).flatMap dealV = (us.take k).flatMap dealV ++ dealV us[k] := by
 rw [show us.take (k + 1) = us.take k ++ [us[k]] by rw [List.take_add_one, List.getElem?_eq_getElem h]; rfl, List.flatMap_append]
 simp
theorem hist_tabs {us : List TI} (h : ∀ i, i < us.length → histAt us i) : ∀ t ∈ us, tabP t.reads ∧ tabP t.writes := fun t ht => by
 obtain ⟨i, hi, rfl⟩ := List.getElem_of_mem ht
 exact (h i hi _ (List.getElem?_eq_getElem hi)).2.2.2
def PastR (us : List TI) (w : World) (e : Ending) (w' : World) : Prop := (histP us ∧ ∃ v, e = .returned (.tuple #[v, .bool true]) ∧ RS 4 CDl w.heap.size w' v us) ∨ (¬ histP us ∧ e = .returned (.tuple #[.slice none 0 0, .bool false]))
set_option maxHeartbeats 16000000 in
theorem past_impl (a : Option Addr) (ca : Nat) (us : List TI) (w : World) (hn : us.length ≤ 1048577) (hz : ∀ t ∈ us, BT 1048576 t) (ha : RS 4 CT 0 w (.slice a us.length ca) us) :
 Calls Tryz.prog 23 #[.slice a us.length ca] w fun e w' => PastR us w e w' ∧ Below w.heap.size w w' := by
 have HZ : Hid (∀ t ∈ us, BT 1048576 t) := hz
 clear hz
 by_cases hbig : (1000 : Int) < us.length
 ·have HF : Hid (¬ histP us) := hid (fun h => by have := h.1; omega)
  clear ha
  go_enter Tryz.func23, Tryz.ntmps23
  go_wp2
  refine bodyPost_ret (v := .tuple #[.slice none 0 0, .bool false]) (by simp [results, Tryz.results23, go_sem]) rfl ⟨.inr ⟨HF.out, rfl⟩, Below.refl _ _⟩
 obtain ⟨i0, hi, hz0, hz1, hz2⟩ := info_parts info55
 obtain ⟨a', ca', he, hva⟩ := ha
 simp only [Value.slice.injEq] at he
 obtain ⟨rfl, _, rfl⟩ := he
 go_enter Tryz.func23, Tryz.ntmps23
 go_wp2
 go_loopw [4, 17] (fun pv i wr => ∃ k : Nat, k ≤ us.length ∧ i = .int .i64 k ∧ Hid (∀ j, j < k → histAt us j) ∧ Hid (wr.ownsRow w.heap.size 89 4 pv k ((us.take k).flatMap dealV)) ∧ Below w.heap.size w wr) (fun _ i _ => us.length - (intOf i).toNat)
 case atStart => exact ⟨0, Nat.zero_le _, rfl, (fun x h => absurd h (Nat.not_lt_zero _) : ∀ j, j < 0 → histAt us j), World.ownsRow_nil _ _ _ _, Below.refl _ _⟩
 case round =>
  obtain ⟨k, hk, rfl, HO, HOW, hbel⟩ := hrel
  have hbs := hbel.size
  by_cases hlt : k < us.length
  ·have hlti : (k : Int) < us.length := by omega
   obtain ⟨g, o, rfl, _, hg, hgc⟩ := hva (by omega)
   obtain ⟨cs, hC0, hcell⟩ := hgc k hlt
   have hC := liesT.below hC0 hbel
   have hB := HZ.out us[k] (List.getElem_mem hlt)
   have HST : Hid (histAt us k → ∀ j, j < k + 1 → histAt us j) := hid (fun z j hj => by
    by_cases e : j = k
    ·subst e; exact z
    ·exact HO.out j (by omega))
   have HNo : Hid (¬ histAt us k → ¬ histP us) := hid (fun z h => z (h.2 k hlt))
   have HD : Hid (us[k]? = some us[k]) := List.getElem?_eq_getElem hlt
   have HFS := hid (flat_step hlt)
   clear HO hC0
   generalize hx : us[k] = t at *
   clear hx
   obtain ⟨v0, v1, rfl, r0, r1⟩ := hC
   have R0 := hid r0
   obtain ⟨a0, q0, rfl, _⟩ := r0
   have R1 := hid r1
   obtain ⟨a1, q1, rfl, _⟩ := r1
   have c0 : wr.cell? ⟨g, o + k * 4, none⟩ = some (.int .i64 t.bgn) := (hbel.cell (p := ⟨g, o + k * 4, none⟩) hg).trans (hcell 0 (by omega))
   have c1 : wr.cell? ⟨g, o + k * 4 + 1, none⟩ = some (.int .i64 t.com) := (hbel.cell (p := ⟨g, o + k * 4 + 1, none⟩) hg).trans (hcell 1 (by omega))
   have c2 : wr.cell? ⟨g, o + k * 4 + 2, none⟩ = some (.slice a0 t.reads.length q0) := (hbel.cell (p := ⟨g, o + k * 4 + 2, none⟩) hg).trans (hcell 2 (by omega))
   have c3 : wr.cell? ⟨g, o + k * 4 + 3, none⟩ = some (.slice a1 t.writes.length q1) := (hbel.cell (p := ⟨g, o + k * 4 + 3, none⟩) hg).trans (hcell 3 (by omega))
   clear hcell
   have bwA : Below w.heap.size w (wr.alloc (.cells #[.int .i64 t.bgn, .int .i64 t.com, .slice a0 t.reads.length q0, .slice a1 t.writes.length q1] 131)) := hbel.alloc hbs _
   have bwB : Below wr.heap.size wr (wr.alloc (.cells #[.int .i64 t.bgn, .int .i64 t.com, .slice a0 t.reads.length q0, .slice a1 t.writes.length q1] 131)) := below_alloc _ _
   have hzA : wr.heap.size < (wr.alloc (.cells #[.int .i64 t.bgn, .int .i64 t.com, .slice a0 t.reads.length q0, .slice a1 t.writes.length q1] 131)).heap.size := by simp
   have hq1 := tableBits_impl a0 q0 t.reads (wr.alloc (.cells #[.int .i64 t.bgn, .int .i64 t.com, .slice a0 t.reads.length q0, .slice a1 t.writes.length q1] 131)) (by have := hB.1; omega) (R0.out.below liesI bwB)
   have hq2 := tableBits_impl a1 q1 t.writes (wr.alloc (.cells #[.int .i64 t.bgn, .int .i64 t.com, .slice a0 t.reads.length q0, .slice a1 t.writes.length q1] 131)) (by have := hB.2; omega) (R1.out.below liesI bwB)
   clear R0 R1
   by_cases hk0 : (0 : Int) < k
   ·obtain ⟨ds, hE, hcell2⟩ := hgc (k - 1) (by omega)
    have HE : Hid (us[k - 1]? = some us[k - 1]) := List.getElem?_eq_getElem (by omega)
    generalize us[k - 1] = s at *
    obtain ⟨xv0, xv1, rfl, _, _⟩ := hE
    have d1 : wr.cell? ⟨g, o + (k - 1) * 4 + 1, none⟩ = some (.int .i64 s.com) := (hbel.cell (p := ⟨g, o + (k - 1) * 4 + 1, none⟩) hg).trans (hcell2 1 (by omega))
    have hw : IntKind.i64.wrap ((k : Int) - 1) = ((k - 1 : Nat) : Int) := by simp only [IntKind.wrap_i64, wrap64]; omega
    have hk1 : ((k - 1 : Nat) : Int) < us.length := by omega
    have d1A := (bwB.cell (p := ⟨g, o + (k - 1) * 4 + 1, none⟩) (show g < wr.heap.size by omega)).trans d1
    have hgr : g < wr.heap.size := by omega
    clear hgc hva hcell2
    generalize hkp : k - 1 = kp at d1 d1A HE hw hk1
    by_cases h2 : t.com ≤ s.com
    ·have HF := hid (HNo.out (fun h => by have := (h t HD.out).2.2.1 s (by omega) (by rw [hkp]; exact HE.out); omega))
     clear HST HNo HD HE hkp HFS
     go_wp2_with (go_at_call 52; fail)
     refine hq1.mono ?_
     rintro e w' ⟨hR1, rfl⟩
     obtain ⟨n1, r1, rfl, hr1, hn1⟩ := bits_told hR1
     have HR1 := hid hr1
     have HN1 := hid hn1
     clear hR1 hr1 hn1 hq1
     go_wp2_with (go_at_call 52; fail)
     refine hq2.mono ?_
     rintro e w' ⟨hR2, rfl⟩
     obtain ⟨n2, r2, rfl, hr2, hn2⟩ := bits_told hR2
     have HR2 := hid hr2
     have HN2 := hid hn2
     clear hR2 hr2 hn2 hq2
     go_wp2
     have g0 : ((k : Int) == 0) = false := by simp; omega
     have g0n : decide (k = 0) = false := decide_eq_false (by omega)
     have g1 : decide (s.com < t.com) = false := decide_eq_false (by omega)
     go_quiet (fail)
     rcases r1 with _ | _ <;> rcases r2 with _ | _
     all_goals
      go_wp2
      refine bodyPost_ret (v := .tuple #[.slice none 0 0, .bool false]) (by simp [results, Tryz.results23, go_sem]) rfl ⟨.inr ⟨HF.out, rfl⟩, bwA.trans ((below_drewNt _ _).mono bwA.size)⟩
    ·have HV : Hid (0 ≤ t.bgn → t.bgn < t.com → tabP t.reads → tabP t.writes → ∀ j, j < k + 1 → histAt us j) := hid (fun b1 b2 r z => HST.out (fun t' ht => by
      have := HD.out.symm.trans ht
      cases this
      exact ⟨b1, b2, fun s' _ hs => by rw [hkp, HE.out] at hs; cases hs; omega, r, z⟩))
     clear HE hkp
     go_wp2_with (go_at_call 52; fail)
     refine hq1.mono ?_
     rintro e w' ⟨hR1, rfl⟩
     obtain ⟨n1, r1, rfl, hr1, hn1⟩ := bits_told hR1
     have HR1 := hid hr1
     have HN1 := hid hn1
     clear hR1 hr1 hn1 hq1
     go_wp2_with (go_at_call 52; fail)
     refine hq2.mono ?_
     rintro e w' ⟨hR2, rfl⟩
     obtain ⟨n2, r2, rfl, hr2, hn2⟩ := bits_told hR2
     have HR2 := hid hr2
     have HN2 := hid hn2
     clear hR2 hr2 hn2 hq2
     go_wp2
     have g0 : ((k : Int) == 0) = false := by simp; omega
     have g0n : decide (k = 0) = false := decide_eq_false (by omega)
     have g1 : decide (s.com < t.com) = true := decide_eq_true (by omega)
     go_quiet (fail)
     rcases r1 with _ | _
     ·have HF := hid (HNo.out (fun h => by have := HR1.out.2 (h t HD.out).2.2.2.1; cases this))
      clear HST HNo HD HFS HV HR1 HN1 HR2 HN2
      go_wp2
      refine bodyPost_ret (v := .tuple #[.slice none 0 0, .bool false]) (by simp [results, Tryz.results23, go_sem]) rfl ⟨.inr ⟨HF.out, rfl⟩, bwA.trans ((below_drewNt _ _).mono bwA.size)⟩
     rcases r2 with _ | _
     ·have HF := hid (HNo.out (fun h => by have := HR2.out.2 (h t HD.out).2.2.2.2; cases this))
      clear HST HNo HD HFS HV HR1 HN1 HR2 HN2
      go_wp2
      refine bodyPost_ret (v := .tuple #[.slice none 0 0, .bool false]) (by simp [results, Tryz.results23, go_sem]) rfl ⟨.inr ⟨HF.out, rfl⟩, bwA.trans ((below_drewNt _ _).mono bwA.size)⟩
     by_cases h0 : t.bgn < 0
     ·have HF := hid (HNo.out (fun h => by have := (h t HD.out).1; omega))
      clear HST HNo HD HFS HV HR1 HN1 HR2 HN2
      go_wp2
      refine bodyPost_ret (v := .tuple #[.slice none 0 0, .bool false]) (by simp [results, Tryz.results23, go_sem]) rfl ⟨.inr ⟨HF.out, rfl⟩, bwA.trans ((below_drewNt _ _).mono bwA.size)⟩
     by_cases h1 : t.com ≤ t.bgn
     ·have HF := hid (HNo.out (fun h => by have := (h t HD.out).2.1; omega))
      clear HST HNo HD HFS HV HR1 HN1 HR2 HN2
      go_wp2
      refine bodyPost_ret (v := .tuple #[.slice none 0 0, .bool false]) (by simp [results, Tryz.results23, go_sem]) rfl ⟨.inr ⟨HF.out, rfl⟩, bwA.trans ((below_drewNt _ _).mono bwA.size)⟩
     have HVV := hid (HV.out (by omega) (by omega) (HR1.out.1 rfl) (HR2.out.1 rfl))
     have hN1 := HN1.out rfl
     have hN2 := HN2.out rfl
     have HDV : Hid (dealV t = [.int .i64 t.bgn, .int .i64 t.com, .int .u64 (n1 : Int), .int .u64 (n2 : Int)]) := hid (by rw [hN1, hN2]; rfl)
     clear HST HNo HD HV HR1 HN1 HR2 HN2 hN1 hN2
     go_wp2_with (at_builtin; refine wpList_append_own _ rfl (.tmp 69) (.tmp 77) 82 rfl w.heap.size 89 i0 _ 4 32 Tryz.underlying82 hi hz0 hz1 hz2 rfl (by decide) _ k ((us.take k).flatMap dealV) rfl ?hown ⟨_, 0, none⟩ 1 1 [.int .i64 t.bgn, .int .i64 t.com, .int .u64 (n1 : Int), .int .u64 (n2 : Int)] rfl rfl ?hcl (by intro u hu; simp at hu; rcases hu with rfl | rfl | rfl | rfl <;> rfl) (by unfold maxLen; omega) (by omega) ?hbase ?_; (case hown => exact own_below HOW.out (((bwB.trans ((below_drewNt _ _).mono bwB.size))).alloc (by simp) _)); (case hcl => exact cells_new _ [.int .i64 t.bgn, .int .i64 t.com, .int .u64 (n1 : Int), .int .u64 (n2 : Int)] 89 _ (by simp)); (case hbase => simp; omega); intro v' w' hown hgrow _)
     have bw3 : Below w.heap.size w w' := by
      refine Below.grown ((bwA.trans ((below_drewNt _ _).mono bwA.size)).alloc (by simp; omega) _) hgrow (by simp; omega) ?_
      intro q hq
      exact (HOW.out.lt q hq).1
     have HOW2 : Hid (w'.ownsRow w.heap.size 89 4 v' (k + 1) ((us.take (k + 1)).flatMap dealV)) := hid (by rw [HFS.out, HDV.out]; exact hown)
     clear hown hgrow HOW HFS HDV bwA bwB
     go_wp2
     go_roundw
     case rel => exact ⟨k + 1, by omega, by go_num, HVV, HOW2, bw3⟩
     case measure => simp [intOf]; omega
   ·have HV : Hid (0 ≤ t.bgn → t.bgn < t.com → tabP t.reads → tabP t.writes → ∀ j, j < k + 1 → histAt us j) := hid (fun b1 b2 r z => HST.out (fun t' ht => by
     have := HD.out.symm.trans ht
     cases this
     exact ⟨b1, b2, fun s' h _ => by omega, r, z⟩))
    clear hgc hva
    go_wp2_with (go_at_call 52; fail)
    refine hq1.mono ?_
    rintro e w' ⟨hR1, rfl⟩
    obtain ⟨n1, r1, rfl, hr1, hn1⟩ := bits_told hR1
    have HR1 := hid hr1
    have HN1 := hid hn1
    clear hR1 hr1 hn1 hq1
    go_wp2_with (go_at_call 52; fail)
    refine hq2.mono ?_
    rintro e w' ⟨hR2, rfl⟩
    obtain ⟨n2, r2, rfl, hr2, hn2⟩ := bits_told hR2
    have HR2 := hid hr2
    have HN2 := hid hn2
    clear hR2 hr2 hn2 hq2
    go_wp2
    have g0 : ((k : Int) == 0) = true := by simp; omega
    have g0n : decide (k = 0) = true := decide_eq_true (by omega)
    go_quiet (fail)
    rcases r1 with _ | _
    ·have HF := hid (HNo.out (fun h => by have := HR1.out.2 (h t HD.out).2.2.2.1; cases this))
     clear HST HNo HD HFS HV HR1 HN1 HR2 HN2
     go_wp2
     refine bodyPost_ret (v := .tuple #[.slice none 0 0, .bool false]) (by simp [results, Tryz.results23, go_sem]) rfl ⟨.inr ⟨HF.out, rfl⟩, bwA.trans ((below_drewNt _ _).mono bwA.size)⟩
    rcases r2 with _ | _
    ·have HF := hid (HNo.out (fun h => by have := HR2.out.2 (h t HD.out).2.2.2.2; cases this))
     clear HST HNo HD HFS HV HR1 HN1 HR2 HN2
     go_wp2
     refine bodyPost_ret (v := .tuple #[.slice none 0 0, .bool false]) (by simp [results, Tryz.results23, go_sem]) rfl ⟨.inr ⟨HF.out, rfl⟩, bwA.trans ((below_drewNt _ _).mono bwA.size)⟩
    by_cases h0 : t.bgn < 0
    ·have HF := hid (HNo.out (fun h => by have := (h t HD.out).1; omega))
     clear HST HNo HD HFS HV HR1 HN1 HR2 HN2
     go_wp2
     refine bodyPost_ret (v := .tuple #[.slice none 0 0, .bool false]) (by simp [results, Tryz.results23, go_sem]) rfl ⟨.inr ⟨HF.out, rfl⟩, bwA.trans ((below_drewNt _ _).mono bwA.size)⟩
    by_cases h1 : t.com ≤ t.bgn
    ·have HF := hid (HNo.out (fun h => by have := (h t HD.out).2.1; omega))
     clear HST HNo HD HFS HV HR1 HN1 HR2 HN2
     go_wp2
     refine bodyPost_ret (v := .tuple #[.slice none 0 0, .bool false]) (by simp [results, Tryz.results23, go_sem]) rfl ⟨.inr ⟨HF.out, rfl⟩, bwA.trans ((below_drewNt _ _).mono bwA.size)⟩
    have HVV := hid (HV.out (by omega) (by omega) (HR1.out.1 rfl) (HR2.out.1 rfl))
    have hN1 := HN1.out rfl
    have hN2 := HN2.out rfl
    have HDV : Hid (dealV t = [.int .i64 t.bgn, .int .i64 t.com, .int .u64 (n1 : Int), .int .u64 (n2 : Int)]) := hid (by rw [hN1, hN2]; rfl)
    clear HST HNo HD HV HR1 HN1 HR2 HN2 hN1 hN2
    go_wp2_with (at_builtin; refine wpList_append_own _ rfl (.tmp 69) (.tmp 77) 82 rfl w.heap.size 89 i0 _ 4 32 Tryz.underlying82 hi hz0 hz1 hz2 rfl (by decide) _ k ((us.take k).flatMap dealV) rfl ?hown ⟨_, 0, none⟩ 1 1 [.int .i64 t.bgn, .int .i64 t.com, .int .u64 (n1 : Int), .int .u64 (n2 : Int)] rfl rfl ?hcl (by intro u hu; simp at hu; rcases hu with rfl | rfl | rfl | rfl <;> rfl) (by unfold maxLen; omega) (by omega) ?hbase ?_; (case hown => exact own_below HOW.out (((bwB.trans ((below_drewNt _ _).mono bwB.size))).alloc (by simp) _)); (case hcl => exact cells_new _ [.int .i64 t.bgn, .int .i64 t.com, .int .u64 (n1 : Int), .int .u64 (n2 : Int)] 89 _ (by simp)); (case hbase => simp; omega); intro v' w' hown hgrow _)
    have bw3 : Below w.heap.size w w' := by
     refine Below.grown ((bwA.trans ((below_drewNt _ _).mono bwA.size)).alloc (by simp; omega) _) hgrow (by simp; omega) ?_
     intro q hq
     exact (HOW.out.lt q hq).1
    have HOW2 : Hid (w'.ownsRow w.heap.size 89 4 v' (k + 1) ((us.take (k + 1)).flatMap dealV)) := hid (by rw [HFS.out, HDV.out]; exact hown)
    clear hown hgrow HOW HFS HDV bwA bwB
    go_wp2
    go_roundw
    case rel => exact ⟨k + 1, by omega, by go_num, HVV, HOW2, bw3⟩
    case measure => simp [intOf]; omega
  ·have hkn : k = us.length := by omega
   subst hkn
   have hlti : ¬ (us.length : Int) < us.length := by omega
   have HT : Hid (histP us) := hid (⟨by omega, HO.out⟩)
   rw [List.take_length] at HOW
   have HRS : Hid (RS 4 CDl w.heap.size wr _ us) := (fill_deals w.heap.size wr us (hist_tabs HO.out)).own liesD HOW.out (Nat.le_refl _)
   obtain ⟨pa, pc, hpv, _⟩ := id HRS.out
   clear HO HOW
   subst hpv
   go_wp2
   refine bodyPost_ret (v := .tuple #[.slice pa us.length pc, .bool true]) (by simp [results, Tryz.results23, go_sem]) rfl ⟨.inl ⟨HT.out, _, rfl, HRS.out⟩, hbel⟩
theorem deal_at {B : Nat} {w : World} {a : Option Addr} {n c : Nat} {us : List TI} (h : RS 4 CDl B w (.slice a n c) us) (hp : 0 < us.length) : ∃ g o, a = some ⟨g, o, none⟩ ∧ B ≤ g ∧ g < w.heap.size ∧ ∀ j (hj : j < us.length), (tabP us[j].reads ∧ tabP us[j].writes) ∧ w.cell? ⟨g, o + j * 4, none⟩ = some (.int .i64 us[j].bgn) ∧ w.cell? ⟨g, o + j * 4 + 1, none⟩ = some (.int .i64 us[j].com) ∧ w.cell? ⟨g, o + j * 4 + 2, none⟩ = some (.int .u64 (bitsOf us[j].reads : Nat)) ∧ w.cell? ⟨g, o + j * 4 + 3, none⟩ = some (.int .u64 (bitsOf us[j].writes : Nat)) := by
 obtain ⟨a', c', he, hh⟩ := h
 obtain ⟨g, o, e2, h1, h2, h3⟩ := hh hp
 simp only [Value.slice.injEq] at he
 refine ⟨g, o, he.1.trans e2, h1, h2, fun j hj => ?_⟩
 obtain ⟨cs, hc, hcell⟩ := h3 j hj
 obtain ⟨rfl, ht⟩ := hc
 exact ⟨ht, hcell 0 (by omega), hcell 1 (by omega), hcell 2 (by omega), hcell 3 (by omega)⟩
def dealA (t : TI) : Value := .agg #[.int .i64 t.bgn, .int .i64 t.com, .int .u64 (bitsOf t.reads : Nat), .int .u64 (bitsOf t.writes : Nat)]
set_option maxHeartbeats 4000000 in
theorem index_between (P : TI → Prop) (pv : Value) (a : Option Addr) (c : Nat) (us : List TI) (B : Nat) (w : World) (h : us.length ≤ 1000) (hr : RS 4 CDl B w (.slice a us.length c) us)
 (hcall : ∀ x ∈ us, ∀ W, Below w.heap.size w W → Calls Tryz.prog 102 #[pv, dealA x] W fun e w' => RB (P x) e ∧ Below W.heap.size W w') :
 Calls Tryz.prog 111 #[.slice a us.length c, .func (.func 102) #[pv] #[]] w fun e w' => ∃ k : Int, e = .returned (.int .i64 k) ∧ (0 ≤ k ↔ ∃ x ∈ us, P x) ∧ Below w.heap.size w w' := by
 have HR := hid hr
 have HC := hid hcall
 clear hr hcall
 go_enter Tryz.func111, Tryz.ntmps111
 go_wp2
 go_loopw [8] (fun iv wx => ∃ j : Nat, iv = .int .i64 (j : Int) ∧ j ≤ us.length ∧ Hid (∀ x ∈ us.take j, ¬ P x) ∧ Below w.heap.size w wx) (fun iv _ => us.length - (intOf iv).toNat)
 case atStart => exact ⟨0, rfl, Nat.zero_le _, (fun x h => by simp at h : ∀ x ∈ us.take 0, ¬ P x), Below.refl _ _⟩
 case round =>
  obtain ⟨j, rfl, hj, HA, hb⟩ := hrel
  by_cases hlt : j < us.length
  ·have hlti : (j : Int) < us.length := by omega
   obtain ⟨g, o, rfl, _, hg, hc⟩ := deal_at (HR.out.below liesD hb) (by omega)
   obtain ⟨_, c0, c1, c2, c3⟩ := hc j hlt
   clear hc
   have HST := hid (fun z => take_step (P := fun x => ¬ P x) hlt HA.out z)
   have HM := hid (List.getElem_mem hlt)
   have hcx := HC.out us[j] (List.getElem_mem hlt) wr hb
   have hbs := hb.size
   clear HA
   unfold dealA at hcx
   generalize us[j] = x at *
   go_wp2_with (go_at_call 102; fail)
   refine hcx.mono ?_
   rintro e w1 ⟨⟨r, rfl, hr⟩, hb1⟩
   have bw1 : Below w.heap.size w w1 := hb.trans (hb1.mono hbs)
   clear hcx hb1
   rcases r with _ | _
   ·have HV := hid (HST.out (fun z => by have := hr.2 z; cases this))
    clear hr HST
    go_wp2
    go_roundw
    case rel => exact ⟨j + 1, by go_num, by omega, HV, bw1⟩
    case measure => simp [intOf]; omega
   ·have HV := hid (hr.1 rfl)
    clear hr HST
    go_wp2
    go_ret
    exact ⟨_, rfl, ⟨fun _ => ⟨x, HM.out, HV.out⟩, fun _ => by omega⟩, bw1⟩
  ·have hje : j = us.length := by omega
   subst hje
   rw [List.take_length] at HA
   go_wp2
   go_ret
   exact ⟨-1, rfl, ⟨fun z => by omega, fun ⟨x, h1, h2⟩ => absurd h2 (HA.out x h1)⟩, hb⟩
theorem contains_between (P : TI → Prop) (pv : Value) (a : Option Addr) (c : Nat) (us : List TI) (B : Nat) (w : World) (h : us.length ≤ 1000) (hr : RS 4 CDl B w (.slice a us.length c) us)
 (hcall : ∀ x ∈ us, ∀ W, Below w.heap.size w W → Calls Tryz.prog 102 #[pv, dealA x] W fun e w' => RB (P x) e ∧ Below W.heap.size W w') :
 Calls Tryz.prog 101 #[.slice a us.length c, .func (.func 102) #[pv] #[]] w fun e w' => RB (∃ x ∈ us, P x) e ∧ Below w.heap.size w w' := by
 have HI := hid (index_between P pv a c us B w h hr hcall)
 clear hr hcall
 go_enter Tryz.func101, Tryz.ntmps101
 go_wp2_with (go_at_call 111; fail)
 refine HI.out.mono ?_
 rintro e w' ⟨k, rfl, hk, hb⟩
 have HK := hid hk
 have HB := hid hb
 clear hk hb HI
 go_wp2
 go_ret
 exact ⟨⟨decide (0 ≤ k), rfl, by rw [decide_eq_true_iff]; exact HK.out⟩, HB.out⟩
set_option maxHeartbeats 4000000 in
theorem index_leads (P : TI → Prop) (dv : Value) (a : Option Addr) (c : Nat) (us : List TI) (B : Nat) (w : World) (h : us.length ≤ 1000) (hr : RS 4 CDl B w (.slice a us.length c) us)
 (hcall : ∀ x ∈ us, ∀ W, Below w.heap.size w W → Calls Tryz.prog 53 #[dv, dealA x] W fun e w' => RB (P x) e ∧ Below W.heap.size W w') :
 Calls Tryz.prog 111 #[.slice a us.length c, .func (.func 53) #[dv] #[]] w fun e w' => ∃ k : Int, e = .returned (.int .i64 k) ∧ (0 ≤ k ↔ ∃ x ∈ us, P x) ∧ Below w.heap.size w w' := by
 have HR := hid hr
 have HC := hid hcall
 clear hr hcall
 go_enter Tryz.func111, Tryz.ntmps111
 go_wp2
 go_loopw [8] (fun iv wx => ∃ j : Nat, iv = .int .i64 (j : Int) ∧ j ≤ us.length ∧ Hid (∀ x ∈ us.take j, ¬ P x) ∧ Below w.heap.size w wx) (fun iv _ => us.length - (intOf iv).toNat)
 case atStart => exact ⟨0, rfl, Nat.zero_le _, (fun x h => by simp at h : ∀ x ∈ us.take 0, ¬ P x), Below.refl _ _⟩
 case round =>
  obtain ⟨j, rfl, hj, HA, hb⟩ := hrel
  by_cases hlt : j < us.length
  ·have hlti : (j : Int) < us.length := by omega
   obtain ⟨g, o, rfl, _, hg, hc⟩ := deal_at (HR.out.below liesD hb) (by omega)
   obtain ⟨_, c0, c1, c2, c3⟩ := hc j hlt
   clear hc
   have HST := hid (fun z => take_step (P := fun x => ¬ P x) hlt HA.out z)
   have HM := hid (List.getElem_mem hlt)
   have hcx := HC.out us[j] (List.getElem_mem hlt) wr hb
   have hbs := hb.size
   clear HA
   unfold dealA at hcx
   generalize us[j] = x at *
   go_wp2_with (go_at_call 53; fail)
   refine hcx.mono ?_
   rintro e w1 ⟨⟨r, rfl, hr⟩, hb1⟩
   have bw1 : Below w.heap.size w w1 := hb.trans (hb1.mono hbs)
   clear hcx hb1
   rcases r with _ | _
   ·have HV := hid (HST.out (fun z => by have := hr.2 z; cases this))
    clear hr HST
    go_wp2
    go_roundw
    case rel => exact ⟨j + 1, by go_num, by omega, HV, bw1⟩
    case measure => simp [intOf]; omega
   ·have HV := hid (hr.1 rfl)
    clear hr HST
    go_wp2
    go_ret
    exact ⟨_, rfl, ⟨fun _ => ⟨x, HM.out, HV.out⟩, fun _ => by omega⟩, bw1⟩
  ·have hje : j = us.length := by omega
   subst hje
   rw [List.take_length] at HA
   go_wp2
   go_ret
   exact ⟨-1, rfl, ⟨fun z => by omega, fun ⟨x, h1, h2⟩ => absurd h2 (HA.out x h1)⟩, hb⟩
theorem contains_leads (P : TI → Prop) (dv : Value) (a : Option Addr) (c : Nat) (us : List TI) (B : Nat) (w : World) (h : us.length ≤ 1000) (hr : RS 4 CDl B w (.slice a us.length c) us)
 (hcall : ∀ x ∈ us, ∀ W, Below w.heap.size w W → Calls Tryz.prog 53 #[dv, dealA x] W fun e w' => RB (P x) e ∧ Below W.heap.size W w') :
 Calls Tryz.prog 101 #[.slice a us.length c, .func (.func 53) #[dv] #[]] w fun e w' => RB (∃ x ∈ us, P x) e ∧ Below w.heap.size w w' := by
 have HI := hid (index_leads P dv a c us B w h hr hcall)
 clear hr hcall
 go_enter Tryz.func101, Tryz.ntmps101
 go_wp2_with (go_at_call 111; fail)
 refine HI.out.mono ?_
 rintro e w' ⟨k, rfl, hk, hb⟩
 have HK := hid hk
 have HB := hid hb
 clear hk hb HI
 go_wp2
 go_ret
 exact ⟨⟨decide (0 ≤ k), rfl, by rw [decide_eq_true_iff]; exact HK.out⟩, HB.out⟩
set_option maxHeartbeats 4000000 in
theorem index_led (P : TI → Prop) (b : Nat) (a : Option Addr) (c : Nat) (us : List TI) (B : Nat) (w : World) (h : us.length ≤ 1000) (hr : RS 4 CDl B w (.slice a us.length c) us)
 (hcall : ∀ x ∈ us, ∀ W, Below w.heap.size w W → Calls Tryz.prog 112 #[dealA x, .pointer (some ⟨b, 0, none⟩)] W fun e w' => RB (P x) e ∧ Below W.heap.size W w') :
 Calls Tryz.prog 111 #[.slice a us.length c, .func (.func 112) #[] #[.pointer (some ⟨b, 0, none⟩)]] w fun e w' => ∃ k : Int, e = .returned (.int .i64 k) ∧ (0 ≤ k ↔ ∃ x ∈ us, P x) ∧ Below w.heap.size w w' := by
 have HR := hid hr
 have HC := hid hcall
 clear hr hcall
 go_enter Tryz.func111, Tryz.ntmps111
 go_wp2
 go_loopw [8] (fun iv wx => ∃ j : Nat, iv = .int .i64 (j : Int) ∧ j ≤ us.length ∧ Hid (∀ x ∈ us.take j, ¬ P x) ∧ Below w.heap.size w wx) (fun iv _ => us.length - (intOf iv).toNat)
 case atStart => exact ⟨0, rfl, Nat.zero_le _, (fun x h => by simp at h : ∀ x ∈ us.take 0, ¬ P x), Below.refl _ _⟩
 case round =>
  obtain ⟨j, rfl, hj, HA, hb⟩ := hrel
  by_cases hlt : j < us.length
  ·have hlti : (j : Int) < us.length := by omega
   obtain ⟨g, o, rfl, _, hg, hc⟩ := deal_at (HR.out.below liesD hb) (by omega)
   obtain ⟨_, c0, c1, c2, c3⟩ := hc j hlt
   clear hc
   have HST := hid (fun z => take_step (P := fun x => ¬ P x) hlt HA.out z)
   have HM := hid (List.getElem_mem hlt)
   have hcx := HC.out us[j] (List.getElem_mem hlt) wr hb
   have hbs := hb.size
   clear HA
   unfold dealA at hcx
   generalize us[j] = x at *
   go_wp2_with (go_at_call 112; fail)
   refine hcx.mono ?_
   rintro e w1 ⟨⟨r, rfl, hr⟩, hb1⟩
   have bw1 : Below w.heap.size w w1 := hb.trans (hb1.mono hbs)
   clear hcx hb1
   rcases r with _ | _
   ·have HV := hid (HST.out (fun z => by have := hr.2 z; cases this))
    clear hr HST
    go_wp2
    go_roundw
    case rel => exact ⟨j + 1, by go_num, by omega, HV, bw1⟩
    case measure => simp [intOf]; omega
   ·have HV := hid (hr.1 rfl)
    clear hr HST
    go_wp2
    go_ret
    exact ⟨_, rfl, ⟨fun _ => ⟨x, HM.out, HV.out⟩, fun _ => by omega⟩, bw1⟩
  ·have hje : j = us.length := by omega
   subst hje
   rw [List.take_length] at HA
   go_wp2
   go_ret
   exact ⟨-1, rfl, ⟨fun z => by omega, fun ⟨x, h1, h2⟩ => absurd h2 (HA.out x h1)⟩, hb⟩
theorem contains_led (P : TI → Prop) (b : Nat) (a : Option Addr) (c : Nat) (us : List TI) (B : Nat) (w : World) (h : us.length ≤ 1000) (hr : RS 4 CDl B w (.slice a us.length c) us)
 (hcall : ∀ x ∈ us, ∀ W, Below w.heap.size w W → Calls Tryz.prog 112 #[dealA x, .pointer (some ⟨b, 0, none⟩)] W fun e w' => RB (P x) e ∧ Below W.heap.size W w') :
 Calls Tryz.prog 101 #[.slice a us.length c, .func (.func 112) #[] #[.pointer (some ⟨b, 0, none⟩)]] w fun e w' => RB (∃ x ∈ us, P x) e ∧ Below w.heap.size w w' := by
 have HI := hid (index_led P b a c us B w h hr hcall)
 clear hr hcall
 go_enter Tryz.func101, Tryz.ntmps101
 go_wp2_with (go_at_call 111; fail)
 refine HI.out.mono ?_
 rintro e w' ⟨k, rfl, hk, hb⟩
 have HK := hid hk
 have HB := hid hb
 clear hk hb HI
 go_wp2
 go_ret
 exact ⟨⟨decide (0 ≤ k), rfl, by rw [decide_eq_true_iff]; exact HK.out⟩, HB.out⟩
end Go.Proofs.YtblkgicbimflhaaGreat
