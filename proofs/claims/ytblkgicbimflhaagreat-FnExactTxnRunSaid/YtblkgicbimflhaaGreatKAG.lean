import Derived.Test.YtblkgicbimflhaaGreatKAF
namespace Go.Proofs.YtblkgicbimflhaaGreat
open Go.ChangeShapes Go.WideShapes Go.ChangeAt Go.RowKit
set_option linter.unusedVariables false
set_option linter.unusedSimpArgs false
set_option maxRecDepth 100000
open List (setIfInBounds_toArray set_cons_zero set_cons_succ)
def tabAt (l : List Int) (i : Nat) : Prop := 0 ≤ l.getD i 0 ∧ l.getD i 0 < 32 ∧ (0 < i → l.getD (i - 1) 0 < l.getD i 0)
def tabP (l : List Int) : Prop := l.length ≤ 32 ∧ ∀ i, i < l.length → tabAt l i
theorem getD_at {l : List Int} {k : Nat} (h : k < l.length) : l.getD k 0 = l[k] := by rw [List.getD_eq_getElem?_getD, List.getElem?_eq_getElem h]; rfl
set_option maxHeartbeats 4000000 in
theorem tables_spec (a : Option Addr) (ca : Nat) (xs : List Int) (w : World) (hn : xs.length ≤ 1048576) (ha : RS 1 CI 0 w (.slice a xs.length ca) xs) :
 Calls Tryz.prog 94 #[.slice a xs.length ca] w fun e w' => RB (tabP xs) e ∧ w' = w := by
 by_cases hbig : (32 : Int) < xs.length
 ·have HF : Hid (¬ tabP xs) := hid (fun h => by have := h.1; omega)
  clear ha
  go_enter Tryz.func94, Tryz.ntmps94
  go_wp2
  go_ret
  exact ⟨rb_f HF.out, rfl⟩
 obtain ⟨a', ca', he, hva⟩ := ha
 simp only [Value.slice.injEq] at he
 obtain ⟨rfl, _, rfl⟩ := he
 go_enter Tryz.func94, Tryz.ntmps94
 go_wp2
 go_loopw [10] (fun i wr => ∃ k : Nat, k ≤ xs.length ∧ i = .int .i64 k ∧ Hid (∀ j, j < k → tabAt xs j) ∧ wr = w) (fun i _ => xs.length - (intOf i).toNat)
 case atStart => exact ⟨0, Nat.zero_le _, rfl, (fun x h => absurd h (Nat.not_lt_zero _) : ∀ j, j < 0 → tabAt xs j), rfl⟩
 case round =>
  obtain ⟨k, hk, rfl, HO, hww⟩ := hrel
  replace hww := hww.symm
  subst hww
  by_cases hlt : k < xs.length
  ·have hlti : (k : Int) < xs.length := by omega
   obtain ⟨g, o, rfl, _, hg, hgc⟩ := hva (by omega)
   obtain ⟨cs, hC, hcell⟩ := hgc k hlt
   unfold CI at hC
   subst hC
   have c0 : w.cell? ⟨g, o + k, none⟩ = some (.int .i64 xs[k]) := ((Below.refl _ w).cell (p := ⟨g, o + k, none⟩) hg).trans (by have := hcell 0 (by omega); rw [Nat.mul_one, Nat.add_zero] at this; exact this)
   have HST : Hid (tabAt xs k → ∀ j, j < k + 1 → tabAt xs j) := hid (fun z j hj => by
    by_cases e : j = k
    ·subst e; exact z
    ·exact HO.out j (by omega))
   have HNo : Hid (¬ tabAt xs k → ¬ tabP xs) := hid (fun z h => z (h.2 k hlt))
   have HD := hid (getD_at hlt)
   clear hcell HO
   generalize hx : xs[k] = x at c0 HD
   clear hx
   by_cases h0 : x < 0
   ·have HF := hid (HNo.out (fun h => by have := h.1; rw [HD.out] at this; omega))
    clear hgc hva HST HNo HD
    go_wp2
    go_ret
    exact ⟨rb_f HF.out, rfl⟩
   by_cases h1 : 32 ≤ x
   ·have HF := hid (HNo.out (fun h => by have := h.2.1; rw [HD.out] at this; omega))
    clear hgc hva HST HNo HD
    go_wp2
    go_ret
    exact ⟨rb_f HF.out, rfl⟩
   by_cases hk0 : (0 : Int) < k
   ·obtain ⟨ds, hE, hcell2⟩ := hgc (k - 1) (by omega)
    unfold CI at hE
    subst hE
    have d0 : w.cell? ⟨g, o + (k - 1), none⟩ = some (.int .i64 xs[k - 1]) := ((Below.refl _ w).cell (p := ⟨g, o + (k - 1), none⟩) hg).trans (by have := hcell2 0 (by omega); rw [Nat.mul_one, Nat.add_zero] at this; exact this)
    have HE := hid (getD_at (show k - 1 < xs.length by omega))
    have hw : IntKind.i64.wrap ((k : Int) - 1) = ((k - 1 : Nat) : Int) := by simp only [IntKind.wrap_i64, wrap64]; omega
    have hk1 : ((k - 1 : Nat) : Int) < xs.length := by omega
    clear hgc hva hcell2
    generalize hy : xs[k - 1] = y at d0 HE
    clear hy
    generalize hkp : k - 1 = kp at d0 HE hw hk1
    by_cases h2 : x ≤ y
    ·have HF := hid (HNo.out (fun h => by have := h.2.2 (by omega); rw [HD.out, hkp, HE.out] at this; omega))
     clear HST HNo HD HE hkp
     go_wp2
     go_ret
     exact ⟨rb_f HF.out, rfl⟩
    ·have HV := hid (HST.out ⟨by rw [HD.out]; omega, by rw [HD.out]; omega, fun _ => by rw [HD.out, hkp, HE.out]; omega⟩)
     clear HST HNo HD HE hkp
     go_wp2
     go_roundw
     case rel => exact ⟨k + 1, by omega, by go_num, HV, by first | exact rfl | trivial⟩
     case measure => simp [intOf]; omega
   ·have HV := hid (HST.out ⟨by rw [HD.out]; omega, by rw [HD.out]; omega, fun z => by omega⟩)
    clear HST HNo HD hgc hva
    go_wp2
    go_roundw
    case rel => exact ⟨k + 1, by omega, by go_num, HV, by first | exact rfl | trivial⟩
    case measure => simp [intOf]; omega
  ·have hkn : k = xs.length := by omega
   subst hkn
   have hlti : ¬ (xs.length : Int) < xs.length := by omega
   have HT : Hid (tabP xs) := hid (⟨by omega, HO.out⟩)
   clear HO
   go_wp2
   go_ret
   exact ⟨rb_t HT.out, rfl⟩
def histAt (h : List TI) (i : Nat) : Prop := ∀ t, h[i]? = some t → 0 ≤ t.bgn ∧ t.bgn < t.com ∧ (∀ s, 0 < i → h[i - 1]? = some s → s.com < t.com) ∧ tabP t.reads ∧ tabP t.writes
def histP (h : List TI) : Prop := h.length ≤ 1000 ∧ ∀ i, i < h.length → histAt h i
set_option maxHeartbeats 16000000 in
theorem history_spec (a : Option Addr) (ca : Nat) (us : List TI) (w : World) (hb : BH 1048576 us) (ha : RS 4 CT 0 w (.slice a us.length ca) us) :
 Calls Tryz.prog 79 #[.slice a us.length ca] w fun e w' => RB (histP us) e ∧ Below w.heap.size w w' := by
 have hn := hb.1
 have HZ : Hid (∀ t ∈ us, BT 1048576 t) := hb.2
 clear hb
 by_cases hbig : (1000 : Int) < us.length
 ·have HF : Hid (¬ histP us) := hid (fun h => by have := h.1; omega)
  clear ha
  go_enter Tryz.func79, Tryz.ntmps79
  go_wp2
  go_ret
  exact ⟨rb_f HF.out, Below.refl _ _⟩
 obtain ⟨a', ca', he, hva⟩ := ha
 simp only [Value.slice.injEq] at he
 obtain ⟨rfl, _, rfl⟩ := he
 go_enter Tryz.func79, Tryz.ntmps79
 go_wp2
 go_loopw [10] (fun i wr => ∃ k : Nat, k ≤ us.length ∧ i = .int .i64 k ∧ Hid (∀ j, j < k → histAt us j) ∧ Below w.heap.size w wr) (fun i _ => us.length - (intOf i).toNat)
 case atStart => exact ⟨0, Nat.zero_le _, rfl, (fun x h => absurd h (Nat.not_lt_zero _) : ∀ j, j < 0 → histAt us j), Below.refl _ _⟩
 case round =>
  obtain ⟨k, hk, rfl, HO, hbel⟩ := hrel
  have hbs := hbel.size
  by_cases hlt : k < us.length
  ·have hlti : (k : Int) < us.length := by omega
   obtain ⟨g, o, rfl, _, hg, hgc⟩ := hva (by omega)
   obtain ⟨cs, hC0, hcell⟩ := hgc k hlt
   have hC := liesT.below hC0 hbel
   have hB := HZ.out us[k] (List.getElem_mem hlt)
   have HST : Hid (histAt us k → ∀ j, j < k + 1 → histAt us j) := hid (fun z j hj => by
    by_cases e : j = k
    ·subst e; exact z
    ·exact HO.out j (by omega))
   have HNo : Hid (¬ histAt us k → ¬ histP us) := hid (fun z h => z (h.2 k hlt))
   have HD : Hid (us[k]? = some us[k]) := List.getElem?_eq_getElem hlt
   clear HO hC0
   generalize hx : us[k] = t at *
   clear hx
   obtain ⟨v0, v1, rfl, r0, r1⟩ := hC
   have R0 := hid r0
   obtain ⟨a0, q0, rfl, _⟩ := r0
   have R1 := hid r1
   obtain ⟨a1, q1, rfl, _⟩ := r1
   have c0 : wr.cell? ⟨g, o + k * 4, none⟩ = some (.int .i64 t.bgn) := (hbel.cell (p := ⟨g, o + k * 4, none⟩) hg).trans (hcell 0 (by omega))
   have c1 : wr.cell? ⟨g, o + k * 4 + 1, none⟩ = some (.int .i64 t.com) := (hbel.cell (p := ⟨g, o + k * 4 + 1, none⟩) hg).trans (hcell 1 (by omega))
   have c2 : wr.cell? ⟨g, o + k * 4 + 2, none⟩ = some (.slice a0 t.reads.length q0) := (hbel.cell (p := ⟨g, o + k * 4 + 2, none⟩) hg).trans (hcell 2 (by omega))
   have c3 : wr.cell? ⟨g, o + k * 4 + 3, none⟩ = some (.slice a1 t.writes.length q1) := (hbel.cell (p := ⟨g, o + k * 4 + 3, none⟩) hg).trans (hcell 3 (by omega))
   clear hcell
   have bwA : Below w.heap.size w (wr.alloc (.cells #[.int .i64 t.bgn, .int .i64 t.com, .slice a0 t.reads.length q0, .slice a1 t.writes.length q1] 131)) := hbel.alloc hbs _
   have bwB : Below wr.heap.size wr (wr.alloc (.cells #[.int .i64 t.bgn, .int .i64 t.com, .slice a0 t.reads.length q0, .slice a1 t.writes.length q1] 131)) := below_alloc _ _
   have hzA : wr.heap.size < ((wr.alloc (.cells #[.int .i64 t.bgn, .int .i64 t.com, .slice a0 t.reads.length q0, .slice a1 t.writes.length q1] 131))).heap.size := by simp
   by_cases h0 : t.bgn < 0
   ·have HF := hid (HNo.out (fun h => by have := (h t HD.out).1; omega))
    clear hgc hva HST HNo HD
    go_wp2
    have g0 : decide (t.bgn < 0) = true := decide_eq_true (by omega)
    go_quiet (fail)
    go_wp2
    go_ret
    exact ⟨rb_f HF.out, bwA.trans ((below_drewNt _ _).mono bwA.size)⟩
   by_cases h1 : t.com ≤ t.bgn
   ·have HF := hid (HNo.out (fun h => by have := (h t HD.out).2.1; omega))
    clear hgc hva HST HNo HD
    go_wp2
    have g0 : decide (t.bgn < 0) = false := decide_eq_false (by omega)
    have g1 : decide (t.com ≤ t.bgn) = true := decide_eq_true (by omega)
    go_quiet (fail)
    go_wp2
    go_ret
    exact ⟨rb_f HF.out, bwA.trans ((below_drewNt _ _).mono bwA.size)⟩
   have hcn1 := fun n => tables_spec a0 q0 t.reads (((wr.alloc (.cells #[.int .i64 t.bgn, .int .i64 t.com, .slice a0 t.reads.length q0, .slice a1 t.writes.length q1] 131))).drewN n) hB.1 ((R0.out.below liesI bwB).below liesI (below_drewNt _ _))
   have hcn2 := fun n => tables_spec a1 q1 t.writes (((wr.alloc (.cells #[.int .i64 t.bgn, .int .i64 t.com, .slice a0 t.reads.length q0, .slice a1 t.writes.length q1] 131))).drewN n) hB.2 ((R1.out.below liesI bwB).below liesI (below_drewNt _ _))
   by_cases hk0 : (0 : Int) < k
   ·obtain ⟨ds, hE, hcell2⟩ := hgc (k - 1) (by omega)
    have HE : Hid (us[k - 1]? = some us[k - 1]) := List.getElem?_eq_getElem (by omega)
    generalize us[k - 1] = s at *
    obtain ⟨xv0, xv1, rfl, _, _⟩ := hE
    have d1 : wr.cell? ⟨g, o + (k - 1) * 4 + 1, none⟩ = some (.int .i64 s.com) := (hbel.cell (p := ⟨g, o + (k - 1) * 4 + 1, none⟩) hg).trans (hcell2 1 (by omega))
    have hw : IntKind.i64.wrap ((k : Int) - 1) = ((k - 1 : Nat) : Int) := by simp only [IntKind.wrap_i64, wrap64]; omega
    have hk1 : ((k - 1 : Nat) : Int) < us.length := by omega
    have d1A := (bwB.cell (p := ⟨g, o + (k - 1) * 4 + 1, none⟩) (show g < wr.heap.size by omega)).trans d1
    have hgr : g < wr.heap.size := by omega
    clear hgc hva hcell2
    generalize hkp : k - 1 = kp at d1 d1A HE hw hk1
    by_cases h2 : t.com ≤ s.com
    ·have HF := hid (HNo.out (fun h => by have := (h t HD.out).2.2.1 s (by omega) (by rw [hkp]; exact HE.out); omega))
     clear HST HNo HD HE hkp hcn1 hcn2
     go_wp2
     have g0 : decide (t.bgn < 0) = false := decide_eq_false (by omega)
     have g1 : decide (t.com ≤ t.bgn) = false := decide_eq_false (by omega)
     have g2 : decide ((0 : Int) < k) = true := decide_eq_true (by omega)
     have g2n : decide (0 < k) = true := decide_eq_true (by omega)
     have g3 : decide (t.com ≤ s.com) = true := decide_eq_true (by omega)
     go_quiet (fail)
     go_wp2
     go_ret
     exact ⟨rb_f HF.out, bwA.trans ((below_drewNt _ _).mono bwA.size)⟩
    have HV : Hid (tabP t.reads → tabP t.writes → ∀ j, j < k + 1 → histAt us j) := hid (fun r z => HST.out (fun t' ht => by
     have := HD.out.symm.trans ht
     cases this
     exact ⟨by omega, by omega, fun s' _ hs => by rw [hkp, HE.out] at hs; cases hs; omega, r, z⟩))
    have HNR : Hid (¬ tabP t.reads → ¬ histP us) := hid (fun r => HNo.out (fun h => r (h t HD.out).2.2.2.1))
    have HNW : Hid (¬ tabP t.writes → ¬ histP us) := hid (fun r => HNo.out (fun h => r (h t HD.out).2.2.2.2))
    clear HST HNo HD HE hkp
    by_cases hR : tabP t.reads
    ·have hq1 := fun n => rb_yes (hcn1 n) hR
     by_cases hW : tabP t.writes
     ·have HVV := hid (HV.out hR hW)
      have hq2 := fun n => rb_yes (hcn2 n) hW
      clear HV HNR HNW hcn1 hcn2
      go_wp2
      have g0 : decide (t.bgn < 0) = false := decide_eq_false (by omega)
      have g1 : decide (t.com ≤ t.bgn) = false := decide_eq_false (by omega)
      have g2 : decide ((0 : Int) < k) = true := decide_eq_true (by omega)
      have g2n : decide (0 < k) = true := decide_eq_true (by omega)
      have g3 : decide (t.com ≤ s.com) = false := decide_eq_false (by omega)
      go_quiet ((go_at_call 94; first | with_reducible exact Calls.quiet_of_same (hq1 _) | with_reducible exact Calls.quiet_of_same (hq2 _)))
      go_wp2
      go_roundw
      case rel => exact ⟨k + 1, by omega, by go_num, HVV, bwA.trans ((below_drewNt _ _).mono bwA.size)⟩
      case measure => simp [intOf]; omega
     ·have HF := hid (HNW.out hW)
      have hq2 := fun n => rb_no (hcn2 n) hW
      clear HV HNR HNW hcn1 hcn2
      go_wp2
      have g0 : decide (t.bgn < 0) = false := decide_eq_false (by omega)
      have g1 : decide (t.com ≤ t.bgn) = false := decide_eq_false (by omega)
      have g2 : decide ((0 : Int) < k) = true := decide_eq_true (by omega)
      have g2n : decide (0 < k) = true := decide_eq_true (by omega)
      have g3 : decide (t.com ≤ s.com) = false := decide_eq_false (by omega)
      go_quiet ((go_at_call 94; first | with_reducible exact Calls.quiet_of_same (hq1 _) | with_reducible exact Calls.quiet_of_same (hq2 _)))
      go_wp2
      go_ret
      exact ⟨rb_f HF.out, bwA.trans ((below_drewNt _ _).mono bwA.size)⟩
    ·have HF := hid (HNR.out hR)
     have hq1 := fun n => rb_no (hcn1 n) hR
     clear HV HNR HNW hcn1 hcn2
     go_wp2
     have g0 : decide (t.bgn < 0) = false := decide_eq_false (by omega)
     have g1 : decide (t.com ≤ t.bgn) = false := decide_eq_false (by omega)
     have g2 : decide ((0 : Int) < k) = true := decide_eq_true (by omega)
     have g2n : decide (0 < k) = true := decide_eq_true (by omega)
     have g3 : decide (t.com ≤ s.com) = false := decide_eq_false (by omega)
     go_quiet ((go_at_call 94; exact Calls.quiet_of_same (hq1 _)))
     go_wp2
     go_ret
     exact ⟨rb_f HF.out, bwA.trans ((below_drewNt _ _).mono bwA.size)⟩
   ·have HV : Hid (tabP t.reads → tabP t.writes → ∀ j, j < k + 1 → histAt us j) := hid (fun r z => HST.out (fun t' ht => by
     have := HD.out.symm.trans ht
     cases this
     exact ⟨by omega, by omega, fun s' h _ => by omega, r, z⟩))
    have HNR : Hid (¬ tabP t.reads → ¬ histP us) := hid (fun r => HNo.out (fun h => r (h t HD.out).2.2.2.1))
    have HNW : Hid (¬ tabP t.writes → ¬ histP us) := hid (fun r => HNo.out (fun h => r (h t HD.out).2.2.2.2))
    clear HST HNo HD hgc hva
    by_cases hR : tabP t.reads
    ·have hq1 := fun n => rb_yes (hcn1 n) hR
     by_cases hW : tabP t.writes
     ·have HVV := hid (HV.out hR hW)
      have hq2 := fun n => rb_yes (hcn2 n) hW
      clear HV HNR HNW hcn1 hcn2
      go_wp2
      have g0 : decide (t.bgn < 0) = false := decide_eq_false (by omega)
      have g1 : decide (t.com ≤ t.bgn) = false := decide_eq_false (by omega)
      have g2 : decide ((0 : Int) < k) = false := decide_eq_false (by omega)
      have g2n : decide (0 < k) = false := decide_eq_false (by omega)
      go_quiet ((go_at_call 94; first | with_reducible exact Calls.quiet_of_same (hq1 _) | with_reducible exact Calls.quiet_of_same (hq2 _)))
      go_wp2
      go_roundw
      case rel => exact ⟨k + 1, by omega, by go_num, HVV, bwA.trans ((below_drewNt _ _).mono bwA.size)⟩
      case measure => simp [intOf]; omega
     ·have HF := hid (HNW.out hW)
      have hq2 := fun n => rb_no (hcn2 n) hW
      clear HV HNR HNW hcn1 hcn2
      go_wp2
      have g0 : decide (t.bgn < 0) = false := decide_eq_false (by omega)
      have g1 : decide (t.com ≤ t.bgn) = false := decide_eq_false (by omega)
      have g2 : decide ((0 : Int) < k) = false := decide_eq_false (by omega)
      have g2n : decide (0 < k) = false := decide_eq_false (by omega)
      go_quiet ((go_at_call 94; first | with_reducible exact Calls.quiet_of_same (hq1 _) | with_reducible exact Calls.quiet_of_same (hq2 _)))
      go_wp2
      go_ret
      exact ⟨rb_f HF.out, bwA.trans ((below_drewNt _ _).mono bwA.size)⟩
    ·have HF := hid (HNR.out hR)
     have hq1 := fun n => rb_no (hcn1 n) hR
     clear HV HNR HNW hcn1 hcn2
     go_wp2
     have g0 : decide (t.bgn < 0) = false := decide_eq_false (by omega)
     have g1 : decide (t.com ≤ t.bgn) = false := decide_eq_false (by omega)
     have g2 : decide ((0 : Int) < k) = false := decide_eq_false (by omega)
     have g2n : decide (0 < k) = false := decide_eq_false (by omega)
     go_quiet ((go_at_call 94; exact Calls.quiet_of_same (hq1 _)))
     go_wp2
     go_ret
     exact ⟨rb_f HF.out, bwA.trans ((below_drewNt _ _).mono bwA.size)⟩
  ·have hkn : k = us.length := by omega
   subst hkn
   have hlti : ¬ (us.length : Int) < us.length := by omega
   have HT : Hid (histP us) := hid (⟨by omega, HO.out⟩)
   clear HO
   go_wp2
   go_ret
   exact ⟨rb_t HT.out, hbel⟩
end Go.Proofs.YtblkgicbimflhaaGreat
