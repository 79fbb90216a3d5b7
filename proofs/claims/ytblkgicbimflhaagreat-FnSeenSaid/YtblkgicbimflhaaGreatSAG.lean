import Derived.Test.YtblkgicbimflhaaGreatSAF
import Derived.Test.YtblkgicbimflhaaGreatSAC
namespace Go.Proofs.YtblkgicbimflhaaGreat
open Go.ChangeShapes Go.WideShapes Go.ChangeAt Go.RowKit
set_option linter.unusedVariables false
set_option linter.unusedSimpArgs false
set_option maxRecDepth 100000
set_option maxHeartbeats 16000000
def histAt (h : List TI) (i : Nat) : Prop := ∀ t, h[i]? = some t -> 0 <= t.bgn /\ t.bgn < t.com /\ (∀ s, 0 < i -> h[i - 1]? = some s -> s.com < t.com) /\ tabP t.reads /\ tabP t.writes
def histP (h : List TI) : Prop := h.length <= 1000 /\ ∀ i, i < h.length -> histAt h i
theorem history_spec (a : Option Addr) (ca : Nat) (us : List TI) (w : World) (hb : BH 1048576 us) (ha : RS 4 CT 0 w (.slice a us.length ca) us) :
 Calls Tryz.prog 79 #[.slice a us.length ca] w fun e w' => RB (histP us) e /\ Below w.heap.size w w' := by
 have hn := hb.1
 have HZ : Hid (∀ t ∈ us, BT 1048576 t) := hb.2
 clear hb
 by_cases hbig : (1000 : Int) < us.length
 .have HF : Hid (¬ histP us) := hid (fun h => by have := h.1; omega)
  clear ha
  go_enter Tryz.func79, Tryz.ntmps79
  go_wp2
  go_ret
  exact ⟨rb_f HF.out, Below.refl _ _⟩
 obtain ⟨a', ca', he, hva⟩ := ha
 simp only [Value.slice.injEq] at he
 obtain ⟨rfl, _, rfl⟩ := he
 go_enter Tryz.func79, Tryz.ntmps79
 go_wp2
 go_loopw [10] (fun i wr => ∃ k : Nat, k <= us.length /\ i = .int .i64 k /\ Hid (∀ j, j < k -> histAt us j) /\ Below w.heap.size w wr) (fun i _ => us.length - (intOf i).toNat)
 case atStart => exact ⟨0, Nat.zero_le _, rfl, (fun x h => absurd h (Nat.not_lt_zero _) : ∀ j, j < 0 -> histAt us j), Below.refl _ _⟩
 case round =>
  obtain ⟨k, hk, rfl, HO, hbel⟩ := hrel
  have hbs := hbel.size
  by_cases hlt : k < us.length
  .have hlti : (k : Int) < us.length := by omega
   obtain ⟨g, o, rfl, _, hg, hgc⟩ := hva (by omega)
   obtain ⟨cs, hC0, hcell⟩ := hgc k hlt
   have hC := liesT.below hC0 hbel
   have hB := HZ.out us[k] (List.getElem_mem hlt)
   have HST : Hid (histAt us k -> ∀ j, j < k + 1 -> histAt us j) := hid (fun z j hj => by
    by_cases e : j = k
    .subst e; exact z
    .exact HO.out j (by omega))
   have HNo : Hid (¬ histAt us k -> ¬ histP us) := hid (fun z h => z (h.2 k hlt))
   have HD : Hid (us[k]? = some us[k]) := List.getElem?_eq_getElem hlt
   clear HO hC0
   generalize hx : us[k] = t at *
   clear hx
   obtain ⟨v0, v1, rfl, r0, r1⟩ := hC
   have R0 := hid r0
   obtain ⟨a0, q0, rfl, _⟩ := r0
   have R1 := hid r1
   obtain ⟨a1, q1, rfl, _⟩ := r1
   have c0 : wr.cell? ⟨g, o + k * 4, none⟩ = some (.int .i64 t.bgn) := ct hbel hg (hcell 0 (by omega))
   have c1 : wr.cell? ⟨g, o + k * 4 + 1, none⟩ = some (.int .i64 t.com) := ct hbel hg (hcell 1 (by omega))
   have c2 : wr.cell? ⟨g, o + k * 4 + 2, none⟩ = some (.slice a0 t.reads.length q0) := ct hbel hg (hcell 2 (by omega))
   have c3 : wr.cell? ⟨g, o + k * 4 + 3, none⟩ = some (.slice a1 t.writes.length q1) := ct hbel hg (hcell 3 (by omega))
   clear hcell
   have bwA : Below w.heap.size w (wr.alloc (.cells #[.int .i64 t.bgn, .int .i64 t.com, .slice a0 t.reads.length q0, .slice a1 t.writes.length q1] 131)) := hbel.alloc hbs _
   have bwB : Below wr.heap.size wr (wr.alloc (.cells #[.int .i64 t.bgn, .int .i64 t.com, .slice a0 t.reads.length q0, .slice a1 t.writes.length q1] 131)) := below_alloc _ _
   have hzA : wr.heap.size < ((wr.alloc (.cells #[.int .i64 t.bgn, .int .i64 t.com, .slice a0 t.reads.length q0, .slice a1 t.writes.length q1] 131))).heap.size := by simp
   by_cases h0 : t.bgn < 0
   .have HF := hid (HNo.out (fun h => by have := (h t HD.out).1; omega))
    clear hgc hva HST HNo HD
    go_wp2
    have g0 : decide (t.bgn < 0) = true := decide_eq_true (by omega)
    go_quiet (fail)
    go_wp2
    go_ret
    exact ⟨rb_f HF.out, bwA.trans ((below_drewNt _ _).mono bwA.size)⟩
   by_cases h1 : t.com <= t.bgn
   .have HF := hid (HNo.out (fun h => by have := (h t HD.out).2.1; omega))
    clear hgc hva HST HNo HD
    go_wp2
    have g0 : decide (t.bgn < 0) = false := decide_eq_false (by omega)
    have g1 : decide (t.com <= t.bgn) = true := decide_eq_true (by omega)
    go_quiet (fail)
    go_wp2
    go_ret
    exact ⟨rb_f HF.out, bwA.trans ((below_drewNt _ _).mono bwA.size)⟩
   have hcn1 := fun n => tables_spec a0 q0 t.reads (((wr.alloc (.cells #[.int .i64 t.bgn, .int .i64 t.com, .slice a0 t.reads.length q0, .slice a1 t.writes.length q1] 131))).drewN n) hB.1 ((R0.out.below liesI bwB).below liesI (below_drewNt _ _))
   have hcn2 := fun n => tables_spec a1 q1 t.writes (((wr.alloc (.cells #[.int .i64 t.bgn, .int .i64 t.com, .slice a0 t.reads.length q0, .slice a1 t.writes.length q1] 131))).drewN n) hB.2 ((R1.out.below liesI bwB).below liesI (below_drewNt _ _))
   by_cases hk0 : (0 : Int) < k
   .obtain ⟨ds, hE, hcell2⟩ := hgc (k - 1) (by omega)
    have HE : Hid (us[k - 1]? = some us[k - 1]) := List.getElem?_eq_getElem (by omega)
    generalize us[k - 1] = s at *
    obtain ⟨xv0, xv1, rfl, _, _⟩ := hE
    have d1 : wr.cell? ⟨g, o + (k - 1) * 4 + 1, none⟩ = some (.int .i64 s.com) := ct hbel hg (hcell2 1 (by omega))
    have hw : IntKind.i64.wrap ((k : Int) - 1) = ((k - 1 : Nat) : Int) := by simp only [IntKind.wrap_i64, wrap64]; omega
    have hk1 : ((k - 1 : Nat) : Int) < us.length := by omega
    have d1A := (bwB.cell (p := ⟨g, o + (k - 1) * 4 + 1, none⟩) (show g < wr.heap.size by omega)).trans d1
    have hgr : g < wr.heap.size := by omega
    clear hgc hva hcell2
    generalize hkp : k - 1 = kp at d1 d1A HE hw hk1
    by_cases h2 : t.com <= s.com
    .have HF := hid (HNo.out (fun h => by have := (h t HD.out).2.2.1 s (by omega) (by rw [hkp]; exact HE.out); omega))
     clear HST HNo HD HE hkp hcn1 hcn2
     go_wp2
     have g0 : decide (t.bgn < 0) = false := decide_eq_false (by omega)
     have g1 : decide (t.com <= t.bgn) = false := decide_eq_false (by omega)
     have g2 : decide ((0 : Int) < k) = true := decide_eq_true (by omega)
     have g2n : decide (0 < k) = true := decide_eq_true (by omega)
     have g3 : decide (t.com <= s.com) = true := decide_eq_true (by omega)
     go_quiet (fail)
     go_wp2
     go_ret
     exact ⟨rb_f HF.out, bwA.trans ((below_drewNt _ _).mono bwA.size)⟩
    have HV : Hid (tabP t.reads -> tabP t.writes -> ∀ j, j < k + 1 -> histAt us j) := hid (fun r z => HST.out (fun t' ht => by
     have := HD.out.symm.trans ht
     cases this
     exact ⟨by omega, by omega, fun s' _ hs => by rw [hkp, HE.out] at hs; cases hs; omega, r, z⟩))
    have HNR : Hid (¬ tabP t.reads -> ¬ histP us) := hid (fun r => HNo.out (fun h => r (h t HD.out).2.2.2.1))
    have HNW : Hid (¬ tabP t.writes -> ¬ histP us) := hid (fun r => HNo.out (fun h => r (h t HD.out).2.2.2.2))
    clear HST HNo HD HE hkp
    by_cases hR : tabP t.reads
    .have hq1 := fun n => rb_yes (hcn1 n) hR
     by_cases hW : tabP t.writes
     .have HVV := hid (HV.out hR hW)
      have hq2 := fun n => rb_yes (hcn2 n) hW
      clear HV HNR HNW hcn1 hcn2
      go_wp2
      have g0 : decide (t.bgn < 0) = false := decide_eq_false (by omega)
      have g1 : decide (t.com <= t.bgn) = false := decide_eq_false (by omega)
      have g2 : decide ((0 : Int) < k) = true := decide_eq_true (by omega)
      have g2n : decide (0 < k) = true := decide_eq_true (by omega)
      have g3 : decide (t.com <= s.com) = false := decide_eq_false (by omega)
      go_quiet ((go_at_call 94; first | with_reducible exact Calls.quiet_of_same (hq1 _) | with_reducible exact Calls.quiet_of_same (hq2 _)))
      go_wp2
      go_roundw
      case rel => exact ⟨k + 1, by omega, by go_num, HVV, bwA.trans ((below_drewNt _ _).mono bwA.size)⟩
      case measure => simp [intOf]; omega
     .have HF := hid (HNW.out hW)
      have hq2 := fun n => rb_no (hcn2 n) hW
      clear HV HNR HNW hcn1 hcn2
      go_wp2
      have g0 : decide (t.bgn < 0) = false := decide_eq_false (by omega)
      have g1 : decide (t.com <= t.bgn) = false := decide_eq_false (by omega)
      have g2 : decide ((0 : Int) < k) = true := decide_eq_true (by omega)
      have g2n : decide (0 < k) = true := decide_eq_true (by omega)
      have g3 : decide (t.com <= s.com) = false := decide_eq_false (by omega)
      go_quiet ((go_at_call 94; first | with_reducible exact Calls.quiet_of_same (hq1 _) | with_reducible exact Calls.quiet_of_same (hq2 _)))
      go_wp2
      go_ret
      exact ⟨rb_f HF.out, bwA.trans ((below_drewNt _ _).mono bwA.size)⟩
    .have HF := hid (HNR.out hR)
     have hq1 := fun n => rb_no (hcn1 n) hR
     clear HV HNR HNW hcn1 hcn2
     go_wp2
     have g0 : decide (t.bgn < 0) = false := decide_eq_false (by omega)
     have g1 : decide (t.com <= t.bgn) = false := decide_eq_false (by omega)
     have g2 : decide ((0 : Int) < k) = true := decide_eq_true (by omega)
     have g2n : decide (0 < k) = true := decide_eq_true (by omega)
     have g3 : decide (t.com <= s.com) = false := decide_eq_false (by omega)
     go_quiet ((go_at_call 94; exact Calls.quiet_of_same (hq1 _)))
     go_wp2
     go_ret
     exact ⟨rb_f HF.out, bwA.trans ((below_drewNt _ _).mono bwA.size)⟩
   .have HV : Hid (tabP t.reads -> tabP t.writes -> ∀ j, j < k + 1 -> histAt us j) := hid (fun r z => HST.out (fun t' ht => by
     have := HD.out.symm.trans ht
     cases this
     exact ⟨by omega, by omega, fun s' h _ => by omega, r, z⟩))
    have HNR : Hid (¬ tabP t.reads -> ¬ histP us) := hid (fun r => HNo.out (fun h => r (h t HD.out).2.2.2.1))
    have HNW : Hid (¬ tabP t.writes -> ¬ histP us) := hid (fun r => HNo.out (fun h => r (h t HD.out).2.2.2.2))
    clear HST HNo HD hgc hva
    by_cases hR : tabP t.reads
    .have hq1 := fun n => rb_yes (hcn1 n) hR
     by_cases hW : tabP t.writes
     .have HVV := hid (HV.out hR hW)
      have hq2 := fun n => rb_yes (hcn2 n) hW
      clear HV HNR HNW hcn1 hcn2
      go_wp2
      have g0 : decide (t.bgn < 0) = false := decide_eq_false (by omega)
      have g1 : decide (t.com <= t.bgn) = false := decide_eq_false (by omega)
      have g2 : decide ((0 : Int) < k) = false := decide_eq_false (by omega)
      have g2n : decide (0 < k) = false := decide_eq_false (by omega)
      go_quiet ((go_at_call 94; first | with_reducible exact Calls.quiet_of_same (hq1 _) | with_reducible exact Calls.quiet_of_same (hq2 _)))
      go_wp2
      go_roundw
      case rel => exact ⟨k + 1, by omega, by go_num, HVV, bwA.trans ((below_drewNt _ _).mono bwA.size)⟩
      case measure => simp [intOf]; omega
     .have HF := hid (HNW.out hW)
      have hq2 := fun n => rb_no (hcn2 n) hW
      clear HV HNR HNW hcn1 hcn2
      go_wp2
      have g0 : decide (t.bgn < 0) = false := decide_eq_false (by omega)
      have g1 : decide (t.com <= t.bgn) = false := decide_eq_false (by omega)
      have g2 : decide ((0 : Int) < k) = false := decide_eq_false (by omega)
      have g2n : decide (0 < k) = false := decide_eq_false (by omega)
      go_quiet ((go_at_call 94; first | with_reducible exact Calls.quiet_of_same (hq1 _) | with_reducible exact Calls.quiet_of_same (hq2 _)))
      go_wp2
      go_ret
      exact ⟨rb_f HF.out, bwA.trans ((below_drewNt _ _).mono bwA.size)⟩
    .have HF := hid (HNR.out hR)
     have hq1 := fun n => rb_no (hcn1 n) hR
     clear HV HNR HNW hcn1 hcn2
     go_wp2
     have g0 : decide (t.bgn < 0) = false := decide_eq_false (by omega)
     have g1 : decide (t.com <= t.bgn) = false := decide_eq_false (by omega)
     have g2 : decide ((0 : Int) < k) = false := decide_eq_false (by omega)
     have g2n : decide (0 < k) = false := decide_eq_false (by omega)
     go_quiet ((go_at_call 94; exact Calls.quiet_of_same (hq1 _)))
     go_wp2
     go_ret
     exact ⟨rb_f HF.out, bwA.trans ((below_drewNt _ _).mono bwA.size)⟩
  .have hkn : k = us.length := by omega
   subst hkn
   have hlti : ¬ (us.length : Int) < us.length := by omega
   have HT : Hid (histP us) := hid (⟨by omega, HO.out⟩)
   clear HO
   go_wp2
   go_ret
   exact ⟨rb_t HT.out, hbel⟩
def inP (us : List TI) (n i : Nat) (p : TI) : Prop := ∃ j o, j < n /\ j ≠ i /\ us[j]? = some o /\ leadsP o p
def outP (us : List TI) (n i : Nat) (p : TI) : Prop := ∃ j o, j < n /\ j ≠ i /\ us[j]? = some o /\ leadsP p o
def dangAt (us : List TI) (i : Nat) : Prop := ∃ p, us[i]? = some p /\ inP us us.length i p /\ outP us us.length i p
def dangP (us : List TI) : Prop := ∃ i, i < us.length /\ dangAt us i
theorem in_skip {us : List TI} {l k : Nat} {p : TI} (h : l = k) : inP us (l + 1) k p ↔ inP us l k p := by
 constructor
 .rintro ⟨j, o, h1, h2, h3⟩
  exact ⟨j, o, by omega, h2, h3⟩
 .rintro ⟨j, o, h1, h2, h3⟩
  exact ⟨j, o, by omega, h2, h3⟩
theorem out_skip {us : List TI} {l k : Nat} {p : TI} (h : l = k) : outP us (l + 1) k p ↔ outP us l k p := by
 constructor
 .rintro ⟨j, o, h1, h2, h3⟩
  exact ⟨j, o, by omega, h2, h3⟩
 .rintro ⟨j, o, h1, h2, h3⟩
  exact ⟨j, o, by omega, h2, h3⟩
theorem in_step {us : List TI} {l k : Nat} {p o : TI} (hn : l ≠ k) (ho : us[l]? = some o) : inP us (l + 1) k p ↔ inP us l k p \/ leadsP o p := by
 constructor
 .rintro ⟨j, o', h1, h2, h3, h4⟩
  by_cases e : j = l
  .subst e; rw [ho] at h3; cases h3; exact .inr h4
  .exact .inl ⟨j, o', by omega, h2, h3, h4⟩
 .rintro (⟨j, o', h1, h2, h3⟩ | h)
  .exact ⟨j, o', by omega, h2, h3⟩
  .exact ⟨l, o, by omega, hn, ho, h⟩
theorem out_step {us : List TI} {l k : Nat} {p o : TI} (hn : l ≠ k) (ho : us[l]? = some o) : outP us (l + 1) k p ↔ outP us l k p \/ leadsP p o := by
 constructor
 .rintro ⟨j, o', h1, h2, h3, h4⟩
  by_cases e : j = l
  .subst e; rw [ho] at h3; cases h3; exact .inr h4
  .exact .inl ⟨j, o', by omega, h2, h3, h4⟩
 .rintro (⟨j, o', h1, h2, h3⟩ | h)
  .exact ⟨j, o', by omega, h2, h3⟩
  .exact ⟨l, o, by omega, hn, ho, h⟩
theorem danger_spec (a : Option Addr) (ca : Nat) (us : List TI) (w : World) (hb : BH 1048576 us) (ha : RS 4 CT 0 w (.slice a us.length ca) us) :
 Calls Tryz.prog 80 #[.slice a us.length ca] w fun e w' => RB (dangP us) e /\ Below w.heap.size w w' := by
 have hn := hb.1
 have HZ : Hid (∀ t ∈ us, BT 1048576 t) := hb.2
 clear hb
 obtain ⟨a', ca', he, hva⟩ := ha
 simp only [Value.slice.injEq] at he
 obtain ⟨rfl, _, rfl⟩ := he
 go_enter Tryz.func80, Tryz.ntmps80
 go_wp2
 go_loopw [11] (fun i wr => ∃ k : Nat, k <= us.length /\ i = .int .i64 k /\ Hid (∀ j, j < k -> ¬ dangAt us j) /\ Below w.heap.size w wr) (fun i _ => us.length - (intOf i).toNat)
 case atStart => exact ⟨0, Nat.zero_le _, rfl, (fun x h => absurd h (Nat.not_lt_zero _) : ∀ j, j < 0 -> ¬ dangAt us j), Below.refl _ _⟩
 case round =>
  obtain ⟨k, hk, rfl, HO, hbel⟩ := hrel
  have hbs := hbel.size
  by_cases hlt : k < us.length
  .have hlti : (k : Int) < us.length := by omega
   obtain ⟨g, o, rfl, _, hg, hgc⟩ := hva (by omega)
   obtain ⟨cs, hC0, hcell⟩ := hgc k hlt
   have CTp : Hid (∀ {W : World}, Below w.heap.size w W -> CT 0 W cs us[k]) := hid (fun h => liesT.below hC0 h)
   have hC := hC0
   have hBp := HZ.out us[k] (List.getElem_mem hlt)
   have HST : Hid (¬ dangAt us k -> ∀ j, j < k + 1 -> ¬ dangAt us j) := hid (fun z j hj => by
    by_cases e : j = k
    .subst e; exact z
    .exact HO.out j (by omega))
   have HYes : Hid (dangAt us k -> dangP us) := hid (fun z => ⟨k, hlt, z⟩)
   have HD : Hid (us[k]? = some us[k]) := List.getElem?_eq_getElem hlt
   clear HO hC0
   generalize hx : us[k] = p at *
   clear hx
   obtain ⟨v0, v1, rfl, r0, r1⟩ := hC
   obtain ⟨a0, q0, rfl, _⟩ := r0
   obtain ⟨a1, q1, rfl, _⟩ := r1
   have c0 : wr.cell? ⟨g, o + k * 4, none⟩ = some (.int .i64 p.bgn) := ct hbel hg (hcell 0 (by omega))
   have c1 : wr.cell? ⟨g, o + k * 4 + 1, none⟩ = some (.int .i64 p.com) := ct hbel hg (hcell 1 (by omega))
   have c2 : wr.cell? ⟨g, o + k * 4 + 2, none⟩ = some (.slice a0 p.reads.length q0) := ct hbel hg (hcell 2 (by omega))
   have c3 : wr.cell? ⟨g, o + k * 4 + 3, none⟩ = some (.slice a1 p.writes.length q1) := ct hbel hg (hcell 3 (by omega))
   clear hcell
   have KP0 := hid (blk_new wr [.int .i64 p.bgn, .int .i64 p.com, .slice a0 p.reads.length q0, .slice a1 p.writes.length q1] 131)
   have bwA : Below w.heap.size w (wr.alloc (.cells #[.int .i64 p.bgn, .int .i64 p.com, .slice a0 p.reads.length q0, .slice a1 p.writes.length q1] 131)) := hbel.alloc hbs _
   have hzA : wr.heap.size < ((wr.alloc (.cells #[.int .i64 p.bgn, .int .i64 p.com, .slice a0 p.reads.length q0, .slice a1 p.writes.length q1] 131))).heap.size := by simp
   go_wp2
   obtain ⟨gp, hgp⟩ : ∃ x, x = wr.heap.size := ⟨_, rfl⟩
   rw [<- hgp] at KP0 hzA
   rw [<- hgp]
   go_loopw [5, 6, 18] (fun bi bo jv wr => ∃ (l : Nat) (xi xo : Bool), l <= us.length /\ bi = .bool xi /\ bo = .bool xo /\ jv = .int .i64 l /\ Hid (xi = true ↔ inP us l k p) /\ Hid (xo = true ↔ outP us l k p) /\ Hid (Blk wr gp [.int .i64 p.bgn, .int .i64 p.com, .slice a0 p.reads.length q0, .slice a1 p.writes.length q1]) /\ gp < wr.heap.size /\ Below w.heap.size w wr) (fun _ _ jv _ => us.length - (intOf jv).toNat)
   case atStart => exact ⟨0, false, false, Nat.zero_le _, rfl, rfl, rfl, (⟨fun h => (by cases h), fun ⟨_, _, h, _⟩ => absurd h (Nat.not_lt_zero _)⟩ : false = true ↔ inP us 0 k p), (⟨fun h => (by cases h), fun ⟨_, _, h, _⟩ => absurd h (Nat.not_lt_zero _)⟩ : false = true ↔ outP us 0 k p), KP0, hzA, bwA⟩
   case round =>
    clear KP0 hzA bwA hbel hbs hgp c0 c1 c2 c3
    obtain ⟨l, xi, xo, hl, rfl, rfl, rfl, HI, HQ, KP, hzp, hbel2⟩ := hrel
    have hbs2 := hbel2.size
    by_cases hlt2 : l < us.length
    .have hlti2 : (l : Int) < us.length := by omega
     obtain ⟨ds, hD0, hcell2⟩ := hgc l hlt2
     have CTo : Hid (∀ {W : World}, Below w.heap.size w W -> CT 0 W ds us[l]) := hid (fun h => liesT.below hD0 h)
     have hD := hD0
     have hBu := HZ.out us[l] (List.getElem_mem hlt2)
     have HU : Hid (us[l]? = some us[l]) := List.getElem?_eq_getElem hlt2
     have hbel := hbel2
     clear hD0 hgc hva
     generalize hx : us[l] = u at *
     clear hx
     obtain ⟨xv0, xv1, rfl, xr0, xr1⟩ := hD
     obtain ⟨xa0, xq0, rfl, _⟩ := xr0
     obtain ⟨xa1, xq1, rfl, _⟩ := xr1
     have d0 : wr.cell? ⟨g, o + l * 4, none⟩ = some (.int .i64 u.bgn) := ct hbel hg (hcell2 0 (by omega))
     have d1 : wr.cell? ⟨g, o + l * 4 + 1, none⟩ = some (.int .i64 u.com) := ct hbel hg (hcell2 1 (by omega))
     have d2 : wr.cell? ⟨g, o + l * 4 + 2, none⟩ = some (.slice xa0 u.reads.length xq0) := ct hbel hg (hcell2 2 (by omega))
     have d3 : wr.cell? ⟨g, o + l * 4 + 3, none⟩ = some (.slice xa1 u.writes.length xq1) := ct hbel hg (hcell2 3 (by omega))
     clear hcell2 hbel
     by_cases hlk : l = k
     .have HI2 : Hid (xi = true ↔ inP us (l + 1) k p) := hid (by rw [in_skip hlk]; exact HI.out)
      have HO2 : Hid (xo = true ↔ outP us (l + 1) k p) := hid (by rw [out_skip hlk]; exact HQ.out)
      have KB := hid (KP.out.below (below_alloc wr (.cells #[.int .i64 u.bgn, .int .i64 u.com, .slice xa0 u.reads.length xq0, .slice xa1 u.writes.length xq1] 131)) hzp)
      have hzp2 : gp < (wr.alloc (.cells #[.int .i64 u.bgn, .int .i64 u.com, .slice xa0 u.reads.length xq0, .slice xa1 u.writes.length xq1] 131)).heap.size := by simp; omega
      have bwW : Below w.heap.size w (wr.alloc (.cells #[.int .i64 u.bgn, .int .i64 u.com, .slice xa0 u.reads.length xq0, .slice xa1 u.writes.length xq1] 131)) := hbel2.alloc hbs2 _
      clear HI HQ KP
      subst hlk
      go_wp2
      go_roundw
      case rel => exact ⟨l + 1, xi, xo, by omega, rfl, rfl, by go_num, HI2, HO2, KB, by omega, bwW⟩
      case measure => simp [intOf]; omega
     .have hki : ¬ (k : Int) = l := by omega
      rcases xi with _ | _ <;> rcases xo with _ | _
      .have HI1 : Hid (¬ inP us l k p) := hid (fun z => absurd (HI.out.2 z) (by simp))
       clear HI
       have HQ1 : Hid (¬ outP us l k p) := hid (fun z => absurd (HQ.out.2 z) (by simp))
       clear HQ
       have KB := hid (KP.out.below (below_alloc wr (.cells #[.int .i64 u.bgn, .int .i64 u.com, .slice xa0 u.reads.length xq0, .slice xa1 u.writes.length xq1] 131)) hzp)
       have KO := hid (blk_new wr [.int .i64 u.bgn, .int .i64 u.com, .slice xa0 u.reads.length xq0, .slice xa1 u.writes.length xq1] 131)
       have bwW : Below w.heap.size w (wr.alloc (.cells #[.int .i64 u.bgn, .int .i64 u.com, .slice xa0 u.reads.length xq0, .slice xa1 u.writes.length xq1] 131)) := hbel2.alloc hbs2 _
       have hzo : wr.heap.size < ((wr.alloc (.cells #[.int .i64 u.bgn, .int .i64 u.com, .slice xa0 u.reads.length xq0, .slice xa1 u.writes.length xq1] 131))).heap.size := by simp
       have hzp2 : gp < ((wr.alloc (.cells #[.int .i64 u.bgn, .int .i64 u.com, .slice xa0 u.reads.length xq0, .slice xa1 u.writes.length xq1] 131))).heap.size := by simp; omega
       obtain ⟨e0, e1, e2, e3⟩ := kc3 KB.out
       have hl1 := leads_spec u p [.int .i64 u.bgn, .int .i64 u.com, .slice xa0 u.reads.length xq0, .slice xa1 u.writes.length xq1] [.int .i64 p.bgn, .int .i64 p.com, .slice a0 p.reads.length q0, .slice a1 p.writes.length q1] (wr.alloc (.cells #[.int .i64 u.bgn, .int .i64 u.com, .slice xa0 u.reads.length xq0, .slice xa1 u.writes.length xq1] 131)) hBu hBp (CTo.out bwW) (CTp.out bwW)
       go_wp2_with (go_at_call 95; fail)
       refine hl1.mono ?_
       rintro e w1 ⟨⟨r1, rfl, hr1⟩, hb1⟩
       replace KB := hid (KB.out.below hb1 hzp2)
       replace KO := hid (KO.out.below hb1 hzo)
       replace bwW : Below w.heap.size w w1 := bwW.trans (hb1.mono bwW.size)
       replace hzo : wr.heap.size < w1.heap.size := Nat.lt_of_lt_of_le hzo hb1.size
       replace hzp2 : gp < w1.heap.size := Nat.lt_of_lt_of_le hzp2 hb1.size
       have HI2 : Hid (r1 = true ↔ inP us (l + 1) k p) := hid (by rw [in_step hlk HU.out, hr1]; exact ⟨.inr, fun h => h.elim (fun z => absurd z HI1.out) id⟩)
       clear hl1 hb1 hr1 HI1 e0 e1 e2 e3
       obtain ⟨e0, e1, e2, e3⟩ := kc3 KB.out
       obtain ⟨f0, f1, f2, f3⟩ := kc3 KO.out
       have hl2 := leads_spec p u [.int .i64 p.bgn, .int .i64 p.com, .slice a0 p.reads.length q0, .slice a1 p.writes.length q1] [.int .i64 u.bgn, .int .i64 u.com, .slice xa0 u.reads.length xq0, .slice xa1 u.writes.length xq1] w1 hBp hBu (CTp.out bwW) (CTo.out bwW)
       go_wp2_with (go_at_call 95; fail)
       refine hl2.mono ?_
       rintro e w2 ⟨⟨r2, rfl, hr2⟩, hb2⟩
       replace KB := hid (KB.out.below hb2 hzp2)
       replace bwW : Below w.heap.size w w2 := bwW.trans (hb2.mono bwW.size)
       replace hzp2 : gp < w2.heap.size := Nat.lt_of_lt_of_le hzp2 hb2.size
       have HO2 : Hid (r2 = true ↔ outP us (l + 1) k p) := hid (by rw [out_step hlk HU.out, hr2]; exact ⟨.inr, fun h => h.elim (fun z => absurd z HQ1.out) id⟩)
       clear hl2 hb2 hr2 HQ1
       go_wp2
       go_roundw
       case rel => exact ⟨l + 1, r1, r2, by omega, rfl, rfl, by go_num, HI2, HO2, KB, by omega, bwW⟩
       case measure => simp [intOf]; omega
      .have HI1 : Hid (¬ inP us l k p) := hid (fun z => absurd (HI.out.2 z) (by simp))
       clear HI
       have HQ1 : Hid (outP us l k p) := HQ.out.1 rfl
       clear HQ
       have KB := hid (KP.out.below (below_alloc wr (.cells #[.int .i64 u.bgn, .int .i64 u.com, .slice xa0 u.reads.length xq0, .slice xa1 u.writes.length xq1] 131)) hzp)
       have KO := hid (blk_new wr [.int .i64 u.bgn, .int .i64 u.com, .slice xa0 u.reads.length xq0, .slice xa1 u.writes.length xq1] 131)
       have bwW : Below w.heap.size w (wr.alloc (.cells #[.int .i64 u.bgn, .int .i64 u.com, .slice xa0 u.reads.length xq0, .slice xa1 u.writes.length xq1] 131)) := hbel2.alloc hbs2 _
       have hzo : wr.heap.size < ((wr.alloc (.cells #[.int .i64 u.bgn, .int .i64 u.com, .slice xa0 u.reads.length xq0, .slice xa1 u.writes.length xq1] 131))).heap.size := by simp
       have hzp2 : gp < ((wr.alloc (.cells #[.int .i64 u.bgn, .int .i64 u.com, .slice xa0 u.reads.length xq0, .slice xa1 u.writes.length xq1] 131))).heap.size := by simp; omega
       obtain ⟨e0, e1, e2, e3⟩ := kc3 KB.out
       have hl1 := leads_spec u p [.int .i64 u.bgn, .int .i64 u.com, .slice xa0 u.reads.length xq0, .slice xa1 u.writes.length xq1] [.int .i64 p.bgn, .int .i64 p.com, .slice a0 p.reads.length q0, .slice a1 p.writes.length q1] (wr.alloc (.cells #[.int .i64 u.bgn, .int .i64 u.com, .slice xa0 u.reads.length xq0, .slice xa1 u.writes.length xq1] 131)) hBu hBp (CTo.out bwW) (CTp.out bwW)
       go_wp2_with (go_at_call 95; fail)
       refine hl1.mono ?_
       rintro e w1 ⟨⟨r1, rfl, hr1⟩, hb1⟩
       replace KB := hid (KB.out.below hb1 hzp2)
       replace KO := hid (KO.out.below hb1 hzo)
       replace bwW : Below w.heap.size w w1 := bwW.trans (hb1.mono bwW.size)
       replace hzo : wr.heap.size < w1.heap.size := Nat.lt_of_lt_of_le hzo hb1.size
       replace hzp2 : gp < w1.heap.size := Nat.lt_of_lt_of_le hzp2 hb1.size
       have HI2 : Hid (r1 = true ↔ inP us (l + 1) k p) := hid (by rw [in_step hlk HU.out, hr1]; exact ⟨.inr, fun h => h.elim (fun z => absurd z HI1.out) id⟩)
       clear hl1 hb1 hr1 HI1 e0 e1 e2 e3
       have HO2 : Hid (outP us (l + 1) k p) := hid (by rw [out_step hlk HU.out]; exact .inl HQ1.out)
       clear HQ1
       go_wp2
       go_roundw
       case rel => exact ⟨l + 1, r1, true, by omega, rfl, rfl, by go_num, HI2, (⟨fun _ => HO2.out, fun _ => rfl⟩ : true = true ↔ outP us (l + 1) k p), KB, by omega, bwW⟩
       case measure => simp [intOf]; omega
      .have HI1 : Hid (inP us l k p) := HI.out.1 rfl
       clear HI
       have HQ1 : Hid (¬ outP us l k p) := hid (fun z => absurd (HQ.out.2 z) (by simp))
       clear HQ
       have KB := hid (KP.out.below (below_alloc wr (.cells #[.int .i64 u.bgn, .int .i64 u.com, .slice xa0 u.reads.length xq0, .slice xa1 u.writes.length xq1] 131)) hzp)
       have KO := hid (blk_new wr [.int .i64 u.bgn, .int .i64 u.com, .slice xa0 u.reads.length xq0, .slice xa1 u.writes.length xq1] 131)
       have bwW : Below w.heap.size w (wr.alloc (.cells #[.int .i64 u.bgn, .int .i64 u.com, .slice xa0 u.reads.length xq0, .slice xa1 u.writes.length xq1] 131)) := hbel2.alloc hbs2 _
       have hzo : wr.heap.size < ((wr.alloc (.cells #[.int .i64 u.bgn, .int .i64 u.com, .slice xa0 u.reads.length xq0, .slice xa1 u.writes.length xq1] 131))).heap.size := by simp
       have hzp2 : gp < ((wr.alloc (.cells #[.int .i64 u.bgn, .int .i64 u.com, .slice xa0 u.reads.length xq0, .slice xa1 u.writes.length xq1] 131))).heap.size := by simp; omega
       have HI2 : Hid (inP us (l + 1) k p) := hid (by rw [in_step hlk HU.out]; exact .inl HI1.out)
       clear HI1
       obtain ⟨e0, e1, e2, e3⟩ := kc3 KB.out
       have hl2 := leads_spec p u [.int .i64 p.bgn, .int .i64 p.com, .slice a0 p.reads.length q0, .slice a1 p.writes.length q1] [.int .i64 u.bgn, .int .i64 u.com, .slice xa0 u.reads.length xq0, .slice xa1 u.writes.length xq1] (wr.alloc (.cells #[.int .i64 u.bgn, .int .i64 u.com, .slice xa0 u.reads.length xq0, .slice xa1 u.writes.length xq1] 131)) hBp hBu (CTp.out bwW) (CTo.out bwW)
       go_wp2_with (go_at_call 95; fail)
       refine hl2.mono ?_
       rintro e w2 ⟨⟨r2, rfl, hr2⟩, hb2⟩
       replace KB := hid (KB.out.below hb2 hzp2)
       replace bwW : Below w.heap.size w w2 := bwW.trans (hb2.mono bwW.size)
       replace hzp2 : gp < w2.heap.size := Nat.lt_of_lt_of_le hzp2 hb2.size
       have HO2 : Hid (r2 = true ↔ outP us (l + 1) k p) := hid (by rw [out_step hlk HU.out, hr2]; exact ⟨.inr, fun h => h.elim (fun z => absurd z HQ1.out) id⟩)
       clear hl2 hb2 hr2 HQ1
       go_wp2
       go_roundw
       case rel => exact ⟨l + 1, true, r2, by omega, rfl, rfl, by go_num, (⟨fun _ => HI2.out, fun _ => rfl⟩ : true = true ↔ inP us (l + 1) k p), HO2, KB, by omega, bwW⟩
       case measure => simp [intOf]; omega
      .have HI1 : Hid (inP us l k p) := HI.out.1 rfl
       clear HI
       have HQ1 : Hid (outP us l k p) := HQ.out.1 rfl
       clear HQ
       have KB := hid (KP.out.below (below_alloc wr (.cells #[.int .i64 u.bgn, .int .i64 u.com, .slice xa0 u.reads.length xq0, .slice xa1 u.writes.length xq1] 131)) hzp)
       have KO := hid (blk_new wr [.int .i64 u.bgn, .int .i64 u.com, .slice xa0 u.reads.length xq0, .slice xa1 u.writes.length xq1] 131)
       have bwW : Below w.heap.size w (wr.alloc (.cells #[.int .i64 u.bgn, .int .i64 u.com, .slice xa0 u.reads.length xq0, .slice xa1 u.writes.length xq1] 131)) := hbel2.alloc hbs2 _
       have hzo : wr.heap.size < ((wr.alloc (.cells #[.int .i64 u.bgn, .int .i64 u.com, .slice xa0 u.reads.length xq0, .slice xa1 u.writes.length xq1] 131))).heap.size := by simp
       have hzp2 : gp < ((wr.alloc (.cells #[.int .i64 u.bgn, .int .i64 u.com, .slice xa0 u.reads.length xq0, .slice xa1 u.writes.length xq1] 131))).heap.size := by simp; omega
       have HI2 : Hid (inP us (l + 1) k p) := hid (by rw [in_step hlk HU.out]; exact .inl HI1.out)
       clear HI1
       have HO2 : Hid (outP us (l + 1) k p) := hid (by rw [out_step hlk HU.out]; exact .inl HQ1.out)
       clear HQ1
       go_wp2
       go_roundw
       case rel => exact ⟨l + 1, true, true, by omega, rfl, rfl, by go_num, (⟨fun _ => HI2.out, fun _ => rfl⟩ : true = true ↔ inP us (l + 1) k p), (⟨fun _ => HO2.out, fun _ => rfl⟩ : true = true ↔ outP us (l + 1) k p), KB, by omega, bwW⟩
       case measure => simp [intOf]; omega
    .have hln : l = us.length := by omega
     subst hln
     have hlti2 : ¬ (us.length : Int) < us.length := by omega
     rcases xi with _ | _
     .have HV := hid (HST.out (fun ⟨p', h1, h2, h3⟩ => by have := HD.out.symm.trans h1; cases this; exact absurd (HI.out.2 h2) (by simp)))
      clear HI HQ KP HST HYes
      go_wp2
      go_roundw
      case rel => exact ⟨k + 1, by omega, by go_num, HV, hbel2⟩
      case measure => simp [intOf]; omega
     .rcases xo with _ | _
      .have HV := hid (HST.out (fun ⟨p', h1, h2, h3⟩ => by have := HD.out.symm.trans h1; cases this; exact absurd (HQ.out.2 h3) (by simp)))
       clear HI HQ KP HST HYes
       go_wp2
       go_roundw
       case rel => exact ⟨k + 1, by omega, by go_num, HV, hbel2⟩
       case measure => simp [intOf]; omega
      .have HT := hid (HYes.out ⟨p, HD.out, HI.out.1 rfl, HQ.out.1 rfl⟩)
       clear HI HQ KP HST HYes
       go_wp2
       go_ret
       exact ⟨rb_t HT.out, hbel2⟩
  .have hkn : k = us.length := by omega
   subst hkn
   have hlti : ¬ (us.length : Int) < us.length := by omega
   have HF : Hid (¬ dangP us) := hid (fun ⟨i, h1, h2⟩ => HO.out i h1 h2)
   clear HO
   go_wp2
   go_ret
   exact ⟨rb_f HF.out, hbel⟩
theorem info131 : (Tryz.prog.info? 131).map (fun i => (i.zero, i.size, i.bytes)) = some (some (.agg #[.int .i64 0, .int .i64 0, .slice none 0 0, .slice none 0 0]), 4, 64) := by kernel_rfl
theorem own_bs {w : World} {b b' e k n : Nat} {v : Value} {xs : List Value} (h : w.ownsRow b e k v n xs) (hb : b' <= b) : w.ownsRow b' e k v n xs := by
 obtain ⟨h1, h2⟩ := h
 refine ⟨h1, ?_⟩
 rcases h2 with h2 | ⟨g, cap, cur, rfl, hg1, hg2⟩
 .exact .inl h2
 .exact .inr ⟨g, cap, cur, rfl, Nat.le_trans hb hg1, hg2⟩
theorem oneT : ∀ {B : Nat} {w : World} {cs : List Value} {x : TI}, CT B w cs x -> ∀ u ∈ cs, u.oneCell' = true := fun h u hu => by
 obtain ⟨v0, v1, rfl, r0, r1⟩ := h
 obtain ⟨a0, q0, rfl, _⟩ := r0
 obtain ⟨a1, q1, rfl, _⟩ := r1
 simp at hu
 rcases hu with rfl | rfl | rfl | rfl <;> rfl
theorem KTB {w w1 : World} {A E : Obj} {cs : List Value} {t : Nat} {row : Option Nat} (h : (((w.alloc A).alloc E).alloc (.cells cs.toArray t)).drew.grownBy w1 row) (hr : some (w.heap.size + 1 + 1) ≠ row) : Blk w1 (w.heap.size + 1 + 1) cs := by
 have := blk_new ((w.alloc A).alloc E) cs t
 rw [show ((w.alloc A).alloc E).heap.size = w.heap.size + 1 + 1 by simp] at this
 exact (this.below (Below.refl _ _).drew (by simp)).grown h (by simp) hr
theorem KTC {w w1 : World} {A E : Obj} {cs : List Value} {t : Nat} {row : Option Nat} (h : (((w.alloc A).alloc (.cells cs.toArray t)).alloc E).drew.grownBy w1 row) (hr : some (w.heap.size + 1) ≠ row) : Blk w1 (w.heap.size + 1) cs := by
 have := blk_new (w.alloc A) cs t
 rw [show (w.alloc A).heap.size = w.heap.size + 1 by simp] at this
 exact (this.below (below_alloc _ E).drew (by simp)).grown h (by simp) hr
def CertR (us : List TI) (e : Ending) : Prop := (¬ histP us /\ e = .returned (.int .i64 1)) \/ (histP us /\ dangP us /\ e = .returned (.int .i64 21)) \/ (histP us /\ ¬ dangP us /\ e = .returned (.int .i64 0))
end Go.Proofs.YtblkgicbimflhaaGreat
