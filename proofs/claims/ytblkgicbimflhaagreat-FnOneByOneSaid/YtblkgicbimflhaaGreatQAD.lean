import Derived.Test.YtblkgicbimflhaaGreatQAA
import Derived.Test.YtblkgicbimflhaaGreatQAB
import Derived.Test.YtblkgicbimflhaaGreatQAC
namespace Go.Proofs.YtblkgicbimflhaaGreat
open Go.ChangeShapes Go.WideShapes Go.ChangeAt Go.RowKit
set_option linter.unusedVariables false
set_option linter.unusedSimpArgs false
set_option maxRecDepth 100000
set_option maxHeartbeats 16000000
def inP (us : List TI) (n i : Nat) (p : TI) : Prop := ∃ j o, j < n /\ j ≠ i /\ us[j]? = some o /\ leadsP o p
def outP (us : List TI) (n i : Nat) (p : TI) : Prop := ∃ j o, j < n /\ j ≠ i /\ us[j]? = some o /\ leadsP p o
def dangAt (us : List TI) (i : Nat) : Prop := ∃ p, us[i]? = some p /\ inP us us.length i p /\ outP us us.length i p
def dangP (us : List TI) : Prop := ∃ i, i < us.length /\ dangAt us i
theorem in_skip {us : List TI} {l k : Nat} {p : TI} (h : l = k) : inP us (l + 1) k p ↔ inP us l k p := by
 constructor
 .rintro ⟨j, o, h1, h2, h3⟩
  exact ⟨j, o, by omega, h2, h3⟩
 .rintro ⟨j, o, h1, h2, h3⟩
  exact ⟨j, o, by omega, h2, h3⟩
theorem out_skip {us : List TI} {l k : Nat} {p : TI} (h : l = k) : outP us (l + 1) k p ↔ outP us l k p := by
 constructor
 .rintro ⟨j, o, h1, h2, h3⟩
  exact ⟨j, o, by omega, h2, h3⟩
 .rintro ⟨j, o, h1, h2, h3⟩
  exact ⟨j, o, by omega, h2, h3⟩
theorem in_step {us : List TI} {l k : Nat} {p o : TI} (hn : l ≠ k) (ho : us[l]? = some o) : inP us (l + 1) k p ↔ inP us l k p \/ leadsP o p := by
 constructor
 .rintro ⟨j, o', h1, h2, h3, h4⟩
  by_cases e : j = l
  .subst e; rw [ho] at h3; cases h3; exact .inr h4
  .exact .inl ⟨j, o', by omega, h2, h3, h4⟩
 .rintro (⟨j, o', h1, h2, h3⟩ | h)
  .exact ⟨j, o', by omega, h2, h3⟩
  .exact ⟨l, o, by omega, hn, ho, h⟩
theorem out_step {us : List TI} {l k : Nat} {p o : TI} (hn : l ≠ k) (ho : us[l]? = some o) : outP us (l + 1) k p ↔ outP us l k p \/ leadsP p o := by
 constructor
 .rintro ⟨j, o', h1, h2, h3, h4⟩
  by_cases e : j = l
  .subst e; rw [ho] at h3; cases h3; exact .inr h4
  .exact .inl ⟨j, o', by omega, h2, h3, h4⟩
 .rintro (⟨j, o', h1, h2, h3⟩ | h)
  .exact ⟨j, o', by omega, h2, h3⟩
  .exact ⟨l, o, by omega, hn, ho, h⟩
theorem danger_spec (a : Option Addr) (ca : Nat) (us : List TI) (w : World) (hb : BH 1048576 us) (ha : RS 4 CT 0 w (.slice a us.length ca) us) :
 Calls Tryz.prog 80 #[.slice a us.length ca] w fun e w' => RB (dangP us) e /\ Below w.heap.size w w' := by
 have hn := hb.1
 have HZ : Hid (∀ t ∈ us, BT 1048576 t) := hb.2
 clear hb
 obtain ⟨a', ca', he, hva⟩ := ha
 simp only [Value.slice.injEq] at he
 obtain ⟨rfl, _, rfl⟩ := he
 go_enter Tryz.func80, Tryz.ntmps80
 go_wp2
 go_loopw [11] (fun i wr => ∃ k : Nat, k <= us.length /\ i = .int .i64 k /\ Hid (∀ j, j < k -> ¬ dangAt us j) /\ Below w.heap.size w wr) (fun i _ => us.length - (intOf i).toNat)
 case atStart => exact ⟨0, Nat.zero_le _, rfl, (fun x h => absurd h (Nat.not_lt_zero _) : ∀ j, j < 0 -> ¬ dangAt us j), Below.refl _ _⟩
 case round =>
  obtain ⟨k, hk, rfl, HO, hbel⟩ := hrel
  have hbs := hbel.size
  by_cases hlt : k < us.length
  .have hlti : (k : Int) < us.length := by omega
   obtain ⟨g, o, rfl, _, hg, hgc⟩ := hva (by omega)
   obtain ⟨cs, hC0, hcell⟩ := hgc k hlt
   have CTp : Hid (∀ {W : World}, Below w.heap.size w W -> CT 0 W cs us[k]) := hid (fun h => liesT.below hC0 h)
   have hC := hC0
   have hBp := HZ.out us[k] (List.getElem_mem hlt)
   have HST : Hid (¬ dangAt us k -> ∀ j, j < k + 1 -> ¬ dangAt us j) := hid (fun z j hj => by
    by_cases e : j = k
    .subst e; exact z
    .exact HO.out j (by omega))
   have HYes : Hid (dangAt us k -> dangP us) := hid (fun z => ⟨k, hlt, z⟩)
   have HD : Hid (us[k]? = some us[k]) := List.getElem?_eq_getElem hlt
   clear HO hC0
   generalize hx : us[k] = p at *
   clear hx
   obtain ⟨v0, v1, rfl, r0, r1⟩ := hC
   obtain ⟨a0, q0, rfl, _⟩ := r0
   obtain ⟨a1, q1, rfl, _⟩ := r1
   have c0 : wr.cell? ⟨g, o + k * 4, none⟩ = some (.int .i64 p.bgn) := ct hbel hg (hcell 0 (by omega))
   have c1 : wr.cell? ⟨g, o + k * 4 + 1, none⟩ = some (.int .i64 p.com) := ct hbel hg (hcell 1 (by omega))
   have c2 : wr.cell? ⟨g, o + k * 4 + 2, none⟩ = some (.slice a0 p.reads.length q0) := ct hbel hg (hcell 2 (by omega))
   have c3 : wr.cell? ⟨g, o + k * 4 + 3, none⟩ = some (.slice a1 p.writes.length q1) := ct hbel hg (hcell 3 (by omega))
   clear hcell
   have KP0 := hid (blk_new wr [.int .i64 p.bgn, .int .i64 p.com, .slice a0 p.reads.length q0, .slice a1 p.writes.length q1] 131)
   have bwA : Below w.heap.size w (wr.alloc (.cells #[.int .i64 p.bgn, .int .i64 p.com, .slice a0 p.reads.length q0, .slice a1 p.writes.length q1] 131)) := hbel.alloc hbs _
   have hzA : wr.heap.size < ((wr.alloc (.cells #[.int .i64 p.bgn, .int .i64 p.com, .slice a0 p.reads.length q0, .slice a1 p.writes.length q1] 131))).heap.size := by simp
   go_wp2
   obtain ⟨gp, hgp⟩ : ∃ x, x = wr.heap.size := ⟨_, rfl⟩
   rw [<- hgp] at KP0 hzA
   rw [<- hgp]
   go_loopw [5, 6, 18] (fun bi bo jv wr => ∃ (l : Nat) (xi xo : Bool), l <= us.length /\ bi = .bool xi /\ bo = .bool xo /\ jv = .int .i64 l /\ Hid (xi = true ↔ inP us l k p) /\ Hid (xo = true ↔ outP us l k p) /\ Hid (Blk wr gp [.int .i64 p.bgn, .int .i64 p.com, .slice a0 p.reads.length q0, .slice a1 p.writes.length q1]) /\ gp < wr.heap.size /\ Below w.heap.size w wr) (fun _ _ jv _ => us.length - (intOf jv).toNat)
   case atStart => exact ⟨0, false, false, Nat.zero_le _, rfl, rfl, rfl, (⟨fun h => (by cases h), fun ⟨_, _, h, _⟩ => absurd h (Nat.not_lt_zero _)⟩ : false = true ↔ inP us 0 k p), (⟨fun h => (by cases h), fun ⟨_, _, h, _⟩ => absurd h (Nat.not_lt_zero _)⟩ : false = true ↔ outP us 0 k p), KP0, hzA, bwA⟩
   case round =>
    clear KP0 hzA bwA hbel hbs hgp c0 c1 c2 c3
    obtain ⟨l, xi, xo, hl, rfl, rfl, rfl, HI, HQ, KP, hzp, hbel2⟩ := hrel
    have hbs2 := hbel2.size
    by_cases hlt2 : l < us.length
    .have hlti2 : (l : Int) < us.length := by omega
     obtain ⟨ds, hD0, hcell2⟩ := hgc l hlt2
     have CTo : Hid (∀ {W : World}, Below w.heap.size w W -> CT 0 W ds us[l]) := hid (fun h => liesT.below hD0 h)
     have hD := hD0
     have hBu := HZ.out us[l] (List.getElem_mem hlt2)
     have HU : Hid (us[l]? = some us[l]) := List.getElem?_eq_getElem hlt2
     have hbel := hbel2
     clear hD0 hgc hva
     generalize hx : us[l] = u at *
     clear hx
     obtain ⟨xv0, xv1, rfl, xr0, xr1⟩ := hD
     obtain ⟨xa0, xq0, rfl, _⟩ := xr0
     obtain ⟨xa1, xq1, rfl, _⟩ := xr1
     have d0 : wr.cell? ⟨g, o + l * 4, none⟩ = some (.int .i64 u.bgn) := ct hbel hg (hcell2 0 (by omega))
     have d1 : wr.cell? ⟨g, o + l * 4 + 1, none⟩ = some (.int .i64 u.com) := ct hbel hg (hcell2 1 (by omega))
     have d2 : wr.cell? ⟨g, o + l * 4 + 2, none⟩ = some (.slice xa0 u.reads.length xq0) := ct hbel hg (hcell2 2 (by omega))
     have d3 : wr.cell? ⟨g, o + l * 4 + 3, none⟩ = some (.slice xa1 u.writes.length xq1) := ct hbel hg (hcell2 3 (by omega))
     clear hcell2 hbel
     by_cases hlk : l = k
     .have HI2 : Hid (xi = true ↔ inP us (l + 1) k p) := hid (by rw [in_skip hlk]; exact HI.out)
      have HO2 : Hid (xo = true ↔ outP us (l + 1) k p) := hid (by rw [out_skip hlk]; exact HQ.out)
      have KB := hid (KP.out.below (below_alloc wr (.cells #[.int .i64 u.bgn, .int .i64 u.com, .slice xa0 u.reads.length xq0, .slice xa1 u.writes.length xq1] 131)) hzp)
      have hzp2 : gp < (wr.alloc (.cells #[.int .i64 u.bgn, .int .i64 u.com, .slice xa0 u.reads.length xq0, .slice xa1 u.writes.length xq1] 131)).heap.size := by simp; omega
      have bwW : Below w.heap.size w (wr.alloc (.cells #[.int .i64 u.bgn, .int .i64 u.com, .slice xa0 u.reads.length xq0, .slice xa1 u.writes.length xq1] 131)) := hbel2.alloc hbs2 _
      clear HI HQ KP
      subst hlk
      go_wp2
      go_roundw
      case rel => exact ⟨l + 1, xi, xo, by omega, rfl, rfl, by go_num, HI2, HO2, KB, by omega, bwW⟩
      case measure => simp [intOf]; omega
     .have hki : ¬ (k : Int) = l := by omega
      rcases xi with _ | _ <;> rcases xo with _ | _
      .have HI1 : Hid (¬ inP us l k p) := hid (fun z => absurd (HI.out.2 z) (by simp))
       clear HI
       have HQ1 : Hid (¬ outP us l k p) := hid (fun z => absurd (HQ.out.2 z) (by simp))
       clear HQ
       have KB := hid (KP.out.below (below_alloc wr (.cells #[.int .i64 u.bgn, .int .i64 u.com, .slice xa0 u.reads.length xq0, .slice xa1 u.writes.length xq1] 131)) hzp)
       have KO := hid (blk_new wr [.int .i64 u.bgn, .int .i64 u.com, .slice xa0 u.reads.length xq0, .slice xa1 u.writes.length xq1] 131)
       have bwW : Below w.heap.size w (wr.alloc (.cells #[.int .i64 u.bgn, .int .i64 u.com, .slice xa0 u.reads.length xq0, .slice xa1 u.writes.length xq1] 131)) := hbel2.alloc hbs2 _
       have hzo : wr.heap.size < ((wr.alloc (.cells #[.int .i64 u.bgn, .int .i64 u.com, .slice xa0 u.reads.length xq0, .slice xa1 u.writes.length xq1] 131))).heap.size := by simp
       have hzp2 : gp < ((wr.alloc (.cells #[.int .i64 u.bgn, .int .i64 u.com, .slice xa0 u.reads.length xq0, .slice xa1 u.writes.length xq1] 131))).heap.size := by simp; omega
       obtain ⟨e0, e1, e2, e3⟩ := kc3 KB.out
       have hl1 := leads_spec u p [.int .i64 u.bgn, .int .i64 u.com, .slice xa0 u.reads.length xq0, .slice xa1 u.writes.length xq1] [.int .i64 p.bgn, .int .i64 p.com, .slice a0 p.reads.length q0, .slice a1 p.writes.length q1] (wr.alloc (.cells #[.int .i64 u.bgn, .int .i64 u.com, .slice xa0 u.reads.length xq0, .slice xa1 u.writes.length xq1] 131)) hBu hBp (CTo.out bwW) (CTp.out bwW)
       go_wp2_with (go_at_call 95; fail)
       refine hl1.mono ?_
       rintro e w1 ⟨⟨r1, rfl, hr1⟩, hb1⟩
       replace KB := hid (KB.out.below hb1 hzp2)
       replace KO := hid (KO.out.below hb1 hzo)
       replace bwW : Below w.heap.size w w1 := bwW.trans (hb1.mono bwW.size)
       replace hzo : wr.heap.size < w1.heap.size := Nat.lt_of_lt_of_le hzo hb1.size
       replace hzp2 : gp < w1.heap.size := Nat.lt_of_lt_of_le hzp2 hb1.size
       have HI2 : Hid (r1 = true ↔ inP us (l + 1) k p) := hid (by rw [in_step hlk HU.out, hr1]; exact ⟨.inr, fun h => h.elim (fun z => absurd z HI1.out) id⟩)
       clear hl1 hb1 hr1 HI1 e0 e1 e2 e3
       obtain ⟨e0, e1, e2, e3⟩ := kc3 KB.out
       obtain ⟨f0, f1, f2, f3⟩ := kc3 KO.out
       have hl2 := leads_spec p u [.int .i64 p.bgn, .int .i64 p.com, .slice a0 p.reads.length q0, .slice a1 p.writes.length q1] [.int .i64 u.bgn, .int .i64 u.com, .slice xa0 u.reads.length xq0, .slice xa1 u.writes.length xq1] w1 hBp hBu (CTp.out bwW) (CTo.out bwW)
       go_wp2_with (go_at_call 95; fail)
       refine hl2.mono ?_
       rintro e w2 ⟨⟨r2, rfl, hr2⟩, hb2⟩
       replace KB := hid (KB.out.below hb2 hzp2)
       replace bwW : Below w.heap.size w w2 := bwW.trans (hb2.mono bwW.size)
       replace hzp2 : gp < w2.heap.size := Nat.lt_of_lt_of_le hzp2 hb2.size
       have HO2 : Hid (r2 = true ↔ outP us (l + 1) k p) := hid (by rw [out_step hlk HU.out, hr2]; exact ⟨.inr, fun h => h.elim (fun z => absurd z HQ1.out) id⟩)
       clear hl2 hb2 hr2 HQ1
       go_wp2
       go_roundw
       case rel => exact ⟨l + 1, r1, r2, by omega, rfl, rfl, by go_num, HI2, HO2, KB, by omega, bwW⟩
       case measure => simp [intOf]; omega
      .have HI1 : Hid (¬ inP us l k p) := hid (fun z => absurd (HI.out.2 z) (by simp))
       clear HI
       have HQ1 : Hid (outP us l k p) := HQ.out.1 rfl
       clear HQ
       have KB := hid (KP.out.below (below_alloc wr (.cells #[.int .i64 u.bgn, .int .i64 u.com, .slice xa0 u.reads.length xq0, .slice xa1 u.writes.length xq1] 131)) hzp)
       have KO := hid (blk_new wr [.int .i64 u.bgn, .int .i64 u.com, .slice xa0 u.reads.length xq0, .slice xa1 u.writes.length xq1] 131)
       have bwW : Below w.heap.size w (wr.alloc (.cells #[.int .i64 u.bgn, .int .i64 u.com, .slice xa0 u.reads.length xq0, .slice xa1 u.writes.length xq1] 131)) := hbel2.alloc hbs2 _
       have hzo : wr.heap.size < ((wr.alloc (.cells #[.int .i64 u.bgn, .int .i64 u.com, .slice xa0 u.reads.length xq0, .slice xa1 u.writes.length xq1] 131))).heap.size := by simp
       have hzp2 : gp < ((wr.alloc (.cells #[.int .i64 u.bgn, .int .i64 u.com, .slice xa0 u.reads.length xq0, .slice xa1 u.writes.length xq1] 131))).heap.size := by simp; omega
       obtain ⟨e0, e1, e2, e3⟩ := kc3 KB.out
       have hl1 := leads_spec u p [.int .i64 u.bgn, .int .i64 u.com, .slice xa0 u.reads.length xq0, .slice xa1 u.writes.length xq1] [.int .i64 p.bgn, .int .i64 p.com, .slice a0 p.reads.length q0, .slice a1 p.writes.length q1] (wr.alloc (.cells #[.int .i64 u.bgn, .int .i64 u.com, .slice xa0 u.reads.length xq0, .slice xa1 u.writes.length xq1] 131)) hBu hBp (CTo.out bwW) (CTp.out bwW)
       go_wp2_with (go_at_call 95; fail)
       refine hl1.mono ?_
       rintro e w1 ⟨⟨r1, rfl, hr1⟩, hb1⟩
       replace KB := hid (KB.out.below hb1 hzp2)
       replace KO := hid (KO.out.below hb1 hzo)
       replace bwW : Below w.heap.size w w1 := bwW.trans (hb1.mono bwW.size)
       replace hzo : wr.heap.size < w1.heap.size := Nat.lt_of_lt_of_le hzo hb1.size
       replace hzp2 : gp < w1.heap.size := Nat.lt_of_lt_of_le hzp2 hb1.size
       have HI2 : Hid (r1 = true ↔ inP us (l + 1) k p) := hid (by rw [in_step hlk HU.out, hr1]; exact ⟨.inr, fun h => h.elim (fun z => absurd z HI1.out) id⟩)
       clear hl1 hb1 hr1 HI1 e0 e1 e2 e3
       have HO2 : Hid (outP us (l + 1) k p) := hid (by rw [out_step hlk HU.out]; exact .inl HQ1.out)
       clear HQ1
       go_wp2
       go_roundw
       case rel => exact ⟨l + 1, r1, true, by omega, rfl, rfl, by go_num, HI2, (⟨fun _ => HO2.out, fun _ => rfl⟩ : true = true ↔ outP us (l + 1) k p), KB, by omega, bwW⟩
       case measure => simp [intOf]; omega
      .have HI1 : Hid (inP us l k p) := HI.out.1 rfl
       clear HI
       have HQ1 : Hid (¬ outP us l k p) := hid (fun z => absurd (HQ.out.2 z) (by simp))
       clear HQ
       have KB := hid (KP.out.below (below_alloc wr (.cells #[.int .i64 u.bgn, .int .i64 u.com, .slice xa0 u.reads.length xq0, .slice xa1 u.writes.length xq1] 131)) hzp)
       have KO := hid (blk_new wr [.int .i64 u.bgn, .int .i64 u.com, .slice xa0 u.reads.length xq0, .slice xa1 u.writes.length xq1] 131)
       have bwW : Below w.heap.size w (wr.alloc (.cells #[.int .i64 u.bgn, .int .i64 u.com, .slice xa0 u.reads.length xq0, .slice xa1 u.writes.length xq1] 131)) := hbel2.alloc hbs2 _
       have hzo : wr.heap.size < ((wr.alloc (.cells #[.int .i64 u.bgn, .int .i64 u.com, .slice xa0 u.reads.length xq0, .slice xa1 u.writes.length xq1] 131))).heap.size := by simp
       have hzp2 : gp < ((wr.alloc (.cells #[.int .i64 u.bgn, .int .i64 u.com, .slice xa0 u.reads.length xq0, .slice xa1 u.writes.length xq1] 131))).heap.size := by simp; omega
       have HI2 : Hid (inP us (l + 1) k p) := hid (by rw [in_step hlk HU.out]; exact .inl HI1.out)
       clear HI1
       obtain ⟨e0, e1, e2, e3⟩ := kc3 KB.out
       have hl2 := leads_spec p u [.int .i64 p.bgn, .int .i64 p.com, .slice a0 p.reads.length q0, .slice a1 p.writes.length q1] [.int .i64 u.bgn, .int .i64 u.com, .slice xa0 u.reads.length xq0, .slice xa1 u.writes.length xq1] (wr.alloc (.cells #[.int .i64 u.bgn, .int .i64 u.com, .slice xa0 u.reads.length xq0, .slice xa1 u.writes.length xq1] 131)) hBp hBu (CTp.out bwW) (CTo.out bwW)
       go_wp2_with (go_at_call 95; fail)
       refine hl2.mono ?_
       rintro e w2 ⟨⟨r2, rfl, hr2⟩, hb2⟩
       replace KB := hid (KB.out.below hb2 hzp2)
       replace bwW : Below w.heap.size w w2 := bwW.trans (hb2.mono bwW.size)
       replace hzp2 : gp < w2.heap.size := Nat.lt_of_lt_of_le hzp2 hb2.size
       have HO2 : Hid (r2 = true ↔ outP us (l + 1) k p) := hid (by rw [out_step hlk HU.out, hr2]; exact ⟨.inr, fun h => h.elim (fun z => absurd z HQ1.out) id⟩)
       clear hl2 hb2 hr2 HQ1
       go_wp2
       go_roundw
       case rel => exact ⟨l + 1, true, r2, by omega, rfl, rfl, by go_num, (⟨fun _ => HI2.out, fun _ => rfl⟩ : true = true ↔ inP us (l + 1) k p), HO2, KB, by omega, bwW⟩
       case measure => simp [intOf]; omega
      .have HI1 : Hid (inP us l k p) := HI.out.1 rfl
       clear HI
       have HQ1 : Hid (outP us l k p) := HQ.out.1 rfl
       clear HQ
       have KB := hid (KP.out.below (below_alloc wr (.cells #[.int .i64 u.bgn, .int .i64 u.com, .slice xa0 u.reads.length xq0, .slice xa1 u.writes.length xq1] 131)) hzp)
       have KO := hid (blk_new wr [.int .i64 u.bgn, .int .i64 u.com, .slice xa0 u.reads.length xq0, .slice xa1 u.writes.length xq1] 131)
       have bwW : Below w.heap.size w (wr.alloc (.cells #[.int .i64 u.bgn, .int .i64 u.com, .slice xa0 u.reads.length xq0, .slice xa1 u.writes.length xq1] 131)) := hbel2.alloc hbs2 _
       have hzo : wr.heap.size < ((wr.alloc (.cells #[.int .i64 u.bgn, .int .i64 u.com, .slice xa0 u.reads.length xq0, .slice xa1 u.writes.length xq1] 131))).heap.size := by simp
       have hzp2 : gp < ((wr.alloc (.cells #[.int .i64 u.bgn, .int .i64 u.com, .slice xa0 u.reads.length xq0, .slice xa1 u.writes.length xq1] 131))).heap.size := by simp; omega
       have HI2 : Hid (inP us (l + 1) k p) := hid (by rw [in_step hlk HU.out]; exact .inl HI1.out)
       clear HI1
       have HO2 : Hid (outP us (l + 1) k p) := hid (by rw [out_step hlk HU.out]; exact .inl HQ1.out)
       clear HQ1
       go_wp2
       go_roundw
       case rel => exact ⟨l + 1, true, true, by omega, rfl, rfl, by go_num, (⟨fun _ => HI2.out, fun _ => rfl⟩ : true = true ↔ inP us (l + 1) k p), (⟨fun _ => HO2.out, fun _ => rfl⟩ : true = true ↔ outP us (l + 1) k p), KB, by omega, bwW⟩
       case measure => simp [intOf]; omega
    .have hln : l = us.length := by omega
     subst hln
     have hlti2 : ¬ (us.length : Int) < us.length := by omega
     rcases xi with _ | _
     .have HV := hid (HST.out (fun ⟨p', h1, h2, h3⟩ => by have := HD.out.symm.trans h1; cases this; exact absurd (HI.out.2 h2) (by simp)))
      clear HI HQ KP HST HYes
      go_wp2
      go_roundw
      case rel => exact ⟨k + 1, by omega, by go_num, HV, hbel2⟩
      case measure => simp [intOf]; omega
     .rcases xo with _ | _
      .have HV := hid (HST.out (fun ⟨p', h1, h2, h3⟩ => by have := HD.out.symm.trans h1; cases this; exact absurd (HQ.out.2 h3) (by simp)))
       clear HI HQ KP HST HYes
       go_wp2
       go_roundw
       case rel => exact ⟨k + 1, by omega, by go_num, HV, hbel2⟩
       case measure => simp [intOf]; omega
      .have HT := hid (HYes.out ⟨p, HD.out, HI.out.1 rfl, HQ.out.1 rfl⟩)
       clear HI HQ KP HST HYes
       go_wp2
       go_ret
       exact ⟨rb_t HT.out, hbel2⟩
  .have hkn : k = us.length := by omega
   subst hkn
   have hlti : ¬ (us.length : Int) < us.length := by omega
   have HF : Hid (¬ dangP us) := hid (fun ⟨i, h1, h2⟩ => HO.out i h1 h2)
   clear HO
   go_wp2
   go_ret
   exact ⟨rb_f HF.out, hbel⟩
theorem info131 : (Tryz.prog.info? 131).map (fun i => (i.zero, i.size, i.bytes)) = some (some (.agg #[.int .i64 0, .int .i64 0, .slice none 0 0, .slice none 0 0]), 4, 64) := by kernel_rfl
theorem own_bs {w : World} {b b' e k n : Nat} {v : Value} {xs : List Value} (h : w.ownsRow b e k v n xs) (hb : b' <= b) : w.ownsRow b' e k v n xs := by
 obtain ⟨h1, h2⟩ := h
 refine ⟨h1, ?_⟩
 rcases h2 with h2 | ⟨g, cap, cur, rfl, hg1, hg2⟩
 .exact .inl h2
 .exact .inr ⟨g, cap, cur, rfl, Nat.le_trans hb hg1, hg2⟩
theorem oneT : ∀ {B : Nat} {w : World} {cs : List Value} {x : TI}, CT B w cs x -> ∀ u ∈ cs, u.oneCell' = true := fun h u hu => by
 obtain ⟨v0, v1, rfl, r0, r1⟩ := h
 obtain ⟨a0, q0, rfl, _⟩ := r0
 obtain ⟨a1, q1, rfl, _⟩ := r1
 simp at hu
 rcases hu with rfl | rfl | rfl | rfl <;> rfl
theorem KTB {w w1 : World} {A E : Obj} {cs : List Value} {t : Nat} {row : Option Nat} (h : (((w.alloc A).alloc E).alloc (.cells cs.toArray t)).drew.grownBy w1 row) (hr : some (w.heap.size + 1 + 1) ≠ row) : Blk w1 (w.heap.size + 1 + 1) cs := by
 have := blk_new ((w.alloc A).alloc E) cs t
 rw [show ((w.alloc A).alloc E).heap.size = w.heap.size + 1 + 1 by simp] at this
 exact (this.below (Below.refl _ _).drew (by simp)).grown h (by simp) hr
theorem KTC {w w1 : World} {A E : Obj} {cs : List Value} {t : Nat} {row : Option Nat} (h : (((w.alloc A).alloc (.cells cs.toArray t)).alloc E).drew.grownBy w1 row) (hr : some (w.heap.size + 1) ≠ row) : Blk w1 (w.heap.size + 1) cs := by
 have := blk_new (w.alloc A) cs t
 rw [show (w.alloc A).heap.size = w.heap.size + 1 by simp] at this
 exact (this.below (below_alloc _ E).drew (by simp)).grown h (by simp) hr
def CertR (us : List TI) (e : Ending) : Prop := (¬ histP us /\ e = .returned (.int .i64 1)) \/ (histP us /\ dangP us /\ e = .returned (.int .i64 21)) \/ (histP us /\ ¬ dangP us /\ e = .returned (.int .i64 0))
theorem step_append_rs0 {P : Program} {α : Type} {C : Nat -> World -> List Value -> α -> Prop} {size : Nat} (hC : Lies size C) (h1C : ∀ {B w cs x}, C B w cs x -> ∀ u ∈ cs, u.oneCell' = true) {ops : Array Oper} {o : Oper} {a : Act} {w : World} {K : Act -> World -> Prop} {Q : Exit -> Act -> World -> Prop} {E : Prop}
 (hg : o.guard = none) (s x : Operand) (t : TypeId) (hop : o.op = Op.call { callee := Callee.builtin Builtin.append, args := #[s, x], argTypes := #[t, t] })
 (base : Nat) (e : TypeId) (i : TypeInfo) (z : Value) (bytes : Nat) (ht : P.underlying t = some (.slice e)) (hi : P.info? e = some i) (hz : i.zero = some z) (hsize : i.size = size) (hby : i.bytes = bytes) (hzs : z.cells.size = size) (hsz : 0 < size)
 (v : Value) (n : Nat) (xs : List Value) (hs : a.eval s = v) (hown : w.ownsRow base e size v n xs) (ad : Option Addr) (c : Nat) (us : List α) (m : Nat) (hm : us.length = m) (hx : a.eval x = .slice ad m c) (w0 : World) (hrs : RS size C 0 w0 (.slice ad us.length c) us) (hb0 : Below w0.heap.size w0 w) (h63 : n + us.length <= maxLen) (hb : (n + us.length) * bytes <= 140737488355328) (hbase : base <= w.heap.size)
 (hK : ∀ news v' w', Fill size C 0 us us.length news w0 -> w'.ownsRow base e size v' (n + us.length) (xs ++ news) -> w.grownBy w' v.ownBlock -> (v'.ownBlock = v.ownBlock \/ v'.ownBlock = some w.heap.size) -> (v' = .slice none 0 0 ↔ v = .slice none 0 0 /\ us.length = 0) -> K (a.put o.dst v') w') :
 if Region.wanted o (yielded ops a.tmps) = true then Oper.wp P o a w K Q else E := by
 rcases Nat.eq_zero_or_pos us.length with h0 | hp
 .refine step_append_rs hC h1C hg s x t hop base e i z bytes ht hi hz hsize hby hzs hsz v n xs hs hown ad c us m hm hx (hrs.below hC hb0) h63 hb hbase (fun news v' w' hf h1 h2 h3 h4 => hK news v' w' ?_ h1 h2 h3 h4)
  exact ⟨hf.1, fun j hj => absurd hj (by omega)⟩
 .subst hm
  have hw : Region.wanted o (yielded ops a.tmps) = true := by simp [Region.wanted, hg]
  rw [if_pos hw]
  obtain ⟨g, of, rfl, hgl⟩ : ∃ g o, ad = some ⟨g, o, none⟩ /\ g < w0.heap.size := by
   obtain ⟨a', c', he, hh⟩ := hrs
   obtain ⟨g, o, e2, _, h2, _⟩ := hh hp
   simp only [Value.slice.injEq] at he
   exact ⟨g, o, he.1.trans e2, h2⟩
  obtain ⟨news, hf, hcells⟩ := RS.flat hC hrs
  obtain ⟨v', w', hrun, r1, r2, r3, r4⟩ := run_append_own_at (P := P) w base t o.type e i z size bytes ht hi hz hsize hby hzs hsz v n xs hown ⟨g, of, none⟩ us.length c news hf.1 (fun j u hj => by rw [Addr.add_lit]; exact (hb0.cell (p := ⟨g, of + j, none⟩) hgl).trans (hcells j u hj)) (hf.one h1C hC) h63 hb hbase
  unfold Oper.wp
  simp [execOp, hop, resolve, invoke, builtin, hs, hx, hrun, Result.andThen]
  exact hK news v' w' hf r1 r2 r4 r3
theorem certify_any (a : Option Addr) (ca : Nat) (us : List TI) (t : TI) (cs : List Value) (w : World) (hb : BH 1048576 us) (ht : BT 1048576 t) (ha : RS 4 CT 0 w (.slice a us.length ca) us) (hC : CT 0 w cs t) :
 Calls Tryz.prog 61 #[.slice a us.length ca, .agg cs.toArray] w fun e w' => CertR (us ++ [t]) e /\ Below w.heap.size w w' := by
 have HCT := hid hC
 obtain ⟨v0, v1, rfl, r0, r1⟩ := hC
 obtain ⟨a0, q0, rfl, _⟩ := r0
 obtain ⟨a1, q1, rfl, _⟩ := r1
 have hn := hb.1
 by_cases hbig : (1000 : Int) <= us.length
 .have HF : Hid (CertR (us ++ [t]) (.returned (.int .i64 1))) := .inl ⟨fun h => by have := h.1; rw [List.length_append] at this; simp at this; omega, rfl⟩
  clear ha hb ht
  go_enter Tryz.func61, Tryz.ntmps61
  go_wp2
  go_ret
  exact ⟨HF.out, below_alloc _ _⟩
 obtain ⟨i0, hi, hz0, hz1, hz2⟩ := info_parts info131
 have HRA := hid ha
 have HOC : Hid (∀ u ∈ ([.int .i64 t.bgn, .int .i64 t.com, .slice a0 t.reads.length q0, .slice a1 t.writes.length q1] : List Value), u.oneCell' = true) := oneT HCT.out
 obtain ⟨al, hal⟩ : ∃ al : List TI, al = us ++ [t] := ⟨_, rfl⟩
 have HAL : Hid (al.length = us.length + 1) := hid (by rw [hal]; simp)
 have HBA : Hid (BH 1048576 al) := hid (by
  rw [hal]
  refine ⟨by rw [List.length_append]; simp; omega, fun x hx => ?_⟩
  rcases List.mem_append.1 hx with h | h
  .exact hb.2 x h
  .rw [List.mem_singleton] at h; rw [h]; exact ht)
 have HRS0 : Hid (∀ W v n xs news, Below w.heap.size w W -> Fill 4 CT 0 us us.length news w -> n = us.length + 1 -> xs = news ++ [.int .i64 t.bgn, .int .i64 t.com, .slice a0 t.reads.length q0, .slice a1 t.writes.length q1] -> W.ownsRow w.heap.size 131 4 v n xs -> RS 4 CT 0 W v al) := hid (fun W v n xs news hW hfi hn' hx ho => by
  subst hn' hx
  have F := (hfi.below liesT hW).append (fill_one liesT (liesT.below HCT.out hW))
  rw [hal]
  exact F.own liesT (own_bs (by simpa using ho) (Nat.zero_le _)) (Nat.le_refl _))
 rw [<- hal]
 clear hal ha hb
 have OA : Hid ((((w.alloc (.cells #[.int .i64 t.bgn, .int .i64 t.com, .slice a0 t.reads.length q0, .slice a1 t.writes.length q1] 131)).alloc (.cells #[] 131)).drew).ownsRow w.heap.size 131 4 (.slice (some ⟨w.heap.size + 1, 0, none⟩) 0 0) 0 []) := hid (by
  have := World.ownsRow_made (base := w.heap.size) (e := 131) (size := 4) (w.alloc (.cells #[.int .i64 t.bgn, .int .i64 t.com, .slice a0 t.reads.length q0, .slice a1 t.writes.length q1] 131)) #[] 0 (by simp) (by unfold maxLen; omega) (by simp)
  simpa using this.drew)
 have OB : Hid (((((w.alloc (.cells #[.int .i64 t.bgn, .int .i64 t.com, .slice a0 t.reads.length q0, .slice a1 t.writes.length q1] 131)).alloc (.cells #[] 131)).alloc (.cells #[.int .i64 t.bgn, .int .i64 t.com, .slice a0 t.reads.length q0, .slice a1 t.writes.length q1] 131)).drew).ownsRow w.heap.size 131 4 (.slice (some ⟨w.heap.size + 1, 0, none⟩) 0 0) 0 []) := hid (by
  have := (World.ownsRow_made (base := w.heap.size) (e := 131) (size := 4) (w.alloc (.cells #[.int .i64 t.bgn, .int .i64 t.com, .slice a0 t.reads.length q0, .slice a1 t.writes.length q1] 131)) #[] 0 (by simp) (by unfold maxLen; omega) (by simp)).alloc (.cells #[.int .i64 t.bgn, .int .i64 t.com, .slice a0 t.reads.length q0, .slice a1 t.writes.length q1] 131)
  simpa using this.drew)
 have OC : Hid (((((w.alloc (.cells #[.int .i64 t.bgn, .int .i64 t.com, .slice a0 t.reads.length q0, .slice a1 t.writes.length q1] 131)).alloc (.cells #[.int .i64 t.bgn, .int .i64 t.com, .slice a0 t.reads.length q0, .slice a1 t.writes.length q1] 131)).alloc (.cells #[] 131)).drew).ownsRow w.heap.size 131 4 (.slice (some ⟨w.heap.size + 1 + 1, 0, none⟩) 0 0) 0 []) := hid (by
  have := World.ownsRow_made (base := w.heap.size) (e := 131) (size := 4) ((w.alloc (.cells #[.int .i64 t.bgn, .int .i64 t.com, .slice a0 t.reads.length q0, .slice a1 t.writes.length q1] 131)).alloc (.cells #[.int .i64 t.bgn, .int .i64 t.com, .slice a0 t.reads.length q0, .slice a1 t.writes.length q1] 131)) #[] 0 (by simp; omega) (by unfold maxLen; omega) (by simp)
  simpa using this.drew)
 go_enter Tryz.func61, Tryz.ntmps61
 go_wp2
 go_region_law (first
  | (refine step_append_rs0 liesT oneT rfl (.tmp 9) (.tmp 10) 25 rfl w.heap.size 131 i0 _ 64 Tryz.underlying25 hi hz0 hz1 hz2 rfl (by decide) (.slice (some ⟨_, 0, none⟩) 0 0) 0 [] rfl ?_ a ca us us.length rfl rfl w HRA.out ?_ ?_ ?_ ?_ ?_
     .first | (with_reducible first | exact OA.out | exact OB.out | exact OC.out)
     .exact bl
     .unfold maxLen; omega
     .omega
     .first | (simp; done) | (simp; omega) | omega
     intro news v1 w1 hfi1 hown1 hgrow1 _ _
     have bw1 : Below w.heap.size w w1 := by
      refine Below.grown ?_ hgrow1 ?_ ?_
      .exact bl
      .first | (simp; done) | (simp; omega) | omega
      .intro k hk; simp [Value.ownBlock] at hk; first | omega | (subst hk; omega)
     have K1 : Hid (Blk w1 w.heap.size [.int .i64 t.bgn, .int .i64 t.com, .slice a0 t.reads.length q0, .slice a1 t.writes.length q1]) := by
      refine Blk.grown (Blk.below (blk_new w [.int .i64 t.bgn, .int .i64 t.com, .slice a0 t.reads.length q0, .slice a1 t.writes.length q1] 131) ?_ (by simp)) hgrow1 ?_ ?_
      .exact bl
      .first | (simp; done) | (simp; omega) | omega
      .first | (simp [Value.ownBlock]; done) | (simp [Value.ownBlock]; omega)
     obtain ⟨o0, o1, o2, o3⟩ := kc3 K1.out
     have KN : Hid (∀ j u, ([.int .i64 t.bgn, .int .i64 t.com, .slice a0 t.reads.length q0, .slice a1 t.writes.length q1] : List Value)[j]? = some u -> (w1.alloc (.cells #[.int .i64 t.bgn, .int .i64 t.com, .slice a0 t.reads.length q0, .slice a1 t.writes.length q1] 131)).cell? ((⟨w1.heap.size, 0, none⟩ : Addr).add j) = some u) := (blk_new w1 [.int .i64 t.bgn, .int .i64 t.com, .slice a0 t.reads.length q0, .slice a1 t.writes.length q1] 131).cells
     first
      | have KT := hid (Blk.cells (KTB (cs := [.int .i64 t.bgn, .int .i64 t.com, .slice a0 t.reads.length q0, .slice a1 t.writes.length q1]) hgrow1 (by first | (simp [Value.ownBlock]; done) | (simp [Value.ownBlock]; omega))))
      | have KT := hid (Blk.cells (KTC (cs := [.int .i64 t.bgn, .int .i64 t.com, .slice a0 t.reads.length q0, .slice a1 t.writes.length q1]) hgrow1 (by first | (simp [Value.ownBlock]; done) | (simp [Value.ownBlock]; omega))))
      | skip
     have HFW : Hid (Fill 4 CT 0 us us.length news w) := hfi1
     clear hgrow1 K1 hfi1)
  | (refine step_append_own rfl (.tmp 11) (.tmp 13) 25 rfl w.heap.size 131 i0 _ 4 64 Tryz.underlying25 hi hz0 hz1 hz2 rfl (by decide) v1 (0 + us.length) ([] ++ news) rfl ?_ ⟨_, 0, none⟩ 1 1 [.int .i64 t.bgn, .int .i64 t.com, .slice a0 t.reads.length q0, .slice a1 t.writes.length q1] rfl rfl ?_ HOC.out ?_ ?_ ?_ ?_
     .first | with_reducible exact hown1 | with_reducible exact hown1.alloc _
     .first | with_reducible exact KN.out | with_reducible exact KT.out
     .unfold maxLen; omega
     .omega
     .have := bw1.size; first | (simp; done) | (simp; omega) | omega
     intro v2 w2 hown2 hgrow2 _
     have bw2 : Below w.heap.size w w2 := by
      refine Below.grown ?_ hgrow2 ?_ ?_
      .first | with_reducible exact bw1 | with_reducible exact bw1.alloc bw1.size _
      .have := bw1.size; first | (simp; done) | (simp; omega) | omega
      .intro k hk; exact (hown1.lt k hk).1
     have HR := hid (HRS0.out w2 v2 _ _ news bw2 HFW.out (by omega) (by simp) hown2)
     clear hown1 hown2 hgrow2 o0 o1 o2 o3 KN
     obtain ⟨a2, c2, hv2, _⟩ := id HR.out
     subst hv2))
 all_goals
  clear OA OB OC HRS0
  have hh := history_spec a2 c2 al w2 HBA.out HR.out
  go_wp2_with (go_at_call 79; fail)
  refine hh.mono ?_
  rintro e w3 ⟨⟨r, rfl, hr⟩, hb3⟩
  have bw3 : Below w.heap.size w w3 := bw2.trans (hb3.mono bw2.size)
  have hd := danger_spec a2 c2 al w3 HBA.out (HR.out.below liesT hb3)
  clear hh hb3
  rcases r with _ | _
  .have HF : Hid (CertR al (.returned (.int .i64 1))) := .inl ⟨fun h => (by simpa using hr.2 h), rfl⟩
   clear hr hd
   go_wp2
   go_ret
   exact ⟨HF.out, bw3⟩
  .have HH := hid (hr.1 rfl)
   clear hr
   go_wp2_with (go_at_call 80; fail)
   refine hd.mono ?_
   rintro e w4 ⟨⟨r, rfl, hr⟩, hb4⟩
   have bw4 : Below w.heap.size w w4 := bw3.trans (hb4.mono bw3.size)
   clear hd hb4
   rcases r with _ | _
   .have HF : Hid (CertR al (.returned (.int .i64 0))) := .inr (.inr ⟨HH.out, fun h => (by simpa using hr.2 h), rfl⟩)
    clear hr
    go_wp2
    go_ret
    exact ⟨HF.out, bw4⟩
   .have HF : Hid (CertR al (.returned (.int .i64 21))) := .inr (.inl ⟨HH.out, hr.1 rfl, rfl⟩)
    clear hr
    go_wp2
    go_ret
    exact ⟨HF.out, bw4⟩
def tag (w : World) (g ty : Nat) : Prop := ∃ cur fz, w.heap[g]? = some (.cells cur ty fz)
theorem tag_ne {w : World} {g h s t : Nat} (hg : tag w g s) (hh : tag w h t) (hst : s ≠ t) : g ≠ h := fun e => by
 subst e
 obtain ⟨c, f, h1⟩ := hg
 obtain ⟨d, k, h2⟩ := hh
 rw [h1] at h2
 cases h2
 exact hst rfl
def Im (ty : Nat) : Prop := ty ≠ 65 /\ ty ≠ 70 /\ ty ≠ 140 /\ ty ≠ 131 /\ ty ≠ 4
def Keep (w w' : World) : Prop := w.heap.size <= w'.heap.size /\ ∀ g ty, Im ty -> tag w g ty -> w'.heap[g]? = w.heap[g]?
theorem Keep.tagk {w w' : World} (h : Keep w w') {g ty : Nat} (hi : Im ty) (ht : tag w g ty) : tag w' g ty := by
 obtain ⟨c, f, e⟩ := ht
 exact ⟨c, f, by rw [h.2 g ty hi ⟨c, f, e⟩]; exact e⟩
theorem Keep.trans {w w' w'' : World} (h : Keep w w') (g : Keep w' w'') : Keep w w'' := ⟨Nat.le_trans h.1 g.1, fun a ty hi ht => (g.2 a ty hi (h.tagk hi ht)).trans (h.2 a ty hi ht)⟩
theorem tag_lt {w : World} {g ty : Nat} (h : tag w g ty) : g < w.heap.size := by
 obtain ⟨c, f, e⟩ := h
 exact (Array.getElem?_eq_some_iff.1 e).1
theorem Keep.of_below {w w' : World} (h : Below w.heap.size w w') : Keep w w' := ⟨h.size, fun g ty _ ht => h.block g (tag_lt ht)⟩
theorem tag_below {w w' : World} {g ty : Nat} (h : tag w g ty) (hb : Below w.heap.size w w') : tag w' g ty := by
 have hl := tag_lt h
 obtain ⟨c, f, e⟩ := h
 exact ⟨c, f, by rw [hb.block g hl]; exact e⟩
theorem tag_set {w : World} {c j g ty : Nat} (u : Value) (h : tag w g ty) : tag (w.setCell ⟨c, j, none⟩ u) g ty := by
 obtain ⟨cur, fz, e⟩ := h
 by_cases hc : g = c
 .subst hc
  rw [setCell_eq_setRow w g j cur ty fz u e]
  exact ⟨_, _, setRow_heap w g cur _ ty fz e⟩
 .exact ⟨cur, fz, by rw [heap_setCell_other w _ g u hc]; exact e⟩
theorem own_tag {w : World} {b e k n g : Nat} {v : Value} {xs : List Value} (h : w.ownsRow b e k v n xs) (hg : v.ownBlock = some g) : tag w g e := by
 obtain ⟨_, h2⟩ := h
 rcases h2 with ⟨rfl, _⟩ | ⟨q, cap, cur, rfl, _, hq, _⟩
 .simp [Value.ownBlock] at hg
 .simp [Value.ownBlock] at hg
  subst hg
  exact ⟨_, _, hq⟩
def TL {α : Type} (ty k : Nat) (C : Nat -> World -> List Value -> α -> Prop) (w : World) (v : Value) (xs : List α) : Prop := RS k C 0 w v xs /\ ∀ g o n c, v = .slice (some ⟨g, o, none⟩) n c -> 0 < xs.length -> tag w g ty
theorem TL.keep {α : Type} {ty k : Nat} {C : Nat -> World -> List Value -> α -> Prop} {w w' : World} {v : Value} {xs : List α} (h : TL ty k C w v xs) (hi : Im ty) (hk : Keep w w') (hC : ∀ {cs x}, C 0 w cs x -> C 0 w' cs x) : TL ty k C w' v xs := by
 obtain ⟨⟨a, c, he, hh⟩, ht⟩ := h
 refine ⟨⟨a, c, he, fun hp => ?_⟩, fun g o n c' hv hp => hk.tagk hi (ht g o n c' hv hp)⟩
 obtain ⟨g, o, e2, h1, h2, h3⟩ := hh hp
 have hb := hk.2 g ty hi (ht g o _ _ (by rw [he, e2]) hp)
 refine ⟨g, o, e2, h1, Nat.lt_of_lt_of_le h2 hk.1, fun i hi2 => ?_⟩
 obtain ⟨cs, x, y⟩ := h3 i hi2
 exact ⟨cs, hC x, fun j hj => by rw [<- y j hj]; exact World.cell?_of_block hb⟩
theorem TL.nil {α : Type} (ty k : Nat) (C : Nat -> World -> List Value -> α -> Prop) (w : World) : TL ty k C w (.slice none 0 0) ([] : List α) := ⟨⟨none, 0, rfl, fun h => absurd h (by simp)⟩, fun g o n c h => by cases h⟩
def XT (w : World) (g : Nat) (tv : List (List Value)) : Prop := (∀ l ∈ tv, l.length = 6) /\ Blk w g tv.flatten
theorem flat6_len : ∀ {tv : List (List Value)}, (∀ l ∈ tv, l.length = 6) -> tv.flatten.length = tv.length * 6
 | [], _ => rfl
 | l :: r, h => by
   rw [List.flatten_cons, List.length_append, flat6_len (fun x hx => h x (List.mem_cons_of_mem _ hx)), h l List.mem_cons_self, List.length_cons]
   omega
theorem flat6_get : ∀ {tv : List (List Value)} {i j : Nat}, (∀ l ∈ tv, l.length = 6) -> (hi : i < tv.length) -> j < 6 -> tv.flatten[i * 6 + j]? = tv[i][j]?
 | l :: r, 0, j, h, hi, hj => by
   have := h l List.mem_cons_self
   rw [List.flatten_cons, List.getElem?_append_left (by omega)]
   simp
 | l :: r, i + 1, j, h, hi, hj => by
   have h1 := h l List.mem_cons_self
   rw [List.flatten_cons, List.getElem?_append_right (by omega), h1, show (i + 1) * 6 + j - 6 = i * 6 + j by omega, flat6_get (fun x hx => h x (List.mem_cons_of_mem _ hx)) (by simpa using hi) hj]
   simp
theorem flat6_set : ∀ {tv : List (List Value)} {i j : Nat} {u : Value}, (∀ l ∈ tv, l.length = 6) -> (hi : i < tv.length) -> j < 6 -> tv.flatten.set (i * 6 + j) u = (tv.set i (tv[i].set j u)).flatten
 | l :: r, 0, j, u, h, hi, hj => by
   have := h l List.mem_cons_self
   rw [List.flatten_cons, List.set_append_left _ _ (by omega)]
   simp
 | l :: r, i + 1, j, u, h, hi, hj => by
   have h1 := h l List.mem_cons_self
   rw [List.flatten_cons, List.set_append_right _ _ (by omega), h1, show (i + 1) * 6 + j - 6 = i * 6 + j by omega, flat6_set (fun x hx => h x (List.mem_cons_of_mem _ hx)) (by simpa using hi) hj]
   simp
theorem XT.at {w : World} {g : Nat} {tv : List (List Value)} (h : XT w g tv) {i j : Nat} (hi : i < tv.length) (hj : j < 6) : w.cell? ⟨g, i * 6 + j, none⟩ = tv[i][j]? /\ w.frozen? ⟨g, i * 6 + j, none⟩ = false := by
 have hl : i * 6 + j < tv.flatten.length := by rw [flat6_len h.1]; omega
 have := h.2 _ hl
 rw [flat6_get h.1 hi hj] at this
 exact this
theorem XT.set {w : World} {g : Nat} {tv : List (List Value)} (h : XT w g tv) {i j : Nat} (hi : i < tv.length) (hj : j < 6) (u : Value) : XT (w.setCell ⟨g, i * 6 + j, none⟩ u) g (tv.set i (tv[i].set j u)) := by
 have hl : i * 6 + j < tv.flatten.length := by rw [flat6_len h.1]; omega
 refine ⟨fun l hl2 => ?_, ?_⟩
 .rcases List.mem_or_eq_of_mem_set hl2 with h1 | h1
  .exact h.1 l h1
  .rw [h1, List.length_set]; exact h.1 _ (List.getElem_mem hi)
 .rw [<- flat6_set h.1 hi hj]
  exact h.2.set _ u hl
theorem XT.below {w w' : World} {g : Nat} {tv : List (List Value)} (h : XT w g tv) (hb : Below w.heap.size w w') (hl : g < w.heap.size) : XT w' g tv := ⟨h.1, h.2.below hb hl⟩
def Chg (T : Nat -> Prop) (w w' : World) : Prop := w.heap.size <= w'.heap.size /\ ∀ g ty, ¬ T ty -> tag w g ty -> w'.heap[g]? = w.heap[g]?
theorem Chg.tagk {T : Nat -> Prop} {w w' : World} (h : Chg T w w') {g ty : Nat} (hi : ¬ T ty) (ht : tag w g ty) : tag w' g ty := by
 obtain ⟨c, f, e⟩ := ht
 exact ⟨c, f, by rw [h.2 g ty hi ⟨c, f, e⟩]; exact e⟩
theorem Chg.trans {T : Nat -> Prop} {w w' w'' : World} (h : Chg T w w') (g : Chg T w' w'') : Chg T w w'' := ⟨Nat.le_trans h.1 g.1, fun a ty hi ht => (g.2 a ty hi (h.tagk hi ht)).trans (h.2 a ty hi ht)⟩
theorem Chg.mono {T U : Nat -> Prop} {w w' : World} (h : Chg T w w') (hu : ∀ ty, T ty -> U ty) : Chg U w w' := ⟨h.1, fun g ty hn ht => h.2 g ty (fun z => hn (hu ty z)) ht⟩
theorem Chg.of_below (T : Nat -> Prop) {w w' : World} (h : Below w.heap.size w w') : Chg T w w' := ⟨h.size, fun g ty _ ht => h.block g (tag_lt ht)⟩
theorem Chg.grown {T : Nat -> Prop} {w w' : World} {row : Option Nat} (h : w.grownBy w' row) (hr : ∀ g, row = some g -> ∃ ty, T ty /\ tag w g ty) : Chg T w w' := ⟨h.size, fun g ty hi ht => h.block g (tag_lt ht) (fun e => by
 obtain ⟨t, hn, ht2⟩ := hr g e.symm
 by_cases hc : ty = t
 .exact hi (hc ▸ hn)
 .exact tag_ne ht ht2 hc rfl)⟩
theorem Chg.set {T : Nat -> Prop} {w : World} {c j ty : Nat} (u : Value) (hn : T ty) (ht : tag w c ty) : Chg T w (w.setCell ⟨c, j, none⟩ u) := ⟨by simp, fun g t hi hg => heap_setCell_other w _ g u (fun e => by
 have e2 : g = c := e
 subst e2
 by_cases hc : t = ty
 .exact hi (hc ▸ hn)
 .exact tag_ne hg ht hc rfl)⟩
theorem Chg.keep {T : Nat -> Prop} {w w' : World} (h : Chg T w w') (hT : ∀ ty, T ty -> ¬ Im ty) : Keep w w' := ⟨h.1, fun g ty hi ht => h.2 g ty (fun z => hT ty z hi) ht⟩
theorem TL.chg {α : Type} {ty k : Nat} {C : Nat -> World -> List Value -> α -> Prop} {T : Nat -> Prop} {w w' : World} {v : Value} {xs : List α} (h : TL ty k C w v xs) (hi : ¬ T ty) (hk : Chg T w w') (hC : ∀ {cs x}, C 0 w cs x -> C 0 w' cs x) : TL ty k C w' v xs := by
 obtain ⟨⟨a, c, he, hh⟩, ht⟩ := h
 refine ⟨⟨a, c, he, fun hp => ?_⟩, fun g o n c' hv hp => hk.tagk hi (ht g o n c' hv hp)⟩
 obtain ⟨g, o, e2, h1, h2, h3⟩ := hh hp
 have hb := hk.2 g ty hi (ht g o _ _ (by rw [he, e2]) hp)
 refine ⟨g, o, e2, h1, Nat.lt_of_lt_of_le h2 hk.1, fun i hi2 => ?_⟩
 obtain ⟨cs, x, y⟩ := h3 i hi2
 exact ⟨cs, hC x, fun j hj => by rw [<- y j hj]; exact World.cell?_of_block hb⟩
theorem Blk.chg {T : Nat -> Prop} {w w' : World} {b ty : Nat} {cs : List Value} (h : Blk w b cs) (hk : Chg T w w') (hi : ¬ T ty) (ht : tag w b ty) : Blk w' b cs := fun j hj => by
 have hb : w'.heap[(⟨b, j, none⟩ : Addr).block]? = w.heap[(⟨b, j, none⟩ : Addr).block]? := hk.2 b ty hi ht
 exact ⟨(World.cell?_of_block hb).trans (h j hj).1, (World.frozen?_of_block hb).trans (h j hj).2⟩
theorem own_chg {T : Nat -> Prop} {w w' : World} {b e k n : Nat} {v : Value} {xs : List Value} (h : w.ownsRow b e k v n xs) (hk : Chg T w w') (hi : ¬ T e) : w'.ownsRow b e k v n xs := by
 have ht := fun g => own_tag h (g := g)
 obtain ⟨h1, h2⟩ := h
 refine ⟨h1, ?_⟩
 rcases h2 with h2 | ⟨g, cap, cur, rfl, hg1, hg2, hg3⟩
 .exact .inl h2
 .exact .inr ⟨g, cap, cur, rfl, hg1, by rw [hk.2 g e hi (ht g rfl)]; exact hg2, hg3⟩
structure Txn where
 op : Bool
 md : Int
 bg : Int
 own : List Cel
 rs : List Bool
 sv : List Sav
def tx0 : Txn := ⟨false, 0, 0, [], [], []⟩
structure Bas where
 ck : Int
 cms : List Com
 hs : List TI
 tx : List Txn
def CSt (B : Nat) (w : World) (vs : List Value) (s : Sav) : Prop := ∃ cv, vs = [.string s.nm, cv] /\ TL 106 4 CC w cv s.cs
theorem CSt.chg {T : Nat -> Prop} {w w' : World} {vs : List Value} {s : Sav} (h : CSt 0 w vs s) (hi : ¬ T 106) (hk : Chg T w w') : CSt 0 w' vs s := by
 obtain ⟨cv, e, t⟩ := h
 exact ⟨cv, e, t.chg hi hk (fun h => h)⟩
theorem CSt.csv {w : World} {vs : List Value} {s : Sav} (h : CSt 0 w vs s) : CSv 0 w vs s := by
 obtain ⟨cv, e, t⟩ := h
 exact ⟨cv, e, t.1⟩
theorem RS.weak {α : Type} {k B : Nat} {C D : Nat -> World -> List Value -> α -> Prop} {w : World} {v : Value} {xs : List α} (h : RS k C B w v xs) (hd : ∀ {cs x}, C B w cs x -> D B w cs x) : RS k D B w v xs := by
 obtain ⟨a, c, he, hh⟩ := h
 refine ⟨a, c, he, fun hp => ?_⟩
 obtain ⟨g, o, e2, h1, h2, h3⟩ := hh hp
 exact ⟨g, o, e2, h1, h2, fun i hi => let ⟨cs, x, y⟩ := h3 i hi; ⟨cs, hd x, y⟩⟩
def txV (t : Txn) (v : Value × Value × Value) : List Value := [.bool t.op, .int .i64 t.md, .int .i64 t.bg, v.1, v.2.1, v.2.2]
structure TxM (B : Nat) (w : World) (t : Txn) (v : Value × Value × Value) : Prop where
 ow : TL 106 4 CC w v.1 t.own
 sa : TL 146 2 CSt w v.2.2 t.sv
 cp : ∀ a n c, v.2.2 = .slice a n c -> n <= c
 rd : t.op = true -> t.rs.length = 32 /\ ∃ gr, v.2.1 = .slice (some ⟨gr, 0, none⟩) 32 32 /\ B <= gr /\ tag w gr 4 /\ Blk w gr (t.rs.map Value.bool)
 rf : (∃ a n c, v.2.1 = .slice a n c) /\ ∀ g, v.2.1.ownBlock = some g -> g < w.heap.size
theorem TxM.chg {T : Nat -> Prop} {B : Nat} {w w' : World} {t : Txn} {v : Value × Value × Value} (h : TxM B w t v) (hk : Chg T w w') (h1 : ¬ T 106) (h2 : ¬ T 146) (h3 : ¬ T 4) : TxM B w' t v :=
 ⟨h.ow.chg h1 hk (fun h => h), h.sa.chg h2 hk (fun h => h.chg h1 hk), h.cp, fun ho => by
  obtain ⟨hl, gr, e, hB, ht, hb⟩ := h.rd ho
  exact ⟨hl, gr, e, hB, hk.tagk h3 ht, hb.chg hk h3 ht⟩, h.rf.1, fun g hg => Nat.lt_of_lt_of_le (h.rf.2 g hg) hk.1⟩
theorem txm0 (B : Nat) (w : World) : TxM B w tx0 (.slice none 0 0, .slice none 0 0, .slice none 0 0) := ⟨TL.nil _ _ _ _, TL.nil _ _ _ _, fun a n c h => by injection h with _ h1 h2; omega, fun h => (by cases h), ⟨_, _, _, rfl⟩, fun g h => by simp [Value.ownBlock] at h⟩
def CmR (B : Nat) (w : World) (v : Value) (cms : List Com) : Prop := ∃ ps : List (Com × Value), ps.map Prod.fst = cms /\ w.ownsRow B 140 2 v cms.length (ps.flatMap (fun p => [.int .i64 p.1.st, p.2])) /\ ∀ p ∈ ps, TL 106 4 CC w p.2 p.1.cs
def HsR (B : Nat) (w : World) (v : Value) (hs : List TI) : Prop := ∃ ps : List (TI × Value × Value), ps.map Prod.fst = hs /\ w.ownsRow B 131 4 v hs.length (ps.flatMap (fun p => [.int .i64 p.1.bgn, .int .i64 p.1.com, p.2.1, p.2.2])) /\ ∀ p ∈ ps, TL 3 1 CI w p.2.1 p.1.reads /\ TL 3 1 CI w p.2.2 p.1.writes
theorem CmR.chg {T : Nat -> Prop} {B : Nat} {w w' : World} {v : Value} {cms : List Com} (h : CmR B w v cms) (hk : Chg T w w') (h1 : ¬ T 140) (h2 : ¬ T 106) : CmR B w' v cms := by
 obtain ⟨ps, e, ho, ht⟩ := h
 exact ⟨ps, e, own_chg ho hk h1, fun p hp => (ht p hp).chg h2 hk (fun h => h)⟩
theorem HsR.chg {T : Nat -> Prop} {B : Nat} {w w' : World} {v : Value} {hs : List TI} (h : HsR B w v hs) (hk : Chg T w w') (h1 : ¬ T 131) (h2 : ¬ T 3) : HsR B w' v hs := by
 obtain ⟨ps, e, ho, ht⟩ := h
 exact ⟨ps, e, own_chg ho hk h1, fun p hp => ⟨(ht p hp).1.chg h2 hk (fun h => h), (ht p hp).2.chg h2 hk (fun h => h)⟩⟩
theorem CmR.rs {B : Nat} {w : World} {v : Value} {cms : List Com} (h : CmR B w v cms) : RS 2 CCm 0 w v cms := by
 obtain ⟨ps, rfl, ho, ht⟩ := h
 have key : ∀ qs : List (Com × Value), (∀ p ∈ qs, TL 106 4 CC w p.2 p.1.cs) -> Fill 2 CCm 0 (qs.map Prod.fst) (qs.map Prod.fst).length (qs.flatMap (fun p => [.int .i64 p.1.st, p.2])) w := by
  intro qs
  induction qs with
  | nil => intro _; exact fill_nil _ _ _ _
  | cons x r ih =>
    intro hq
    have h1 : Fill 2 CCm 0 [x.1] 1 [.int .i64 x.1.st, x.2] w := fill_one liesM ⟨x.2, rfl, (hq x List.mem_cons_self).1⟩
    exact h1.append (ih (fun y hy => hq y (List.mem_cons_of_mem _ hy)))
 exact (key ps ht).own liesM (own_base0 ho) (Nat.le_refl _)
theorem HsR.rs {B : Nat} {w : World} {v : Value} {hs : List TI} (h : HsR B w v hs) : RS 4 CT 0 w v hs := by
 obtain ⟨ps, rfl, ho, ht⟩ := h
 have key : ∀ qs : List (TI × Value × Value), (∀ p ∈ qs, TL 3 1 CI w p.2.1 p.1.reads /\ TL 3 1 CI w p.2.2 p.1.writes) -> Fill 4 CT 0 (qs.map Prod.fst) (qs.map Prod.fst).length (qs.flatMap (fun p => [.int .i64 p.1.bgn, .int .i64 p.1.com, p.2.1, p.2.2])) w := by
  intro qs
  induction qs with
  | nil => intro _; exact fill_nil _ _ _ _
  | cons x r ih =>
    intro hq
    have h1 : Fill 4 CT 0 [x.1] 1 [.int .i64 x.1.bgn, .int .i64 x.1.com, x.2.1, x.2.2] w := fill_one liesT ⟨x.2.1, x.2.2, rfl, (hq x List.mem_cons_self).1.1, (hq x List.mem_cons_self).2.1⟩
    exact h1.append (ih (fun y hy => hq y (List.mem_cons_of_mem _ hy)))
 exact (key ps ht).own liesT (own_base0 ho) (Nat.le_refl _)
theorem CmR.push {B : Nat} {w : World} {v : Value} {cms : List Com} {c : Com} {cv : Value} {ps : List (Com × Value)} (e : ps.map Prod.fst = cms) (ho : w.ownsRow B 140 2 v (cms.length + 1) (ps.flatMap (fun p => [.int .i64 p.1.st, p.2]) ++ [.int .i64 c.st, cv])) (ht : ∀ p ∈ ps, TL 106 4 CC w p.2 p.1.cs) (hc : TL 106 4 CC w cv c.cs) : CmR B w v (cms ++ [c]) := by
 refine ⟨ps ++ [(c, cv)], by simp [e], ?_, fun p hp => ?_⟩
 .rw [List.length_append, List.flatMap_append]; simpa using ho
 .rcases List.mem_append.1 hp with h | h
  .exact ht p h
  .rw [List.mem_singleton] at h; subst h; exact hc
theorem HsR.push {B : Nat} {w : World} {v : Value} {hs : List TI} {c : TI} {rv wv : Value} {ps : List (TI × Value × Value)} (e : ps.map Prod.fst = hs) (ho : w.ownsRow B 131 4 v (hs.length + 1) (ps.flatMap (fun p => [.int .i64 p.1.bgn, .int .i64 p.1.com, p.2.1, p.2.2]) ++ [.int .i64 c.bgn, .int .i64 c.com, rv, wv])) (ht : ∀ p ∈ ps, TL 3 1 CI w p.2.1 p.1.reads /\ TL 3 1 CI w p.2.2 p.1.writes) (h1 : TL 3 1 CI w rv c.reads) (h2 : TL 3 1 CI w wv c.writes) : HsR B w v (hs ++ [c]) := by
 refine ⟨ps ++ [(c, rv, wv)], by simp [e], ?_, fun p hp => ?_⟩
 .rw [List.length_append, List.flatMap_append]; simpa using ho
 .rcases List.mem_append.1 hp with h | h
  .exact ht p h
  .rw [List.mem_singleton] at h; subst h; exact ⟨h1, h2⟩
structure Mem (B bb gx : Nat) (w : World) (x : Bas) (cv hv : Value) (vs : List (Value × Value × Value)) : Prop where
 n : x.tx.length = 4
 m : vs.length = 4
 bs : Blk w bb [.int .i64 x.ck, cv, hv, .slice (some ⟨gx, 0, none⟩) 4 4]
 bt : tag w bb 65
 bB : B <= bb
 xs : XT w gx (List.zipWith txV x.tx vs)
 xt : tag w gx 70
 xB : B <= gx
 tm : ∀ i (h : i < x.tx.length) (h' : i < vs.length), TxM B w x.tx[i] vs[i]
 ds : ∀ i j (hi : i < vs.length) (hj : j < vs.length), i ≠ j -> ∀ g, vs[i].2.1.ownBlock = some g -> vs[j].2.1.ownBlock ≠ some g
 cm : CmR B w cv x.cms
 hi : HsR B w hv x.hs
theorem Mem.below {B bb gx : Nat} {w w' : World} {x : Bas} {cv hv : Value} {vs : List (Value × Value × Value)} (h : Mem B bb gx w x cv hv vs) (hb : Below w.heap.size w w') : Mem B bb gx w' x cv hv vs := by
 have hk : Chg (fun _ => False) w w' := Chg.of_below _ hb
 exact ⟨h.n, h.m, h.bs.below hb (tag_lt h.bt), tag_below h.bt hb, h.bB, h.xs.below hb (tag_lt h.xt), tag_below h.xt hb, h.xB, fun i hi hi' => (h.tm i hi hi').chg hk (fun z => z) (fun z => z) (fun z => z), h.ds, h.cm.chg hk (fun z => z) (fun z => z), h.hi.chg hk (fun z => z) (fun z => z)⟩
def set6 (w : World) (g o : Nat) (a b c d e f : Value) : World := (((((w.setCell ⟨g, o, none⟩ a).setCell ⟨g, o + 1, none⟩ b).setCell ⟨g, o + 2, none⟩ c).setCell ⟨g, o + 3, none⟩ d).setCell ⟨g, o + 4, none⟩ e).setCell ⟨g, o + 5, none⟩ f
theorem XT.put {w : World} {g : Nat} {tv : List (List Value)} (h : XT w g tv) {i : Nat} (hi : i < tv.length) (a b c d e f : Value) : XT (set6 w g (i * 6) a b c d e f) g (tv.set i [a, b, c, d, e, f]) := by
 have hl := h.1 tv[i] (List.getElem_mem hi)
 have h1 := h.set hi (j := 0) (by omega) a
 have h2 := h1.set (i := i) (j := 1) (by simpa using hi) (by omega) b
 have h3 := h2.set (i := i) (j := 2) (by simpa using hi) (by omega) c
 have h4 := h3.set (i := i) (j := 3) (by simpa using hi) (by omega) d
 have h5 := h4.set (i := i) (j := 4) (by simpa using hi) (by omega) e
 have h6 := h5.set (i := i) (j := 5) (by simpa using hi) (by omega) f
 simp only [List.getElem_set_self, List.set_set] at h6
 have key : ((((((tv[i]).set 0 a).set 1 b).set 2 c).set 3 d).set 4 e).set 5 f = [a, b, c, d, e, f] := by
  match hm : tv[i], hl with
  | [q0, q1, q2, q3, q4, q5], _ => rfl
 rw [key] at h6
 exact h6
theorem tag_set6 {w : World} {g o c ty : Nat} {a b c' d e f : Value} (h : tag w c ty) : tag (set6 w g o a b c' d e f) c ty := tag_set _ (tag_set _ (tag_set _ (tag_set _ (tag_set _ (tag_set _ h)))))
theorem Chg.set6 {T : Nat -> Prop} {w : World} {g o ty : Nat} (a b c d e f : Value) (hn : T ty) (ht : tag w g ty) : Chg T w (YtblkgicbimflhaaGreat.set6 w g o a b c d e f) :=
 ((((((Chg.set a hn ht).trans (Chg.set b hn (tag_set _ ht))).trans (Chg.set c hn (tag_set _ (tag_set _ ht)))).trans (Chg.set d hn (tag_set _ (tag_set _ (tag_set _ ht))))).trans (Chg.set e hn (tag_set _ (tag_set _ (tag_set _ (tag_set _ ht)))))).trans (Chg.set f hn (tag_set _ (tag_set _ (tag_set _ (tag_set _ (tag_set _ ht)))))))
theorem below_set6 {B : Nat} {a0 w : World} {g o : Nat} {a b c d e f : Value} (h : Below B a0 w) (hg : B <= g) : Below B a0 (set6 w g o a b c d e f) :=
 (((((h.setCell (p := ⟨g, o, none⟩) hg _).setCell (p := ⟨g, o + 1, none⟩) hg _).setCell (p := ⟨g, o + 2, none⟩) hg _).setCell (p := ⟨g, o + 3, none⟩) hg _).setCell (p := ⟨g, o + 4, none⟩) hg _).setCell (p := ⟨g, o + 5, none⟩) hg _
theorem size_set6 (w : World) (g o : Nat) (a b c d e f : Value) : (set6 w g o a b c d e f).heap.size = w.heap.size := by unfold set6; simp
theorem zip_set : ∀ {ts : List Txn} {vs : List (Value × Value × Value)} {i : Nat} (t : Txn) (v : Value × Value × Value), (List.zipWith txV ts vs).set i (txV t v) = List.zipWith txV (ts.set i t) (vs.set i v)
 | [], _, _, _, _ => by simp
 | _ :: _, [], _, _, _ => by simp
 | a :: r, b :: s, 0, t, v => rfl
 | a :: r, b :: s, i + 1, t, v => by
   have := zip_set (ts := r) (vs := s) (i := i) t v
   simp [this]
theorem Mem.put6 {B bb gx : Nat} {w : World} {x : Bas} {cv hv : Value} {vs : List (Value × Value × Value)} (h : Mem B bb gx w x cv hv vs) {i : Nat} (hi : i < 4) (t : Txn) (v : Value × Value × Value) (htm : TxM B w t v) (hds : ∀ j (hj : j < vs.length), j ≠ i -> ∀ g, v.2.1.ownBlock = some g -> vs[j].2.1.ownBlock ≠ some g) :
 Mem B bb gx (set6 w gx (i * 6) (.bool t.op) (.int .i64 t.md) (.int .i64 t.bg) v.1 v.2.1 v.2.2) { x with tx := x.tx.set i t } cv hv (vs.set i v) /\ Chg (fun ty => ty = 70) w (set6 w gx (i * 6) (.bool t.op) (.int .i64 t.md) (.int .i64 t.bg) v.1 v.2.1 v.2.2) := by
 have hk : Chg (fun ty => ty = 70) w (set6 w gx (i * 6) (.bool t.op) (.int .i64 t.md) (.int .i64 t.bg) v.1 v.2.1 v.2.2) := Chg.set6 _ _ _ _ _ _ rfl h.xt
 refine ⟨⟨by simpa using h.n, by simpa using h.m, h.bs.chg hk (by decide) h.bt, hk.tagk (by decide) h.bt, h.bB, ?_, tag_set6 h.xt, h.xB, fun j hj hj' => ?_, fun j l hj hl hn g hg => ?_, h.cm.chg hk (by decide) (by decide), h.hi.chg hk (by decide) (by decide)⟩, hk⟩
 .have := h.xs.put (i := i) (by rw [List.length_zipWith, h.n, h.m]; omega) (.bool t.op) (.int .i64 t.md) (.int .i64 t.bg) v.1 v.2.1 v.2.2
  rw [show ([.bool t.op, .int .i64 t.md, .int .i64 t.bg, v.1, v.2.1, v.2.2] : List Value) = txV t v from rfl, zip_set] at this
  exact this
 .by_cases e : j = i
  .subst e
   simp only [List.getElem_set_self]
   exact htm.chg hk (by decide) (by decide) (by decide)
  .have e' : i ≠ j := fun z => e z.symm
   simp only [List.getElem_set_ne e']
   simp at hj hj'
   exact (h.tm j hj hj').chg hk (by decide) (by decide) (by decide)
 .have hj2 : j < vs.length := by simpa using hj
  have hl2 : l < vs.length := by simpa using hl
  by_cases e : j = i
  .subst e
   have hn' : j ≠ l := hn
   simp only [List.getElem_set_self] at hg
   simp only [List.getElem_set_ne hn']
   exact hds l hl2 (fun z => hn z.symm) g hg
  .have e' : i ≠ j := fun z => e z.symm
   simp only [List.getElem_set_ne e'] at hg
   by_cases e2 : l = i
   .subst e2
    simp only [List.getElem_set_self]
    exact fun z => hds j hj2 e g z hg
   .have e2' : i ≠ l := fun z => e2 z.symm
    simp only [List.getElem_set_ne e2']
    exact h.ds j l hj2 hl2 hn g hg
theorem Mem.at {B bb gx : Nat} {w : World} {x : Bas} {cv hv : Value} {vs : List (Value × Value × Value)} (h : Mem B bb gx w x cv hv vs) {i : Nat} (hi : i < 4) : ∃ t v, x.tx[i]? = some t /\ vs[i]? = some v /\ TxM B w t v /\ ∀ j, j < 6 -> w.cell? ⟨gx, i * 6 + j, none⟩ = (txV t v)[j]? /\ w.frozen? ⟨gx, i * 6 + j, none⟩ = false := by
 have h1 : i < x.tx.length := by rw [h.n]; exact hi
 have h2 : i < vs.length := by rw [h.m]; exact hi
 refine ⟨x.tx[i], vs[i], List.getElem?_eq_getElem h1, List.getElem?_eq_getElem h2, h.tm i h1 h2, fun j hj => ?_⟩
 have := h.xs.at (i := i) (j := j) (by rw [List.length_zipWith, h.n, h.m]; omega) hj
 rw [List.getElem_zipWith] at this
 exact this
open Classical in
noncomputable def certF (us : List TI) : Int := if histP us then (if dangP us then 21 else 0) else 1
theorem certR_f {us : List TI} {e : Ending} (h : CertR us e) : e = .returned (.int .i64 (certF us)) := by
 unfold certF
 rcases h with ⟨h1, h2⟩ | ⟨h1, h2, h3⟩ | ⟨h1, h2, h3⟩
 .rw [if_neg h1]; exact h2
 .rw [if_pos h1, if_pos h2]; exact h3
 .rw [if_pos h1, if_neg h2]; exact h3
noncomputable def commitF (x : Bas) (i : Nat) : Bas × Int × Int :=
 let t := x.tx.getD i tx0
 let x1 : Bas := { x with tx := x.tx.set i tx0 }
 let inf := infoF t.bg (x.ck + 1) t.own t.rs
 if conflictF x.cms t.bg t.own then (x1, 0, 20)
 else if t.md = 2 /\ certF (x.hs ++ [inf]) ≠ 0 then (x1, 0, certF (x.hs ++ [inf]))
 else ({ x1 with ck := x.ck + 1, cms := x.cms ++ [⟨x.ck + 1, t.own⟩], hs := if t.md = 2 then x.hs ++ [inf] else x.hs }, x.ck + 1, 0)
structure Bnd (x : Bas) : Prop where
 ck : 0 <= x.ck /\ x.ck <= 1000
 cl : x.cms.length <= 1000
 cc : ∀ c ∈ x.cms, c.cs.length <= 1000
 hl : x.hs.length <= 1000
 ht : ∀ h ∈ x.hs, BT 32 h
 ow : ∀ t ∈ x.tx, t.own.length <= 1000
 sl : ∀ t ∈ x.tx, t.sv.length <= 8
 sc : ∀ t ∈ x.tx, ∀ s ∈ t.sv, s.cs.length <= 1000
theorem all_small : ∀ {cms : List Com}, (∀ c ∈ cms, c.cs.length <= 1000) -> (cms.flatMap (·.cs)).length <= cms.length * 1000
 | [], _ => by simp
 | c :: r, h => by
   rw [List.flatMap_cons, List.length_append, List.length_cons]
   have h1 := h c List.mem_cons_self
   have h2 := all_small (cms := r) (fun y hy => h y (List.mem_cons_of_mem _ hy))
   omega
theorem Bnd.all {x : Bas} (h : Bnd x) {t : Txn} (ht : t ∈ x.tx) : (allC x.cms t.own).length <= 1048576 := by
 unfold allC
 rw [List.length_append]
 have h1 := all_small h.cc
 have h2 := h.ow t ht
 have h3 := h.cl
 have : x.cms.length * 1000 <= 1000 * 1000 := Nat.mul_le_mul_right _ h3
 omega
theorem Bnd.bm {x : Bas} (h : Bnd x) : BM x.cms := ⟨by have := h.cl; omega, fun c hc => by have := h.cc c hc; omega⟩
theorem Bnd.bh {x : Bas} (h : Bnd x) : BH 1048576 x.hs := ⟨by have := h.hl; omega, fun t ht => by have := h.ht t ht; exact ⟨by have := this.1; omega, by have := this.2; omega⟩⟩
theorem mqb {w : World} {gx i : Nat} {t : Txn} {a b c : Value} (h : ∀ j, j < 6 -> w.cell? ⟨gx, i * 6 + j, none⟩ = (txV t (a, b, c))[j]? /\ w.frozen? ⟨gx, i * 6 + j, none⟩ = false) : (w.cell? ⟨gx, i * 6, none⟩ = some (.bool t.op) /\ w.frozen? ⟨gx, i * 6, none⟩ = false) /\ (w.cell? ⟨gx, i * 6 + 1, none⟩ = some (.int .i64 t.md) /\ w.frozen? ⟨gx, i * 6 + 1, none⟩ = false) /\ (w.cell? ⟨gx, i * 6 + 2, none⟩ = some (.int .i64 t.bg) /\ w.frozen? ⟨gx, i * 6 + 2, none⟩ = false) /\ (w.cell? ⟨gx, i * 6 + 3, none⟩ = some a /\ w.frozen? ⟨gx, i * 6 + 3, none⟩ = false) /\ (w.cell? ⟨gx, i * 6 + 4, none⟩ = some b /\ w.frozen? ⟨gx, i * 6 + 4, none⟩ = false) /\ (w.cell? ⟨gx, i * 6 + 5, none⟩ = some c /\ w.frozen? ⟨gx, i * 6 + 5, none⟩ = false) := ⟨h 0 (by omega), h 1 (by omega), h 2 (by omega), h 3 (by omega), h 4 (by omega), h 5 (by omega)⟩
theorem mqc {w : World} {gx i : Nat} {t : Txn} {a b c : Value} (h : ∀ j, j < 6 -> w.cell? ⟨gx, i * 6 + j, none⟩ = (txV t (a, b, c))[j]? /\ w.frozen? ⟨gx, i * 6 + j, none⟩ = false) : w.cell? ⟨gx, i * 6, none⟩ = some (.bool t.op) /\ w.cell? ⟨gx, i * 6 + 1, none⟩ = some (.int .i64 t.md) /\ w.cell? ⟨gx, i * 6 + 2, none⟩ = some (.int .i64 t.bg) /\ w.cell? ⟨gx, i * 6 + 3, none⟩ = some a /\ w.cell? ⟨gx, i * 6 + 4, none⟩ = some b /\ w.cell? ⟨gx, i * 6 + 5, none⟩ = some c := ⟨(h 0 (by omega)).1, (h 1 (by omega)).1, (h 2 (by omega)).1, (h 3 (by omega)).1, (h 4 (by omega)).1, (h 5 (by omega)).1⟩
end Go.Proofs.YtblkgicbimflhaaGreat
