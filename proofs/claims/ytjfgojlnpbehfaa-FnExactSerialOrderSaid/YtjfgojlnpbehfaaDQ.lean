import Derived.Test.YtjfgojlnpbehfaaDT
namespace Go.Proofs.Ytjfgojlnpbehfaa
open Go.ChangeShapes Go.WideShapes Go.ChangeAt Go.RowKit
set_option linter.unusedVariables false
set_option linter.unusedSimpArgs false
set_option maxRecDepth 100000
set_option maxHeartbeats 1600000 in
theorem eqIntS_same (v u : Value) (us : List Int) (w : World) (hn : us.length ≤ 1048576) (hv : RS 1 CI 0 w v us) (hu : RS 1 CI 0 w u us) :
    Calls Try.prog 16 #[v, u] w fun e w' => e = .returned (.bool true) ∧ Below w.heap.size w w' := by
  obtain ⟨a, ca, rfl, hva⟩ := hv
  obtain ⟨b, cb, rfl, hub⟩ := hu
  go_enter Try.func16, Try.ntmps16
  go_wp2
  go_loopw [5] (fun i wr => ∃ k : Nat, k ≤ us.length ∧ i = .int .i64 k ∧ Below w.heap.size w wr) (fun i _ => us.length - (intOf i).toNat)
  case atStart => exact ⟨0, Nat.zero_le _, rfl, Below.refl _ _⟩
  case round =>
    obtain ⟨k, hk, rfl, hbel⟩ := hrel
    have hbs := hbel.size
    by_cases hlt : k < us.length
    · have hlti : (k : Int) < us.length := by omega
      obtain ⟨g, o, rfl, _, hg, hgc⟩ := hva (by omega)
      obtain ⟨g2, o2, rfl, _, hg2, hgc2⟩ := hub (by omega)
      obtain ⟨cs, hC, hcell⟩ := hgc k hlt
      obtain ⟨ds, hD, hcell2⟩ := hgc2 k hlt
      unfold CI at hC hD
      subst hC hD
      have c0 : wr.cell? ⟨g, o + k, none⟩ = some (.int .i64 us[k]) := (hbel.cell (p := ⟨g, o + k, none⟩) hg).trans (by have := hcell 0 (by omega); rw [Nat.mul_one, Nat.add_zero] at this; exact this)
      have d0 : wr.cell? ⟨g2, o2 + k, none⟩ = some (.int .i64 us[k]) := (hbel.cell (p := ⟨g2, o2 + k, none⟩) hg2).trans (by have := hcell2 0 (by omega); rw [Nat.mul_one, Nat.add_zero] at this; exact this)
      clear hgc hgc2 hva hub hcell hcell2
      generalize us[k] = t at c0 d0
      go_wp2
      go_quiet (fail)
      go_wp2
      go_roundw
      case rel => exact ⟨k + 1, by omega, by go_num, hbel.trans ((below_drewNt _ _).mono hbs)⟩
      case measure => simp [intOf]; omega
    · go_wp2
      go_ret
      exact ⟨rfl, hbel⟩
set_option maxHeartbeats 16000000 in
theorem eqT_e (t : TI) (cs ds : List Value) (w : World) (hB : BT 1048576 t) (hC : CT 0 w cs t) (hD : CT 0 w ds t) :
    Calls Try.prog 13 #[.agg cs.toArray, .agg ds.toArray] w fun e w' => e = .returned (.bool true) ∧ Below w.heap.size w w' := by
  obtain ⟨v0, v1, rfl, r0, r1⟩ := hC
  have R0 := hid r0
  obtain ⟨a0, q0, rfl, _⟩ := r0
  have R1 := hid r1
  obtain ⟨a1, q1, rfl, _⟩ := r1
  obtain ⟨xv0, xv1, rfl, xr0, xr1⟩ := hD
  have S0 := hid xr0
  obtain ⟨xa0, xq0, rfl, _⟩ := xr0
  have S1 := hid xr1
  obtain ⟨xa1, xq1, rfl, _⟩ := xr1
  have bw : Below w.heap.size w ((w.alloc (.cells #[.int .i64 t.bgn, .int .i64 t.com, .slice a0 t.reads.length q0, .slice a1 t.writes.length q1] 31)).alloc (.cells #[.int .i64 t.bgn, .int .i64 t.com, .slice xa0 t.reads.length xq0, .slice xa1 t.writes.length xq1] 31)) := (below_alloc w _).alloc (by simp) _
  have K0 := hid ((blk_new w [.int .i64 t.bgn, .int .i64 t.com, .slice a0 t.reads.length q0, .slice a1 t.writes.length q1] 31).below (below_alloc _ (.cells #[.int .i64 t.bgn, .int .i64 t.com, .slice xa0 t.reads.length xq0, .slice xa1 t.writes.length xq1] 31)) (by simp))
  have K1 : Hid (Blk ((w.alloc (.cells #[.int .i64 t.bgn, .int .i64 t.com, .slice a0 t.reads.length q0, .slice a1 t.writes.length q1] 31)).alloc (.cells #[.int .i64 t.bgn, .int .i64 t.com, .slice xa0 t.reads.length xq0, .slice xa1 t.writes.length xq1] 31)) (w.heap.size + 1) [.int .i64 t.bgn, .int .i64 t.com, .slice xa0 t.reads.length xq0, .slice xa1 t.writes.length xq1]) := blkD w [.int .i64 t.bgn, .int .i64 t.com, .slice a0 t.reads.length q0, .slice a1 t.writes.length q1] [.int .i64 t.bgn, .int .i64 t.com, .slice xa0 t.reads.length xq0, .slice xa1 t.writes.length xq1] 31 31
  have hz : w.heap.size + 1 < (((w.alloc (.cells #[.int .i64 t.bgn, .int .i64 t.com, .slice a0 t.reads.length q0, .slice a1 t.writes.length q1] 31)).alloc (.cells #[.int .i64 t.bgn, .int .i64 t.com, .slice xa0 t.reads.length xq0, .slice xa1 t.writes.length xq1] 31))).heap.size := by simp
  go_enter Try.func13, Try.ntmps13
  go_wp2_with (go_at_call 16; fail)
  refine (eqIntS_same _ _ t.reads _ hB.1 (R0.out.below liesI bw) (S0.out.below liesI bw)).mono ?_
  rintro e w1 ⟨rfl, hb1⟩
  replace bw : Below w.heap.size w w1 := bw.trans (hb1.mono bw.size)
  replace K0 := hid (K0.out.below hb1 (by omega))
  replace K1 := hid (K1.out.below hb1 (by omega))
  replace hz : w.heap.size + 1 < w1.heap.size := Nat.lt_of_lt_of_le hz hb1.size
  clear hb1
  have b3 : w1.cell? ⟨w.heap.size, 3, none⟩ = some (.slice a1 t.writes.length q1) := (K0.out 3 (by simp)).1
  have d3 : w1.cell? ⟨w.heap.size + 1, 3, none⟩ = some (.slice xa1 t.writes.length xq1) := (K1.out 3 (by simp)).1
  go_wp2_with (go_at_call 16; fail)
  refine (eqIntS_same _ _ t.writes _ hB.2 (R1.out.below liesI bw) (S1.out.below liesI bw)).mono ?_
  rintro e w2 ⟨rfl, hb2⟩
  replace bw : Below w.heap.size w w2 := bw.trans (hb2.mono bw.size)
  replace K0 := hid (K0.out.below hb2 (by omega))
  replace K1 := hid (K1.out.below hb2 (by omega))
  replace hz : w.heap.size + 1 < w2.heap.size := Nat.lt_of_lt_of_le hz hb2.size
  clear hb2
  clear K0 K1
  go_wp2
  go_ret
  exact ⟨rfl, bw⟩
set_option maxHeartbeats 8000000 in
theorem eqTS_same (v u : Value) (us : List TI) (w : World) (hb : us.length ≤ 1048576 ∧ ∀ t ∈ us, BT 1048576 t) (hv : RS 4 CT 0 w v us) (hu : RS 4 CT 0 w u us) :
    Calls Try.prog 12 #[v, u] w fun e w' => e = .returned (.bool true) ∧ Below w.heap.size w w' := by
  obtain ⟨hn, hz⟩ := hb
  have HZ : Hid (∀ t ∈ us, BT 1048576 t) := hz
  clear hz
  obtain ⟨a, ca, rfl, hva⟩ := hv
  obtain ⟨b, cb, rfl, hub⟩ := hu
  go_enter Try.func12, Try.ntmps12
  go_wp2
  go_loopw [5] (fun i wr => ∃ k : Nat, k ≤ us.length ∧ i = .int .i64 k ∧ Below w.heap.size w wr) (fun i _ => us.length - (intOf i).toNat)
  case atStart => exact ⟨0, Nat.zero_le _, rfl, Below.refl _ _⟩
  case round =>
    obtain ⟨k, hk, rfl, hbel⟩ := hrel
    have hbs := hbel.size
    by_cases hlt : k < us.length
    · have hlti : (k : Int) < us.length := by omega
      obtain ⟨g, o, rfl, _, hg, hgc⟩ := hva (by omega)
      obtain ⟨g2, o2, rfl, _, hg2, hgc2⟩ := hub (by omega)
      obtain ⟨cs, hC, hcell⟩ := hgc k hlt
      obtain ⟨ds, hD, hcell2⟩ := hgc2 k hlt
      have hC1 := liesT.below hC hbel
      have hD1 := liesT.below hD hbel
      have hB := HZ.out us[k] (List.getElem_mem hlt)
      clear hgc hgc2 hva hub
      generalize us[k] = t at *
      have hcn := fun W (h : Below wr.heap.size wr W) => eqT_e t cs ds W hB (liesT.below hC1 h) (liesT.below hD1 h)
      clear hC1 hD1
      obtain ⟨v0, v1, rfl, r0, r1⟩ := hC
      obtain ⟨a0, q0, rfl, _⟩ := r0
      obtain ⟨a1, q1, rfl, _⟩ := r1
      obtain ⟨xv0, xv1, rfl, xr0, xr1⟩ := hD
      obtain ⟨xa0, xq0, rfl, _⟩ := xr0
      obtain ⟨xa1, xq1, rfl, _⟩ := xr1
      have c0 : wr.cell? ⟨g, o + k * 4, none⟩ = some (.int .i64 t.bgn) := (hbel.cell (p := ⟨g, o + k * 4, none⟩) hg).trans (hcell 0 (by omega))
      have c1 : wr.cell? ⟨g, o + k * 4 + 1, none⟩ = some (.int .i64 t.com) := (hbel.cell (p := ⟨g, o + k * 4 + 1, none⟩) hg).trans (hcell 1 (by omega))
      have c2 : wr.cell? ⟨g, o + k * 4 + 2, none⟩ = some (.slice a0 t.reads.length q0) := (hbel.cell (p := ⟨g, o + k * 4 + 2, none⟩) hg).trans (hcell 2 (by omega))
      have c3 : wr.cell? ⟨g, o + k * 4 + 3, none⟩ = some (.slice a1 t.writes.length q1) := (hbel.cell (p := ⟨g, o + k * 4 + 3, none⟩) hg).trans (hcell 3 (by omega))
      have d0 : wr.cell? ⟨g2, o2 + k * 4, none⟩ = some (.int .i64 t.bgn) := (hbel.cell (p := ⟨g2, o2 + k * 4, none⟩) hg2).trans (hcell2 0 (by omega))
      have d1 : wr.cell? ⟨g2, o2 + k * 4 + 1, none⟩ = some (.int .i64 t.com) := (hbel.cell (p := ⟨g2, o2 + k * 4 + 1, none⟩) hg2).trans (hcell2 1 (by omega))
      have d2 : wr.cell? ⟨g2, o2 + k * 4 + 2, none⟩ = some (.slice xa0 t.reads.length xq0) := (hbel.cell (p := ⟨g2, o2 + k * 4 + 2, none⟩) hg2).trans (hcell2 2 (by omega))
      have d3 : wr.cell? ⟨g2, o2 + k * 4 + 3, none⟩ = some (.slice xa1 t.writes.length xq1) := (hbel.cell (p := ⟨g2, o2 + k * 4 + 3, none⟩) hg2).trans (hcell2 3 (by omega))
      clear hcell hcell2
      have hdr : Below wr.heap.size wr wr.drew := (Below.refl _ wr).drew
      go_wp2
      go_region_with (go_at_call 13; refine (hcn _ hdr).mono ?_; rintro e w1 ⟨rfl, hb'⟩; replace hb' := undrew hb'; have bw1 : Below w.heap.size w w1 := hbel.trans (hb'.mono hbs))
      all_goals
        go_wp2
        go_roundw
        case rel => exact ⟨k + 1, by omega, by go_num, by first | exact bw1 | exact bw1.drew⟩
        case measure => simp [intOf]; omega
    · go_wp2
      go_ret
      exact ⟨rfl, hbel⟩
end Go.Proofs.Ytjfgojlnpbehfaa
