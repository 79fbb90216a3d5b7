import Derived.Test.YtbndliedcanmgaaRPT
namespace Go.Proofs.YtbndliedcanmgaaR
open Go.ChangeShapes Go.WideShapes Go.ChangeAt Go.RowKit
set_option linter.unusedVariables false
set_option linter.unusedSimpArgs false
set_option maxRecDepth 100000
set_option maxHeartbeats 1600000 in
theorem eqIntS_same (v u : Value) (us : List Int) (w : World) (hn : us.length ≤ 1048576) (hv : RS 1 CI 0 w v us) (hu : RS 1 CI 0 w u us) :
    Calls Try.prog 33 #[v, u] w fun e w' => e = .returned (.bool true) ∧ Below w.heap.size w w' := by
  obtain ⟨a, ca, rfl, hva⟩ := hv
  obtain ⟨b, cb, rfl, hub⟩ := hu
  go_enter Try.func33, Try.ntmps33
  go_wp2
  go_loopw [5] (fun i wr => ∃ k : Nat, k ≤ us.length ∧ i = .int .i64 k ∧ Below w.heap.size w wr) (fun i _ => us.length - (intOf i).toNat)
  case atStart => exact ⟨0, Nat.zero_le _, rfl, Below.refl _ _⟩
  case round =>
    obtain ⟨k, hk, rfl, hbel⟩ := hrel
    have hbs := hbel.size
    by_cases hlt : k < us.length
    · have hlti : (k : Int) < us.length := by omega
      obtain ⟨g, o, rfl, _, hg, hgc⟩ := hva (by omega)
      obtain ⟨g2, o2, rfl, _, hg2, hgc2⟩ := hub (by omega)
      obtain ⟨cs, hC, hcell⟩ := hgc k hlt
      obtain ⟨ds, hD, hcell2⟩ := hgc2 k hlt
      unfold CI at hC hD
      subst hC hD
      have c0 : wr.cell? ⟨g, o + k, none⟩ = some (.int .i64 us[k]) := (hbel.cell (p := ⟨g, o + k, none⟩) hg).trans (by have := hcell 0 (by omega); rw [Nat.mul_one, Nat.add_zero] at this; exact this)
      have d0 : wr.cell? ⟨g2, o2 + k, none⟩ = some (.int .i64 us[k]) := (hbel.cell (p := ⟨g2, o2 + k, none⟩) hg2).trans (by have := hcell2 0 (by omega); rw [Nat.mul_one, Nat.add_zero] at this; exact this)
      clear hgc hgc2 hva hub hcell hcell2
      generalize us[k] = t at c0 d0
      go_wp2
      go_quiet (fail)
      go_wp2
      go_roundw
      case rel => exact ⟨k + 1, by omega, by go_num, hbel.trans ((below_drewNt _ _).mono hbs)⟩
      case measure => simp [intOf]; omega
    · go_wp2
      go_ret
      exact ⟨rfl, hbel⟩
set_option maxHeartbeats 16000000 in
theorem eqPo_e (t : POp) (cs ds : List Value) (w : World) (hB : BPo 1048576 t) (hC : CPo 0 w cs t) (hD : CPo 0 w ds t) :
    Calls Try.prog 25 #[.agg cs.toArray, .agg ds.toArray] w fun e w' => e = .returned (.bool true) ∧ Below w.heap.size w w' := by
  unfold CPo at hC hD
  subst hC hD
  go_enter Try.func25, Try.ntmps25
  go_wp2
  go_ret
  exact ⟨rfl, (below_alloc w _).alloc (by simp) _⟩
set_option maxHeartbeats 8000000 in
theorem eqPoS_same (v u : Value) (us : List POp) (w : World) (hb : us.length ≤ 1048576 ∧ ∀ t ∈ us, BPo 1048576 t) (hv : RS 2 CPo 0 w v us) (hu : RS 2 CPo 0 w u us) :
    Calls Try.prog 11 #[v, u] w fun e w' => e = .returned (.bool true) ∧ Below w.heap.size w w' := by
  obtain ⟨hn, hz⟩ := hb
  have HZ : Hid (∀ t ∈ us, BPo 1048576 t) := hz
  clear hz
  obtain ⟨a, ca, rfl, hva⟩ := hv
  obtain ⟨b, cb, rfl, hub⟩ := hu
  go_enter Try.func11, Try.ntmps11
  go_wp2
  go_loopw [5] (fun i wr => ∃ k : Nat, k ≤ us.length ∧ i = .int .i64 k ∧ Below w.heap.size w wr) (fun i _ => us.length - (intOf i).toNat)
  case atStart => exact ⟨0, Nat.zero_le _, rfl, Below.refl _ _⟩
  case round =>
    obtain ⟨k, hk, rfl, hbel⟩ := hrel
    have hbs := hbel.size
    by_cases hlt : k < us.length
    · have hlti : (k : Int) < us.length := by omega
      obtain ⟨g, o, rfl, _, hg, hgc⟩ := hva (by omega)
      obtain ⟨g2, o2, rfl, _, hg2, hgc2⟩ := hub (by omega)
      obtain ⟨cs, hC, hcell⟩ := hgc k hlt
      obtain ⟨ds, hD, hcell2⟩ := hgc2 k hlt
      have hC1 := liesPo.below hC hbel
      have hD1 := liesPo.below hD hbel
      have hB := HZ.out us[k] (List.getElem_mem hlt)
      clear hgc hgc2 hva hub
      generalize us[k] = t at *
      have hcn := fun W (h : Below wr.heap.size wr W) => eqPo_e t cs ds W hB (liesPo.below hC1 h) (liesPo.below hD1 h)
      clear hC1 hD1
      have he := hC
      unfold CPo at he
      subst he
      have hxe := hD
      unfold CPo at hxe
      subst hxe
      have c0 : wr.cell? ⟨g, o + k * 2, none⟩ = some (.int .i64 t.kd) := (hbel.cell (p := ⟨g, o + k * 2, none⟩) hg).trans (hcell 0 (by omega))
      have c1 : wr.cell? ⟨g, o + k * 2 + 1, none⟩ = some (.int .i64 t.pg) := (hbel.cell (p := ⟨g, o + k * 2 + 1, none⟩) hg).trans (hcell 1 (by omega))
      have d0 : wr.cell? ⟨g2, o2 + k * 2, none⟩ = some (.int .i64 t.kd) := (hbel.cell (p := ⟨g2, o2 + k * 2, none⟩) hg2).trans (hcell2 0 (by omega))
      have d1 : wr.cell? ⟨g2, o2 + k * 2 + 1, none⟩ = some (.int .i64 t.pg) := (hbel.cell (p := ⟨g2, o2 + k * 2 + 1, none⟩) hg2).trans (hcell2 1 (by omega))
      clear hcell hcell2
      have hdr : Below wr.heap.size wr wr.drew := (Below.refl _ wr).drew
      go_wp2
      go_region_with (go_at_call 25; refine (hcn _ hdr).mono ?_; rintro e w1 ⟨rfl, hb'⟩; replace hb' := undrew hb'; have bw1 : Below w.heap.size w w1 := hbel.trans (hb'.mono hbs))
      all_goals
        go_wp2
        go_roundw
        case rel => exact ⟨k + 1, by omega, by go_num, by first | exact bw1 | exact bw1.drew⟩
        case measure => simp [intOf]; omega
    · go_wp2
      go_ret
      exact ⟨rfl, hbel⟩
set_option maxHeartbeats 16000000 in
theorem eqPr_e (t : POut) (cs ds : List Value) (w : World) (hB : BPr 1048576 t) (hC : CPr 0 w cs t) (hD : CPr 0 w ds t) :
    Calls Try.prog 24 #[.agg cs.toArray, .agg ds.toArray] w fun e w' => e = .returned (.bool true) ∧ Below w.heap.size w w' := by
  obtain ⟨v0, rfl, r0⟩ := hC
  have R0 := hid r0
  obtain ⟨a0, q0, rfl, _⟩ := r0
  obtain ⟨xv0, rfl, xr0⟩ := hD
  have S0 := hid xr0
  obtain ⟨xa0, xq0, rfl, _⟩ := xr0
  have bw : Below w.heap.size w ((w.alloc (.cells #[.int .i64 t.rd, .int .i64 t.wr, .slice a0 t.all.length q0] 33)).alloc (.cells #[.int .i64 t.rd, .int .i64 t.wr, .slice xa0 t.all.length xq0] 33)) := (below_alloc w _).alloc (by simp) _
  have K0 := hid ((blk_new w [.int .i64 t.rd, .int .i64 t.wr, .slice a0 t.all.length q0] 33).below (below_alloc _ (.cells #[.int .i64 t.rd, .int .i64 t.wr, .slice xa0 t.all.length xq0] 33)) (by simp))
  have K1 : Hid (Blk ((w.alloc (.cells #[.int .i64 t.rd, .int .i64 t.wr, .slice a0 t.all.length q0] 33)).alloc (.cells #[.int .i64 t.rd, .int .i64 t.wr, .slice xa0 t.all.length xq0] 33)) (w.heap.size + 1) [.int .i64 t.rd, .int .i64 t.wr, .slice xa0 t.all.length xq0]) := blkD w [.int .i64 t.rd, .int .i64 t.wr, .slice a0 t.all.length q0] [.int .i64 t.rd, .int .i64 t.wr, .slice xa0 t.all.length xq0] 33 33
  have hz : w.heap.size + 1 < (((w.alloc (.cells #[.int .i64 t.rd, .int .i64 t.wr, .slice a0 t.all.length q0] 33)).alloc (.cells #[.int .i64 t.rd, .int .i64 t.wr, .slice xa0 t.all.length xq0] 33))).heap.size := by simp
  go_enter Try.func24, Try.ntmps24
  go_wp2_with (go_at_call 33; fail)
  refine (eqIntS_same _ _ t.all _ hB (R0.out.below liesI bw) (S0.out.below liesI bw)).mono ?_
  rintro e w1 ⟨rfl, hb1⟩
  replace bw : Below w.heap.size w w1 := bw.trans (hb1.mono bw.size)
  replace K0 := hid (K0.out.below hb1 (by omega))
  replace K1 := hid (K1.out.below hb1 (by omega))
  replace hz : w.heap.size + 1 < w1.heap.size := Nat.lt_of_lt_of_le hz hb1.size
  clear hb1
  clear K0 K1
  go_wp2
  go_ret
  exact ⟨rfl, bw⟩
set_option maxHeartbeats 8000000 in
theorem eqPrS_same (v u : Value) (us : List POut) (w : World) (hb : us.length ≤ 1048576 ∧ ∀ t ∈ us, BPr 1048576 t) (hv : RS 3 CPr 0 w v us) (hu : RS 3 CPr 0 w u us) :
    Calls Try.prog 10 #[v, u] w fun e w' => e = .returned (.bool true) ∧ Below w.heap.size w w' := by
  obtain ⟨hn, hz⟩ := hb
  have HZ : Hid (∀ t ∈ us, BPr 1048576 t) := hz
  clear hz
  obtain ⟨a, ca, rfl, hva⟩ := hv
  obtain ⟨b, cb, rfl, hub⟩ := hu
  go_enter Try.func10, Try.ntmps10
  go_wp2
  go_loopw [5] (fun i wr => ∃ k : Nat, k ≤ us.length ∧ i = .int .i64 k ∧ Below w.heap.size w wr) (fun i _ => us.length - (intOf i).toNat)
  case atStart => exact ⟨0, Nat.zero_le _, rfl, Below.refl _ _⟩
  case round =>
    obtain ⟨k, hk, rfl, hbel⟩ := hrel
    have hbs := hbel.size
    by_cases hlt : k < us.length
    · have hlti : (k : Int) < us.length := by omega
      obtain ⟨g, o, rfl, _, hg, hgc⟩ := hva (by omega)
      obtain ⟨g2, o2, rfl, _, hg2, hgc2⟩ := hub (by omega)
      obtain ⟨cs, hC, hcell⟩ := hgc k hlt
      obtain ⟨ds, hD, hcell2⟩ := hgc2 k hlt
      have hC1 := liesPr.below hC hbel
      have hD1 := liesPr.below hD hbel
      have hB := HZ.out us[k] (List.getElem_mem hlt)
      clear hgc hgc2 hva hub
      generalize us[k] = t at *
      have hcn := fun W (h : Below wr.heap.size wr W) => eqPr_e t cs ds W hB (liesPr.below hC1 h) (liesPr.below hD1 h)
      clear hC1 hD1
      obtain ⟨v0, rfl, r0⟩ := hC
      obtain ⟨a0, q0, rfl, _⟩ := r0
      obtain ⟨xv0, rfl, xr0⟩ := hD
      obtain ⟨xa0, xq0, rfl, _⟩ := xr0
      have c0 : wr.cell? ⟨g, o + k * 3, none⟩ = some (.int .i64 t.rd) := (hbel.cell (p := ⟨g, o + k * 3, none⟩) hg).trans (hcell 0 (by omega))
      have c1 : wr.cell? ⟨g, o + k * 3 + 1, none⟩ = some (.int .i64 t.wr) := (hbel.cell (p := ⟨g, o + k * 3 + 1, none⟩) hg).trans (hcell 1 (by omega))
      have c2 : wr.cell? ⟨g, o + k * 3 + 2, none⟩ = some (.slice a0 t.all.length q0) := (hbel.cell (p := ⟨g, o + k * 3 + 2, none⟩) hg).trans (hcell 2 (by omega))
      have d0 : wr.cell? ⟨g2, o2 + k * 3, none⟩ = some (.int .i64 t.rd) := (hbel.cell (p := ⟨g2, o2 + k * 3, none⟩) hg2).trans (hcell2 0 (by omega))
      have d1 : wr.cell? ⟨g2, o2 + k * 3 + 1, none⟩ = some (.int .i64 t.wr) := (hbel.cell (p := ⟨g2, o2 + k * 3 + 1, none⟩) hg2).trans (hcell2 1 (by omega))
      have d2 : wr.cell? ⟨g2, o2 + k * 3 + 2, none⟩ = some (.slice xa0 t.all.length xq0) := (hbel.cell (p := ⟨g2, o2 + k * 3 + 2, none⟩) hg2).trans (hcell2 2 (by omega))
      clear hcell hcell2
      have hdr : Below wr.heap.size wr wr.drew := (Below.refl _ wr).drew
      go_wp2
      go_region_with (go_at_call 24; refine (hcn _ hdr).mono ?_; rintro e w1 ⟨rfl, hb'⟩; replace hb' := undrew hb'; have bw1 : Below w.heap.size w w1 := hbel.trans (hb'.mono hbs))
      all_goals
        go_wp2
        go_roundw
        case rel => exact ⟨k + 1, by omega, by go_num, by first | exact bw1 | exact bw1.drew⟩
        case measure => simp [intOf]; omega
    · go_wp2
      go_ret
      exact ⟨rfl, hbel⟩
end Go.Proofs.YtbndliedcanmgaaR
