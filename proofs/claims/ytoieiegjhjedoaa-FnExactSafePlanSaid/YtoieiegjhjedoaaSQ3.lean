import Derived.Test.YtoieiegjhjedoaaSQ2
namespace Go.Proofs.Ytoieiegjhjedoaa
open Go.ChangeShapes Go.WideShapes Go.ChangeAt Go.RowKit
set_option linter.unusedVariables false
set_option linter.unusedSimpArgs false
set_option maxRecDepth 100000
set_option maxHeartbeats 16000000 in
theorem eqE_e (t : (List XN)) (cs ds : List Value) (w : World) (hB : BE 1048576 t) (hC : CE 0 w cs t) (hD : CE 0 w ds t) :
    Calls Try.prog 57 #[.agg cs.toArray, .agg ds.toArray] w fun e w' => e = .returned (.bool true) ∧ Below w.heap.size w w' := by
  obtain ⟨v0, rfl, r0⟩ := hC
  have R0 := hid r0
  obtain ⟨a0, q0, rfl, _⟩ := r0
  obtain ⟨xv0, rfl, xr0⟩ := hD
  have S0 := hid xr0
  obtain ⟨xa0, xq0, rfl, _⟩ := xr0
  have bw : Below w.heap.size w ((w.alloc (.cells #[.slice a0 t.length q0] 50)).alloc (.cells #[.slice xa0 t.length xq0] 50)) := (below_alloc w _).alloc (by simp) _
  have K0 := hid ((blk_new w [.slice a0 t.length q0] 50).below (below_alloc _ (.cells #[.slice xa0 t.length xq0] 50)) (by simp))
  have K1 : Hid (Blk ((w.alloc (.cells #[.slice a0 t.length q0] 50)).alloc (.cells #[.slice xa0 t.length xq0] 50)) (w.heap.size + 1) [.slice xa0 t.length xq0]) := blkD w [.slice a0 t.length q0] [.slice xa0 t.length xq0] 50 50
  have hz : w.heap.size + 1 < (((w.alloc (.cells #[.slice a0 t.length q0] 50)).alloc (.cells #[.slice xa0 t.length xq0] 50))).heap.size := by simp
  go_enter Try.func57, Try.ntmps57
  go_wp2_with (go_at_call 63; fail)
  refine (eqXNodeS_same _ _ t _ hB (R0.out.below liesX bw) (S0.out.below liesX bw)).mono ?_
  rintro e w1 ⟨rfl, hb1⟩
  replace bw : Below w.heap.size w w1 := bw.trans (hb1.mono bw.size)
  replace K0 := hid (K0.out.below hb1 (by omega))
  replace K1 := hid (K1.out.below hb1 (by omega))
  replace hz : w.heap.size + 1 < w1.heap.size := Nat.lt_of_lt_of_le hz hb1.size
  clear hb1
  clear K0 K1
  go_wp2
  go_ret
  exact ⟨rfl, bw⟩
set_option maxHeartbeats 8000000 in
theorem eqExprS_same (v u : Value) (us : List (List XN)) (w : World) (hb : us.length ≤ 1048576 ∧ ∀ t ∈ us, BE 1048576 t) (hv : RS 1 CE 0 w v us) (hu : RS 1 CE 0 w u us) :
    Calls Try.prog 46 #[v, u] w fun e w' => e = .returned (.bool true) ∧ Below w.heap.size w w' := by
  obtain ⟨hn, hz⟩ := hb
  have HZ : Hid (∀ t ∈ us, BE 1048576 t) := hz
  clear hz
  obtain ⟨a, ca, rfl, hva⟩ := hv
  obtain ⟨b, cb, rfl, hub⟩ := hu
  go_enter Try.func46, Try.ntmps46
  go_wp2
  go_loopw [5] (fun i wr => ∃ k : Nat, k ≤ us.length ∧ i = .int .i64 k ∧ Below w.heap.size w wr) (fun i _ => us.length - (intOf i).toNat)
  case atStart => exact ⟨0, Nat.zero_le _, rfl, Below.refl _ _⟩
  case round =>
    obtain ⟨k, hk, rfl, hbel⟩ := hrel
    have hbs := hbel.size
    by_cases hlt : k < us.length
    · have hlti : (k : Int) < us.length := by omega
      obtain ⟨g, o, rfl, _, hg, hgc⟩ := hva (by omega)
      obtain ⟨g2, o2, rfl, _, hg2, hgc2⟩ := hub (by omega)
      obtain ⟨cs, hC, hcell⟩ := hgc k hlt
      obtain ⟨ds, hD, hcell2⟩ := hgc2 k hlt
      have hC1 := liesE.below hC hbel
      have hD1 := liesE.below hD hbel
      have hB := HZ.out us[k] (List.getElem_mem hlt)
      clear hgc hgc2 hva hub
      generalize us[k] = t at *
      have hcn := fun W (h : Below wr.heap.size wr W) => eqE_e t cs ds W hB (liesE.below hC1 h) (liesE.below hD1 h)
      clear hC1 hD1
      obtain ⟨v0, rfl, r0⟩ := hC
      obtain ⟨a0, q0, rfl, _⟩ := r0
      obtain ⟨xv0, rfl, xr0⟩ := hD
      obtain ⟨xa0, xq0, rfl, _⟩ := xr0
      have c0 : wr.cell? ⟨g, o + k, none⟩ = some (.slice a0 t.length q0) := (hbel.cell (p := ⟨g, o + k, none⟩) hg).trans (by have := hcell 0 (by omega); rw [Nat.mul_one, Nat.add_zero] at this; exact this)
      have d0 : wr.cell? ⟨g2, o2 + k, none⟩ = some (.slice xa0 t.length xq0) := (hbel.cell (p := ⟨g2, o2 + k, none⟩) hg2).trans (by have := hcell2 0 (by omega); rw [Nat.mul_one, Nat.add_zero] at this; exact this)
      clear hcell hcell2
      have hdr : Below wr.heap.size wr wr.drew := (Below.refl _ wr).drew
      go_wp2
      go_region_with (go_at_call 57; refine (hcn _ hdr).mono ?_; rintro e w1 ⟨rfl, hb'⟩; replace hb' := undrew hb'; have bw1 : Below w.heap.size w w1 := hbel.trans (hb'.mono hbs))
      all_goals
        go_wp2
        go_roundw
        case rel => exact ⟨k + 1, by omega, by go_num, by first | exact bw1 | exact bw1.drew⟩
        case measure => simp [intOf]; omega
    · go_wp2
      go_ret
      exact ⟨rfl, hbel⟩
end Go.Proofs.Ytoieiegjhjedoaa
