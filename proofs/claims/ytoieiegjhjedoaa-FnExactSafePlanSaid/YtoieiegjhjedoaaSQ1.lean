import Derived.Test.YtoieiegjhjedoaaST2
namespace Go.Proofs.Ytoieiegjhjedoaa
open Go.ChangeShapes Go.WideShapes Go.ChangeAt Go.RowKit
set_option linter.unusedVariables false
set_option linter.unusedSimpArgs false
set_option maxRecDepth 100000
set_option maxHeartbeats 1600000 in
theorem eqIntS_same (v u : Value) (us : List Int) (w : World) (hn : us.length ≤ 1048576) (hv : RS 1 CI 0 w v us) (hu : RS 1 CI 0 w u us) :
    Calls Try.prog 47 #[v, u] w fun e w' => e = .returned (.bool true) ∧ Below w.heap.size w w' := by
  obtain ⟨a, ca, rfl, hva⟩ := hv
  obtain ⟨b, cb, rfl, hub⟩ := hu
  go_enter Try.func47, Try.ntmps47
  go_wp2
  go_loopw [5] (fun i wr => ∃ k : Nat, k ≤ us.length ∧ i = .int .i64 k ∧ Below w.heap.size w wr) (fun i _ => us.length - (intOf i).toNat)
  case atStart => exact ⟨0, Nat.zero_le _, rfl, Below.refl _ _⟩
  case round =>
    obtain ⟨k, hk, rfl, hbel⟩ := hrel
    have hbs := hbel.size
    by_cases hlt : k < us.length
    · have hlti : (k : Int) < us.length := by omega
      obtain ⟨g, o, rfl, _, hg, hgc⟩ := hva (by omega)
      obtain ⟨g2, o2, rfl, _, hg2, hgc2⟩ := hub (by omega)
      obtain ⟨cs, hC, hcell⟩ := hgc k hlt
      obtain ⟨ds, hD, hcell2⟩ := hgc2 k hlt
      unfold CI at hC hD
      subst hC hD
      have c0 : wr.cell? ⟨g, o + k, none⟩ = some (.int .i64 us[k]) := (hbel.cell (p := ⟨g, o + k, none⟩) hg).trans (by have := hcell 0 (by omega); rw [Nat.mul_one, Nat.add_zero] at this; exact this)
      have d0 : wr.cell? ⟨g2, o2 + k, none⟩ = some (.int .i64 us[k]) := (hbel.cell (p := ⟨g2, o2 + k, none⟩) hg2).trans (by have := hcell2 0 (by omega); rw [Nat.mul_one, Nat.add_zero] at this; exact this)
      clear hgc hgc2 hva hub hcell hcell2
      generalize us[k] = t at c0 d0
      go_wp2
      go_quiet (fail)
      go_wp2
      go_roundw
      case rel => exact ⟨k + 1, by omega, by go_num, hbel.trans ((below_drewNt _ _).mono hbs)⟩
      case measure => simp [intOf]; omega
    · go_wp2
      go_ret
      exact ⟨rfl, hbel⟩
theorem eqV_same (k n : Int) (s : ByteArray) (w : World) : Calls Try.prog 69 #[.agg #[.int .i64 k, .int .i64 n, .string s], .agg #[.int .i64 k, .int .i64 n, .string s]] w fun e w' => e = .returned (.bool true) ∧ Below w.heap.size w w' := by
  go_enter Try.func69, Try.ntmps69
  go_wp2
  go_ret
  exact ⟨rfl, (below_alloc w _).alloc (by simp) _⟩
theorem blkD (w : World) (c0 c1 : List Value) (t0 t1 : Nat) : Blk ((w.alloc (.cells c0.toArray t0)).alloc (.cells c1.toArray t1)) (w.heap.size + 1) c1 := by
  have := blk_new (w.alloc (.cells c0.toArray t0)) c1 t1
  rw [show (w.alloc (.cells c0.toArray t0)).heap.size = w.heap.size + 1 by simp] at this
  exact this
set_option maxHeartbeats 16000000 in
theorem eqA_e (t : PA) (cs ds : List Value) (w : World) (hC : CPA 0 w cs t) (hD : CPA 0 w ds t) :
    Calls Try.prog 58 #[.agg cs.toArray, .agg ds.toArray] w fun e w' => e = .returned (.bool true) ∧ Below w.heap.size w w' := by
  unfold CPA at hC hD
  subst hC hD
  go_enter Try.func58, Try.ntmps58
  go_wp2
  go_ret
  exact ⟨rfl, (below_alloc w _).alloc (by simp) _⟩
set_option maxHeartbeats 8000000 in
theorem eqPAggS_same (v u : Value) (us : List PA) (w : World) (hb : us.length ≤ 1048576) (hv : RS 3 CPA 0 w v us) (hu : RS 3 CPA 0 w u us) :
    Calls Try.prog 48 #[v, u] w fun e w' => e = .returned (.bool true) ∧ Below w.heap.size w w' := by
  have hn := hb
  obtain ⟨a, ca, rfl, hva⟩ := hv
  obtain ⟨b, cb, rfl, hub⟩ := hu
  go_enter Try.func48, Try.ntmps48
  go_wp2
  go_loopw [5] (fun i wr => ∃ k : Nat, k ≤ us.length ∧ i = .int .i64 k ∧ Below w.heap.size w wr) (fun i _ => us.length - (intOf i).toNat)
  case atStart => exact ⟨0, Nat.zero_le _, rfl, Below.refl _ _⟩
  case round =>
    obtain ⟨k, hk, rfl, hbel⟩ := hrel
    have hbs := hbel.size
    by_cases hlt : k < us.length
    · have hlti : (k : Int) < us.length := by omega
      obtain ⟨g, o, rfl, _, hg, hgc⟩ := hva (by omega)
      obtain ⟨g2, o2, rfl, _, hg2, hgc2⟩ := hub (by omega)
      obtain ⟨cs, hC, hcell⟩ := hgc k hlt
      obtain ⟨ds, hD, hcell2⟩ := hgc2 k hlt
      have hC1 := liesPA.below hC hbel
      have hD1 := liesPA.below hD hbel
      clear hgc hgc2 hva hub
      generalize us[k] = t at *
      have hcn := fun W (h : Below wr.heap.size wr W) => eqA_e t cs ds W (liesPA.below hC1 h) (liesPA.below hD1 h)
      clear hC1 hD1
      have he := hC
      unfold CPA at he
      subst he
      have hxe := hD
      unfold CPA at hxe
      subst hxe
      have c0 : wr.cell? ⟨g, o + k * 3, none⟩ = some (.int .i64 t.fn) := (hbel.cell (p := ⟨g, o + k * 3, none⟩) hg).trans (hcell 0 (by omega))
      have c1 : wr.cell? ⟨g, o + k * 3 + 1, none⟩ = some (.int .i64 t.col) := (hbel.cell (p := ⟨g, o + k * 3 + 1, none⟩) hg).trans (hcell 1 (by omega))
      have c2 : wr.cell? ⟨g, o + k * 3 + 2, none⟩ = some (.bool t.d) := (hbel.cell (p := ⟨g, o + k * 3 + 2, none⟩) hg).trans (hcell 2 (by omega))
      have d0 : wr.cell? ⟨g2, o2 + k * 3, none⟩ = some (.int .i64 t.fn) := (hbel.cell (p := ⟨g2, o2 + k * 3, none⟩) hg2).trans (hcell2 0 (by omega))
      have d1 : wr.cell? ⟨g2, o2 + k * 3 + 1, none⟩ = some (.int .i64 t.col) := (hbel.cell (p := ⟨g2, o2 + k * 3 + 1, none⟩) hg2).trans (hcell2 1 (by omega))
      have d2 : wr.cell? ⟨g2, o2 + k * 3 + 2, none⟩ = some (.bool t.d) := (hbel.cell (p := ⟨g2, o2 + k * 3 + 2, none⟩) hg2).trans (hcell2 2 (by omega))
      clear hcell hcell2
      have hdr : Below wr.heap.size wr wr.drew := (Below.refl _ wr).drew
      go_wp2
      go_region_with (go_at_call 58; refine (hcn _ hdr).mono ?_; rintro e w1 ⟨rfl, hb'⟩; replace hb' := undrew hb'; have bw1 : Below w.heap.size w w1 := hbel.trans (hb'.mono hbs))
      all_goals
        go_wp2
        go_roundw
        case rel => exact ⟨k + 1, by omega, by go_num, by first | exact bw1 | exact bw1.drew⟩
        case measure => simp [intOf]; omega
    · go_wp2
      go_ret
      exact ⟨rfl, hbel⟩
set_option maxHeartbeats 16000000 in
theorem eqS_e (t : SK) (cs ds : List Value) (w : World) (hC : CSK 0 w cs t) (hD : CSK 0 w ds t) :
    Calls Try.prog 59 #[.agg cs.toArray, .agg ds.toArray] w fun e w' => e = .returned (.bool true) ∧ Below w.heap.size w w' := by
  unfold CSK at hC hD
  subst hC hD
  go_enter Try.func59, Try.ntmps59
  go_wp2
  go_ret
  exact ⟨rfl, (below_alloc w _).alloc (by simp) _⟩
set_option maxHeartbeats 8000000 in
theorem eqSortKeyS_same (v u : Value) (us : List SK) (w : World) (hb : us.length ≤ 1048576) (hv : RS 3 CSK 0 w v us) (hu : RS 3 CSK 0 w u us) :
    Calls Try.prog 49 #[v, u] w fun e w' => e = .returned (.bool true) ∧ Below w.heap.size w w' := by
  have hn := hb
  obtain ⟨a, ca, rfl, hva⟩ := hv
  obtain ⟨b, cb, rfl, hub⟩ := hu
  go_enter Try.func49, Try.ntmps49
  go_wp2
  go_loopw [5] (fun i wr => ∃ k : Nat, k ≤ us.length ∧ i = .int .i64 k ∧ Below w.heap.size w wr) (fun i _ => us.length - (intOf i).toNat)
  case atStart => exact ⟨0, Nat.zero_le _, rfl, Below.refl _ _⟩
  case round =>
    obtain ⟨k, hk, rfl, hbel⟩ := hrel
    have hbs := hbel.size
    by_cases hlt : k < us.length
    · have hlti : (k : Int) < us.length := by omega
      obtain ⟨g, o, rfl, _, hg, hgc⟩ := hva (by omega)
      obtain ⟨g2, o2, rfl, _, hg2, hgc2⟩ := hub (by omega)
      obtain ⟨cs, hC, hcell⟩ := hgc k hlt
      obtain ⟨ds, hD, hcell2⟩ := hgc2 k hlt
      have hC1 := liesSK.below hC hbel
      have hD1 := liesSK.below hD hbel
      clear hgc hgc2 hva hub
      generalize us[k] = t at *
      have hcn := fun W (h : Below wr.heap.size wr W) => eqS_e t cs ds W (liesSK.below hC1 h) (liesSK.below hD1 h)
      clear hC1 hD1
      have he := hC
      unfold CSK at he
      subst he
      have hxe := hD
      unfold CSK at hxe
      subst hxe
      have c0 : wr.cell? ⟨g, o + k * 3, none⟩ = some (.int .i64 t.col) := (hbel.cell (p := ⟨g, o + k * 3, none⟩) hg).trans (hcell 0 (by omega))
      have c1 : wr.cell? ⟨g, o + k * 3 + 1, none⟩ = some (.bool t.desc) := (hbel.cell (p := ⟨g, o + k * 3 + 1, none⟩) hg).trans (hcell 1 (by omega))
      have c2 : wr.cell? ⟨g, o + k * 3 + 2, none⟩ = some (.bool t.first) := (hbel.cell (p := ⟨g, o + k * 3 + 2, none⟩) hg).trans (hcell 2 (by omega))
      have d0 : wr.cell? ⟨g2, o2 + k * 3, none⟩ = some (.int .i64 t.col) := (hbel.cell (p := ⟨g2, o2 + k * 3, none⟩) hg2).trans (hcell2 0 (by omega))
      have d1 : wr.cell? ⟨g2, o2 + k * 3 + 1, none⟩ = some (.bool t.desc) := (hbel.cell (p := ⟨g2, o2 + k * 3 + 1, none⟩) hg2).trans (hcell2 1 (by omega))
      have d2 : wr.cell? ⟨g2, o2 + k * 3 + 2, none⟩ = some (.bool t.first) := (hbel.cell (p := ⟨g2, o2 + k * 3 + 2, none⟩) hg2).trans (hcell2 2 (by omega))
      clear hcell hcell2
      have hdr : Below wr.heap.size wr wr.drew := (Below.refl _ wr).drew
      go_wp2
      go_region_with (go_at_call 59; refine (hcn _ hdr).mono ?_; rintro e w1 ⟨rfl, hb'⟩; replace hb' := undrew hb'; have bw1 : Below w.heap.size w w1 := hbel.trans (hb'.mono hbs))
      all_goals
        go_wp2
        go_roundw
        case rel => exact ⟨k + 1, by omega, by go_num, by first | exact bw1 | exact bw1.drew⟩
        case measure => simp [intOf]; omega
    · go_wp2
      go_ret
      exact ⟨rfl, hbel⟩
end Go.Proofs.Ytoieiegjhjedoaa
