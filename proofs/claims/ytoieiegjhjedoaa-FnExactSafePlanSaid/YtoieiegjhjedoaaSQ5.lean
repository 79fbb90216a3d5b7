import Derived.Test.YtoieiegjhjedoaaSQ4
namespace Go.Proofs.Ytoieiegjhjedoaa
open Go.ChangeShapes Go.WideShapes Go.ChangeAt Go.RowKit
set_option linter.unusedVariables false
set_option linter.unusedSimpArgs false
set_option maxRecDepth 100000
set_option maxHeartbeats 8000000 in
theorem eqPNodeS_same (v u : Value) (us : List PN) (w : World) (hb : us.length ≤ 1048576 ∧ ∀ t ∈ us, BP 1048576 t) (hv : RS 11 CP 0 w v us) (hu : RS 11 CP 0 w u us) :
    Calls Try.prog 16 #[v, u] w fun e w' => e = .returned (.bool true) ∧ Below w.heap.size w w' := by
  obtain ⟨hn, hz⟩ := hb
  have HZ : Hid (∀ t ∈ us, BP 1048576 t) := hz
  clear hz
  obtain ⟨a, ca, rfl, hva⟩ := hv
  obtain ⟨b, cb, rfl, hub⟩ := hu
  go_enter Try.func16, Try.ntmps16
  go_wp2
  go_loopw [5] (fun i wr => ∃ k : Nat, k ≤ us.length ∧ i = .int .i64 k ∧ Below w.heap.size w wr) (fun i _ => us.length - (intOf i).toNat)
  case atStart => exact ⟨0, Nat.zero_le _, rfl, Below.refl _ _⟩
  case round =>
    obtain ⟨k, hk, rfl, hbel⟩ := hrel
    have hbs := hbel.size
    by_cases hlt : k < us.length
    · have hlti : (k : Int) < us.length := by omega
      obtain ⟨g, o, rfl, _, hg, hgc⟩ := hva (by omega)
      obtain ⟨g2, o2, rfl, _, hg2, hgc2⟩ := hub (by omega)
      obtain ⟨cs, hC, hcell⟩ := hgc k hlt
      obtain ⟨ds, hD, hcell2⟩ := hgc2 k hlt
      have hC1 := liesP.below hC hbel
      have hD1 := liesP.below hD hbel
      have hB := HZ.out us[k] (List.getElem_mem hlt)
      clear hgc hgc2 hva hub
      generalize us[k] = t at *
      have hcn := fun W (h : Below wr.heap.size wr W) => eqP_e t cs ds W hB (liesP.below hC1 h) (liesP.below hD1 h)
      clear hC1 hD1
      obtain ⟨v0, v1, v2, v3, v4, rfl, r0, r1, r2, r3, r4⟩ := hC
      obtain ⟨a0, q0, rfl, _⟩ := r0
      obtain ⟨a1, q1, rfl, _⟩ := r1
      obtain ⟨a2, q2, rfl, _⟩ := r2
      obtain ⟨a3, q3, rfl, _⟩ := r3
      obtain ⟨a4, q4, rfl, _⟩ := r4
      obtain ⟨xv0, xv1, xv2, xv3, xv4, rfl, xr0, xr1, xr2, xr3, xr4⟩ := hD
      obtain ⟨xa0, xq0, rfl, _⟩ := xr0
      obtain ⟨xa1, xq1, rfl, _⟩ := xr1
      obtain ⟨xa2, xq2, rfl, _⟩ := xr2
      obtain ⟨xa3, xq3, rfl, _⟩ := xr3
      obtain ⟨xa4, xq4, rfl, _⟩ := xr4
      have c0 : wr.cell? ⟨g, o + k * 11, none⟩ = some (.int .i64 t.op) := (hbel.cell (p := ⟨g, o + k * 11, none⟩) hg).trans (hcell 0 (by omega))
      have c1 : wr.cell? ⟨g, o + k * 11 + 1, none⟩ = some (.int .i64 t.l) := (hbel.cell (p := ⟨g, o + k * 11 + 1, none⟩) hg).trans (hcell 1 (by omega))
      have c2 : wr.cell? ⟨g, o + k * 11 + 2, none⟩ = some (.int .i64 t.r) := (hbel.cell (p := ⟨g, o + k * 11 + 2, none⟩) hg).trans (hcell 2 (by omega))
      have c3 : wr.cell? ⟨g, o + k * 11 + 3, none⟩ = some (.int .i64 t.table) := (hbel.cell (p := ⟨g, o + k * 11 + 3, none⟩) hg).trans (hcell 3 (by omega))
      have c4 : wr.cell? ⟨g, o + k * 11 + 4, none⟩ = some (.int .i64 t.a) := (hbel.cell (p := ⟨g, o + k * 11 + 4, none⟩) hg).trans (hcell 4 (by omega))
      have c5 : wr.cell? ⟨g, o + k * 11 + 5, none⟩ = some (.int .i64 t.b) := (hbel.cell (p := ⟨g, o + k * 11 + 5, none⟩) hg).trans (hcell 5 (by omega))
      have c6 : wr.cell? ⟨g, o + k * 11 + 6, none⟩ = some (.slice a0 t.exprs.length q0) := (hbel.cell (p := ⟨g, o + k * 11 + 6, none⟩) hg).trans (hcell 6 (by omega))
      have c7 : wr.cell? ⟨g, o + k * 11 + 7, none⟩ = some (.slice a1 t.keys.length q1) := (hbel.cell (p := ⟨g, o + k * 11 + 7, none⟩) hg).trans (hcell 7 (by omega))
      have c8 : wr.cell? ⟨g, o + k * 11 + 8, none⟩ = some (.slice a2 t.aggs.length q2) := (hbel.cell (p := ⟨g, o + k * 11 + 8, none⟩) hg).trans (hcell 8 (by omega))
      have c9 : wr.cell? ⟨g, o + k * 11 + 9, none⟩ = some (.slice a3 t.sorts.length q3) := (hbel.cell (p := ⟨g, o + k * 11 + 9, none⟩) hg).trans (hcell 9 (by omega))
      have c10 : wr.cell? ⟨g, o + k * 11 + 10, none⟩ = some (.slice a4 t.kinds.length q4) := (hbel.cell (p := ⟨g, o + k * 11 + 10, none⟩) hg).trans (hcell 10 (by omega))
      have d0 : wr.cell? ⟨g2, o2 + k * 11, none⟩ = some (.int .i64 t.op) := (hbel.cell (p := ⟨g2, o2 + k * 11, none⟩) hg2).trans (hcell2 0 (by omega))
      have d1 : wr.cell? ⟨g2, o2 + k * 11 + 1, none⟩ = some (.int .i64 t.l) := (hbel.cell (p := ⟨g2, o2 + k * 11 + 1, none⟩) hg2).trans (hcell2 1 (by omega))
      have d2 : wr.cell? ⟨g2, o2 + k * 11 + 2, none⟩ = some (.int .i64 t.r) := (hbel.cell (p := ⟨g2, o2 + k * 11 + 2, none⟩) hg2).trans (hcell2 2 (by omega))
      have d3 : wr.cell? ⟨g2, o2 + k * 11 + 3, none⟩ = some (.int .i64 t.table) := (hbel.cell (p := ⟨g2, o2 + k * 11 + 3, none⟩) hg2).trans (hcell2 3 (by omega))
      have d4 : wr.cell? ⟨g2, o2 + k * 11 + 4, none⟩ = some (.int .i64 t.a) := (hbel.cell (p := ⟨g2, o2 + k * 11 + 4, none⟩) hg2).trans (hcell2 4 (by omega))
      have d5 : wr.cell? ⟨g2, o2 + k * 11 + 5, none⟩ = some (.int .i64 t.b) := (hbel.cell (p := ⟨g2, o2 + k * 11 + 5, none⟩) hg2).trans (hcell2 5 (by omega))
      have d6 : wr.cell? ⟨g2, o2 + k * 11 + 6, none⟩ = some (.slice xa0 t.exprs.length xq0) := (hbel.cell (p := ⟨g2, o2 + k * 11 + 6, none⟩) hg2).trans (hcell2 6 (by omega))
      have d7 : wr.cell? ⟨g2, o2 + k * 11 + 7, none⟩ = some (.slice xa1 t.keys.length xq1) := (hbel.cell (p := ⟨g2, o2 + k * 11 + 7, none⟩) hg2).trans (hcell2 7 (by omega))
      have d8 : wr.cell? ⟨g2, o2 + k * 11 + 8, none⟩ = some (.slice xa2 t.aggs.length xq2) := (hbel.cell (p := ⟨g2, o2 + k * 11 + 8, none⟩) hg2).trans (hcell2 8 (by omega))
      have d9 : wr.cell? ⟨g2, o2 + k * 11 + 9, none⟩ = some (.slice xa3 t.sorts.length xq3) := (hbel.cell (p := ⟨g2, o2 + k * 11 + 9, none⟩) hg2).trans (hcell2 9 (by omega))
      have d10 : wr.cell? ⟨g2, o2 + k * 11 + 10, none⟩ = some (.slice xa4 t.kinds.length xq4) := (hbel.cell (p := ⟨g2, o2 + k * 11 + 10, none⟩) hg2).trans (hcell2 10 (by omega))
      clear hcell hcell2
      have hdr : Below wr.heap.size wr wr.drew := (Below.refl _ wr).drew
      go_wp2
      go_region_with (go_at_call 27; refine (hcn _ hdr).mono ?_; rintro e w1 ⟨rfl, hb'⟩; replace hb' := undrew hb'; have bw1 : Below w.heap.size w w1 := hbel.trans (hb'.mono hbs))
      all_goals
        go_wp2
        go_roundw
        case rel => exact ⟨k + 1, by omega, by go_num, by first | exact bw1 | exact bw1.drew⟩
        case measure => simp [intOf]; omega
    · go_wp2
      go_ret
      exact ⟨rfl, hbel⟩
end Go.Proofs.Ytoieiegjhjedoaa
