import Derived.Test.YtoieiegjhjedoaaSQ1
namespace Go.Proofs.Ytoieiegjhjedoaa
open Go.ChangeShapes Go.WideShapes Go.ChangeAt Go.RowKit
set_option linter.unusedVariables false
set_option linter.unusedSimpArgs false
set_option maxRecDepth 100000
set_option maxHeartbeats 16000000 in
theorem eqX_e (t : XN) (cs ds : List Value) (w : World) (hB : BX 1048576 t) (hC : CX 0 w cs t) (hD : CX 0 w ds t) :
    Calls Try.prog 66 #[.agg cs.toArray, .agg ds.toArray] w fun e w' => e = .returned (.bool true) ∧ Below w.heap.size w w' := by
  obtain ⟨v0, rfl, r0⟩ := hC
  have R0 := hid r0
  obtain ⟨a0, q0, rfl, _⟩ := r0
  obtain ⟨xv0, rfl, xr0⟩ := hD
  have S0 := hid xr0
  obtain ⟨xa0, xq0, rfl, _⟩ := xr0
  have bw : Below w.heap.size w ((w.alloc (.cells #[.int .i64 t.op, .int .i64 t.kind, .int .i64 t.a, .int .i64 t.b, .int .i64 t.vk, .int .i64 t.vn, .string t.vs, .slice a0 t.kids.length q0] 66)).alloc (.cells #[.int .i64 t.op, .int .i64 t.kind, .int .i64 t.a, .int .i64 t.b, .int .i64 t.vk, .int .i64 t.vn, .string t.vs, .slice xa0 t.kids.length xq0] 66)) := (below_alloc w _).alloc (by simp) _
  have K0 := hid ((blk_new w [.int .i64 t.op, .int .i64 t.kind, .int .i64 t.a, .int .i64 t.b, .int .i64 t.vk, .int .i64 t.vn, .string t.vs, .slice a0 t.kids.length q0] 66).below (below_alloc _ (.cells #[.int .i64 t.op, .int .i64 t.kind, .int .i64 t.a, .int .i64 t.b, .int .i64 t.vk, .int .i64 t.vn, .string t.vs, .slice xa0 t.kids.length xq0] 66)) (by simp))
  have K1 : Hid (Blk ((w.alloc (.cells #[.int .i64 t.op, .int .i64 t.kind, .int .i64 t.a, .int .i64 t.b, .int .i64 t.vk, .int .i64 t.vn, .string t.vs, .slice a0 t.kids.length q0] 66)).alloc (.cells #[.int .i64 t.op, .int .i64 t.kind, .int .i64 t.a, .int .i64 t.b, .int .i64 t.vk, .int .i64 t.vn, .string t.vs, .slice xa0 t.kids.length xq0] 66)) (w.heap.size + 1) [.int .i64 t.op, .int .i64 t.kind, .int .i64 t.a, .int .i64 t.b, .int .i64 t.vk, .int .i64 t.vn, .string t.vs, .slice xa0 t.kids.length xq0]) := blkD w [.int .i64 t.op, .int .i64 t.kind, .int .i64 t.a, .int .i64 t.b, .int .i64 t.vk, .int .i64 t.vn, .string t.vs, .slice a0 t.kids.length q0] [.int .i64 t.op, .int .i64 t.kind, .int .i64 t.a, .int .i64 t.b, .int .i64 t.vk, .int .i64 t.vn, .string t.vs, .slice xa0 t.kids.length xq0] 66 66
  have hz : w.heap.size + 1 < (((w.alloc (.cells #[.int .i64 t.op, .int .i64 t.kind, .int .i64 t.a, .int .i64 t.b, .int .i64 t.vk, .int .i64 t.vn, .string t.vs, .slice a0 t.kids.length q0] 66)).alloc (.cells #[.int .i64 t.op, .int .i64 t.kind, .int .i64 t.a, .int .i64 t.b, .int .i64 t.vk, .int .i64 t.vn, .string t.vs, .slice xa0 t.kids.length xq0] 66))).heap.size := by simp
  go_enter Try.func66, Try.ntmps66
  go_wp2_with (go_at_call 69; fail)
  refine (eqV_same t.vk t.vn t.vs _).mono ?_
  rintro e w1 ⟨rfl, hb1⟩
  replace bw : Below w.heap.size w w1 := bw.trans (hb1.mono bw.size)
  replace K0 := hid (K0.out.below hb1 (by omega))
  replace K1 := hid (K1.out.below hb1 (by omega))
  replace hz : w.heap.size + 1 < w1.heap.size := Nat.lt_of_lt_of_le hz hb1.size
  clear hb1
  have b7 : w1.cell? ⟨w.heap.size, 7, none⟩ = some (.slice a0 t.kids.length q0) := (K0.out 7 (by simp)).1
  have d7 : w1.cell? ⟨w.heap.size + 1, 7, none⟩ = some (.slice xa0 t.kids.length xq0) := (K1.out 7 (by simp)).1
  go_wp2_with (go_at_call 47; fail)
  refine (eqIntS_same _ _ t.kids _ hB.2 (R0.out.below liesI bw) (S0.out.below liesI bw)).mono ?_
  rintro e w2 ⟨rfl, hb2⟩
  replace bw : Below w.heap.size w w2 := bw.trans (hb2.mono bw.size)
  replace K0 := hid (K0.out.below hb2 (by omega))
  replace K1 := hid (K1.out.below hb2 (by omega))
  replace hz : w.heap.size + 1 < w2.heap.size := Nat.lt_of_lt_of_le hz hb2.size
  clear hb2
  clear K0 K1
  go_wp2
  go_ret
  exact ⟨rfl, bw⟩
set_option maxHeartbeats 8000000 in
theorem eqXNodeS_same (v u : Value) (us : List XN) (w : World) (hb : us.length ≤ 1048576 ∧ ∀ t ∈ us, BX 1048576 t) (hv : RS 8 CX 0 w v us) (hu : RS 8 CX 0 w u us) :
    Calls Try.prog 63 #[v, u] w fun e w' => e = .returned (.bool true) ∧ Below w.heap.size w w' := by
  obtain ⟨hn, hz⟩ := hb
  have HZ : Hid (∀ t ∈ us, BX 1048576 t) := hz
  clear hz
  obtain ⟨a, ca, rfl, hva⟩ := hv
  obtain ⟨b, cb, rfl, hub⟩ := hu
  go_enter Try.func63, Try.ntmps63
  go_wp2
  go_loopw [5] (fun i wr => ∃ k : Nat, k ≤ us.length ∧ i = .int .i64 k ∧ Below w.heap.size w wr) (fun i _ => us.length - (intOf i).toNat)
  case atStart => exact ⟨0, Nat.zero_le _, rfl, Below.refl _ _⟩
  case round =>
    obtain ⟨k, hk, rfl, hbel⟩ := hrel
    have hbs := hbel.size
    by_cases hlt : k < us.length
    · have hlti : (k : Int) < us.length := by omega
      obtain ⟨g, o, rfl, _, hg, hgc⟩ := hva (by omega)
      obtain ⟨g2, o2, rfl, _, hg2, hgc2⟩ := hub (by omega)
      obtain ⟨cs, hC, hcell⟩ := hgc k hlt
      obtain ⟨ds, hD, hcell2⟩ := hgc2 k hlt
      have hC1 := liesX.below hC hbel
      have hD1 := liesX.below hD hbel
      have hB := HZ.out us[k] (List.getElem_mem hlt)
      clear hgc hgc2 hva hub
      generalize us[k] = t at *
      have hcn := fun W (h : Below wr.heap.size wr W) => eqX_e t cs ds W hB (liesX.below hC1 h) (liesX.below hD1 h)
      clear hC1 hD1
      obtain ⟨v0, rfl, r0⟩ := hC
      obtain ⟨a0, q0, rfl, _⟩ := r0
      obtain ⟨xv0, rfl, xr0⟩ := hD
      obtain ⟨xa0, xq0, rfl, _⟩ := xr0
      have c0 : wr.cell? ⟨g, o + k * 8, none⟩ = some (.int .i64 t.op) := (hbel.cell (p := ⟨g, o + k * 8, none⟩) hg).trans (hcell 0 (by omega))
      have c1 : wr.cell? ⟨g, o + k * 8 + 1, none⟩ = some (.int .i64 t.kind) := (hbel.cell (p := ⟨g, o + k * 8 + 1, none⟩) hg).trans (hcell 1 (by omega))
      have c2 : wr.cell? ⟨g, o + k * 8 + 2, none⟩ = some (.int .i64 t.a) := (hbel.cell (p := ⟨g, o + k * 8 + 2, none⟩) hg).trans (hcell 2 (by omega))
      have c3 : wr.cell? ⟨g, o + k * 8 + 3, none⟩ = some (.int .i64 t.b) := (hbel.cell (p := ⟨g, o + k * 8 + 3, none⟩) hg).trans (hcell 3 (by omega))
      have c4 : wr.cell? ⟨g, o + k * 8 + 4, none⟩ = some (.int .i64 t.vk) := (hbel.cell (p := ⟨g, o + k * 8 + 4, none⟩) hg).trans (hcell 4 (by omega))
      have c5 : wr.cell? ⟨g, o + k * 8 + 5, none⟩ = some (.int .i64 t.vn) := (hbel.cell (p := ⟨g, o + k * 8 + 5, none⟩) hg).trans (hcell 5 (by omega))
      have c6 : wr.cell? ⟨g, o + k * 8 + 6, none⟩ = some (.string t.vs) := (hbel.cell (p := ⟨g, o + k * 8 + 6, none⟩) hg).trans (hcell 6 (by omega))
      have c7 : wr.cell? ⟨g, o + k * 8 + 7, none⟩ = some (.slice a0 t.kids.length q0) := (hbel.cell (p := ⟨g, o + k * 8 + 7, none⟩) hg).trans (hcell 7 (by omega))
      have d0 : wr.cell? ⟨g2, o2 + k * 8, none⟩ = some (.int .i64 t.op) := (hbel.cell (p := ⟨g2, o2 + k * 8, none⟩) hg2).trans (hcell2 0 (by omega))
      have d1 : wr.cell? ⟨g2, o2 + k * 8 + 1, none⟩ = some (.int .i64 t.kind) := (hbel.cell (p := ⟨g2, o2 + k * 8 + 1, none⟩) hg2).trans (hcell2 1 (by omega))
      have d2 : wr.cell? ⟨g2, o2 + k * 8 + 2, none⟩ = some (.int .i64 t.a) := (hbel.cell (p := ⟨g2, o2 + k * 8 + 2, none⟩) hg2).trans (hcell2 2 (by omega))
      have d3 : wr.cell? ⟨g2, o2 + k * 8 + 3, none⟩ = some (.int .i64 t.b) := (hbel.cell (p := ⟨g2, o2 + k * 8 + 3, none⟩) hg2).trans (hcell2 3 (by omega))
      have d4 : wr.cell? ⟨g2, o2 + k * 8 + 4, none⟩ = some (.int .i64 t.vk) := (hbel.cell (p := ⟨g2, o2 + k * 8 + 4, none⟩) hg2).trans (hcell2 4 (by omega))
      have d5 : wr.cell? ⟨g2, o2 + k * 8 + 5, none⟩ = some (.int .i64 t.vn) := (hbel.cell (p := ⟨g2, o2 + k * 8 + 5, none⟩) hg2).trans (hcell2 5 (by omega))
      have d6 : wr.cell? ⟨g2, o2 + k * 8 + 6, none⟩ = some (.string t.vs) := (hbel.cell (p := ⟨g2, o2 + k * 8 + 6, none⟩) hg2).trans (hcell2 6 (by omega))
      have d7 : wr.cell? ⟨g2, o2 + k * 8 + 7, none⟩ = some (.slice xa0 t.kids.length xq0) := (hbel.cell (p := ⟨g2, o2 + k * 8 + 7, none⟩) hg2).trans (hcell2 7 (by omega))
      clear hcell hcell2
      have hdr : Below wr.heap.size wr wr.drew := (Below.refl _ wr).drew
      go_wp2
      go_region_with (go_at_call 66; refine (hcn _ hdr).mono ?_; rintro e w1 ⟨rfl, hb'⟩; replace hb' := undrew hb'; have bw1 : Below w.heap.size w w1 := hbel.trans (hb'.mono hbs))
      all_goals
        go_wp2
        go_roundw
        case rel => exact ⟨k + 1, by omega, by go_num, by first | exact bw1 | exact bw1.drew⟩
        case measure => simp [intOf]; omega
    · go_wp2
      go_ret
      exact ⟨rfl, hbel⟩
end Go.Proofs.Ytoieiegjhjedoaa
