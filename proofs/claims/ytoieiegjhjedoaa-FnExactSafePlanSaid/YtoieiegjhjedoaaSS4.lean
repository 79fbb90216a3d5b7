import Derived.Test.YtoieiegjhjedoaaSS3
namespace Go.Proofs.Ytoieiegjhjedoaa
open Go.ChangeShapes Go.WideShapes Go.ChangeAt Go.RowKit
set_option linter.unusedVariables false
set_option linter.unusedSimpArgs false
set_option maxRecDepth 100000
set_option maxHeartbeats 4000000 in
theorem szP_e (t : PN) (cs : List Value) (left : Int) (w : World) (h0 : 0 ≤ left) (hl : left ≤ 1048576) (hB : BP maxLen t) (hC : CP 0 w cs t) : Calls Try.prog 17 #[.agg cs.toArray, .int .i64 left] w fun e w' => SzR (BP 1048576 t) left e ∧ Below w.heap.size w w' := by
  obtain ⟨v0, v1, v2, v3, v4, rfl, r0, r1, r2, r3, r4⟩ := hC
  have R0 := hid r0
  obtain ⟨a0, q0, rfl, _⟩ := r0
  have R1 := hid r1
  obtain ⟨a1, q1, rfl, _⟩ := r1
  have R2 := hid r2
  obtain ⟨a2, q2, rfl, _⟩ := r2
  have R3 := hid r3
  obtain ⟨a3, q3, rfl, _⟩ := r3
  have R4 := hid r4
  obtain ⟨a4, q4, rfl, _⟩ := r4
  have bw0 := below_alloc w (.cells #[.int .i64 t.op, .int .i64 t.l, .int .i64 t.r, .int .i64 t.table, .int .i64 t.a, .int .i64 t.b, .slice a0 t.exprs.length q0, .slice a1 t.keys.length q1, .slice a2 t.aggs.length q2, .slice a3 t.sorts.length q3, .slice a4 t.kinds.length q4] 58)
  go_enter Try.func17, Try.ntmps17
  go_wp2_with (go_at_call 28; fail)
  refine (szExprS_any a0 q0 t.exprs left _ (by omega) (by omega) hB.1 (R0.out.below liesE bw0)).mono ?_
  rintro e w1 ⟨hS1, hb1⟩
  have bw1 : Below w.heap.size w w1 := bw0.trans (hb1.mono bw0.size)
  obtain ⟨hc1, hf1⟩ := bcell hb1
  rcases hS1 with rfl | ⟨m1, hm1, rfl, p1⟩
  · go_wp2
    go_ret
    exact ⟨.inl rfl, bw1⟩
  · have hn1 : ¬ (m1 : Int) < 0 := by omega
    go_wp2_with (go_at_call 29; fail)
    refine (szIntS_any a1 t.keys.length q1 m1 _ (by omega) (by omega) hB.2.1).mono ?_
    rintro e w2 ⟨hS2, hb2⟩
    replace hb2 := hb2.symm
    subst hb2
    have bw2 := bw1
    rcases hS2 with rfl | ⟨m2, hm2, rfl, p2⟩
    · go_wp2
      go_ret
      exact ⟨.inl rfl, bw2⟩
    · have hn2 : ¬ (m2 : Int) < 0 := by omega
      go_wp2_with (go_at_call 30; fail)
      refine (szPAggS_any a2 t.aggs.length q2 m2 _ (by omega) (by omega) hB.2.2.1).mono ?_
      rintro e w3 ⟨hS3, hb3⟩
      replace hb3 := hb3.symm
      subst hb3
      have bw3 := bw2
      rcases hS3 with rfl | ⟨m3, hm3, rfl, p3⟩
      · go_wp2
        go_ret
        exact ⟨.inl rfl, bw3⟩
      · have hn3 : ¬ (m3 : Int) < 0 := by omega
        go_wp2_with (go_at_call 31; fail)
        refine (szSortKeyS_any a3 t.sorts.length q3 m3 _ (by omega) (by omega) hB.2.2.2.1).mono ?_
        rintro e w4 ⟨hS4, hb4⟩
        replace hb4 := hb4.symm
        subst hb4
        have bw4 := bw3
        rcases hS4 with rfl | ⟨m4, hm4, rfl, p4⟩
        · go_wp2
          go_ret
          exact ⟨.inl rfl, bw4⟩
        · have hn4 : ¬ (m4 : Int) < 0 := by omega
          go_wp2_with (go_at_call 29; fail)
          refine (szIntS_any a4 t.kinds.length q4 m4 _ (by omega) (by omega) hB.2.2.2.2).mono ?_
          rintro e w5 ⟨hS5, hb5⟩
          replace hb5 := hb5.symm
          subst hb5
          have bw5 := bw4
          rcases hS5 with rfl | ⟨m5, hm5, rfl, p5⟩
          · go_wp2
            go_ret
            exact ⟨.inl rfl, bw5⟩
          · have hn5 : ¬ (m5 : Int) < 0 := by omega
            go_wp2
            go_ret
            exact ⟨.inr ⟨m5, by omega, rfl, ⟨p1, p2, p3, p4, p5⟩⟩, bw5⟩
set_option maxHeartbeats 4000000 in
theorem szPNodeS_any (a : Option Addr) (cap : Nat) (us : List PN) (left : Int) (w : World) (h0 : 0 ≤ left) (hl : left ≤ 1048576) (hb : us.length ≤ maxLen ∧ ∀ t ∈ us, BP maxLen t) (hv : RS 11 CP 0 w (.slice a us.length cap) us) :
    Calls Try.prog 9 #[.slice a us.length cap, .int .i64 left] w fun e w' => SzR (us.length ≤ 1048576 ∧ ∀ t ∈ us, BP 1048576 t) left e ∧ Below w.heap.size w w' := by
  obtain ⟨hn, hsz⟩ := hb
  have HSZ : Hid (∀ t ∈ us, BP maxLen t) := hsz
  clear hsz
  unfold maxLen at hn
  have hw : IntKind.i64.wrap (left - us.length) = left - us.length := by simp only [IntKind.wrap_i64, wrap64]; omega
  by_cases hbig : left - (us.length : Int) < 0
  · clear hv
    go_enter Try.func9, Try.ntmps9
    go_wp2
    all_goals first | (exfalso; go_light; omega) | skip
    go_ret
    exact ⟨.inl rfl, Below.refl _ _⟩
  · obtain ⟨a', cap', hsl, hcells⟩ := hv
    simp only [Value.slice.injEq] at hsl
    obtain ⟨rfl, _, rfl⟩ := hsl
    obtain ⟨m0, hm0⟩ : ∃ m : Nat, left - (us.length : Int) = m := ⟨(left - us.length).toNat, by omega⟩
    rw [hm0] at hw hbig
    go_enter Try.func9, Try.ntmps9
    go_wp2
    all_goals first | (exfalso; go_light; omega) | skip
    go_loopw [1, 5] (fun r i wr => ∃ (k m : Nat), k ≤ us.length ∧ (m : Int) ≤ left ∧ r = .int .i64 m ∧ i = .int .i64 k ∧ Hid (∀ t ∈ us.take k, BP 1048576 t) ∧ Below w.heap.size w wr) (fun _ i _ => us.length - (intOf i).toNat)
    case atStart => exact ⟨0, m0, Nat.zero_le _, by omega, rfl, rfl, fun t h => by simp at h, Below.refl _ _⟩
    case round =>
      obtain ⟨k, m, hk, hm, rfl, rfl, HO, hbel⟩ := hrel
      have hbs := hbel.size
      by_cases hlt : k < us.length
      · have hlti : (k : Int) < us.length := by omega
        obtain ⟨g, o, rfl, _, hg, hgc⟩ := hcells (by omega)
        obtain ⟨cs, hC, hcell⟩ := hgc k hlt
        have hC1 := liesP.below hC hbel
        have hB := HSZ.out us[k] (List.getElem_mem hlt)
        have HST : Hid (BP 1048576 us[k] → ∀ t ∈ us.take (k + 1), BP 1048576 t) := (fun z t ht => by
          rw [show us.take (k + 1) = us.take k ++ [us[k]] by rw [List.take_add_one, List.getElem?_eq_getElem hlt]; rfl] at ht
          rcases List.mem_append.1 ht with h | h
          · exact HO.out t h
          · rw [List.mem_singleton] at h; rw [h]; exact z : BP 1048576 us[k] → ∀ t ∈ us.take (k + 1), BP 1048576 t)
        clear hgc hcells
        generalize us[k] = t at *
        have hcn := szP_e t cs m wr (by omega) (by omega) hB hC1
        clear hC1
        obtain ⟨v0, v1, v2, v3, v4, rfl, r0, r1, r2, r3, r4⟩ := hC
        obtain ⟨a0, q0, rfl, _⟩ := r0
        obtain ⟨a1, q1, rfl, _⟩ := r1
        obtain ⟨a2, q2, rfl, _⟩ := r2
        obtain ⟨a3, q3, rfl, _⟩ := r3
        obtain ⟨a4, q4, rfl, _⟩ := r4
        have c0 : wr.cell? ⟨g, o + k * 11, none⟩ = some (.int .i64 t.op) := (hbel.cell (p := ⟨g, o + k * 11, none⟩) hg).trans (hcell 0 (by omega))
        have c1 : wr.cell? ⟨g, o + k * 11 + 1, none⟩ = some (.int .i64 t.l) := (hbel.cell (p := ⟨g, o + k * 11 + 1, none⟩) hg).trans (hcell 1 (by omega))
        have c2 : wr.cell? ⟨g, o + k * 11 + 2, none⟩ = some (.int .i64 t.r) := (hbel.cell (p := ⟨g, o + k * 11 + 2, none⟩) hg).trans (hcell 2 (by omega))
        have c3 : wr.cell? ⟨g, o + k * 11 + 3, none⟩ = some (.int .i64 t.table) := (hbel.cell (p := ⟨g, o + k * 11 + 3, none⟩) hg).trans (hcell 3 (by omega))
        have c4 : wr.cell? ⟨g, o + k * 11 + 4, none⟩ = some (.int .i64 t.a) := (hbel.cell (p := ⟨g, o + k * 11 + 4, none⟩) hg).trans (hcell 4 (by omega))
        have c5 : wr.cell? ⟨g, o + k * 11 + 5, none⟩ = some (.int .i64 t.b) := (hbel.cell (p := ⟨g, o + k * 11 + 5, none⟩) hg).trans (hcell 5 (by omega))
        have c6 : wr.cell? ⟨g, o + k * 11 + 6, none⟩ = some (.slice a0 t.exprs.length q0) := (hbel.cell (p := ⟨g, o + k * 11 + 6, none⟩) hg).trans (hcell 6 (by omega))
        have c7 : wr.cell? ⟨g, o + k * 11 + 7, none⟩ = some (.slice a1 t.keys.length q1) := (hbel.cell (p := ⟨g, o + k * 11 + 7, none⟩) hg).trans (hcell 7 (by omega))
        have c8 : wr.cell? ⟨g, o + k * 11 + 8, none⟩ = some (.slice a2 t.aggs.length q2) := (hbel.cell (p := ⟨g, o + k * 11 + 8, none⟩) hg).trans (hcell 8 (by omega))
        have c9 : wr.cell? ⟨g, o + k * 11 + 9, none⟩ = some (.slice a3 t.sorts.length q3) := (hbel.cell (p := ⟨g, o + k * 11 + 9, none⟩) hg).trans (hcell 9 (by omega))
        have c10 : wr.cell? ⟨g, o + k * 11 + 10, none⟩ = some (.slice a4 t.kinds.length q4) := (hbel.cell (p := ⟨g, o + k * 11 + 10, none⟩) hg).trans (hcell 10 (by omega))
        clear hcell
        go_wp2_with (go_at_call 17; fail)
        refine hcn.mono ?_
        rintro e w1 ⟨hS, hb1⟩
        have bw1 : Below w.heap.size w w1 := hbel.trans (hb1.mono hbs)
        clear hb1 hcn
        rcases hS with rfl | ⟨m', hm', rfl, hp⟩
        · go_wp2
          go_ret
          exact ⟨.inl rfl, bw1⟩
        · have hm0 : ¬ (m' : Int) < 0 := by omega
          have HY := hid (HST.out hp)
          clear HST
          go_wp2
          go_roundw
          case rel => exact ⟨k + 1, m', by omega, by omega, rfl, by go_num, HY, bw1⟩
          case measure => simp [intOf]; omega
      · have hkn : k = us.length := by omega
        subst hkn
        rw [List.take_length] at HO
        have hlti : ¬ (us.length : Int) < us.length := by omega
        have HS : Hid (SzR (us.length ≤ 1048576 ∧ ∀ t ∈ us, BP 1048576 t) left (.returned (.int .i64 m))) := .inr ⟨m, hm, rfl, by omega, HO.out⟩
        clear HO
        go_wp2
        go_ret
        exact ⟨HS.out, hbel⟩
end Go.Proofs.Ytoieiegjhjedoaa
