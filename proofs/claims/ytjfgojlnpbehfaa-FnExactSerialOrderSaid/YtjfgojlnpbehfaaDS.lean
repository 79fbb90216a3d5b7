import Derived.Test.YtjfgojlnpbehfaaDD
namespace Go.Proofs.Ytjfgojlnpbehfaa
open Go.ChangeShapes Go.WideShapes Go.ChangeAt Go.RowKit
set_option linter.unusedVariables false
set_option linter.unusedSimpArgs false
set_option maxRecDepth 100000
theorem szIntS_any (a : Option Addr) (n cap : Nat) (left : Int) (w : World) (h0 : 0 ≤ left) (hl : left ≤ 1048576) (hn : n ≤ maxLen) :
    Calls Try.prog 22 #[.slice a n cap, .int .i64 left] w fun e w' => SzR (n ≤ 1048576) left e ∧ w' = w := by
  unfold maxLen at hn
  have hw : IntKind.i64.wrap (left - n) = left - n := by simp only [IntKind.wrap_i64, wrap64]; omega
  by_cases h : (n : Int) ≤ left
  · have hn : ¬ left - (n : Int) < 0 := by omega
    obtain ⟨m, hm⟩ : ∃ m : Nat, left - (n : Int) = m := ⟨(left - n).toNat, by omega⟩
    have HR : Hid (SzR (n ≤ 1048576) left (.returned (.int .i64 (left - n)))) := .inr ⟨m, by omega, by rw [hm], by omega⟩
    clear hm
    go_enter Try.func22, Try.ntmps22
    go_wp2
    all_goals first | (exfalso; go_light; omega) | skip
    go_ret
    exact ⟨HR.out, rfl⟩
  · have hn : left - (n : Int) < 0 := by omega
    go_enter Try.func22, Try.ntmps22
    go_wp2
    all_goals first | (exfalso; go_light; omega) | skip
    go_ret
    exact ⟨.inl rfl, rfl⟩
set_option maxHeartbeats 4000000 in
theorem szT_e (t : TI) (cs : List Value) (left : Int) (w : World) (h0 : 0 ≤ left) (hl : left ≤ 1048576) (hB : BT maxLen t) (hC : CT 0 w cs t) : Calls Try.prog 7 #[.agg cs.toArray, .int .i64 left] w fun e w' => SzR (BT 1048576 t) left e ∧ Below w.heap.size w w' := by
  obtain ⟨v0, v1, rfl, r0, r1⟩ := hC
  have R0 := hid r0
  obtain ⟨a0, q0, rfl, _⟩ := r0
  have R1 := hid r1
  obtain ⟨a1, q1, rfl, _⟩ := r1
  have bw0 := below_alloc w (.cells #[.int .i64 t.bgn, .int .i64 t.com, .slice a0 t.reads.length q0, .slice a1 t.writes.length q1] 25)
  go_enter Try.func7, Try.ntmps7
  go_wp2_with (go_at_call 22; fail)
  refine (szIntS_any a0 t.reads.length q0 left _ (by omega) (by omega) hB.1).mono ?_
  rintro e w1 ⟨hS1, hb1⟩
  replace hb1 := hb1.symm
  subst hb1
  have bw1 := bw0
  rcases hS1 with rfl | ⟨m1, hm1, rfl, p1⟩
  · go_wp2
    go_ret
    exact ⟨.inl rfl, bw1⟩
  · have hn1 : ¬ (m1 : Int) < 0 := by omega
    go_wp2_with (go_at_call 22; fail)
    refine (szIntS_any a1 t.writes.length q1 m1 _ (by omega) (by omega) hB.2).mono ?_
    rintro e w2 ⟨hS2, hb2⟩
    replace hb2 := hb2.symm
    subst hb2
    have bw2 := bw1
    rcases hS2 with rfl | ⟨m2, hm2, rfl, p2⟩
    · go_wp2
      go_ret
      exact ⟨.inl rfl, bw2⟩
    · have hn2 : ¬ (m2 : Int) < 0 := by omega
      go_wp2
      go_ret
      exact ⟨.inr ⟨m2, by omega, rfl, ⟨p1, p2⟩⟩, bw2⟩
set_option maxHeartbeats 4000000 in
theorem szTS_any (a : Option Addr) (cap : Nat) (us : List TI) (left : Int) (w : World) (h0 : 0 ≤ left) (hl : left ≤ 1048576) (hb : us.length ≤ maxLen ∧ ∀ t ∈ us, BT maxLen t) (hv : RS 4 CT 0 w (.slice a us.length cap) us) :
    Calls Try.prog 6 #[.slice a us.length cap, .int .i64 left] w fun e w' => SzR (us.length ≤ 1048576 ∧ ∀ t ∈ us, BT 1048576 t) left e ∧ Below w.heap.size w w' := by
  obtain ⟨hn, hsz⟩ := hb
  have HSZ : Hid (∀ t ∈ us, BT maxLen t) := hsz
  clear hsz
  unfold maxLen at hn
  have hw : IntKind.i64.wrap (left - us.length) = left - us.length := by simp only [IntKind.wrap_i64, wrap64]; omega
  by_cases hbig : left - (us.length : Int) < 0
  · clear hv
    go_enter Try.func6, Try.ntmps6
    go_wp2
    all_goals first | (exfalso; go_light; omega) | skip
    go_ret
    exact ⟨.inl rfl, Below.refl _ _⟩
  · obtain ⟨a', cap', hsl, hcells⟩ := hv
    simp only [Value.slice.injEq] at hsl
    obtain ⟨rfl, _, rfl⟩ := hsl
    obtain ⟨m0, hm0⟩ : ∃ m : Nat, left - (us.length : Int) = m := ⟨(left - us.length).toNat, by omega⟩
    rw [hm0] at hw hbig
    go_enter Try.func6, Try.ntmps6
    go_wp2
    all_goals first | (exfalso; go_light; omega) | skip
    go_loopw [1, 5] (fun r i wr => ∃ (k m : Nat), k ≤ us.length ∧ (m : Int) ≤ left ∧ r = .int .i64 m ∧ i = .int .i64 k ∧ Hid (∀ t ∈ us.take k, BT 1048576 t) ∧ Below w.heap.size w wr) (fun _ i _ => us.length - (intOf i).toNat)
    case atStart => exact ⟨0, m0, Nat.zero_le _, by omega, rfl, rfl, fun t h => by simp at h, Below.refl _ _⟩
    case round =>
      obtain ⟨k, m, hk, hm, rfl, rfl, HO, hbel⟩ := hrel
      have hbs := hbel.size
      by_cases hlt : k < us.length
      · have hlti : (k : Int) < us.length := by omega
        obtain ⟨g, o, rfl, _, hg, hgc⟩ := hcells (by omega)
        obtain ⟨cs, hC, hcell⟩ := hgc k hlt
        have hC1 := liesT.below hC hbel
        have hB := HSZ.out us[k] (List.getElem_mem hlt)
        have HST : Hid (BT 1048576 us[k] → ∀ t ∈ us.take (k + 1), BT 1048576 t) := (fun z t ht => by
          rw [show us.take (k + 1) = us.take k ++ [us[k]] by rw [List.take_add_one, List.getElem?_eq_getElem hlt]; rfl] at ht
          rcases List.mem_append.1 ht with h | h
          · exact HO.out t h
          · rw [List.mem_singleton] at h; rw [h]; exact z : BT 1048576 us[k] → ∀ t ∈ us.take (k + 1), BT 1048576 t)
        clear hgc hcells
        generalize us[k] = t at *
        have hcn := szT_e t cs m wr (by omega) (by omega) hB hC1
        clear hC1
        obtain ⟨v0, v1, rfl, r0, r1⟩ := hC
        obtain ⟨a0, q0, rfl, _⟩ := r0
        obtain ⟨a1, q1, rfl, _⟩ := r1
        have c0 : wr.cell? ⟨g, o + k * 4, none⟩ = some (.int .i64 t.bgn) := (hbel.cell (p := ⟨g, o + k * 4, none⟩) hg).trans (hcell 0 (by omega))
        have c1 : wr.cell? ⟨g, o + k * 4 + 1, none⟩ = some (.int .i64 t.com) := (hbel.cell (p := ⟨g, o + k * 4 + 1, none⟩) hg).trans (hcell 1 (by omega))
        have c2 : wr.cell? ⟨g, o + k * 4 + 2, none⟩ = some (.slice a0 t.reads.length q0) := (hbel.cell (p := ⟨g, o + k * 4 + 2, none⟩) hg).trans (hcell 2 (by omega))
        have c3 : wr.cell? ⟨g, o + k * 4 + 3, none⟩ = some (.slice a1 t.writes.length q1) := (hbel.cell (p := ⟨g, o + k * 4 + 3, none⟩) hg).trans (hcell 3 (by omega))
        clear hcell
        go_wp2_with (go_at_call 7; fail)
        refine hcn.mono ?_
        rintro e w1 ⟨hS, hb1⟩
        have bw1 : Below w.heap.size w w1 := hbel.trans (hb1.mono hbs)
        clear hb1 hcn
        rcases hS with rfl | ⟨m', hm', rfl, hp⟩
        · go_wp2
          go_ret
          exact ⟨.inl rfl, bw1⟩
        · have hm0 : ¬ (m' : Int) < 0 := by omega
          have HY := hid (HST.out hp)
          clear HST
          go_wp2
          go_roundw
          case rel => exact ⟨k + 1, m', by omega, by omega, rfl, by go_num, HY, bw1⟩
          case measure => simp [intOf]; omega
      · have hkn : k = us.length := by omega
        subst hkn
        rw [List.take_length] at HO
        have hlti : ¬ (us.length : Int) < us.length := by omega
        have HS : Hid (SzR (us.length ≤ 1048576 ∧ ∀ t ∈ us, BT 1048576 t) left (.returned (.int .i64 m))) := .inr ⟨m, hm, rfl, by omega, HO.out⟩
        clear HO
        go_wp2
        go_ret
        exact ⟨HS.out, hbel⟩
end Go.Proofs.Ytjfgojlnpbehfaa
