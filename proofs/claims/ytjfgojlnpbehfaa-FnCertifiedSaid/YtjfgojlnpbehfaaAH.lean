import Derived.Test.YtjfgojlnpbehfaaCL
namespace Go.Proofs.Ytjfgojlnpbehfaa
open Go.ChangeShapes Go.WideShapes Go.ChangeAt Go.RowKit
set_option linter.unusedVariables false
set_option linter.unusedSimpArgs false
set_option maxRecDepth 100000
set_option maxHeartbeats 4000000 in
theorem meets_law (a b : Option Addr) (ca cb : Nat) (xs ys : List Int) (w : World) (hn : xs.length ≤ 1048576) (hm : ys.length ≤ 1048576) (ha : RS 1 CI 0 w (.slice a xs.length ca) xs) (hb : RS 1 CI 0 w (.slice b ys.length cb) ys) :
    Calls Try.prog 37 #[.slice a xs.length ca, .slice b ys.length cb] w fun e w' => RB (meetP xs ys) e ∧ Below w.heap.size w w' := by
  obtain ⟨a', ca', he, hva⟩ := ha
  simp only [Value.slice.injEq] at he
  obtain ⟨rfl, _, rfl⟩ := he
  obtain ⟨b', cb', he, hvb⟩ := hb
  simp only [Value.slice.injEq] at he
  obtain ⟨rfl, _, rfl⟩ := he
  go_enter Try.func37, Try.ntmps37
  go_wp2
  go_loopw [11] (fun i wr => ∃ k : Nat, k ≤ xs.length ∧ i = .int .i64 k ∧ Hid (∀ x ∈ xs.take k, x ∉ ys) ∧ Below w.heap.size w wr) (fun i _ => xs.length - (intOf i).toNat)
  case atStart => exact ⟨0, Nat.zero_le _, rfl, (fun x h => by simp at h : ∀ x ∈ xs.take 0, x ∉ ys), Below.refl _ _⟩
  case round =>
    obtain ⟨k, hk, rfl, HO, hbel⟩ := hrel
    have hbs := hbel.size
    by_cases hlt : k < xs.length
    · have hlti : (k : Int) < xs.length := by omega
      obtain ⟨g, o, rfl, _, hg, hgc⟩ := hva (by omega)
      obtain ⟨cs, hC, hcell⟩ := hgc k hlt
      unfold CI at hC
      subst hC
      have c0 : wr.cell? ⟨g, o + k, none⟩ = some (.int .i64 xs[k]) := (hbel.cell (p := ⟨g, o + k, none⟩) hg).trans (by have := hcell 0 (by omega); rw [Nat.mul_one, Nat.add_zero] at this; exact this)
      have HST := hid (take_step (P := fun x => x ∉ ys) hlt HO.out)
      have HY : Hid (xs[k] ∈ ys → meetP xs ys) := (fun h => ⟨_, List.getElem_mem hlt, h⟩ : xs[k] ∈ ys → meetP xs ys)
      clear hgc hva hcell HO
      generalize xs[k] = x at c0 HST HY
      go_wp2
      go_loopw [17] (fun j wr => ∃ l : Nat, l ≤ ys.length ∧ j = .int .i64 l ∧ Hid (∀ y ∈ ys.take l, x ≠ y) ∧ Below w.heap.size w wr) (fun j _ => ys.length - (intOf j).toNat)
      case atStart => exact ⟨0, Nat.zero_le _, rfl, (fun y h => by simp at h : ∀ y ∈ ys.take 0, x ≠ y), hbel⟩
      case round =>
        obtain ⟨l, hl, rfl, HP, hbel2⟩ := hrel
        clear hbel
        by_cases hlt2 : l < ys.length
        · have hlti2 : (l : Int) < ys.length := by omega
          obtain ⟨g2, o2, rfl, _, hg2, hgc2⟩ := hvb (by omega)
          obtain ⟨ds, hD, hcell2⟩ := hgc2 l hlt2
          unfold CI at hD
          subst hD
          have d0 : wr.cell? ⟨g2, o2 + l, none⟩ = some (.int .i64 ys[l]) := (hbel2.cell (p := ⟨g2, o2 + l, none⟩) hg2).trans (by have := hcell2 0 (by omega); rw [Nat.mul_one, Nat.add_zero] at this; exact this)
          have HSU := hid (take_step (P := fun y => x ≠ y) hlt2 HP.out)
          have HYY : Hid (x = ys[l] → meetP xs ys) := (fun h => HY.out (h ▸ List.getElem_mem hlt2) : x = ys[l] → meetP xs ys)
          clear hgc2 hvb hcell2 HP HY
          generalize ys[l] = y at d0 HSU HYY
          by_cases hxy : x = y
          · have HT := hid (HYY.out hxy)
            clear HYY HSU
            go_wp2
            go_ret
            exact ⟨rb_t HT.out, hbel2⟩
          · have HV := hid (HSU.out hxy)
            clear HYY HSU
            go_wp2
            go_roundw
            case rel => exact ⟨l + 1, by omega, by go_num, HV, hbel2⟩
            case measure => simp [intOf]; omega
        · have hln : l = ys.length := by omega
          subst hln
          have hlti2 : ¬ (ys.length : Int) < ys.length := by omega
          have HV := hid (HST.out (fun h => by have := HP.out; rw [List.take_length] at this; exact this x h rfl))
          clear HP HY HST
          go_wp2
          go_roundw
          case rel => exact ⟨k + 1, by omega, by go_num, HV, hbel2⟩
          case measure => simp [intOf]; omega
    · have hkn : k = xs.length := by omega
      subst hkn
      have hlti : ¬ (xs.length : Int) < xs.length := by omega
      have HF : Hid (¬ meetP xs ys) := (fun ⟨x, h1, h2⟩ => by have := HO.out; rw [List.take_length] at this; exact this x h1 h2 : ¬ meetP xs ys)
      clear HO
      go_wp2
      go_ret
      exact ⟨rb_f HF.out, hbel⟩
set_option maxHeartbeats 8000000 in
theorem ahead_law (s t : TI) (cs ds : List Value) (w : World) (hs : BT 1048576 s) (ht : BT 1048576 t) (hC : CT 0 w cs s) (hD : CT 0 w ds t) :
    Calls Try.prog 21 #[.agg cs.toArray, .agg ds.toArray] w fun e w' => RB (s.com ≤ t.bgn ∨ leadsP s t) e ∧ Below w.heap.size w w' := by
  obtain ⟨v0, v1, rfl, r0, r1⟩ := hC
  have R0 := hid r0
  obtain ⟨a0, q0, rfl, _⟩ := r0
  have R1 := hid r1
  obtain ⟨a1, q1, rfl, _⟩ := r1
  obtain ⟨xv0, xv1, rfl, xr0, xr1⟩ := hD
  have S0 := hid xr0
  obtain ⟨xa0, xq0, rfl, _⟩ := xr0
  have S1 := hid xr1
  obtain ⟨xa1, xq1, rfl, _⟩ := xr1
  have bw : Below w.heap.size w ((w.alloc (.cells #[.int .i64 s.bgn, .int .i64 s.com, .slice a0 s.reads.length q0, .slice a1 s.writes.length q1] 31)).alloc (.cells #[.int .i64 t.bgn, .int .i64 t.com, .slice xa0 t.reads.length xq0, .slice xa1 t.writes.length xq1] 31)) := (below_alloc w _).alloc (by simp) _
  by_cases h0 : s.com ≤ t.bgn
  · have HY : Hid (s.com ≤ t.bgn ∨ leadsP s t) := (.inl h0 : s.com ≤ t.bgn ∨ leadsP s t)
    go_enter Try.func21, Try.ntmps21
    go_wp2
    go_ret
    exact ⟨rb_t HY.out, bw⟩
  by_cases h1 : s.bgn < t.com
  · by_cases h2 : t.bgn < s.com
    · have hcn := meets_law _ _ _ _ s.reads t.writes ((w.alloc (.cells #[.int .i64 s.bgn, .int .i64 s.com, .slice a0 s.reads.length q0, .slice a1 s.writes.length q1] 31)).alloc (.cells #[.int .i64 t.bgn, .int .i64 t.com, .slice xa0 t.reads.length xq0, .slice xa1 t.writes.length xq1] 31)) hs.1 ht.2 (R0.out.below liesI bw) (S1.out.below liesI bw)
      have HP : Hid (meetP s.reads t.writes ↔ (s.com ≤ t.bgn ∨ leadsP s t)) := (⟨fun h => .inr ⟨h1, h2, h⟩, fun h => by rcases h with h | h; exact absurd h h0; exact h.2.2⟩ : meetP s.reads t.writes ↔ (s.com ≤ t.bgn ∨ leadsP s t))
      go_enter Try.func21, Try.ntmps21
      go_wp2_with (go_at_call 37; fail)
      refine hcn.mono ?_
      rintro e w1 ⟨⟨r, rfl, hr⟩, hb'⟩
      have bw1 : Below w.heap.size w w1 := bw.trans (hb'.mono bw.size)
      have HRB : Hid (RB (s.com ≤ t.bgn ∨ leadsP s t) (.returned (.bool r))) := ⟨r, rfl, hr.trans HP.out⟩
      clear hb' hcn hr HP
      go_wp2
      go_ret
      exact ⟨HRB.out, bw1⟩
    · exact absurd (by omega) h2
  · have HF : Hid (¬ (s.com ≤ t.bgn ∨ leadsP s t)) := (fun h => by rcases h with h | h; exact h0 h; exact h1 h.1 : ¬ (s.com ≤ t.bgn ∨ leadsP s t))
    go_enter Try.func21, Try.ntmps21
    go_wp2
    go_ret
    exact ⟨rb_f HF.out, bw⟩
end Go.Proofs.Ytjfgojlnpbehfaa
