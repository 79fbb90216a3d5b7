import Derived.Test.YtfgjleifhjegkaaDoorVD
namespace Go.Proofs.YtfgjleifhjegkaaDoor
open Go.ChangeShapes Go.WideShapes Go.ChangeAt Go.RowKit
set_option linter.unusedVariables false
set_option linter.unusedSimpArgs false
set_option maxRecDepth 100000
theorem szV_e (t : VA) (cs : List Value) (left : Int) (w : World) (h0 : 0 ≤ left) (hl : left ≤ 1048576) (hB : BV maxLen t) (hC : CV 0 w cs t) : Calls Tryd.prog 28 #[.agg cs.toArray, .int .i64 left] w fun e w' => SzR (BV 1048576 t) left e ∧ Below w.heap.size w w' := by
  unfold CV at hC
  subst hC
  unfold BV maxLen at hB
  by_cases h : (t.s.size : Int) ≤ left
  · obtain ⟨m, hm⟩ : ∃ m : Nat, left - (t.s.size : Int) = m := ⟨(left - t.s.size).toNat, by omega⟩
    have HR : Hid (SzR (BV 1048576 t) left (.returned (.int .i64 (left - t.s.size)))) := .inr ⟨m, by omega, by rw [hm], by unfold BV; omega⟩
    clear hm
    go_enter Tryd.func28, Tryd.ntmps28
    go_wp2
    go_ret
    exact ⟨HR.out, below_alloc _ _⟩
  · have h' : left < (t.s.size : Int) := by omega
    clear h
    go_enter Tryd.func28, Tryd.ntmps28
    go_wp2
    go_ret
    exact ⟨.inl rfl, below_alloc _ _⟩
set_option maxHeartbeats 4000000 in
theorem szVS_any (a : Option Addr) (cap : Nat) (us : List VA) (left : Int) (w : World) (h0 : 0 ≤ left) (hl : left ≤ 1048576) (hb : us.length ≤ maxLen ∧ ∀ t ∈ us, BV maxLen t) (hv : RS 3 CV 0 w (.slice a us.length cap) us) :
    Calls Tryd.prog 8 #[.slice a us.length cap, .int .i64 left] w fun e w' => SzR (us.length ≤ 1048576 ∧ ∀ t ∈ us, BV 1048576 t) left e ∧ Below w.heap.size w w' := by
  obtain ⟨hn, hsz⟩ := hb
  have HSZ : Hid (∀ t ∈ us, BV maxLen t) := hsz
  clear hsz
  unfold maxLen at hn
  have hw : IntKind.i64.wrap (left - us.length) = left - us.length := by simp only [IntKind.wrap_i64, wrap64]; omega
  by_cases hbig : left - (us.length : Int) < 0
  · clear hv
    go_enter Tryd.func8, Tryd.ntmps8
    go_wp2
    all_goals first | (exfalso; go_light; omega) | skip
    go_ret
    exact ⟨.inl rfl, Below.refl _ _⟩
  · obtain ⟨a', cap', hsl, hcells⟩ := hv
    simp only [Value.slice.injEq] at hsl
    obtain ⟨rfl, _, rfl⟩ := hsl
    obtain ⟨m0, hm0⟩ : ∃ m : Nat, left - (us.length : Int) = m := ⟨(left - us.length).toNat, by omega⟩
    rw [hm0] at hw hbig
    go_enter Tryd.func8, Tryd.ntmps8
    go_wp2
    all_goals first | (exfalso; go_light; omega) | skip
    go_loopw [1, 5] (fun r i wr => ∃ (k m : Nat), k ≤ us.length ∧ (m : Int) ≤ left ∧ r = .int .i64 m ∧ i = .int .i64 k ∧ Hid (∀ t ∈ us.take k, BV 1048576 t) ∧ Below w.heap.size w wr) (fun _ i _ => us.length - (intOf i).toNat)
    case atStart => exact ⟨0, m0, Nat.zero_le _, by omega, rfl, rfl, fun t h => by simp at h, Below.refl _ _⟩
    case round =>
      obtain ⟨k, m, hk, hm, rfl, rfl, HO, hbel⟩ := hrel
      have hbs := hbel.size
      by_cases hlt : k < us.length
      · have hlti : (k : Int) < us.length := by omega
        obtain ⟨g, o, rfl, _, hg, hgc⟩ := hcells (by omega)
        obtain ⟨cs, hC, hcell⟩ := hgc k hlt
        have hC1 := liesV.below hC hbel
        have hB := HSZ.out us[k] (List.getElem_mem hlt)
        have HST : Hid (BV 1048576 us[k] → ∀ t ∈ us.take (k + 1), BV 1048576 t) := (fun z t ht => by
          rw [show us.take (k + 1) = us.take k ++ [us[k]] by rw [List.take_add_one, List.getElem?_eq_getElem hlt]; rfl] at ht
          rcases List.mem_append.1 ht with h | h
          · exact HO.out t h
          · rw [List.mem_singleton] at h; rw [h]; exact z : BV 1048576 us[k] → ∀ t ∈ us.take (k + 1), BV 1048576 t)
        clear hgc hcells
        generalize us[k] = t at *
        have hcn := szV_e t cs m wr (by omega) (by omega) hB hC1
        clear hC1
        have he := hC
        unfold CV at he
        subst he
        have c0 : wr.cell? ⟨g, o + k * 3, none⟩ = some (.int .i64 t.k) := (hbel.cell (p := ⟨g, o + k * 3, none⟩) hg).trans (hcell 0 (by omega))
        have c1 : wr.cell? ⟨g, o + k * 3 + 1, none⟩ = some (.int .i64 t.n) := (hbel.cell (p := ⟨g, o + k * 3 + 1, none⟩) hg).trans (hcell 1 (by omega))
        have c2 : wr.cell? ⟨g, o + k * 3 + 2, none⟩ = some (.string t.s) := (hbel.cell (p := ⟨g, o + k * 3 + 2, none⟩) hg).trans (hcell 2 (by omega))
        clear hcell
        go_wp2_with (go_at_call 28; fail)
        refine hcn.mono ?_
        rintro e w1 ⟨hS, hb1⟩
        have bw1 : Below w.heap.size w w1 := hbel.trans (hb1.mono hbs)
        clear hb1 hcn
        rcases hS with rfl | ⟨m', hm', rfl, hp⟩
        · go_wp2
          go_ret
          exact ⟨.inl rfl, bw1⟩
        · have hm0 : ¬ (m' : Int) < 0 := by omega
          have HY := hid (HST.out hp)
          clear HST
          go_wp2
          go_roundw
          case rel => exact ⟨k + 1, m', by omega, by omega, rfl, by go_num, HY, bw1⟩
          case measure => simp [intOf]; omega
      · have hkn : k = us.length := by omega
        subst hkn
        rw [List.take_length] at HO
        have hlti : ¬ (us.length : Int) < us.length := by omega
        have HS : Hid (SzR (us.length ≤ 1048576 ∧ ∀ t ∈ us, BV 1048576 t) left (.returned (.int .i64 m))) := .inr ⟨m, hm, rfl, by omega, HO.out⟩
        clear HO
        go_wp2
        go_ret
        exact ⟨HS.out, hbel⟩
end Go.Proofs.YtfgjleifhjegkaaDoor
