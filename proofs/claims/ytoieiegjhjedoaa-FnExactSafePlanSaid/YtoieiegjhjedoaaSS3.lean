import Derived.Test.YtoieiegjhjedoaaSS2
namespace Go.Proofs.Ytoieiegjhjedoaa
open Go.ChangeShapes Go.WideShapes Go.ChangeAt Go.RowKit
set_option linter.unusedVariables false
set_option linter.unusedSimpArgs false
set_option maxRecDepth 100000
set_option maxHeartbeats 4000000 in
theorem szE_e (t : (List XN)) (cs : List Value) (left : Int) (w : World) (h0 : 0 ≤ left) (hl : left ≤ 1048576) (hB : BE maxLen t) (hC : CE 0 w cs t) : Calls Try.prog 50 #[.agg cs.toArray, .int .i64 left] w fun e w' => SzR (BE 1048576 t) left e ∧ Below w.heap.size w w' := by
  obtain ⟨v0, rfl, r0⟩ := hC
  have R0 := hid r0
  obtain ⟨a0, q0, rfl, _⟩ := r0
  have bw0 := below_alloc w (.cells #[.slice a0 t.length q0] 95)
  go_enter Try.func50, Try.ntmps50
  go_wp2_with (go_at_call 60; fail)
  refine (szXNodeS_any a0 q0 t left _ (by omega) (by omega) hB (R0.out.below liesX bw0)).mono ?_
  rintro e w1 ⟨hS1, hb1⟩
  have bw1 : Below w.heap.size w w1 := bw0.trans (hb1.mono bw0.size)
  obtain ⟨hc1, hf1⟩ := bcell hb1
  rcases hS1 with rfl | ⟨m1, hm1, rfl, p1⟩
  · go_wp2
    go_ret
    exact ⟨.inl rfl, bw1⟩
  · have hn1 : ¬ (m1 : Int) < 0 := by omega
    go_wp2
    go_ret
    exact ⟨.inr ⟨m1, by omega, rfl, p1⟩, bw1⟩
set_option maxHeartbeats 4000000 in
theorem szExprS_any (a : Option Addr) (cap : Nat) (us : List (List XN)) (left : Int) (w : World) (h0 : 0 ≤ left) (hl : left ≤ 1048576) (hb : us.length ≤ maxLen ∧ ∀ t ∈ us, BE maxLen t) (hv : RS 1 CE 0 w (.slice a us.length cap) us) :
    Calls Try.prog 28 #[.slice a us.length cap, .int .i64 left] w fun e w' => SzR (us.length ≤ 1048576 ∧ ∀ t ∈ us, BE 1048576 t) left e ∧ Below w.heap.size w w' := by
  obtain ⟨hn, hsz⟩ := hb
  have HSZ : Hid (∀ t ∈ us, BE maxLen t) := hsz
  clear hsz
  unfold maxLen at hn
  have hw : IntKind.i64.wrap (left - us.length) = left - us.length := by simp only [IntKind.wrap_i64, wrap64]; omega
  by_cases hbig : left - (us.length : Int) < 0
  · clear hv
    go_enter Try.func28, Try.ntmps28
    go_wp2
    all_goals first | (exfalso; go_light; omega) | skip
    go_ret
    exact ⟨.inl rfl, Below.refl _ _⟩
  · obtain ⟨a', cap', hsl, hcells⟩ := hv
    simp only [Value.slice.injEq] at hsl
    obtain ⟨rfl, _, rfl⟩ := hsl
    obtain ⟨m0, hm0⟩ : ∃ m : Nat, left - (us.length : Int) = m := ⟨(left - us.length).toNat, by omega⟩
    rw [hm0] at hw hbig
    go_enter Try.func28, Try.ntmps28
    go_wp2
    all_goals first | (exfalso; go_light; omega) | skip
    go_loopw [1, 5] (fun r i wr => ∃ (k m : Nat), k ≤ us.length ∧ (m : Int) ≤ left ∧ r = .int .i64 m ∧ i = .int .i64 k ∧ Hid (∀ t ∈ us.take k, BE 1048576 t) ∧ Below w.heap.size w wr) (fun _ i _ => us.length - (intOf i).toNat)
    case atStart => exact ⟨0, m0, Nat.zero_le _, by omega, rfl, rfl, fun t h => by simp at h, Below.refl _ _⟩
    case round =>
      obtain ⟨k, m, hk, hm, rfl, rfl, HO, hbel⟩ := hrel
      have hbs := hbel.size
      by_cases hlt : k < us.length
      · have hlti : (k : Int) < us.length := by omega
        obtain ⟨g, o, rfl, _, hg, hgc⟩ := hcells (by omega)
        obtain ⟨cs, hC, hcell⟩ := hgc k hlt
        have hC1 := liesE.below hC hbel
        have hB := HSZ.out us[k] (List.getElem_mem hlt)
        have HST : Hid (BE 1048576 us[k] → ∀ t ∈ us.take (k + 1), BE 1048576 t) := (fun z t ht => by
          rw [show us.take (k + 1) = us.take k ++ [us[k]] by rw [List.take_add_one, List.getElem?_eq_getElem hlt]; rfl] at ht
          rcases List.mem_append.1 ht with h | h
          · exact HO.out t h
          · rw [List.mem_singleton] at h; rw [h]; exact z : BE 1048576 us[k] → ∀ t ∈ us.take (k + 1), BE 1048576 t)
        clear hgc hcells
        generalize us[k] = t at *
        have hcn := szE_e t cs m wr (by omega) (by omega) hB hC1
        clear hC1
        obtain ⟨v0, rfl, r0⟩ := hC
        obtain ⟨a0, q0, rfl, _⟩ := r0
        have c0 : wr.cell? ⟨g, o + k, none⟩ = some (.slice a0 t.length q0) := (hbel.cell (p := ⟨g, o + k, none⟩) hg).trans (by have := hcell 0 (by omega); rw [Nat.mul_one, Nat.add_zero] at this; exact this)
        clear hcell
        go_wp2_with (go_at_call 50; fail)
        refine hcn.mono ?_
        rintro e w1 ⟨hS, hb1⟩
        have bw1 : Below w.heap.size w w1 := hbel.trans (hb1.mono hbs)
        clear hb1 hcn
        rcases hS with rfl | ⟨m', hm', rfl, hp⟩
        · go_wp2
          go_ret
          exact ⟨.inl rfl, bw1⟩
        · have hm0 : ¬ (m' : Int) < 0 := by omega
          have HY := hid (HST.out hp)
          clear HST
          go_wp2
          go_roundw
          case rel => exact ⟨k + 1, m', by omega, by omega, rfl, by go_num, HY, bw1⟩
          case measure => simp [intOf]; omega
      · have hkn : k = us.length := by omega
        subst hkn
        rw [List.take_length] at HO
        have hlti : ¬ (us.length : Int) < us.length := by omega
        have HS : Hid (SzR (us.length ≤ 1048576 ∧ ∀ t ∈ us, BE 1048576 t) left (.returned (.int .i64 m))) := .inr ⟨m, hm, rfl, by omega, HO.out⟩
        clear HO
        go_wp2
        go_ret
        exact ⟨HS.out, hbel⟩
end Go.Proofs.Ytoieiegjhjedoaa
