import Derived.Test.YtoieiegjhjedoaaST0
namespace Go.Proofs.Ytoieiegjhjedoaa
open Go.ChangeShapes Go.WideShapes Go.ChangeAt Go.RowKit
set_option linter.unusedVariables false
set_option linter.unusedSimpArgs false
set_option maxRecDepth 100000
theorem info3 : (Try.prog.info? 3).map (fun i => (i.zero, i.size, i.bytes)) = some (some (.int .i64 0), 1, 8) := by kernel_rfl
theorem info44 : (Try.prog.info? 44).map (fun i => (i.zero, i.size, i.bytes)) = some (some (.agg #[.int .i64 0, .int .i64 0, .bool false]), 3, 24) := by kernel_rfl
set_option maxHeartbeats 16000000 in
theorem toPAggS_any (a : Option Addr) (cap : Nat) (us : List PA) (w : World) (hb : us.length ≤ 1048576) (hv : RS 3 CPA 0 w (.slice a us.length cap) us) :
    Calls Try.prog 37 #[.slice a us.length cap] w fun e w' => e = .returned (.slice (some ⟨w.heap.size, 0, none⟩) us.length us.length) ∧ RS 3 CPA w.heap.size w' (.slice (some ⟨w.heap.size, 0, none⟩) us.length us.length) us ∧ Below w.heap.size w w' := by
  obtain ⟨i0, hi, hz0, hz1, hz2⟩ := info_parts info44
  have hn := hb
  obtain ⟨a', cap', hsl, hcells⟩ := hv
  simp only [Value.slice.injEq] at hsl
  obtain ⟨rfl, _, rfl⟩ := hsl
  go_enter Try.func37, Try.ntmps37
  go_wp2_with (refine wpList_make_full _ rfl (.tmp 6) (.tmp 6) 36 rfl w.heap.size 44 i0 _ 3 Try.underlying36 hi hz0 hz1 .i64 .i64 us.length us.length us.length rfl rfl rfl rfl (by rw [hz2]; omega) (by unfold maxLen; omega) (Nat.le_refl _) ?_; intro w1 hown hgrow)
  have HB : Hid (Below w.heap.size w w1) := (Below.refl _ _).grown hgrow (Nat.le_refl _) (fun k hk => by simp at hk)
  have hb1 := HB.out
  have hw1 := hb1.size
  go_loopw [4] (fun i wr => ∃ (k : Nat) (xs : List Value), k ≤ us.length ∧ i = .int .i64 k ∧ Hid (Fill 3 CPA (w.heap.size + 1) us k xs wr) ∧ wr.ownsRow w.heap.size 44 3 (.slice (some ⟨w.heap.size, 0, none⟩) us.length us.length) us.length xs ∧ Below w.heap.size w wr) (fun i _ => us.length - (intOf i).toNat)
  case atStart => exact ⟨0, _, Nat.zero_le _, rfl, ⟨by simp [size_madeCells], fun i _ h => absurd h (Nat.not_lt_zero _)⟩, hown, hb1⟩
  case round =>
    obtain ⟨k, xs, hk, rfl, HF, ho, hbel⟩ := hrel
    have hbs := hbel.size
    by_cases hlt : k < us.length
    · have hlti : (k : Int) < us.length := by omega
      obtain ⟨g, o, rfl, _, hg, hgc⟩ := hcells (by omega)
      obtain ⟨cs, hC, hcell⟩ := hgc k hlt
      have hC1 := liesPA.below hC hbel
      have HST : Hid (∀ (w2 : World) (ds : List Value), Below wr.heap.size wr w2 → CPA (w.heap.size + 1) w2 ds us[k] → Fill 3 CPA (w.heap.size + 1) us (k + 1) (setL xs (k * 3) ds) (setW w2 w.heap.size (k * 3) ds)) := (fun w2 ds a b => HF.out.step liesPA (by omega) hlt a b : ∀ (w2 : World) (ds : List Value), Below wr.heap.size wr w2 → CPA (w.heap.size + 1) w2 ds us[k] → Fill 3 CPA (w.heap.size + 1) us (k + 1) (setL xs (k * 3) ds) (setW w2 w.heap.size (k * 3) ds))
      have hxl := HF.out.1
      have hgl : w.heap.size < wr.heap.size := (ho.lt _ rfl).2
      have hkk := mul_le (K := 3) hlt
      clear hgc hcells HF
      generalize us[k] = t at *
      have hcn := toA_e t cs wr hC1
      clear hC1
      have he := hC
      unfold CPA at he
      subst he
      have c0 : wr.cell? ⟨g, o + k * 3, none⟩ = some (.int .i64 t.fn) := (hbel.cell (p := ⟨g, o + k * 3, none⟩) hg).trans (hcell 0 (by omega))
      have c1 : wr.cell? ⟨g, o + k * 3 + 1, none⟩ = some (.int .i64 t.col) := (hbel.cell (p := ⟨g, o + k * 3 + 1, none⟩) hg).trans (hcell 1 (by omega))
      have c2 : wr.cell? ⟨g, o + k * 3 + 2, none⟩ = some (.bool t.d) := (hbel.cell (p := ⟨g, o + k * 3 + 2, none⟩) hg).trans (hcell 2 (by omega))
      clear hcell
      obtain ⟨y0, hy0⟩ : ∃ u, xs[k * 3]? = some u := ⟨_, List.getElem?_eq_getElem (by omega)⟩
      obtain ⟨y1, hy1⟩ : ∃ u, xs[k * 3 + 1]? = some u := ⟨_, List.getElem?_eq_getElem (by omega)⟩
      obtain ⟨y2, hy2⟩ : ∃ u, xs[k * 3 + 2]? = some u := ⟨_, List.getElem?_eq_getElem (by omega)⟩
      clear hxl hkk
      go_wp2_with (go_at_call 53; fail)
      refine hcn.mono ?_
      rintro e w2 ⟨ds, rfl, hD, hb2⟩
      have bw1 : Below w.heap.size w w2 := hbel.trans (hb2.mono hbs)
      have ho1 := own_below ho hb2
      have e0 := own_cell ho1 hy0
      have f0 := ho1.frozenAt (k * 3)
      have e1 := own_cell ho1 hy1
      have f1 := ho1.frozenAt (k * 3 + 1)
      have e2 := own_cell ho1 hy2
      have f2 := ho1.frozenAt (k * 3 + 2)
      have HS := hid (HST.out w2 ds hb2 (liesPA.mono hD (by omega)))
      have HO2 := hid (own_setW ds xs (k * 3) w2 ho1)
      have HBX := hid (below_setW (Nat.le_refl w.heap.size) ds (k * 3) w2 bw1)
      have hxe := hD
      unfold CPA at hxe
      subst hxe
      clear HST hb2 hcn ho ho1 hy0 c0 hy1 c1 hy2 c2
      go_wp2
      go_roundw
      case rel => exact ⟨k + 1, _, by omega, by go_num, HS, HO2.out, HBX.out⟩
      case measure => simp [intOf]; omega
    · have hkn : k = us.length := by omega
      subst hkn
      have hlti : ¬ (us.length : Int) < us.length := by omega
      have HR := hid (HF.out.rs liesPA ho (Nat.le_succ _) (Nat.le_refl _))
      clear HF
      go_wp2
      go_ret
      exact ⟨rfl, HR.out, hbel⟩
theorem info101 : (Try.prog.info? 101).map (fun i => (i.zero, i.size, i.bytes)) = some (some (.agg #[.int .i64 0, .bool false, .bool false]), 3, 16) := by kernel_rfl
set_option maxHeartbeats 16000000 in
theorem toSortKeyS_any (a : Option Addr) (cap : Nat) (us : List SK) (w : World) (hb : us.length ≤ 1048576) (hv : RS 3 CSK 0 w (.slice a us.length cap) us) :
    Calls Try.prog 38 #[.slice a us.length cap] w fun e w' => e = .returned (.slice (some ⟨w.heap.size, 0, none⟩) us.length us.length) ∧ RS 3 CSK w.heap.size w' (.slice (some ⟨w.heap.size, 0, none⟩) us.length us.length) us ∧ Below w.heap.size w w' := by
  obtain ⟨i0, hi, hz0, hz1, hz2⟩ := info_parts info101
  have hn := hb
  obtain ⟨a', cap', hsl, hcells⟩ := hv
  simp only [Value.slice.injEq] at hsl
  obtain ⟨rfl, _, rfl⟩ := hsl
  go_enter Try.func38, Try.ntmps38
  go_wp2_with (refine wpList_make_full _ rfl (.tmp 6) (.tmp 6) 37 rfl w.heap.size 101 i0 _ 3 Try.underlying37 hi hz0 hz1 .i64 .i64 us.length us.length us.length rfl rfl rfl rfl (by rw [hz2]; omega) (by unfold maxLen; omega) (Nat.le_refl _) ?_; intro w1 hown hgrow)
  have HB : Hid (Below w.heap.size w w1) := (Below.refl _ _).grown hgrow (Nat.le_refl _) (fun k hk => by simp at hk)
  have hb1 := HB.out
  have hw1 := hb1.size
  go_loopw [4] (fun i wr => ∃ (k : Nat) (xs : List Value), k ≤ us.length ∧ i = .int .i64 k ∧ Hid (Fill 3 CSK (w.heap.size + 1) us k xs wr) ∧ wr.ownsRow w.heap.size 101 3 (.slice (some ⟨w.heap.size, 0, none⟩) us.length us.length) us.length xs ∧ Below w.heap.size w wr) (fun i _ => us.length - (intOf i).toNat)
  case atStart => exact ⟨0, _, Nat.zero_le _, rfl, ⟨by simp [size_madeCells], fun i _ h => absurd h (Nat.not_lt_zero _)⟩, hown, hb1⟩
  case round =>
    obtain ⟨k, xs, hk, rfl, HF, ho, hbel⟩ := hrel
    have hbs := hbel.size
    by_cases hlt : k < us.length
    · have hlti : (k : Int) < us.length := by omega
      obtain ⟨g, o, rfl, _, hg, hgc⟩ := hcells (by omega)
      obtain ⟨cs, hC, hcell⟩ := hgc k hlt
      have hC1 := liesSK.below hC hbel
      have HST : Hid (∀ (w2 : World) (ds : List Value), Below wr.heap.size wr w2 → CSK (w.heap.size + 1) w2 ds us[k] → Fill 3 CSK (w.heap.size + 1) us (k + 1) (setL xs (k * 3) ds) (setW w2 w.heap.size (k * 3) ds)) := (fun w2 ds a b => HF.out.step liesSK (by omega) hlt a b : ∀ (w2 : World) (ds : List Value), Below wr.heap.size wr w2 → CSK (w.heap.size + 1) w2 ds us[k] → Fill 3 CSK (w.heap.size + 1) us (k + 1) (setL xs (k * 3) ds) (setW w2 w.heap.size (k * 3) ds))
      have hxl := HF.out.1
      have hgl : w.heap.size < wr.heap.size := (ho.lt _ rfl).2
      have hkk := mul_le (K := 3) hlt
      clear hgc hcells HF
      generalize us[k] = t at *
      have hcn := toS_e t cs wr hC1
      clear hC1
      have he := hC
      unfold CSK at he
      subst he
      have c0 : wr.cell? ⟨g, o + k * 3, none⟩ = some (.int .i64 t.col) := (hbel.cell (p := ⟨g, o + k * 3, none⟩) hg).trans (hcell 0 (by omega))
      have c1 : wr.cell? ⟨g, o + k * 3 + 1, none⟩ = some (.bool t.desc) := (hbel.cell (p := ⟨g, o + k * 3 + 1, none⟩) hg).trans (hcell 1 (by omega))
      have c2 : wr.cell? ⟨g, o + k * 3 + 2, none⟩ = some (.bool t.first) := (hbel.cell (p := ⟨g, o + k * 3 + 2, none⟩) hg).trans (hcell 2 (by omega))
      clear hcell
      obtain ⟨y0, hy0⟩ : ∃ u, xs[k * 3]? = some u := ⟨_, List.getElem?_eq_getElem (by omega)⟩
      obtain ⟨y1, hy1⟩ : ∃ u, xs[k * 3 + 1]? = some u := ⟨_, List.getElem?_eq_getElem (by omega)⟩
      obtain ⟨y2, hy2⟩ : ∃ u, xs[k * 3 + 2]? = some u := ⟨_, List.getElem?_eq_getElem (by omega)⟩
      clear hxl hkk
      go_wp2_with (go_at_call 54; fail)
      refine hcn.mono ?_
      rintro e w2 ⟨ds, rfl, hD, hb2⟩
      have bw1 : Below w.heap.size w w2 := hbel.trans (hb2.mono hbs)
      have ho1 := own_below ho hb2
      have e0 := own_cell ho1 hy0
      have f0 := ho1.frozenAt (k * 3)
      have e1 := own_cell ho1 hy1
      have f1 := ho1.frozenAt (k * 3 + 1)
      have e2 := own_cell ho1 hy2
      have f2 := ho1.frozenAt (k * 3 + 2)
      have HS := hid (HST.out w2 ds hb2 (liesSK.mono hD (by omega)))
      have HO2 := hid (own_setW ds xs (k * 3) w2 ho1)
      have HBX := hid (below_setW (Nat.le_refl w.heap.size) ds (k * 3) w2 bw1)
      have hxe := hD
      unfold CSK at hxe
      subst hxe
      clear HST hb2 hcn ho ho1 hy0 c0 hy1 c1 hy2 c2
      go_wp2
      go_roundw
      case rel => exact ⟨k + 1, _, by omega, by go_num, HS, HO2.out, HBX.out⟩
      case measure => simp [intOf]; omega
    · have hkn : k = us.length := by omega
      subst hkn
      have hlti : ¬ (us.length : Int) < us.length := by omega
      have HR := hid (HF.out.rs liesSK ho (Nat.le_succ _) (Nat.le_refl _))
      clear HF
      go_wp2
      go_ret
      exact ⟨rfl, HR.out, hbel⟩
end Go.Proofs.Ytoieiegjhjedoaa
