import Derived.Test.YtoieiegjhjedoaaST3
namespace Go.Proofs.Ytoieiegjhjedoaa
open Go.ChangeShapes Go.WideShapes Go.ChangeAt Go.RowKit
set_option linter.unusedVariables false
set_option linter.unusedSimpArgs false
set_option maxRecDepth 100000
theorem info66 : (Try.prog.info? 66).map (fun i => (i.zero, i.size, i.bytes)) = some (some (.agg #[.int .i64 0, .int .i64 0, .int .i64 0, .int .i64 0, .int .i64 0, .int .i64 0, .string ⟨#[]⟩, .slice none 0 0]), 8, 88) := by kernel_rfl
set_option maxHeartbeats 16000000 in
theorem toXNodeS_any (a : Option Addr) (cap : Nat) (us : List XN) (w : World) (hb : us.length ≤ 1048576 ∧ ∀ t ∈ us, BX 1048576 t) (hv : RS 8 CX 0 w (.slice a us.length cap) us) :
    Calls Try.prog 61 #[.slice a us.length cap] w fun e w' => e = .returned (.slice (some ⟨w.heap.size, 0, none⟩) us.length us.length) ∧ RS 8 CX w.heap.size w' (.slice (some ⟨w.heap.size, 0, none⟩) us.length us.length) us ∧ Below w.heap.size w w' := by
  obtain ⟨i0, hi, hz0, hz1, hz2⟩ := info_parts info66
  obtain ⟨hn, hz⟩ := hb
  have HZ : Hid (∀ t ∈ us, BX 1048576 t) := hz
  clear hz
  obtain ⟨a', cap', hsl, hcells⟩ := hv
  simp only [Value.slice.injEq] at hsl
  obtain ⟨rfl, _, rfl⟩ := hsl
  go_enter Try.func61, Try.ntmps61
  go_wp2_with (refine wpList_make_full _ rfl (.tmp 6) (.tmp 6) 48 rfl w.heap.size 66 i0 _ 8 Try.underlying48 hi hz0 hz1 .i64 .i64 us.length us.length us.length rfl rfl rfl rfl (by rw [hz2]; omega) (by unfold maxLen; omega) (Nat.le_refl _) ?_; intro w1 hown hgrow)
  have HB : Hid (Below w.heap.size w w1) := (Below.refl _ _).grown hgrow (Nat.le_refl _) (fun k hk => by simp at hk)
  have hb1 := HB.out
  have hw1 := hb1.size
  go_loopw [4] (fun i wr => ∃ (k : Nat) (xs : List Value), k ≤ us.length ∧ i = .int .i64 k ∧ Hid (Fill 8 CX (w.heap.size + 1) us k xs wr) ∧ wr.ownsRow w.heap.size 66 8 (.slice (some ⟨w.heap.size, 0, none⟩) us.length us.length) us.length xs ∧ Below w.heap.size w wr) (fun i _ => us.length - (intOf i).toNat)
  case atStart => exact ⟨0, _, Nat.zero_le _, rfl, ⟨by simp [size_madeCells], fun i _ h => absurd h (Nat.not_lt_zero _)⟩, hown, hb1⟩
  case round =>
    obtain ⟨k, xs, hk, rfl, HF, ho, hbel⟩ := hrel
    have hbs := hbel.size
    by_cases hlt : k < us.length
    · have hlti : (k : Int) < us.length := by omega
      obtain ⟨g, o, rfl, _, hg, hgc⟩ := hcells (by omega)
      obtain ⟨cs, hC, hcell⟩ := hgc k hlt
      have hC1 := liesX.below hC hbel
      have hB := HZ.out us[k] (List.getElem_mem hlt)
      have HST : Hid (∀ (w2 : World) (ds : List Value), Below wr.heap.size wr w2 → CX (w.heap.size + 1) w2 ds us[k] → Fill 8 CX (w.heap.size + 1) us (k + 1) (setL xs (k * 8) ds) (setW w2 w.heap.size (k * 8) ds)) := (fun w2 ds a b => HF.out.step liesX (by omega) hlt a b : ∀ (w2 : World) (ds : List Value), Below wr.heap.size wr w2 → CX (w.heap.size + 1) w2 ds us[k] → Fill 8 CX (w.heap.size + 1) us (k + 1) (setL xs (k * 8) ds) (setW w2 w.heap.size (k * 8) ds))
      have hxl := HF.out.1
      have hgl : w.heap.size < wr.heap.size := (ho.lt _ rfl).2
      have hkk := mul_le (K := 8) hlt
      clear hgc hcells HF
      generalize us[k] = t at *
      have hcn := toX_e t cs wr hB hC1
      clear hC1
      obtain ⟨v0, rfl, r0⟩ := hC
      obtain ⟨a0, q0, rfl, _⟩ := r0
      have c0 : wr.cell? ⟨g, o + k * 8, none⟩ = some (.int .i64 t.op) := (hbel.cell (p := ⟨g, o + k * 8, none⟩) hg).trans (hcell 0 (by omega))
      have c1 : wr.cell? ⟨g, o + k * 8 + 1, none⟩ = some (.int .i64 t.kind) := (hbel.cell (p := ⟨g, o + k * 8 + 1, none⟩) hg).trans (hcell 1 (by omega))
      have c2 : wr.cell? ⟨g, o + k * 8 + 2, none⟩ = some (.int .i64 t.a) := (hbel.cell (p := ⟨g, o + k * 8 + 2, none⟩) hg).trans (hcell 2 (by omega))
      have c3 : wr.cell? ⟨g, o + k * 8 + 3, none⟩ = some (.int .i64 t.b) := (hbel.cell (p := ⟨g, o + k * 8 + 3, none⟩) hg).trans (hcell 3 (by omega))
      have c4 : wr.cell? ⟨g, o + k * 8 + 4, none⟩ = some (.int .i64 t.vk) := (hbel.cell (p := ⟨g, o + k * 8 + 4, none⟩) hg).trans (hcell 4 (by omega))
      have c5 : wr.cell? ⟨g, o + k * 8 + 5, none⟩ = some (.int .i64 t.vn) := (hbel.cell (p := ⟨g, o + k * 8 + 5, none⟩) hg).trans (hcell 5 (by omega))
      have c6 : wr.cell? ⟨g, o + k * 8 + 6, none⟩ = some (.string t.vs) := (hbel.cell (p := ⟨g, o + k * 8 + 6, none⟩) hg).trans (hcell 6 (by omega))
      have c7 : wr.cell? ⟨g, o + k * 8 + 7, none⟩ = some (.slice a0 t.kids.length q0) := (hbel.cell (p := ⟨g, o + k * 8 + 7, none⟩) hg).trans (hcell 7 (by omega))
      clear hcell
      obtain ⟨y0, hy0⟩ : ∃ u, xs[k * 8]? = some u := ⟨_, List.getElem?_eq_getElem (by omega)⟩
      obtain ⟨y1, hy1⟩ : ∃ u, xs[k * 8 + 1]? = some u := ⟨_, List.getElem?_eq_getElem (by omega)⟩
      obtain ⟨y2, hy2⟩ : ∃ u, xs[k * 8 + 2]? = some u := ⟨_, List.getElem?_eq_getElem (by omega)⟩
      obtain ⟨y3, hy3⟩ : ∃ u, xs[k * 8 + 3]? = some u := ⟨_, List.getElem?_eq_getElem (by omega)⟩
      obtain ⟨y4, hy4⟩ : ∃ u, xs[k * 8 + 4]? = some u := ⟨_, List.getElem?_eq_getElem (by omega)⟩
      obtain ⟨y5, hy5⟩ : ∃ u, xs[k * 8 + 5]? = some u := ⟨_, List.getElem?_eq_getElem (by omega)⟩
      obtain ⟨y6, hy6⟩ : ∃ u, xs[k * 8 + 6]? = some u := ⟨_, List.getElem?_eq_getElem (by omega)⟩
      obtain ⟨y7, hy7⟩ : ∃ u, xs[k * 8 + 7]? = some u := ⟨_, List.getElem?_eq_getElem (by omega)⟩
      clear hxl hkk
      go_wp2_with (go_at_call 65; fail)
      refine hcn.mono ?_
      rintro e w2 ⟨ds, rfl, hD, hb2⟩
      have bw1 : Below w.heap.size w w2 := hbel.trans (hb2.mono hbs)
      have ho1 := own_below ho hb2
      have e0 := own_cell ho1 hy0
      have f0 := ho1.frozenAt (k * 8)
      have e1 := own_cell ho1 hy1
      have f1 := ho1.frozenAt (k * 8 + 1)
      have e2 := own_cell ho1 hy2
      have f2 := ho1.frozenAt (k * 8 + 2)
      have e3 := own_cell ho1 hy3
      have f3 := ho1.frozenAt (k * 8 + 3)
      have e4 := own_cell ho1 hy4
      have f4 := ho1.frozenAt (k * 8 + 4)
      have e5 := own_cell ho1 hy5
      have f5 := ho1.frozenAt (k * 8 + 5)
      have e6 := own_cell ho1 hy6
      have f6 := ho1.frozenAt (k * 8 + 6)
      have e7 := own_cell ho1 hy7
      have f7 := ho1.frozenAt (k * 8 + 7)
      have HS := hid (HST.out w2 ds hb2 (liesX.mono hD (by omega)))
      have HO2 := hid (own_setW ds xs (k * 8) w2 ho1)
      have HBX := hid (below_setW (Nat.le_refl w.heap.size) ds (k * 8) w2 bw1)
      obtain ⟨xv0, rfl, xr0⟩ := hD
      obtain ⟨xa0, xq0, rfl, _⟩ := xr0
      clear HST hb2 hcn ho ho1 hy0 c0 hy1 c1 hy2 c2 hy3 c3 hy4 c4 hy5 c5 hy6 c6 hy7 c7
      go_wp2
      go_roundw
      case rel => exact ⟨k + 1, _, by omega, by go_num, HS, HO2.out, HBX.out⟩
      case measure => simp [intOf]; omega
    · have hkn : k = us.length := by omega
      subst hkn
      have hlti : ¬ (us.length : Int) < us.length := by omega
      have HR := hid (HF.out.rs liesX ho (Nat.le_succ _) (Nat.le_refl _))
      clear HF
      go_wp2
      go_ret
      exact ⟨rfl, HR.out, hbel⟩
set_option maxHeartbeats 16000000 in
theorem toE_e (t : (List XN)) (cs : List Value) (w : World) (hB : BE 1048576 t) (hC : CE 0 w cs t) :
    Calls Try.prog 52 #[.agg cs.toArray] w fun e w' => ∃ ds, e = .returned (.agg ds.toArray) ∧ CE w.heap.size w' ds t ∧ Below w.heap.size w w' := by
  obtain ⟨v0, rfl, r0⟩ := hC
  have R0 := hid r0
  obtain ⟨a0, q0, rfl, _⟩ := r0
  have bw : Below w.heap.size w (((w.alloc (.cells #[.slice a0 t.length q0] 95)).alloc (.cells #[.slice none 0 0] 50)).alloc (.cells #[.slice none 0 0] 50)) := ((below_alloc w _).alloc (by simp) _).alloc (by simp; omega) _
  have K0 := hid (blkA w [.slice a0 t.length q0] [.slice none 0 0] [.slice none 0 0] 95 50 50)
  have K1 := hid (blkB w [.slice a0 t.length q0] [.slice none 0 0] [.slice none 0 0] 95 50 50)
  have K2 := hid (blkC w [.slice a0 t.length q0] [.slice none 0 0] [.slice none 0 0] 95 50 50)
  have hz : w.heap.size + 1 + 1 < ((((w.alloc (.cells #[.slice a0 t.length q0] 95)).alloc (.cells #[.slice none 0 0] 50)).alloc (.cells #[.slice none 0 0] 50))).heap.size := by simp
  go_enter Try.func52, Try.ntmps52
  go_wp2_with (go_at_call 61; fail)
  refine (toXNodeS_any a0 q0 t _ hB (R0.out.below liesX bw)).mono ?_
  rintro e w1 ⟨rfl, hR, hb1⟩
  obtain ⟨g0, hg0⟩ : ∃ x, x = ((((w.alloc (.cells #[.slice a0 t.length q0] 95)).alloc (.cells #[.slice none 0 0] 50)).alloc (.cells #[.slice none 0 0] 50))).heap.size := ⟨_, rfl⟩
  rw [← hg0] at hR ⊢
  have hgb0 : w.heap.size + 1 + 1 < g0 := by omega
  replace bw : Below w.heap.size w w1 := bw.trans (hb1.mono bw.size)
  replace K0 := hid (K0.out.below hb1 (by omega))
  replace K1 := hid (K1.out.below hb1 (by omega))
  replace K2 := hid (K2.out.below hb1 (by omega))
  replace hz : w.heap.size + 1 + 1 < w1.heap.size := Nat.lt_of_lt_of_le hz hb1.size
  have RR0 := hid hR
  clear hR hg0
  clear hb1
  have o0 : w1.cell? ⟨w.heap.size + 1 + 1, 0, none⟩ = some (.slice none 0 0) := (K2.out 0 (by simp)).1
  have p0 := (K2.out 0 (by simp)).2
  have r0 : w1.cell? ⟨w.heap.size + 1, 0, none⟩ = some (.slice none 0 0) := (K1.out 0 (by simp)).1
  have s0 := (K1.out 0 (by simp)).2
  have hx1 : w.heap.size + 1 < w1.heap.size := by omega
  have hx0 : w.heap.size < w1.heap.size := by omega
  clear K0 K1 K2
  go_wp2
  refine bodyPost_ret (v := .agg #[.slice (some ⟨g0, 0, none⟩) t.length t.length]) (by simp [results, Try.results52, go_sem, hx0, hx1, hz, o0, p0, r0, s0]) rfl ⟨[.slice (some ⟨g0, 0, none⟩) t.length t.length], rfl, ?_, ?_⟩
  · refine ⟨_, rfl, ?_⟩
    · refine RS.mono liesX (B := w.heap.size + 1 + 1 + 1) ?_ (by omega)
      have R := RR0.out.mono liesX (show w.heap.size + 1 + 1 + 1 ≤ g0 by omega)
      repeat (first | with_reducible exact R | (with_reducible refine RS.set liesX ?_ ?_; rotate_left; omega))
  · clear o0 p0 r0 s0
    exact (by (go_light; repeat (first | with_reducible assumption | with_reducible exact Below.refl _ _ | (with_reducible refine Below.setCell ?_ ?_ _; rotate_left; (focus first | (simp; done) | (simp; omega) | omega)) | (with_reducible refine Below.alloc ?_ ?_ _; rotate_left; (focus first | (simp; done) | (simp; omega) | omega)) | with_reducible refine Below.drew ?_)))
theorem info50 : (Try.prog.info? 50).map (fun i => (i.zero, i.size, i.bytes)) = some (some (.agg #[.slice none 0 0]), 1, 24) := by kernel_rfl
set_option maxHeartbeats 16000000 in
theorem toExprS_any (a : Option Addr) (cap : Nat) (us : List (List XN)) (w : World) (hb : us.length ≤ 1048576 ∧ ∀ t ∈ us, BE 1048576 t) (hv : RS 1 CE 0 w (.slice a us.length cap) us) :
    Calls Try.prog 35 #[.slice a us.length cap] w fun e w' => e = .returned (.slice (some ⟨w.heap.size, 0, none⟩) us.length us.length) ∧ RS 1 CE w.heap.size w' (.slice (some ⟨w.heap.size, 0, none⟩) us.length us.length) us ∧ Below w.heap.size w w' := by
  obtain ⟨i0, hi, hz0, hz1, hz2⟩ := info_parts info50
  obtain ⟨hn, hz⟩ := hb
  have HZ : Hid (∀ t ∈ us, BE 1048576 t) := hz
  clear hz
  obtain ⟨a', cap', hsl, hcells⟩ := hv
  simp only [Value.slice.injEq] at hsl
  obtain ⟨rfl, _, rfl⟩ := hsl
  go_enter Try.func35, Try.ntmps35
  go_wp2_with (refine wpList_make_full _ rfl (.tmp 6) (.tmp 6) 34 rfl w.heap.size 50 i0 _ 1 Try.underlying34 hi hz0 hz1 .i64 .i64 us.length us.length us.length rfl rfl rfl rfl (by rw [hz2]; omega) (by unfold maxLen; omega) (Nat.le_refl _) ?_; intro w1 hown hgrow)
  have HB : Hid (Below w.heap.size w w1) := (Below.refl _ _).grown hgrow (Nat.le_refl _) (fun k hk => by simp at hk)
  have hb1 := HB.out
  have hw1 := hb1.size
  go_loopw [4] (fun i wr => ∃ (k : Nat) (xs : List Value), k ≤ us.length ∧ i = .int .i64 k ∧ Hid (Fill 1 CE (w.heap.size + 1) us k xs wr) ∧ wr.ownsRow w.heap.size 50 1 (.slice (some ⟨w.heap.size, 0, none⟩) us.length us.length) us.length xs ∧ Below w.heap.size w wr) (fun i _ => us.length - (intOf i).toNat)
  case atStart => exact ⟨0, _, Nat.zero_le _, rfl, ⟨by simp [size_madeCells], fun i _ h => absurd h (Nat.not_lt_zero _)⟩, hown, hb1⟩
  case round =>
    obtain ⟨k, xs, hk, rfl, HF, ho, hbel⟩ := hrel
    have hbs := hbel.size
    by_cases hlt : k < us.length
    · have hlti : (k : Int) < us.length := by omega
      obtain ⟨g, o, rfl, _, hg, hgc⟩ := hcells (by omega)
      obtain ⟨cs, hC, hcell⟩ := hgc k hlt
      have hC1 := liesE.below hC hbel
      have hB := HZ.out us[k] (List.getElem_mem hlt)
      have HST : Hid (∀ (w2 : World) (ds : List Value), Below wr.heap.size wr w2 → CE (w.heap.size + 1) w2 ds us[k] → Fill 1 CE (w.heap.size + 1) us (k + 1) (setL xs (k * 1) ds) (setW w2 w.heap.size (k * 1) ds)) := (fun w2 ds a b => HF.out.step liesE (by omega) hlt a b : ∀ (w2 : World) (ds : List Value), Below wr.heap.size wr w2 → CE (w.heap.size + 1) w2 ds us[k] → Fill 1 CE (w.heap.size + 1) us (k + 1) (setL xs (k * 1) ds) (setW w2 w.heap.size (k * 1) ds))
      have hxl := HF.out.1
      have hgl : w.heap.size < wr.heap.size := (ho.lt _ rfl).2
      have hkk := mul_le (K := 1) hlt
      clear hgc hcells HF
      generalize us[k] = t at *
      have hcn := toE_e t cs wr hB hC1
      clear hC1
      obtain ⟨v0, rfl, r0⟩ := hC
      obtain ⟨a0, q0, rfl, _⟩ := r0
      have c0 : wr.cell? ⟨g, o + k, none⟩ = some (.slice a0 t.length q0) := (hbel.cell (p := ⟨g, o + k, none⟩) hg).trans (by have := hcell 0 (by omega); rw [Nat.mul_one, Nat.add_zero] at this; exact this)
      clear hcell
      obtain ⟨y0, hy0⟩ : ∃ u, xs[k]? = some u := ⟨_, List.getElem?_eq_getElem (by omega)⟩
      clear hxl hkk
      go_wp2_with (go_at_call 52; fail)
      refine hcn.mono ?_
      rintro e w2 ⟨ds, rfl, hD, hb2⟩
      have bw1 : Below w.heap.size w w2 := hbel.trans (hb2.mono hbs)
      have ho1 := own_below ho hb2
      have e0 := own_cell ho1 hy0
      have f0 := ho1.frozenAt (k)
      have HS := hid (HST.out w2 ds hb2 (liesE.mono hD (by omega)))
      have HO2 := hid (own_setW ds xs (k * 1) w2 ho1)
      have HBX := hid (below_setW (Nat.le_refl w.heap.size) ds (k * 1) w2 bw1)
      obtain ⟨xv0, rfl, xr0⟩ := hD
      obtain ⟨xa0, xq0, rfl, _⟩ := xr0
      simp only [Nat.mul_one] at HS HO2 HBX
      clear HST hb2 hcn ho ho1 hy0 c0
      go_wp2
      go_roundw
      case rel => exact ⟨k + 1, _, by omega, by go_num, HS, HO2.out, HBX.out⟩
      case measure => simp [intOf]; omega
    · have hkn : k = us.length := by omega
      subst hkn
      have hlti : ¬ (us.length : Int) < us.length := by omega
      have HR := hid (HF.out.rs liesE ho (Nat.le_succ _) (Nat.le_refl _))
      clear HF
      go_wp2
      go_ret
      exact ⟨rfl, HR.out, hbel⟩
end Go.Proofs.Ytoieiegjhjedoaa
