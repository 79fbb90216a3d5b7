import Derived.Test.YtoieiegjhjedoaaST5
namespace Go.Proofs.Ytoieiegjhjedoaa
open Go.ChangeShapes Go.WideShapes Go.ChangeAt Go.RowKit
set_option linter.unusedVariables false
set_option linter.unusedSimpArgs false
set_option maxRecDepth 100000
theorem info39 : (Try.prog.info? 39).map (fun i => (i.zero, i.size, i.bytes)) = some (some (.agg #[.int .i64 0, .int .i64 0, .int .i64 0, .int .i64 0, .int .i64 0, .int .i64 0, .slice none 0 0, .slice none 0 0, .slice none 0 0, .slice none 0 0, .slice none 0 0]), 11, 168) := by kernel_rfl
set_option maxHeartbeats 16000000 in
theorem toPNodeS_any (a : Option Addr) (cap : Nat) (us : List PN) (w : World) (hb : us.length ≤ 1048576 ∧ ∀ t ∈ us, BP 1048576 t) (hv : RS 11 CP 0 w (.slice a us.length cap) us) :
    Calls Try.prog 11 #[.slice a us.length cap] w fun e w' => e = .returned (.slice (some ⟨w.heap.size, 0, none⟩) us.length us.length) ∧ RS 11 CP w.heap.size w' (.slice (some ⟨w.heap.size, 0, none⟩) us.length us.length) us ∧ Below w.heap.size w w' := by
  obtain ⟨i0, hi, hz0, hz1, hz2⟩ := info_parts info39
  obtain ⟨hn, hz⟩ := hb
  have HZ : Hid (∀ t ∈ us, BP 1048576 t) := hz
  clear hz
  obtain ⟨a', cap', hsl, hcells⟩ := hv
  simp only [Value.slice.injEq] at hsl
  obtain ⟨rfl, _, rfl⟩ := hsl
  go_enter Try.func11, Try.ntmps11
  go_wp2_with (refine wpList_make_full _ rfl (.tmp 6) (.tmp 6) 27 rfl w.heap.size 39 i0 _ 11 Try.underlying27 hi hz0 hz1 .i64 .i64 us.length us.length us.length rfl rfl rfl rfl (by rw [hz2]; omega) (by unfold maxLen; omega) (Nat.le_refl _) ?_; intro w1 hown hgrow)
  have HB : Hid (Below w.heap.size w w1) := (Below.refl _ _).grown hgrow (Nat.le_refl _) (fun k hk => by simp at hk)
  have hb1 := HB.out
  have hw1 := hb1.size
  go_loopw [4] (fun i wr => ∃ (k : Nat) (xs : List Value), k ≤ us.length ∧ i = .int .i64 k ∧ Hid (Fill 11 CP (w.heap.size + 1) us k xs wr) ∧ wr.ownsRow w.heap.size 39 11 (.slice (some ⟨w.heap.size, 0, none⟩) us.length us.length) us.length xs ∧ Below w.heap.size w wr) (fun i _ => us.length - (intOf i).toNat)
  case atStart => exact ⟨0, _, Nat.zero_le _, rfl, ⟨by simp [size_madeCells], fun i _ h => absurd h (Nat.not_lt_zero _)⟩, hown, hb1⟩
  case round =>
    obtain ⟨k, xs, hk, rfl, HF, ho, hbel⟩ := hrel
    have hbs := hbel.size
    by_cases hlt : k < us.length
    · have hlti : (k : Int) < us.length := by omega
      obtain ⟨g, o, rfl, _, hg, hgc⟩ := hcells (by omega)
      obtain ⟨cs, hC, hcell⟩ := hgc k hlt
      have hC1 := liesP.below hC hbel
      have hB := HZ.out us[k] (List.getElem_mem hlt)
      have HST : Hid (∀ (w2 : World) (ds : List Value), Below wr.heap.size wr w2 → CP (w.heap.size + 1) w2 ds us[k] → Fill 11 CP (w.heap.size + 1) us (k + 1) (setL xs (k * 11) ds) (setW w2 w.heap.size (k * 11) ds)) := (fun w2 ds a b => HF.out.step liesP (by omega) hlt a b : ∀ (w2 : World) (ds : List Value), Below wr.heap.size wr w2 → CP (w.heap.size + 1) w2 ds us[k] → Fill 11 CP (w.heap.size + 1) us (k + 1) (setL xs (k * 11) ds) (setW w2 w.heap.size (k * 11) ds))
      have hxl := HF.out.1
      have hgl : w.heap.size < wr.heap.size := (ho.lt _ rfl).2
      have hkk := mul_le (K := 11) hlt
      clear hgc hcells HF
      generalize us[k] = t at *
      have hcn := toP_e t cs wr hB hC1
      clear hC1
      obtain ⟨v0, v1, v2, v3, v4, rfl, r0, r1, r2, r3, r4⟩ := hC
      obtain ⟨a0, q0, rfl, _⟩ := r0
      obtain ⟨a1, q1, rfl, _⟩ := r1
      obtain ⟨a2, q2, rfl, _⟩ := r2
      obtain ⟨a3, q3, rfl, _⟩ := r3
      obtain ⟨a4, q4, rfl, _⟩ := r4
      have c0 : wr.cell? ⟨g, o + k * 11, none⟩ = some (.int .i64 t.op) := (hbel.cell (p := ⟨g, o + k * 11, none⟩) hg).trans (hcell 0 (by omega))
      have c1 : wr.cell? ⟨g, o + k * 11 + 1, none⟩ = some (.int .i64 t.l) := (hbel.cell (p := ⟨g, o + k * 11 + 1, none⟩) hg).trans (hcell 1 (by omega))
      have c2 : wr.cell? ⟨g, o + k * 11 + 2, none⟩ = some (.int .i64 t.r) := (hbel.cell (p := ⟨g, o + k * 11 + 2, none⟩) hg).trans (hcell 2 (by omega))
      have c3 : wr.cell? ⟨g, o + k * 11 + 3, none⟩ = some (.int .i64 t.table) := (hbel.cell (p := ⟨g, o + k * 11 + 3, none⟩) hg).trans (hcell 3 (by omega))
      have c4 : wr.cell? ⟨g, o + k * 11 + 4, none⟩ = some (.int .i64 t.a) := (hbel.cell (p := ⟨g, o + k * 11 + 4, none⟩) hg).trans (hcell 4 (by omega))
      have c5 : wr.cell? ⟨g, o + k * 11 + 5, none⟩ = some (.int .i64 t.b) := (hbel.cell (p := ⟨g, o + k * 11 + 5, none⟩) hg).trans (hcell 5 (by omega))
      have c6 : wr.cell? ⟨g, o + k * 11 + 6, none⟩ = some (.slice a0 t.exprs.length q0) := (hbel.cell (p := ⟨g, o + k * 11 + 6, none⟩) hg).trans (hcell 6 (by omega))
      have c7 : wr.cell? ⟨g, o + k * 11 + 7, none⟩ = some (.slice a1 t.keys.length q1) := (hbel.cell (p := ⟨g, o + k * 11 + 7, none⟩) hg).trans (hcell 7 (by omega))
      have c8 : wr.cell? ⟨g, o + k * 11 + 8, none⟩ = some (.slice a2 t.aggs.length q2) := (hbel.cell (p := ⟨g, o + k * 11 + 8, none⟩) hg).trans (hcell 8 (by omega))
      have c9 : wr.cell? ⟨g, o + k * 11 + 9, none⟩ = some (.slice a3 t.sorts.length q3) := (hbel.cell (p := ⟨g, o + k * 11 + 9, none⟩) hg).trans (hcell 9 (by omega))
      have c10 : wr.cell? ⟨g, o + k * 11 + 10, none⟩ = some (.slice a4 t.kinds.length q4) := (hbel.cell (p := ⟨g, o + k * 11 + 10, none⟩) hg).trans (hcell 10 (by omega))
      clear hcell
      obtain ⟨y0, hy0⟩ : ∃ u, xs[k * 11]? = some u := ⟨_, List.getElem?_eq_getElem (by omega)⟩
      obtain ⟨y1, hy1⟩ : ∃ u, xs[k * 11 + 1]? = some u := ⟨_, List.getElem?_eq_getElem (by omega)⟩
      obtain ⟨y2, hy2⟩ : ∃ u, xs[k * 11 + 2]? = some u := ⟨_, List.getElem?_eq_getElem (by omega)⟩
      obtain ⟨y3, hy3⟩ : ∃ u, xs[k * 11 + 3]? = some u := ⟨_, List.getElem?_eq_getElem (by omega)⟩
      obtain ⟨y4, hy4⟩ : ∃ u, xs[k * 11 + 4]? = some u := ⟨_, List.getElem?_eq_getElem (by omega)⟩
      obtain ⟨y5, hy5⟩ : ∃ u, xs[k * 11 + 5]? = some u := ⟨_, List.getElem?_eq_getElem (by omega)⟩
      obtain ⟨y6, hy6⟩ : ∃ u, xs[k * 11 + 6]? = some u := ⟨_, List.getElem?_eq_getElem (by omega)⟩
      obtain ⟨y7, hy7⟩ : ∃ u, xs[k * 11 + 7]? = some u := ⟨_, List.getElem?_eq_getElem (by omega)⟩
      obtain ⟨y8, hy8⟩ : ∃ u, xs[k * 11 + 8]? = some u := ⟨_, List.getElem?_eq_getElem (by omega)⟩
      obtain ⟨y9, hy9⟩ : ∃ u, xs[k * 11 + 9]? = some u := ⟨_, List.getElem?_eq_getElem (by omega)⟩
      obtain ⟨y10, hy10⟩ : ∃ u, xs[k * 11 + 10]? = some u := ⟨_, List.getElem?_eq_getElem (by omega)⟩
      clear hxl hkk
      go_wp2_with (go_at_call 20; fail)
      refine hcn.mono ?_
      rintro e w2 ⟨ds, rfl, hD, hb2⟩
      have bw1 : Below w.heap.size w w2 := hbel.trans (hb2.mono hbs)
      have ho1 := own_below ho hb2
      have e0 := own_cell ho1 hy0
      have f0 := ho1.frozenAt (k * 11)
      have e1 := own_cell ho1 hy1
      have f1 := ho1.frozenAt (k * 11 + 1)
      have e2 := own_cell ho1 hy2
      have f2 := ho1.frozenAt (k * 11 + 2)
      have e3 := own_cell ho1 hy3
      have f3 := ho1.frozenAt (k * 11 + 3)
      have e4 := own_cell ho1 hy4
      have f4 := ho1.frozenAt (k * 11 + 4)
      have e5 := own_cell ho1 hy5
      have f5 := ho1.frozenAt (k * 11 + 5)
      have e6 := own_cell ho1 hy6
      have f6 := ho1.frozenAt (k * 11 + 6)
      have e7 := own_cell ho1 hy7
      have f7 := ho1.frozenAt (k * 11 + 7)
      have e8 := own_cell ho1 hy8
      have f8 := ho1.frozenAt (k * 11 + 8)
      have e9 := own_cell ho1 hy9
      have f9 := ho1.frozenAt (k * 11 + 9)
      have e10 := own_cell ho1 hy10
      have f10 := ho1.frozenAt (k * 11 + 10)
      have HS := hid (HST.out w2 ds hb2 (liesP.mono hD (by omega)))
      have HO2 := hid (own_setW ds xs (k * 11) w2 ho1)
      have HBX := hid (below_setW (Nat.le_refl w.heap.size) ds (k * 11) w2 bw1)
      obtain ⟨xv0, xv1, xv2, xv3, xv4, rfl, xr0, xr1, xr2, xr3, xr4⟩ := hD
      obtain ⟨xa0, xq0, rfl, _⟩ := xr0
      obtain ⟨xa1, xq1, rfl, _⟩ := xr1
      obtain ⟨xa2, xq2, rfl, _⟩ := xr2
      obtain ⟨xa3, xq3, rfl, _⟩ := xr3
      obtain ⟨xa4, xq4, rfl, _⟩ := xr4
      clear HST hb2 hcn ho ho1 hy0 c0 hy1 c1 hy2 c2 hy3 c3 hy4 c4 hy5 c5 hy6 c6 hy7 c7 hy8 c8 hy9 c9 hy10 c10
      go_wp2
      go_roundw
      case rel => exact ⟨k + 1, _, by omega, by go_num, HS, HO2.out, HBX.out⟩
      case measure => simp [intOf]; omega
    · have hkn : k = us.length := by omega
      subst hkn
      have hlti : ¬ (us.length : Int) < us.length := by omega
      have HR := hid (HF.out.rs liesP ho (Nat.le_succ _) (Nat.le_refl _))
      clear HF
      go_wp2
      go_ret
      exact ⟨rfl, HR.out, hbel⟩
end Go.Proofs.Ytoieiegjhjedoaa
