import Derived.Test.YtfgjleifhjegkaaDoorVD
namespace Go.Proofs.YtfgjleifhjegkaaDoor
open Go.ChangeShapes Go.WideShapes Go.ChangeAt Go.RowKit
set_option linter.unusedVariables false
set_option linter.unusedSimpArgs false
set_option maxRecDepth 100000
theorem Blk.other {w : World} {b c j : Nat} {u : Value} {cs : List Value} (h : Blk w b cs) (hc : c ≠ b) : Blk (w.setCell ⟨c, j, none⟩ u) b cs := fun l hl => by
  have hne : ∀ e : (⟨b, l, none⟩ : Addr) = ⟨c, j, none⟩, False := fun e => by cases e; exact hc rfl
  refine ⟨?_, ?_⟩
  · rw [World.cell?_setCell_other w ⟨c, j, none⟩ ⟨b, l, none⟩ u (fun e => by cases e; exact hc rfl)]; exact (h l hl).1
  · simpa using (h l hl).2
theorem Blk.set {w : World} {b : Nat} {cs : List Value} (h : Blk w b cs) (j : Nat) (u : Value) (hj : j < cs.length := by simp) : Blk (w.setCell ⟨b, j, none⟩ u) b (cs.set j u) := fun l hl => by
  rw [List.length_set] at hl
  refine ⟨?_, ?_⟩
  · by_cases e : l = j
    · subst e
      rw [List.getElem?_set_self hl]
      have := (h l hl).1
      rw [List.getElem?_eq_getElem hl] at this
      simp [go_sem, this, (h l hl).2]
    · rw [List.getElem?_set_ne (by omega), World.cell?_setCell_other w ⟨b, j, none⟩ ⟨b, l, none⟩ u (fun e' => by cases e'; exact e rfl)]
      exact (h l hl).1
  · simpa using (h l hl).2
theorem blk_new (w : World) (cs : List Value) (t : Nat) : Blk (w.alloc (.cells cs.toArray t)) w.heap.size cs := fun j hj => by
  refine ⟨?_, ?_⟩
  · simp [go_sem]
  · simp [go_sem]
theorem blkA (w : World) (c0 c1 c2 : List Value) (t0 t1 t2 : Nat) : Blk (((w.alloc (.cells c0.toArray t0)).alloc (.cells c1.toArray t1)).alloc (.cells c2.toArray t2)) w.heap.size c0 :=
  ((blk_new w c0 t0).below (below_alloc _ _) (by simp)).below (below_alloc _ _) (by simp; omega)
theorem blkB (w : World) (c0 c1 c2 : List Value) (t0 t1 t2 : Nat) : Blk (((w.alloc (.cells c0.toArray t0)).alloc (.cells c1.toArray t1)).alloc (.cells c2.toArray t2)) (w.heap.size + 1) c1 := by
  have := blk_new (w.alloc (.cells c0.toArray t0)) c1 t1
  rw [show (w.alloc (.cells c0.toArray t0)).heap.size = w.heap.size + 1 by simp] at this
  exact this.below (below_alloc _ _) (by simp)
theorem blkC (w : World) (c0 c1 c2 : List Value) (t0 t1 t2 : Nat) : Blk (((w.alloc (.cells c0.toArray t0)).alloc (.cells c1.toArray t1)).alloc (.cells c2.toArray t2)) (w.heap.size + 1 + 1) c2 := by
  have := blk_new ((w.alloc (.cells c0.toArray t0)).alloc (.cells c1.toArray t1)) c2 t2
  rw [show ((w.alloc (.cells c0.toArray t0)).alloc (.cells c1.toArray t1)).heap.size = w.heap.size + 1 + 1 by simp] at this
  exact this
theorem blkD (w : World) (c0 c1 : List Value) (t0 t1 : Nat) : Blk ((w.alloc (.cells c0.toArray t0)).alloc (.cells c1.toArray t1)) (w.heap.size + 1) c1 := by
  have := blk_new (w.alloc (.cells c0.toArray t0)) c1 t1
  rw [show (w.alloc (.cells c0.toArray t0)).heap.size = w.heap.size + 1 by simp] at this
  exact this
/-- A list that a slice leads to, in cells that can be written. -/
def RSW {α : Type} (k : Nat) (C : Nat → World → List Value → α → Prop) (B : Nat) (w : World) (v : Value) (xs : List α) : Prop :=
  ∃ a cap, v = .slice a xs.length cap ∧ (0 < xs.length → ∃ g o, a = some ⟨g, o, none⟩ ∧ B ≤ g ∧ g < w.heap.size ∧ ∀ i (h : i < xs.length), ∃ cs, C B w cs xs[i] ∧ ∀ j, j < k → w.cell? ⟨g, o + i * k + j, none⟩ = cs[j]? ∧ w.frozen? ⟨g, o + i * k + j, none⟩ = false)
theorem RSW.rs {α : Type} {k : Nat} {C D : Nat → World → List Value → α → Prop} {B : Nat} {w : World} {v : Value} {xs : List α} (h : RSW k C B w v xs) (hd : ∀ {cs x}, C B w cs x → D B w cs x) : RS k D B w v xs := by
  obtain ⟨a, cap, rfl, h2⟩ := h
  refine ⟨a, cap, rfl, fun hp => ?_⟩
  obtain ⟨g, o, ha, hB, hg, hc⟩ := h2 hp
  exact ⟨g, o, ha, hB, hg, fun i hi => let ⟨cs, x, y⟩ := hc i hi; ⟨cs, hd x, fun j hj => (y j hj).1⟩⟩
theorem RSW.mono {α : Type} {k : Nat} {C : Nat → World → List Value → α → Prop} (hC : Lies k C) {B D : Nat} {w : World} {v : Value} {xs : List α} (h : RSW k C B w v xs) (hd : D ≤ B) : RSW k C D w v xs := by
  obtain ⟨a, cap, rfl, h2⟩ := h
  refine ⟨a, cap, rfl, fun hp => ?_⟩
  obtain ⟨g, o, ha, hB, hg, hc⟩ := h2 hp
  exact ⟨g, o, ha, Nat.le_trans hd hB, hg, fun i hi => let ⟨cs, x, y⟩ := hc i hi; ⟨cs, hC.mono x hd, y⟩⟩
theorem RSW.below {α : Type} {k : Nat} {C : Nat → World → List Value → α → Prop} (hC : Lies k C) {B : Nat} {w w' : World} {v : Value} {xs : List α} (h : RSW k C B w v xs) (hb : Below w.heap.size w w') : RSW k C B w' v xs := by
  obtain ⟨a, cap, rfl, h2⟩ := h
  refine ⟨a, cap, rfl, fun hp => ?_⟩
  obtain ⟨g, o, ha, hB, hg, hc⟩ := h2 hp
  exact ⟨g, o, ha, hB, Nat.lt_of_lt_of_le hg hb.size, fun i hi => let ⟨cs, x, y⟩ := hc i hi; ⟨cs, hC.below x hb, fun j hj => ⟨(hb.cell (p := ⟨g, o + i * k + j, none⟩) hg).trans (y j hj).1, (hb.frozen (p := ⟨g, o + i * k + j, none⟩) hg).trans (y j hj).2⟩⟩⟩
theorem RSW.set {α : Type} {k : Nat} {C : Nat → World → List Value → α → Prop} (hC : Lies k C) {B c j : Nat} {w : World} {v u : Value} {xs : List α} (h : RSW k C B w v xs) (hc : c < B) : RSW k C B (w.setCell ⟨c, j, none⟩ u) v xs := by
  obtain ⟨a, cap, rfl, h2⟩ := h
  refine ⟨a, cap, rfl, fun hp => ?_⟩
  obtain ⟨g, o, ha, hB, hg, hc'⟩ := h2 hp
  refine ⟨g, o, ha, hB, by simpa using hg, fun i hi => ?_⟩
  obtain ⟨cs, x, y⟩ := hc' i hi
  refine ⟨cs, hC.set x hc, fun l hl => ⟨?_, by simpa using (y l hl).2⟩⟩
  rw [World.cell?_setCell_other w ⟨c, j, none⟩ ⟨g, o + i * k + l, none⟩ u (fun e => by cases e; omega)]
  exact (y l hl).1
theorem Fill.rsw {α : Type} {K : Nat} {C : Nat → World → List Value → α → Prop} (hC : Lies K C) {B D g e : Nat} {us : List α} {xs : List Value} {w : World} (h : Fill K C B us us.length xs w) (ho : w.ownsRow D e K (.slice (some ⟨g, 0, none⟩) us.length us.length) us.length xs) (hD : D ≤ B) (hg : D ≤ g) : RSW K C D w (.slice (some ⟨g, 0, none⟩) us.length us.length) us :=
  ⟨_, _, rfl, fun _ => ⟨g, 0, rfl, hg, (ho.lt _ rfl).2, fun i hi => by
    obtain ⟨cs, a, b⟩ := h.2 i hi hi
    refine ⟨cs, hC.mono a hD, fun j hj => ⟨?_, ho.frozenAt _⟩⟩
    rw [Nat.zero_add, ← b j hj]
    have hx : i * K + j < xs.length := by rw [h.1]; have := mul_le (K := K) hi; omega
    rw [List.getElem?_eq_getElem hx]
    exact own_cell ho (List.getElem?_eq_getElem hx)⟩⟩
/-- A row of its own block, what it leads to in blocks from B on. -/
def RowW {α : Type} (k : Nat) (C : Nat → World → List Value → α → Prop) (B : Nat) (w : World) (g : Nat) (us : List α) : Prop := g < w.heap.size ∧ ∀ i (h : i < us.length), ∃ cs, C B w cs us[i] ∧ ∀ j, j < k → w.cell? ⟨g, i * k + j, none⟩ = cs[j]? ∧ w.frozen? ⟨g, i * k + j, none⟩ = false
theorem RowW.below {α : Type} {k : Nat} {C : Nat → World → List Value → α → Prop} (hC : Lies k C) {B g : Nat} {w w' : World} {us : List α} (h : RowW k C B w g us) (hb : Below w.heap.size w w') : RowW k C B w' g us :=
  ⟨Nat.lt_of_lt_of_le h.1 hb.size, fun i hi => let ⟨cs, x, y⟩ := h.2 i hi; ⟨cs, hC.below x hb, fun j hj => ⟨(hb.cell (p := ⟨g, i * k + j, none⟩) h.1).trans (y j hj).1, (hb.frozen (p := ⟨g, i * k + j, none⟩) h.1).trans (y j hj).2⟩⟩⟩
theorem RowW.rs {α : Type} {k : Nat} {C D : Nat → World → List Value → α → Prop} {B g cap : Nat} {w : World} {us : List α} (h : RowW k C B w g us) (hd : ∀ {cs x}, C B w cs x → D 0 w cs x) : RS k D 0 w (.slice (some ⟨g, 0, none⟩) us.length cap) us :=
  ⟨_, _, rfl, fun _ => ⟨g, 0, rfl, Nat.zero_le _, h.1, fun i hi => let ⟨cs, x, y⟩ := h.2 i hi; ⟨cs, hd x, fun j hj => by rw [Nat.zero_add]; exact (y j hj).1⟩⟩⟩
theorem Fill.roww {α : Type} {K : Nat} {C : Nat → World → List Value → α → Prop} {B D g e : Nat} {us : List α} {xs : List Value} {w : World} (h : Fill K C B us us.length xs w) (ho : w.ownsRow D e K (.slice (some ⟨g, 0, none⟩) us.length us.length) us.length xs) : RowW K C B w g us :=
  ⟨(ho.lt _ rfl).2, fun i hi => by
    obtain ⟨cs, a, b⟩ := h.2 i hi hi
    refine ⟨cs, a, fun j hj => ⟨?_, ho.frozenAt _⟩⟩
    rw [← b j hj]
    have hx : i * K + j < xs.length := by rw [h.1]; have := mul_le (K := K) hi; omega
    rw [List.getElem?_eq_getElem hx]
    exact own_cell ho (List.getElem?_eq_getElem hx)⟩
set_option maxHeartbeats 16000000 in
theorem toV_e (t : VA) (cs : List Value) (w : World) (hB : BV 1048576 t) (hC : CV 0 w cs t) :
    Calls Tryd.prog 31 #[.agg cs.toArray] w fun e w' => ∃ ds, e = .returned (.agg ds.toArray) ∧ CV w.heap.size w' ds t ∧ Below w.heap.size w w' := by
  unfold CV at hC
  subst hC
  go_enter Tryd.func31, Tryd.ntmps31
  go_wp2
  refine bodyPost_ret (v := .agg #[.int .i64 t.k, .int .i64 t.n, .string t.s]) (by simp [results, Tryd.results31, go_sem]) rfl ⟨_, rfl, rfl, ?_⟩
  exact (by (go_light; repeat (first | with_reducible assumption | with_reducible exact Below.refl _ _ | (with_reducible refine Below.setCell ?_ ?_ _; rotate_left; (focus first | (simp; done) | (simp; omega) | omega)) | (with_reducible refine Below.alloc ?_ ?_ _; rotate_left; (focus first | (simp; done) | (simp; omega) | omega)) | with_reducible refine Below.drew ?_)))
theorem info39 : (Tryd.prog.info? 39).map (fun i => (i.zero, i.size, i.bytes)) = some (some (.agg #[.int .i64 0, .int .i64 0, .string ⟨#[]⟩]), 3, 32) := by kernel_rfl
set_option maxHeartbeats 16000000 in
theorem toVS_w (a : Option Addr) (cap : Nat) (us : List VA) (w : World) (hb : us.length ≤ 1048576 ∧ ∀ t ∈ us, BV 1048576 t) (hv : RS 3 CV 0 w (.slice a us.length cap) us) :
    Calls Tryd.prog 10 #[.slice a us.length cap] w fun e w' => e = .returned (.slice (some ⟨w.heap.size, 0, none⟩) us.length us.length) ∧ RowW 3 CV (w.heap.size + 1) w' w.heap.size us ∧ Below w.heap.size w w' := by
  obtain ⟨i0, hi, hz0, hz1, hz2⟩ := info_parts info39
  obtain ⟨hn, hz⟩ := hb
  have HZ : Hid (∀ t ∈ us, BV 1048576 t) := hz
  clear hz
  obtain ⟨a', cap', hsl, hcells⟩ := hv
  simp only [Value.slice.injEq] at hsl
  obtain ⟨rfl, _, rfl⟩ := hsl
  go_enter Tryd.func10, Tryd.ntmps10
  go_wp2_with (refine wpList_make_full _ rfl (.tmp 6) (.tmp 6) 27 rfl w.heap.size 39 i0 _ 3 Tryd.underlying27 hi hz0 hz1 .i64 .i64 us.length us.length us.length rfl rfl rfl rfl (by rw [hz2]; omega) (by unfold maxLen; omega) (Nat.le_refl _) ?_; intro w1 hown hgrow)
  have HB : Hid (Below w.heap.size w w1) := (Below.refl _ _).grown hgrow (Nat.le_refl _) (fun k hk => by simp at hk)
  have hb1 := HB.out
  have hw1 := hb1.size
  go_loopw [4] (fun i wr => ∃ (k : Nat) (xs : List Value), k ≤ us.length ∧ i = .int .i64 k ∧ Hid (Fill 3 CV (w.heap.size + 1) us k xs wr) ∧ wr.ownsRow w.heap.size 39 3 (.slice (some ⟨w.heap.size, 0, none⟩) us.length us.length) us.length xs ∧ Below w.heap.size w wr) (fun i _ => us.length - (intOf i).toNat)
  case atStart => exact ⟨0, _, Nat.zero_le _, rfl, ⟨by simp [size_madeCells], fun i _ h => absurd h (Nat.not_lt_zero _)⟩, hown, hb1⟩
  case round =>
    obtain ⟨k, xs, hk, rfl, HF, ho, hbel⟩ := hrel
    have hbs := hbel.size
    by_cases hlt : k < us.length
    · have hlti : (k : Int) < us.length := by omega
      obtain ⟨g, o, rfl, _, hg, hgc⟩ := hcells (by omega)
      obtain ⟨cs, hC, hcell⟩ := hgc k hlt
      have hC1 := liesV.below hC hbel
      have hB := HZ.out us[k] (List.getElem_mem hlt)
      have HST : Hid (∀ (w2 : World) (ds : List Value), Below wr.heap.size wr w2 → CV (w.heap.size + 1) w2 ds us[k] → Fill 3 CV (w.heap.size + 1) us (k + 1) (setL xs (k * 3) ds) (setW w2 w.heap.size (k * 3) ds)) := (fun w2 ds a b => HF.out.step liesV (by omega) hlt a b : ∀ (w2 : World) (ds : List Value), Below wr.heap.size wr w2 → CV (w.heap.size + 1) w2 ds us[k] → Fill 3 CV (w.heap.size + 1) us (k + 1) (setL xs (k * 3) ds) (setW w2 w.heap.size (k * 3) ds))
      have hxl := HF.out.1
      have hgl : w.heap.size < wr.heap.size := (ho.lt _ rfl).2
      have hkk := mul_le (K := 3) hlt
      clear hgc hcells HF
      generalize us[k] = t at *
      have hcn := toV_e t cs wr hB hC1
      clear hC1
      have he := hC
      unfold CV at he
      subst he
      have c0 : wr.cell? ⟨g, o + k * 3, none⟩ = some (.int .i64 t.k) := (hbel.cell (p := ⟨g, o + k * 3, none⟩) hg).trans (hcell 0 (by omega))
      have c1 : wr.cell? ⟨g, o + k * 3 + 1, none⟩ = some (.int .i64 t.n) := (hbel.cell (p := ⟨g, o + k * 3 + 1, none⟩) hg).trans (hcell 1 (by omega))
      have c2 : wr.cell? ⟨g, o + k * 3 + 2, none⟩ = some (.string t.s) := (hbel.cell (p := ⟨g, o + k * 3 + 2, none⟩) hg).trans (hcell 2 (by omega))
      clear hcell
      obtain ⟨y0, hy0⟩ : ∃ u, xs[k * 3]? = some u := ⟨_, List.getElem?_eq_getElem (by omega)⟩
      obtain ⟨y1, hy1⟩ : ∃ u, xs[k * 3 + 1]? = some u := ⟨_, List.getElem?_eq_getElem (by omega)⟩
      obtain ⟨y2, hy2⟩ : ∃ u, xs[k * 3 + 2]? = some u := ⟨_, List.getElem?_eq_getElem (by omega)⟩
      clear hxl hkk
      go_wp2_with (go_at_call 31; fail)
      refine hcn.mono ?_
      rintro e w2 ⟨ds, rfl, hD, hb2⟩
      have bw1 : Below w.heap.size w w2 := hbel.trans (hb2.mono hbs)
      have ho1 := own_below ho hb2
      have e0 := own_cell ho1 hy0
      have f0 := ho1.frozenAt (k * 3)
      have e1 := own_cell ho1 hy1
      have f1 := ho1.frozenAt (k * 3 + 1)
      have e2 := own_cell ho1 hy2
      have f2 := ho1.frozenAt (k * 3 + 2)
      have HS := hid (HST.out w2 ds hb2 (liesV.mono hD (by omega)))
      have HO2 := hid (own_setW ds xs (k * 3) w2 ho1)
      have HBX := hid (below_setW (Nat.le_refl w.heap.size) ds (k * 3) w2 bw1)
      have hxe := hD
      unfold CV at hxe
      subst hxe
      clear HST hb2 hcn ho ho1 hy0 c0 hy1 c1 hy2 c2
      go_wp2
      go_roundw
      case rel => exact ⟨k + 1, _, by omega, by go_num, HS, HO2.out, HBX.out⟩
      case measure => simp [intOf]; omega
    · have hkn : k = us.length := by omega
      subst hkn
      have hlti : ¬ (us.length : Int) < us.length := by omega
      have HR := hid (HF.out.roww ho)
      clear HF
      go_wp2
      go_ret
      exact ⟨rfl, HR.out, hbel⟩
end Go.Proofs.YtfgjleifhjegkaaDoor
