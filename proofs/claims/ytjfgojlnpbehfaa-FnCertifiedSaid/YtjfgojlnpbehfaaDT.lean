import Derived.Test.YtjfgojlnpbehfaaDD
namespace Go.Proofs.Ytjfgojlnpbehfaa
open Go.ChangeShapes Go.WideShapes Go.ChangeAt Go.RowKit
set_option linter.unusedVariables false
set_option linter.unusedSimpArgs false
set_option maxRecDepth 100000
theorem Blk.other {w : World} {b c j : Nat} {u : Value} {cs : List Value} (h : Blk w b cs) (hc : c ≠ b) : Blk (w.setCell ⟨c, j, none⟩ u) b cs := fun l hl => by
  have hne : ∀ e : (⟨b, l, none⟩ : Addr) = ⟨c, j, none⟩, False := fun e => by cases e; exact hc rfl
  refine ⟨?_, ?_⟩
  · rw [World.cell?_setCell_other w ⟨c, j, none⟩ ⟨b, l, none⟩ u (fun e => by cases e; exact hc rfl)]; exact (h l hl).1
  · simpa using (h l hl).2
theorem Blk.set {w : World} {b : Nat} {cs : List Value} (h : Blk w b cs) (j : Nat) (u : Value) (hj : j < cs.length := by simp) : Blk (w.setCell ⟨b, j, none⟩ u) b (cs.set j u) := fun l hl => by
  rw [List.length_set] at hl
  refine ⟨?_, ?_⟩
  · by_cases e : l = j
    · subst e
      rw [List.getElem?_set_self hl]
      have := (h l hl).1
      rw [List.getElem?_eq_getElem hl] at this
      simp [go_sem, this, (h l hl).2]
    · rw [List.getElem?_set_ne (by omega), World.cell?_setCell_other w ⟨b, j, none⟩ ⟨b, l, none⟩ u (fun e' => by cases e'; exact e rfl)]
      exact (h l hl).1
  · simpa using (h l hl).2
theorem blk_new (w : World) (cs : List Value) (t : Nat) : Blk (w.alloc (.cells cs.toArray t)) w.heap.size cs := fun j hj => by
  refine ⟨?_, ?_⟩
  · simp [go_sem]
  · simp [go_sem]
theorem blkA (w : World) (c0 c1 c2 : List Value) (t0 t1 t2 : Nat) : Blk (((w.alloc (.cells c0.toArray t0)).alloc (.cells c1.toArray t1)).alloc (.cells c2.toArray t2)) w.heap.size c0 :=
  ((blk_new w c0 t0).below (below_alloc _ _) (by simp)).below (below_alloc _ _) (by simp; omega)
theorem blkB (w : World) (c0 c1 c2 : List Value) (t0 t1 t2 : Nat) : Blk (((w.alloc (.cells c0.toArray t0)).alloc (.cells c1.toArray t1)).alloc (.cells c2.toArray t2)) (w.heap.size + 1) c1 := by
  have := blk_new (w.alloc (.cells c0.toArray t0)) c1 t1
  rw [show (w.alloc (.cells c0.toArray t0)).heap.size = w.heap.size + 1 by simp] at this
  exact this.below (below_alloc _ _) (by simp)
theorem blkC (w : World) (c0 c1 c2 : List Value) (t0 t1 t2 : Nat) : Blk (((w.alloc (.cells c0.toArray t0)).alloc (.cells c1.toArray t1)).alloc (.cells c2.toArray t2)) (w.heap.size + 1 + 1) c2 := by
  have := blk_new ((w.alloc (.cells c0.toArray t0)).alloc (.cells c1.toArray t1)) c2 t2
  rw [show ((w.alloc (.cells c0.toArray t0)).alloc (.cells c1.toArray t1)).heap.size = w.heap.size + 1 + 1 by simp] at this
  exact this
theorem blkD (w : World) (c0 c1 : List Value) (t0 t1 : Nat) : Blk ((w.alloc (.cells c0.toArray t0)).alloc (.cells c1.toArray t1)) (w.heap.size + 1) c1 := by
  have := blk_new (w.alloc (.cells c0.toArray t0)) c1 t1
  rw [show (w.alloc (.cells c0.toArray t0)).heap.size = w.heap.size + 1 by simp] at this
  exact this
theorem info3 : (Try.prog.info? 3).map (fun i => (i.zero, i.size, i.bytes)) = some (some (.int .i64 0), 1, 8) := by kernel_rfl
set_option maxHeartbeats 4000000 in
theorem toIntS_any (a : Option Addr) (cap : Nat) (us : List Int) (w : World) (hn : us.length ≤ 1048576) (hv : RS 1 CI 0 w (.slice a us.length cap) us) :
    Calls Try.prog 25 #[.slice a us.length cap] w fun e w' => e = .returned (.slice (some ⟨w.heap.size, 0, none⟩) us.length us.length) ∧ RS 1 CI w.heap.size w' (.slice (some ⟨w.heap.size, 0, none⟩) us.length us.length) us ∧ Below w.heap.size w w' := by
  obtain ⟨i0, hi, hz0, hz1, hz2⟩ := info_parts info3
  obtain ⟨a', cap', hsl, hcells⟩ := hv
  simp only [Value.slice.injEq] at hsl
  obtain ⟨rfl, _, rfl⟩ := hsl
  go_enter Try.func25, Try.ntmps25
  go_wp2_with (refine wpList_make_full _ rfl (.tmp 6) (.tmp 6) 23 rfl w.heap.size 3 i0 _ 1 Try.underlying23 hi hz0 hz1 .i64 .i64 us.length us.length us.length rfl rfl rfl rfl (by rw [hz2]; omega) (by unfold maxLen; omega) (Nat.le_refl _) ?_; intro w1 hown hgrow)
  have HB : Hid (Below w.heap.size w w1) := (Below.refl _ _).grown hgrow (Nat.le_refl _) (fun k hk => by simp at hk)
  have hb1 := HB.out
  have hw1 := hb1.size
  go_loopw [4] (fun i wr => ∃ (k : Nat) (xs : List Value), k ≤ us.length ∧ i = .int .i64 k ∧ Hid (Fill 1 CI (w.heap.size + 1) us k xs wr) ∧ wr.ownsRow w.heap.size 3 1 (.slice (some ⟨w.heap.size, 0, none⟩) us.length us.length) us.length xs ∧ Below w.heap.size w wr) (fun i _ => us.length - (intOf i).toNat)
  case atStart => exact ⟨0, _, Nat.zero_le _, rfl, ⟨by simp [size_madeCells], fun i _ h => absurd h (Nat.not_lt_zero _)⟩, hown, hb1⟩
  case round =>
    obtain ⟨k, xs, hk, rfl, HF, ho, hbel⟩ := hrel
    have hbs := hbel.size
    by_cases hlt : k < us.length
    · have hlti : (k : Int) < us.length := by omega
      obtain ⟨g, o, rfl, _, hg, hgc⟩ := hcells (by omega)
      obtain ⟨cs, hC, hcell⟩ := hgc k hlt
      unfold CI at hC
      subst hC
      have c0 : wr.cell? ⟨g, o + k, none⟩ = some (.int .i64 us[k]) := (hbel.cell (p := ⟨g, o + k, none⟩) hg).trans (by have := hcell 0 (by omega); rw [Nat.mul_one, Nat.add_zero] at this; exact this)
      have HS := hid (HF.out.step liesI (g := w.heap.size) (by omega) hlt (Below.refl _ _) (rfl : CI (w.heap.size + 1) wr [.int .i64 us[k]] us[k]))
      have hxl := HF.out.1
      clear hgc hcells HF hcell
      generalize us[k] = t at *
      obtain ⟨y0, hy0⟩ : ∃ u, xs[k]? = some u := ⟨_, List.getElem?_eq_getElem (by omega)⟩
      have e0 := own_cell ho hy0
      have f0 := ho.frozenAt k
      have HO2 := hid (own_setW [.int .i64 t] xs (k * 1) wr ho)
      have HBX := hid (below_setW (Nat.le_refl w.heap.size) [.int .i64 t] (k * 1) wr hbel)
      simp only [Nat.mul_one] at HS HO2 HBX
      clear hxl hy0 ho
      go_wp2
      go_roundw
      case rel => exact ⟨k + 1, _, by omega, by go_num, HS, HO2.out, HBX.out⟩
      case measure => simp [intOf]; omega
    · have hkn : k = us.length := by omega
      subst hkn
      have hlti : ¬ (us.length : Int) < us.length := by omega
      have HR := hid (HF.out.rs liesI ho (Nat.le_succ _) (Nat.le_refl _))
      clear HF
      go_wp2
      go_ret
      exact ⟨rfl, HR.out, hbel⟩
set_option maxHeartbeats 16000000 in
theorem toT_e (t : TI) (cs : List Value) (w : World) (hB : BT 1048576 t) (hC : CT 0 w cs t) :
    Calls Try.prog 10 #[.agg cs.toArray] w fun e w' => ∃ ds, e = .returned (.agg ds.toArray) ∧ CT w.heap.size w' ds t ∧ Below w.heap.size w w' := by
  obtain ⟨v0, v1, rfl, r0, r1⟩ := hC
  have R0 := hid r0
  obtain ⟨a0, q0, rfl, _⟩ := r0
  have R1 := hid r1
  obtain ⟨a1, q1, rfl, _⟩ := r1
  have bw : Below w.heap.size w (((w.alloc (.cells #[.int .i64 t.bgn, .int .i64 t.com, .slice a0 t.reads.length q0, .slice a1 t.writes.length q1] 25)).alloc (.cells #[.int .i64 0, .int .i64 0, .slice none 0 0, .slice none 0 0] 31)).alloc (.cells #[.int .i64 t.bgn, .int .i64 t.com, .slice none 0 0, .slice none 0 0] 31)) := ((below_alloc w _).alloc (by simp) _).alloc (by simp; omega) _
  have K0 := hid (blkA w [.int .i64 t.bgn, .int .i64 t.com, .slice a0 t.reads.length q0, .slice a1 t.writes.length q1] [.int .i64 0, .int .i64 0, .slice none 0 0, .slice none 0 0] [.int .i64 t.bgn, .int .i64 t.com, .slice none 0 0, .slice none 0 0] 25 31 31)
  have K1 := hid (blkB w [.int .i64 t.bgn, .int .i64 t.com, .slice a0 t.reads.length q0, .slice a1 t.writes.length q1] [.int .i64 0, .int .i64 0, .slice none 0 0, .slice none 0 0] [.int .i64 t.bgn, .int .i64 t.com, .slice none 0 0, .slice none 0 0] 25 31 31)
  have K2 := hid (blkC w [.int .i64 t.bgn, .int .i64 t.com, .slice a0 t.reads.length q0, .slice a1 t.writes.length q1] [.int .i64 0, .int .i64 0, .slice none 0 0, .slice none 0 0] [.int .i64 t.bgn, .int .i64 t.com, .slice none 0 0, .slice none 0 0] 25 31 31)
  have hz : w.heap.size + 1 + 1 < ((((w.alloc (.cells #[.int .i64 t.bgn, .int .i64 t.com, .slice a0 t.reads.length q0, .slice a1 t.writes.length q1] 25)).alloc (.cells #[.int .i64 0, .int .i64 0, .slice none 0 0, .slice none 0 0] 31)).alloc (.cells #[.int .i64 t.bgn, .int .i64 t.com, .slice none 0 0, .slice none 0 0] 31))).heap.size := by simp
  go_enter Try.func10, Try.ntmps10
  go_wp2_with (go_at_call 25; fail)
  refine (toIntS_any a0 q0 t.reads _ hB.1 (R0.out.below liesI bw)).mono ?_
  rintro e w1 ⟨rfl, hR, hb1⟩
  obtain ⟨g0, hg0⟩ : ∃ x, x = ((((w.alloc (.cells #[.int .i64 t.bgn, .int .i64 t.com, .slice a0 t.reads.length q0, .slice a1 t.writes.length q1] 25)).alloc (.cells #[.int .i64 0, .int .i64 0, .slice none 0 0, .slice none 0 0] 31)).alloc (.cells #[.int .i64 t.bgn, .int .i64 t.com, .slice none 0 0, .slice none 0 0] 31))).heap.size := ⟨_, rfl⟩
  rw [← hg0] at hR ⊢
  have hgb0 : w.heap.size + 1 + 1 < g0 := by omega
  replace bw : Below w.heap.size w w1 := bw.trans (hb1.mono bw.size)
  replace K0 := hid (K0.out.below hb1 (by omega))
  replace K1 := hid (K1.out.below hb1 (by omega))
  replace K2 := hid (K2.out.below hb1 (by omega))
  replace hz : w.heap.size + 1 + 1 < w1.heap.size := Nat.lt_of_lt_of_le hz hb1.size
  have RR0 := hid hR
  clear hR hg0
  clear hb1
  have o2 : w1.cell? ⟨w.heap.size + 1 + 1, 2, none⟩ = some (.slice none 0 0) := (K2.out 2 (by simp)).1
  have p2 := (K2.out 2 (by simp)).2
  have b3 : w1.cell? ⟨w.heap.size, 3, none⟩ = some (.slice a1 t.writes.length q1) := (K0.out 3 (by simp)).1
  replace K0 := hid (K0.out.other (c := w.heap.size + 1 + 1) (j := 2) (u := .slice (some ⟨g0, 0, none⟩) t.reads.length t.reads.length) (by omega))
  replace K1 := hid (K1.out.other (c := w.heap.size + 1 + 1) (j := 2) (u := .slice (some ⟨g0, 0, none⟩) t.reads.length t.reads.length) (by omega))
  replace K2 := hid (K2.out.set 2 (.slice (some ⟨g0, 0, none⟩) t.reads.length t.reads.length))
  replace RR0 := hid (RR0.out.set liesI (c := w.heap.size + 1 + 1) (j := 2) (u := .slice (some ⟨g0, 0, none⟩) t.reads.length t.reads.length) (by omega))
  replace bw := bw.setCell (show w.heap.size ≤ (⟨w.heap.size + 1 + 1, 2, none⟩ : Addr).block by simp; omega) (.slice (some ⟨g0, 0, none⟩) t.reads.length t.reads.length)
  replace hz : w.heap.size + 1 + 1 < ((w1.setCell ⟨w.heap.size + 1 + 1, 2, none⟩ (.slice (some ⟨g0, 0, none⟩) t.reads.length t.reads.length))).heap.size := by simpa using hz
  go_wp2_with (go_at_call 25; fail)
  refine (toIntS_any a1 q1 t.writes _ hB.2 (R1.out.below liesI bw)).mono ?_
  rintro e w2 ⟨rfl, hR, hb2⟩
  obtain ⟨g1, hg1⟩ : ∃ x, x = ((w1.setCell ⟨w.heap.size + 1 + 1, 2, none⟩ (.slice (some ⟨g0, 0, none⟩) t.reads.length t.reads.length))).heap.size := ⟨_, rfl⟩
  rw [← hg1] at hR ⊢
  have hgb1 : w.heap.size + 1 + 1 < g1 := by omega
  replace bw : Below w.heap.size w w2 := bw.trans (hb2.mono bw.size)
  replace K0 := hid (K0.out.below hb2 (by omega))
  replace K1 := hid (K1.out.below hb2 (by omega))
  replace K2 := hid (K2.out.below hb2 (by omega))
  replace RR0 := hid (RR0.out.below liesI hb2)
  replace hz : w.heap.size + 1 + 1 < w2.heap.size := Nat.lt_of_lt_of_le hz hb2.size
  have RR1 := hid hR
  clear hR hg1
  clear hb2
  have o0 : w2.cell? ⟨w.heap.size + 1 + 1, 0, none⟩ = some (.int .i64 t.bgn) := (K2.out 0 (by simp)).1
  have p0 := (K2.out 0 (by simp)).2
  have r0 : w2.cell? ⟨w.heap.size + 1, 0, none⟩ = some (.int .i64 0) := (K1.out 0 (by simp)).1
  have s0 := (K1.out 0 (by simp)).2
  have o1 : w2.cell? ⟨w.heap.size + 1 + 1, 1, none⟩ = some (.int .i64 t.com) := (K2.out 1 (by simp)).1
  have p1 := (K2.out 1 (by simp)).2
  have r1 : w2.cell? ⟨w.heap.size + 1, 1, none⟩ = some (.int .i64 0) := (K1.out 1 (by simp)).1
  have s1 := (K1.out 1 (by simp)).2
  have o2 : w2.cell? ⟨w.heap.size + 1 + 1, 2, none⟩ = some (.slice (some ⟨g0, 0, none⟩) t.reads.length t.reads.length) := (K2.out 2 (by simp)).1
  have p2 := (K2.out 2 (by simp)).2
  have r2 : w2.cell? ⟨w.heap.size + 1, 2, none⟩ = some (.slice none 0 0) := (K1.out 2 (by simp)).1
  have s2 := (K1.out 2 (by simp)).2
  have o3 : w2.cell? ⟨w.heap.size + 1 + 1, 3, none⟩ = some (.slice none 0 0) := (K2.out 3 (by simp)).1
  have p3 := (K2.out 3 (by simp)).2
  have r3 : w2.cell? ⟨w.heap.size + 1, 3, none⟩ = some (.slice none 0 0) := (K1.out 3 (by simp)).1
  have s3 := (K1.out 3 (by simp)).2
  have hx1 : w.heap.size + 1 < w2.heap.size := by omega
  have hx0 : w.heap.size < w2.heap.size := by omega
  clear K0 K1 K2
  go_wp2
  refine bodyPost_ret (v := .agg #[.int .i64 t.bgn, .int .i64 t.com, .slice (some ⟨g0, 0, none⟩) t.reads.length t.reads.length, .slice (some ⟨g1, 0, none⟩) t.writes.length t.writes.length]) (by simp [results, Try.results10, go_sem, hx0, hx1, hz, o0, p0, r0, s0, o1, p1, r1, s1, o2, p2, r2, s2, o3, p3, r3, s3]) rfl ⟨[.int .i64 t.bgn, .int .i64 t.com, .slice (some ⟨g0, 0, none⟩) t.reads.length t.reads.length, .slice (some ⟨g1, 0, none⟩) t.writes.length t.writes.length], rfl, ?_, ?_⟩
  · refine ⟨_, _, rfl, ?_, ?_⟩
    · refine RS.mono liesI (B := w.heap.size + 1 + 1 + 1) ?_ (by omega)
      have R := RR0.out.mono liesI (show w.heap.size + 1 + 1 + 1 ≤ g0 by omega)
      repeat (first | with_reducible exact R | (with_reducible refine RS.set liesI ?_ ?_; rotate_left; omega))
    · refine RS.mono liesI (B := w.heap.size + 1 + 1 + 1) ?_ (by omega)
      have R := RR1.out.mono liesI (show w.heap.size + 1 + 1 + 1 ≤ g1 by omega)
      repeat (first | with_reducible exact R | (with_reducible refine RS.set liesI ?_ ?_; rotate_left; omega))
  · clear o0 p0 r0 s0 o1 p1 r1 s1 o2 p2 r2 s2 o3 p3 r3 s3
    exact (by (go_light; repeat (first | with_reducible assumption | with_reducible exact Below.refl _ _ | (with_reducible refine Below.setCell ?_ ?_ _; rotate_left; (focus first | (simp; done) | (simp; omega) | omega)) | (with_reducible refine Below.alloc ?_ ?_ _; rotate_left; (focus first | (simp; done) | (simp; omega) | omega)) | with_reducible refine Below.drew ?_)))
theorem info31 : (Try.prog.info? 31).map (fun i => (i.zero, i.size, i.bytes)) = some (some (.agg #[.int .i64 0, .int .i64 0, .slice none 0 0, .slice none 0 0]), 4, 64) := by kernel_rfl
set_option maxHeartbeats 16000000 in
theorem toTS_any (a : Option Addr) (cap : Nat) (us : List TI) (w : World) (hb : us.length ≤ 1048576 ∧ ∀ t ∈ us, BT 1048576 t) (hv : RS 4 CT 0 w (.slice a us.length cap) us) :
    Calls Try.prog 9 #[.slice a us.length cap] w fun e w' => e = .returned (.slice (some ⟨w.heap.size, 0, none⟩) us.length us.length) ∧ RS 4 CT w.heap.size w' (.slice (some ⟨w.heap.size, 0, none⟩) us.length us.length) us ∧ Below w.heap.size w w' := by
  obtain ⟨i0, hi, hz0, hz1, hz2⟩ := info_parts info31
  obtain ⟨hn, hz⟩ := hb
  have HZ : Hid (∀ t ∈ us, BT 1048576 t) := hz
  clear hz
  obtain ⟨a', cap', hsl, hcells⟩ := hv
  simp only [Value.slice.injEq] at hsl
  obtain ⟨rfl, _, rfl⟩ := hsl
  go_enter Try.func9, Try.ntmps9
  go_wp2_with (refine wpList_make_full _ rfl (.tmp 6) (.tmp 6) 29 rfl w.heap.size 31 i0 _ 4 Try.underlying29 hi hz0 hz1 .i64 .i64 us.length us.length us.length rfl rfl rfl rfl (by rw [hz2]; omega) (by unfold maxLen; omega) (Nat.le_refl _) ?_; intro w1 hown hgrow)
  have HB : Hid (Below w.heap.size w w1) := (Below.refl _ _).grown hgrow (Nat.le_refl _) (fun k hk => by simp at hk)
  have hb1 := HB.out
  have hw1 := hb1.size
  go_loopw [4] (fun i wr => ∃ (k : Nat) (xs : List Value), k ≤ us.length ∧ i = .int .i64 k ∧ Hid (Fill 4 CT (w.heap.size + 1) us k xs wr) ∧ wr.ownsRow w.heap.size 31 4 (.slice (some ⟨w.heap.size, 0, none⟩) us.length us.length) us.length xs ∧ Below w.heap.size w wr) (fun i _ => us.length - (intOf i).toNat)
  case atStart => exact ⟨0, _, Nat.zero_le _, rfl, ⟨by simp [size_madeCells], fun i _ h => absurd h (Nat.not_lt_zero _)⟩, hown, hb1⟩
  case round =>
    obtain ⟨k, xs, hk, rfl, HF, ho, hbel⟩ := hrel
    have hbs := hbel.size
    by_cases hlt : k < us.length
    · have hlti : (k : Int) < us.length := by omega
      obtain ⟨g, o, rfl, _, hg, hgc⟩ := hcells (by omega)
      obtain ⟨cs, hC, hcell⟩ := hgc k hlt
      have hC1 := liesT.below hC hbel
      have hB := HZ.out us[k] (List.getElem_mem hlt)
      have HST : Hid (∀ (w2 : World) (ds : List Value), Below wr.heap.size wr w2 → CT (w.heap.size + 1) w2 ds us[k] → Fill 4 CT (w.heap.size + 1) us (k + 1) (setL xs (k * 4) ds) (setW w2 w.heap.size (k * 4) ds)) := (fun w2 ds a b => HF.out.step liesT (by omega) hlt a b : ∀ (w2 : World) (ds : List Value), Below wr.heap.size wr w2 → CT (w.heap.size + 1) w2 ds us[k] → Fill 4 CT (w.heap.size + 1) us (k + 1) (setL xs (k * 4) ds) (setW w2 w.heap.size (k * 4) ds))
      have hxl := HF.out.1
      have hgl : w.heap.size < wr.heap.size := (ho.lt _ rfl).2
      have hkk := mul_le (K := 4) hlt
      clear hgc hcells HF
      generalize us[k] = t at *
      have hcn := toT_e t cs wr hB hC1
      clear hC1
      obtain ⟨v0, v1, rfl, r0, r1⟩ := hC
      obtain ⟨a0, q0, rfl, _⟩ := r0
      obtain ⟨a1, q1, rfl, _⟩ := r1
      have c0 : wr.cell? ⟨g, o + k * 4, none⟩ = some (.int .i64 t.bgn) := (hbel.cell (p := ⟨g, o + k * 4, none⟩) hg).trans (hcell 0 (by omega))
      have c1 : wr.cell? ⟨g, o + k * 4 + 1, none⟩ = some (.int .i64 t.com) := (hbel.cell (p := ⟨g, o + k * 4 + 1, none⟩) hg).trans (hcell 1 (by omega))
      have c2 : wr.cell? ⟨g, o + k * 4 + 2, none⟩ = some (.slice a0 t.reads.length q0) := (hbel.cell (p := ⟨g, o + k * 4 + 2, none⟩) hg).trans (hcell 2 (by omega))
      have c3 : wr.cell? ⟨g, o + k * 4 + 3, none⟩ = some (.slice a1 t.writes.length q1) := (hbel.cell (p := ⟨g, o + k * 4 + 3, none⟩) hg).trans (hcell 3 (by omega))
      clear hcell
      obtain ⟨y0, hy0⟩ : ∃ u, xs[k * 4]? = some u := ⟨_, List.getElem?_eq_getElem (by omega)⟩
      obtain ⟨y1, hy1⟩ : ∃ u, xs[k * 4 + 1]? = some u := ⟨_, List.getElem?_eq_getElem (by omega)⟩
      obtain ⟨y2, hy2⟩ : ∃ u, xs[k * 4 + 2]? = some u := ⟨_, List.getElem?_eq_getElem (by omega)⟩
      obtain ⟨y3, hy3⟩ : ∃ u, xs[k * 4 + 3]? = some u := ⟨_, List.getElem?_eq_getElem (by omega)⟩
      clear hxl hkk
      go_wp2_with (go_at_call 10; fail)
      refine hcn.mono ?_
      rintro e w2 ⟨ds, rfl, hD, hb2⟩
      have bw1 : Below w.heap.size w w2 := hbel.trans (hb2.mono hbs)
      have ho1 := own_below ho hb2
      have e0 := own_cell ho1 hy0
      have f0 := ho1.frozenAt (k * 4)
      have e1 := own_cell ho1 hy1
      have f1 := ho1.frozenAt (k * 4 + 1)
      have e2 := own_cell ho1 hy2
      have f2 := ho1.frozenAt (k * 4 + 2)
      have e3 := own_cell ho1 hy3
      have f3 := ho1.frozenAt (k * 4 + 3)
      have HS := hid (HST.out w2 ds hb2 (liesT.mono hD (by omega)))
      have HO2 := hid (own_setW ds xs (k * 4) w2 ho1)
      have HBX := hid (below_setW (Nat.le_refl w.heap.size) ds (k * 4) w2 bw1)
      obtain ⟨xv0, xv1, rfl, xr0, xr1⟩ := hD
      obtain ⟨xa0, xq0, rfl, _⟩ := xr0
      obtain ⟨xa1, xq1, rfl, _⟩ := xr1
      clear HST hb2 hcn ho ho1 hy0 c0 hy1 c1 hy2 c2 hy3 c3
      go_wp2
      go_roundw
      case rel => exact ⟨k + 1, _, by omega, by go_num, HS, HO2.out, HBX.out⟩
      case measure => simp [intOf]; omega
    · have hkn : k = us.length := by omega
      subst hkn
      have hlti : ¬ (us.length : Int) < us.length := by omega
      have HR := hid (HF.out.rs liesT ho (Nat.le_succ _) (Nat.le_refl _))
      clear HF
      go_wp2
      go_ret
      exact ⟨rfl, HR.out, hbel⟩
end Go.Proofs.Ytjfgojlnpbehfaa
