import Derived.Test.YtoieiegjhjedoaaST1
namespace Go.Proofs.Ytoieiegjhjedoaa
open Go.ChangeShapes Go.WideShapes Go.ChangeAt Go.RowKit
set_option linter.unusedVariables false
set_option linter.unusedSimpArgs false
set_option maxRecDepth 100000
theorem Blk.other {w : World} {b c j : Nat} {u : Value} {cs : List Value} (h : Blk w b cs) (hc : c ≠ b) : Blk (w.setCell ⟨c, j, none⟩ u) b cs := fun l hl => by
  have hne : ∀ e : (⟨b, l, none⟩ : Addr) = ⟨c, j, none⟩, False := fun e => by cases e; exact hc rfl
  refine ⟨?_, ?_⟩
  · rw [World.cell?_setCell_other w ⟨c, j, none⟩ ⟨b, l, none⟩ u (fun e => by cases e; exact hc rfl)]; exact (h l hl).1
  · simpa using (h l hl).2
theorem Blk.set {w : World} {b : Nat} {cs : List Value} (h : Blk w b cs) (j : Nat) (u : Value) (hj : j < cs.length := by simp) : Blk (w.setCell ⟨b, j, none⟩ u) b (cs.set j u) := fun l hl => by
  rw [List.length_set] at hl
  refine ⟨?_, ?_⟩
  · by_cases e : l = j
    · subst e
      rw [List.getElem?_set_self hl]
      have := (h l hl).1
      rw [List.getElem?_eq_getElem hl] at this
      simp [go_sem, this, (h l hl).2]
    · rw [List.getElem?_set_ne (by omega), World.cell?_setCell_other w ⟨b, j, none⟩ ⟨b, l, none⟩ u (fun e' => by cases e'; exact e rfl)]
      exact (h l hl).1
  · simpa using (h l hl).2
theorem blk_new (w : World) (cs : List Value) (t : Nat) : Blk (w.alloc (.cells cs.toArray t)) w.heap.size cs := fun j hj => by
  refine ⟨?_, ?_⟩
  · simp [go_sem]
  · simp [go_sem]
theorem blkA (w : World) (c0 c1 c2 : List Value) (t0 t1 t2 : Nat) : Blk (((w.alloc (.cells c0.toArray t0)).alloc (.cells c1.toArray t1)).alloc (.cells c2.toArray t2)) w.heap.size c0 :=
  ((blk_new w c0 t0).below (below_alloc _ _) (by simp)).below (below_alloc _ _) (by simp; omega)
theorem blkB (w : World) (c0 c1 c2 : List Value) (t0 t1 t2 : Nat) : Blk (((w.alloc (.cells c0.toArray t0)).alloc (.cells c1.toArray t1)).alloc (.cells c2.toArray t2)) (w.heap.size + 1) c1 := by
  have := blk_new (w.alloc (.cells c0.toArray t0)) c1 t1
  rw [show (w.alloc (.cells c0.toArray t0)).heap.size = w.heap.size + 1 by simp] at this
  exact this.below (below_alloc _ _) (by simp)
theorem blkC (w : World) (c0 c1 c2 : List Value) (t0 t1 t2 : Nat) : Blk (((w.alloc (.cells c0.toArray t0)).alloc (.cells c1.toArray t1)).alloc (.cells c2.toArray t2)) (w.heap.size + 1 + 1) c2 := by
  have := blk_new ((w.alloc (.cells c0.toArray t0)).alloc (.cells c1.toArray t1)) c2 t2
  rw [show ((w.alloc (.cells c0.toArray t0)).alloc (.cells c1.toArray t1)).heap.size = w.heap.size + 1 + 1 by simp] at this
  exact this
set_option maxHeartbeats 4000000 in
theorem toIntS_any (a : Option Addr) (cap : Nat) (us : List Int) (w : World) (hn : us.length ≤ 1048576) (hv : RS 1 CI 0 w (.slice a us.length cap) us) :
    Calls Try.prog 36 #[.slice a us.length cap] w fun e w' => e = .returned (.slice (some ⟨w.heap.size, 0, none⟩) us.length us.length) ∧ RS 1 CI w.heap.size w' (.slice (some ⟨w.heap.size, 0, none⟩) us.length us.length) us ∧ Below w.heap.size w w' := by
  obtain ⟨i0, hi, hz0, hz1, hz2⟩ := info_parts info3
  obtain ⟨a', cap', hsl, hcells⟩ := hv
  simp only [Value.slice.injEq] at hsl
  obtain ⟨rfl, _, rfl⟩ := hsl
  go_enter Try.func36, Try.ntmps36
  go_wp2_with (refine wpList_make_full _ rfl (.tmp 6) (.tmp 6) 35 rfl w.heap.size 3 i0 _ 1 Try.underlying35 hi hz0 hz1 .i64 .i64 us.length us.length us.length rfl rfl rfl rfl (by rw [hz2]; omega) (by unfold maxLen; omega) (Nat.le_refl _) ?_; intro w1 hown hgrow)
  have HB : Hid (Below w.heap.size w w1) := (Below.refl _ _).grown hgrow (Nat.le_refl _) (fun k hk => by simp at hk)
  have hb1 := HB.out
  have hw1 := hb1.size
  go_loopw [4] (fun i wr => ∃ (k : Nat) (xs : List Value), k ≤ us.length ∧ i = .int .i64 k ∧ Hid (Fill 1 CI (w.heap.size + 1) us k xs wr) ∧ wr.ownsRow w.heap.size 3 1 (.slice (some ⟨w.heap.size, 0, none⟩) us.length us.length) us.length xs ∧ Below w.heap.size w wr) (fun i _ => us.length - (intOf i).toNat)
  case atStart => exact ⟨0, _, Nat.zero_le _, rfl, ⟨by simp [size_madeCells], fun i _ h => absurd h (Nat.not_lt_zero _)⟩, hown, hb1⟩
  case round =>
    obtain ⟨k, xs, hk, rfl, HF, ho, hbel⟩ := hrel
    have hbs := hbel.size
    by_cases hlt : k < us.length
    · have hlti : (k : Int) < us.length := by omega
      obtain ⟨g, o, rfl, _, hg, hgc⟩ := hcells (by omega)
      obtain ⟨cs, hC, hcell⟩ := hgc k hlt
      unfold CI at hC
      subst hC
      have c0 : wr.cell? ⟨g, o + k, none⟩ = some (.int .i64 us[k]) := (hbel.cell (p := ⟨g, o + k, none⟩) hg).trans (by have := hcell 0 (by omega); rw [Nat.mul_one, Nat.add_zero] at this; exact this)
      have HS := hid (HF.out.step liesI (g := w.heap.size) (by omega) hlt (Below.refl _ _) (rfl : CI (w.heap.size + 1) wr [.int .i64 us[k]] us[k]))
      have hxl := HF.out.1
      clear hgc hcells HF hcell
      generalize us[k] = t at *
      obtain ⟨y0, hy0⟩ : ∃ u, xs[k]? = some u := ⟨_, List.getElem?_eq_getElem (by omega)⟩
      have e0 := own_cell ho hy0
      have f0 := ho.frozenAt k
      have HO2 := hid (own_setW [.int .i64 t] xs (k * 1) wr ho)
      have HBX := hid (below_setW (Nat.le_refl w.heap.size) [.int .i64 t] (k * 1) wr hbel)
      simp only [Nat.mul_one] at HS HO2 HBX
      clear hxl hy0 ho
      go_wp2
      go_roundw
      case rel => exact ⟨k + 1, _, by omega, by go_num, HS, HO2.out, HBX.out⟩
      case measure => simp [intOf]; omega
    · have hkn : k = us.length := by omega
      subst hkn
      have hlti : ¬ (us.length : Int) < us.length := by omega
      have HR := hid (HF.out.rs liesI ho (Nat.le_succ _) (Nat.le_refl _))
      clear HF
      go_wp2
      go_ret
      exact ⟨rfl, HR.out, hbel⟩
end Go.Proofs.Ytoieiegjhjedoaa
