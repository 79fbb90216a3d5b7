import Derived.Test.YtcgnkcehjcednaaDoorN12
import Derived.Test.YtcgnkcehjcednaaDoorX1
namespace Go.Proofs.YtcgnkcehjcednaaDoor
open Go.ChangeShapes Go.WideShapes Go.ChangeAt Go.RowKit Go.Shelf
set_option linter.unusedVariables false
set_option linter.unusedSimpArgs false
set_option maxRecDepth 100000
/-- A row that is filled up to k. -/
def FillT (us : List TV) (k : Nat) (xs : List Value) : Prop := xs.length = us.length * 3 ∧ ∀ i (h : i < us.length), i < k → xs[i * 3]? = some (.int .i64 us[i].1) ∧ xs[i * 3 + 1]? = some (.string us[i].2.1) ∧ xs[i * 3 + 2]? = some (.int .i64 us[i].2.2)
theorem FillT.step {us : List TV} {k : Nat} {xs : List Value} (h : FillT us k xs) (hk : k < us.length) : FillT us (k + 1) (((xs.set (k * 3) (.int .i64 us[k].1)).set (k * 3 + 1) (.string us[k].2.1)).set (k * 3 + 2) (.int .i64 us[k].2.2)) := by
  obtain ⟨h1, h2⟩ := h
  refine ⟨by simpa using h1, fun i hi hik => ?_⟩
  by_cases e : i = k
  · subst e
    refine ⟨?_, ?_, ?_⟩ <;> simp only [List.getElem?_set, List.length_set] <;> simp <;> omega
  · obtain ⟨a, b, c⟩ := h2 i hi (by omega)
    refine ⟨?_, ?_, ?_⟩ <;> simp only [List.getElem?_set, List.length_set]
    · rw [if_neg (by omega), if_neg (by omega), if_neg (by omega)]; exact a
    · rw [if_neg (by omega), if_neg (by omega), if_neg (by omega)]; exact b
    · rw [if_neg (by omega), if_neg (by omega), if_neg (by omega)]; exact c
theorem own_cell {w : World} {b e s g n c : Nat} {xs : List Value} {u : Value} {j : Nat} (h : w.ownsRow b e s (.slice (some ⟨g, 0, none⟩) n c) n xs) (hj : xs[j]? = some u) : w.cell? ⟨g, j, none⟩ = some u := by
  have := h.cells rfl j u hj
  by_cases hz : j = 0
  · subst hz; simpa [Addr.add] using this
  · simpa [Addr.add, hz] using this
set_option maxHeartbeats 1600000 in
theorem toTokenS_any (la : Option Addr) (lc : Nat) (us : List TV) (w : World) (hn : us.length ≤ 1048576) (hv : RTO w (.slice la us.length lc) us) :
    Calls Tryd.prog 27 #[.slice la us.length lc] w fun e w' => e = .returned (.slice (some ⟨w.heap.size, 0, none⟩) us.length us.length) ∧ RT w' (.slice (some ⟨w.heap.size, 0, none⟩) us.length us.length) us ∧ Below w.heap.size w w' := by
  obtain ⟨i0, hi, hz0, hz1, hz2⟩ := info_parts info47
  obtain ⟨a, cap, hsl, hcells⟩ := hv
  simp only [Value.slice.injEq] at hsl
  obtain ⟨rfl, _, rfl⟩ := hsl
  go_enter Tryd.func27, Tryd.ntmps27
  go_wp2_with (refine wpList_make_full _ rfl (.tmp 6) (.tmp 6) 33 rfl w.heap.size 47 i0 _ 3 Tryd.underlying33 hi hz0 hz1 .i64 .i64 us.length us.length us.length rfl rfl rfl rfl (by rw [hz2]; omega) (by unfold maxLen; omega) (Nat.le_refl _) ?_; intro w1 hown hgrow)
  have HB : Hid (Below w.heap.size w w1) := (Below.refl _ _).grown hgrow (Nat.le_refl _) (fun k hk => by simp at hk)
  have hb := HB.out
  have hw1 := hb.size
  go_loopw [4] (fun i wr => ∃ (k : Nat) (xs : List Value), k ≤ us.length ∧ i = .int .i64 k ∧ Hid (FillT us k xs) ∧ wr.ownsRow w.heap.size 47 3 (.slice (some ⟨w.heap.size, 0, none⟩) us.length us.length) us.length xs ∧ Below w.heap.size w wr) (fun i _ => us.length - (intOf i).toNat)
  case atStart => exact ⟨0, _, Nat.zero_le _, rfl, ⟨by simp [size_madeCells], fun i _ h => absurd h (Nat.not_lt_zero _)⟩, hown, hb⟩
  case round =>
    obtain ⟨k, xs, hk, rfl, HF, ho, hbel⟩ := hrel
    have hbs := hbel.size
    by_cases hlt : k < us.length
    · have hlti : (k : Int) < us.length := by omega
      obtain ⟨g, o, rfl, hg, hgc⟩ := hcells (by omega)
      obtain ⟨a0, a1, a2⟩ := hgc k hlt
      have c0 := (hbel.cell (p := ⟨g, o + k * 3, none⟩) hg).trans a0
      have c1 := (hbel.cell (p := ⟨g, o + k * 3 + 1, none⟩) hg).trans a1
      have c2 := (hbel.cell (p := ⟨g, o + k * 3 + 2, none⟩) hg).trans a2
      have HS : Hid (FillT us (k + 1) _) := HF.out.step hlt
      clear a0 a1 a2 hgc
      obtain ⟨t, htt⟩ : ∃ t, us[k] = t := ⟨_, rfl⟩
      rw [htt] at c0 c1 c2 HS
      clear htt
      obtain ⟨tk, tx, tp⟩ := t
      simp only at c0 c1 c2 HS
      have hxl := HF.out.1
      obtain ⟨y0, hy0⟩ : ∃ u, xs[k * 3]? = some u := ⟨_, List.getElem?_eq_getElem (by omega)⟩
      obtain ⟨y1, hy1⟩ : ∃ u, xs[k * 3 + 1]? = some u := ⟨_, List.getElem?_eq_getElem (by omega)⟩
      obtain ⟨y2, hy2⟩ : ∃ u, xs[k * 3 + 2]? = some u := ⟨_, List.getElem?_eq_getElem (by omega)⟩
      clear hcells HF hxl
      go_wp2_with (go_at_call 64; refine (toToken_any _ _ _ _).mono ?_; rintro e w2 ⟨rfl, hb1⟩; have ho1 := own_below ho hb1; have bw1 : Below w.heap.size w w2 := hbel.trans (hb1.mono hbs); have e0 := own_cell ho1 hy0; have e1 := own_cell ho1 hy1; have e2 := own_cell ho1 hy2; have f0 := ho1.frozenAt (k * 3); have f1 := ho1.frozenAt (k * 3 + 1); have f2 := ho1.frozenAt (k * 3 + 2); clear hb1)
      have HO2 : Hid (World.ownsRow (((w2.setCell ⟨w.heap.size, k * 3, none⟩ (.int .i64 tk)).setCell ⟨w.heap.size, k * 3 + 1, none⟩ (.string tx)).setCell ⟨w.heap.size, k * 3 + 2, none⟩ (.int .i64 tp)) w.heap.size 47 3 (.slice (some ⟨w.heap.size, 0, none⟩) us.length us.length) us.length _) := (((ho1.stored (k * 3) (.int .i64 tk)).1.stored (k * 3 + 1) (.string tx)).1.stored (k * 3 + 2) (.int .i64 tp)).1
      go_roundw
      case rel => exact ⟨k + 1, _, by omega, by go_num, HS, HO2.out, ((bw1.setCell (Nat.le_refl _) _).setCell (Nat.le_refl _) _).setCell (Nat.le_refl _) _⟩
      case measure => simp [intOf]; omega
    · have hkn : k = us.length := by omega
      subst hkn
      have hlti : ¬ (us.length : Int) < us.length := by omega
      go_wp2
      go_ret
      refine ⟨rfl, ?_, hbel⟩
      refine ⟨_, _, rfl, fun hp => ⟨w.heap.size, rfl, (ho.lt _ rfl).2, fun i hi => ?_⟩⟩
      obtain ⟨q0, q1, q2⟩ := HF.out.2 i hi hi
      exact ⟨own_cell ho q0, own_cell ho q1, own_cell ho q2⟩
end Go.Proofs.YtcgnkcehjcednaaDoor
