import Derived.Test.YtdcdoeolaongkaaGreatDoorMG
import Derived.OwnWalk
namespace Go.Proofs.YtdcdoeolaongkaaGreatDoor.Mp
open Go.MapKept Go.ChangeMaps
open Go.ChangeShapes Go.WideShapes Go.ChangeAt Go.RowKit
open Go.Proofs.YtdcdoeolaongkaaGreatDoor.Ok
set_option linter.unusedVariables false
set_option linter.unusedSimpArgs false
set_option maxRecDepth 100000
theorem info3 : (Tryz.prog.info? 3).map (fun i => (i.zero, i.size, i.bytes)) = some (some (.int .i64 0), 1, 8) := by kernel_rfl
/-- A row of whole numbers that is filled up to k. -/
def FillI (ks : List Int) (k : Nat) (xs : List Value) : Prop := xs.length = ks.length ∧ ∀ i (h : i < ks.length), i < k → xs[i]? = some (.int .i64 ks[i])
theorem FillI.step {ks : List Int} {k : Nat} {xs : List Value} (h : FillI ks k xs) (hk : k < ks.length) : FillI ks (k + 1) (xs.set k (.int .i64 ks[k])) := by
  obtain ⟨h1, h2⟩ := h
  refine ⟨by simpa using h1, fun i hi hik => ?_⟩
  by_cases e : i = k
  · subst e
    simp only [List.getElem?_set]
    simp
    omega
  · have a := h2 i hi (by omega)
    simp only [List.getElem?_set]
    rw [if_neg (by omega)]; exact a
theorem own_cell {w : World} {b e s g n c : Nat} {xs : List Value} {u : Value} {j : Nat} (h : w.ownsRow b e s (.slice (some ⟨g, 0, none⟩) n c) n xs) (hj : xs[j]? = some u) : w.cell? ⟨g, j, none⟩ = some u := by
  have := h.cells rfl j u hj
  by_cases hz : j = 0
  · subst hz; simpa [Addr.add] using this
  · simpa [Addr.add, hz] using this
set_option maxHeartbeats 1600000 in
theorem toIntS_any (la : Option Addr) (lc : Nat) (ks : List Int) (w : World) (hn : ks.length ≤ 1048576) (hv : RIO w (.slice la ks.length lc) ks) :
    Calls Tryz.prog 10 #[.slice la ks.length lc] w fun e w' => e = .returned (.slice (some ⟨w.heap.size, 0, none⟩) ks.length ks.length) ∧ RIO w' (.slice (some ⟨w.heap.size, 0, none⟩) ks.length ks.length) ks ∧ Below w.heap.size w w' := by
  obtain ⟨i0, hi, hz0, hz1, hz2⟩ := info_parts info3
  obtain ⟨a, cap, hsl, hcells⟩ := hv
  simp only [Value.slice.injEq] at hsl
  obtain ⟨rfl, _, rfl⟩ := hsl
  go_enter Tryz.func10, Tryz.ntmps10
  go_wp2_with (refine wpList_make_full _ rfl (.tmp 6) (.tmp 6) 22 rfl w.heap.size 3 i0 _ 1 Tryz.underlying22 hi hz0 hz1 .i64 .i64 ks.length ks.length ks.length rfl rfl rfl rfl (by rw [hz2]; omega) (by unfold maxLen; omega) (Nat.le_refl _) ?_; intro w1 hown hgrow)
  have HB : Hid (Below w.heap.size w w1) := (Below.refl _ _).grown hgrow (Nat.le_refl _) (fun k hk => by simp at hk)
  have hb := HB.out
  have hw1 := hb.size
  go_loopw [4] (fun i wr => ∃ (k : Nat) (xs : List Value), k ≤ ks.length ∧ i = .int .i64 k ∧ Hid (FillI ks k xs) ∧ wr.ownsRow w.heap.size 3 1 (.slice (some ⟨w.heap.size, 0, none⟩) ks.length ks.length) ks.length xs ∧ Below w.heap.size w wr) (fun i _ => ks.length - (intOf i).toNat)
  case atStart => exact ⟨0, _, Nat.zero_le _, rfl, ⟨by simp [size_madeCells], fun i _ h => absurd h (Nat.not_lt_zero _)⟩, hown, hb⟩
  case round =>
    obtain ⟨k, xs, hk, rfl, HF, ho, hbel⟩ := hrel
    have hbs := hbel.size
    by_cases hlt : k < ks.length
    · have hlti : (k : Int) < ks.length := by omega
      obtain ⟨g, o, rfl, hg, hgc⟩ := hcells (by omega)
      have c0 := (hbel.cell (p := ⟨g, o + k, none⟩) hg).trans (hgc k hlt)
      have HS : Hid (FillI ks (k + 1) _) := HF.out.step hlt
      clear hgc
      generalize ks[k] = t at c0 HS
      have hxl := HF.out.1
      obtain ⟨y0, hy0⟩ : ∃ u, xs[k]? = some u := ⟨_, List.getElem?_eq_getElem (by omega)⟩
      have e0 := own_cell ho hy0
      have f0 := ho.frozenAt k
      have HO2 : Hid (World.ownsRow (wr.setCell ⟨w.heap.size, k, none⟩ (.int .i64 t)) w.heap.size 3 1 (.slice (some ⟨w.heap.size, 0, none⟩) ks.length ks.length) ks.length _) := (ho.stored k (.int .i64 t)).1
      clear hcells HF hxl hy0
      go_wp2
      go_roundw
      case rel => exact ⟨k + 1, _, by omega, by go_num, HS, HO2.out, hbel.setCell (Nat.le_refl _) _⟩
      case measure => simp [intOf]; omega
    · have hkn : k = ks.length := by omega
      subst hkn
      have hlti : ¬ (ks.length : Int) < ks.length := by omega
      go_wp2
      go_ret
      refine ⟨rfl, ?_, hbel⟩
      refine ⟨_, _, rfl, fun hp => ⟨w.heap.size, 0, rfl, (ho.lt _ rfl).2, fun i hi => ?_⟩⟩
      rw [Nat.zero_add]
      exact own_cell ho (HF.out.2 i hi hi)
set_option maxHeartbeats 1600000 in
theorem eqIntS_same (v u : Value) (ks : List Int) (w : World) (hn : ks.length ≤ 1048576) (hv : RIO w v ks) (hu : RIO w u ks) :
    Calls Tryz.prog 12 #[v, u] w fun e w' => e = .returned (.bool true) ∧ Below w.heap.size w w' := by
  obtain ⟨a, ca, rfl, hva⟩ := hv
  obtain ⟨b, cb, rfl, hub⟩ := hu
  go_enter Tryz.func12, Tryz.ntmps12
  go_wp2
  go_loopw [5] (fun i wr => ∃ k : Nat, k ≤ ks.length ∧ i = .int .i64 k ∧ Below w.heap.size w wr) (fun i _ => ks.length - (intOf i).toNat)
  case atStart => exact ⟨0, Nat.zero_le _, rfl, Below.refl _ _⟩
  case round =>
    obtain ⟨k, hk, rfl, hbel⟩ := hrel
    have hbs := hbel.size
    by_cases hlt : k < ks.length
    · have hlti : (k : Int) < ks.length := by omega
      obtain ⟨g, o, rfl, hg, hgc⟩ := hva (by omega)
      obtain ⟨g2, o2, rfl, hg2, hgc2⟩ := hub (by omega)
      have c0 := (hbel.cell (p := ⟨g, o + k, none⟩) hg).trans (hgc k hlt)
      have d0 := (hbel.cell (p := ⟨g2, o2 + k, none⟩) hg2).trans (hgc2 k hlt)
      clear hgc hgc2 hva hub
      generalize ks[k] = t at c0 d0
      go_wp2
      go_quiet (fail)
      go_wp2
      go_roundw
      case rel => exact ⟨k + 1, by omega, by go_num, hbel.trans ((below_drewN _ _).mono hbs)⟩
      case measure => simp [intOf]; omega
    · go_wp2
      go_ret
      exact ⟨rfl, hbel⟩
end Go.Proofs.YtdcdoeolaongkaaGreatDoor.Mp
