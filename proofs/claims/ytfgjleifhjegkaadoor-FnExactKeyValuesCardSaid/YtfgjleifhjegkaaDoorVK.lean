import Derived.Test.YtfgjleifhjegkaaDoorKH
namespace Go.Proofs.YtfgjleifhjegkaaDoor
open Go.ChangeShapes Go.WideShapes Go.ChangeAt Go.RowKit
set_option linter.unusedVariables false
set_option linter.unusedSimpArgs false
set_option maxRecDepth 100000
theorem RSW.keptV {B : Nat} {w w' : World} {v : Value} {us : List VA} (h : RSW 3 CV B w v us) (hs : w.heap.size ≤ w'.heap.size) (hh : ∀ b, B ≤ b → b < w.heap.size → w'.heap[b]? = w.heap[b]?) : RSW 3 CV B w' v us := by
  obtain ⟨a, cap, rfl, h2⟩ := h
  refine ⟨a, cap, rfl, fun hp => ?_⟩
  obtain ⟨g, o, ha, hB, hg, hc⟩ := h2 hp
  refine ⟨g, o, ha, hB, by omega, fun i hi => ?_⟩
  obtain ⟨cs, x, y⟩ := hc i hi
  have hb := hh g hB hg
  exact ⟨cs, x, fun j hj => ⟨(World.cell?_of_block (a := ⟨g, o + i * 3 + j, none⟩) hb).trans (y j hj).1, (World.frozen?_of_block (a := ⟨g, o + i * 3 + j, none⟩) hb).trans (y j hj).2⟩⟩
theorem markValueS_none (a : Option Addr) (cap : Nat) (k : Int) (w : World) :
    Calls Tryd.prog 14 #[.slice a 0 cap, .int .i64 k] w fun e w' => e = .returned (.int .i64 k) ∧ w' = w := by
  go_enter Tryd.func14, Tryd.ntmps14
  go_wp2
  go_loopw [1, 5] (fun kv iv wr => kv = .int .i64 k ∧ iv = .int .i64 0 ∧ wr = w) (fun _ _ _ => 0)
  case atStart => exact ⟨rfl, rfl, rfl⟩
  case round =>
    obtain ⟨rfl, rfl, hww⟩ := hrel
    replace hww := hww.symm
    subst hww
    go_wp2
    go_ret
    exact ⟨rfl, rfl⟩
theorem markV_told (a : Option Addr) (cap B : Nat) (us : List VA) (w a0 : World) (B0 : Nat) (hn : us.length ≤ 1048576) (hb : Below B0 a0 w) (hB : B0 ≤ B) (hv : RSW 3 CV B w (.slice a us.length cap) us) :
    Calls Tryd.prog 14 #[.slice a us.length cap, .int .i64 1] w fun e w' => e = .returned (.int .i64 ((1 + 3 * us.length : Nat) : Int)) ∧ Below B0 a0 w' ∧ ToldV w' a us.length 1 := by
  rcases Nat.eq_zero_or_pos us.length with h0 | h0
  · rw [h0]
    refine (markValueS_none a cap 1 w).mono ?_
    rintro e w' ⟨rfl, rfl⟩
    exact ⟨by simp, hb, fun h => absurd h (Nat.lt_irrefl _)⟩
  · obtain ⟨a', cap', he, h2⟩ := hv
    simp only [Value.slice.injEq] at he
    obtain ⟨rfl, _, rfl⟩ := he
    obtain ⟨g, o, rfl, hgB, hg, hc⟩ := h2 h0
    refine (markVS_any g o us.length cap 1 w a0 B0 (by omega) (by omega) hb (by omega) hg (fun j hj => ?_)).mono ?_
    · obtain ⟨cs, x, y⟩ := hc j hj
      unfold CV at x
      subst x
      have y0 := y 0 (by omega)
      have y1 := y 1 (by omega)
      have y2 := y 2 (by omega)
      rw [Nat.add_zero] at y0
      exact ⟨⟨_, y0.1⟩, ⟨_, y1.1⟩, ⟨_, y2.1⟩, y0.2, y1.2, y2.2⟩
    · rintro e w' ⟨rfl, hb', hm⟩
      exact ⟨rfl, hb', fun _ => ⟨g, o, rfl, Nat.lt_of_lt_of_le hg hm.size, hm.told⟩⟩
/-- Marking a row of bytes that was made: its block alone is written. -/
theorem markY_row (g cap : Nat) (xs : List Int) (w5 w a0 : World) (ty B0 B : Nat) (hn : xs.length ≤ 1048576) (hrow : YRow ty B w5 g xs) (hold : Below w5.heap.size w5 w) (hb : Below B0 a0 w) (hB : B0 ≤ g) :
    Calls Tryd.prog 15 #[.slice (some ⟨g, 0, none⟩) xs.length cap, .int .i64 1] w fun e w' => e = .returned (.int .i64 ((1 + xs.length : Nat) : Int)) ∧ Below B0 a0 w' ∧ w.heap.size ≤ w'.heap.size ∧ ∀ b, b < w.heap.size → b ≠ g → w'.heap[b]? = w.heap[b]? := by
  have hr := RowOf.below hrow hold
  refine (markByteS_any g 0 xs.length cap 1 w a0 B0 (by omega) hb hB (fun j hj => ?_)).mono ?_
  · rw [Nat.zero_add]
    exact ⟨⟨_, hr.cell hj⟩, hr.frozen j⟩
  · rintro e w' ⟨rfl, hb', hm⟩
    exact ⟨rfl, hb', Nat.le_of_eq hm.size.symm, fun b _ hn => hm.block b hn⟩
end Go.Proofs.YtfgjleifhjegkaaDoor
