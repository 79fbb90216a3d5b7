import Derived.Test.YtfgjleifhjegkaaDoorVO
import Derived.Test.YtfgjleifhjegkaaDoorRO
namespace Go.Proofs.YtfgjleifhjegkaaDoor
open Go.ChangeShapes Go.WideShapes Go.ChangeAt Go.RowKit
set_option linter.unusedVariables false
set_option linter.unusedSimpArgs false
set_option maxRecDepth 100000
theorem RSW.roomsY {B : Nat} {w : World} {a : Option Addr} {cap : Nat} {us : List Int} (h : RSW 1 CY B w (.slice a us.length cap) us) : 0 < us.length → ∃ b o, a = some ⟨b, o, none⟩ ∧ B ≤ b ∧ b < w.heap.size ∧ ∀ j, j < us.length → (∃ x, w.cell? ⟨b, o + j, none⟩ = some (.int .u8 x)) ∧ w.frozen? ⟨b, o + j, none⟩ = false := fun hp => by
  obtain ⟨a', cap', he, h2⟩ := h
  simp only [Value.slice.injEq] at he
  obtain ⟨rfl, _, rfl⟩ := he
  obtain ⟨g, o, ha, hB, hg, hc⟩ := h2 hp
  refine ⟨g, o, ha, hB, hg, fun j hj => ?_⟩
  obtain ⟨cs, x, y⟩ := hc j hj
  have := y 0 (by omega)
  rw [Nat.mul_one, Nat.add_zero] at this
  unfold CY at x
  subst x
  exact ⟨⟨_, this.1⟩, this.2⟩
/-- The cells that a slice of bytes leads to hold k, k + 1, .. -/
def ToldY (w : World) (a : Option Addr) (n k : Nat) : Prop := 0 < n → ∃ b o, a = some ⟨b, o, none⟩ ∧ b < w.heap.size ∧ ∀ j, j < n → w.cell? ⟨b, o + j, none⟩ = some (.int .u8 (((k + j : Nat) : Int) % 256))
theorem ToldY.below {w w' : World} {a : Option Addr} {n k : Nat} (h : ToldY w a n k) (hb : Below w.heap.size w w') : ToldY w' a n k := fun hp => by
  obtain ⟨b, o, h1, h2, h3⟩ := h hp
  exact ⟨b, o, h1, Nat.lt_of_lt_of_le h2 hb.size, fun j hj => (hb.cell (p := ⟨b, o + j, none⟩) h2).trans (h3 j hj)⟩
theorem markByteS_none (a : Option Addr) (cap : Nat) (k : Int) (w : World) :
    Calls Tryd.prog 15 #[.slice a 0 cap, .int .i64 k] w fun e w' => e = .returned (.int .i64 k) ∧ w' = w := by
  go_enter Tryd.func15, Tryd.ntmps15
  go_wp2
  go_loopw [1, 5] (fun kv iv wr => kv = .int .i64 k ∧ iv = .int .i64 0 ∧ wr = w) (fun _ _ _ => 0)
  case atStart => exact ⟨rfl, rfl, rfl⟩
  case round =>
    obtain ⟨rfl, rfl, hww⟩ := hrel
    replace hww := hww.symm
    subst hww
    go_wp2
    go_ret
    exact ⟨rfl, rfl⟩
theorem heldByteS_none (a : Option Addr) (cap : Nat) (k : Int) (w : World) :
    Calls Tryd.prog 16 #[.slice a 0 cap, .int .i64 k] w fun e w' => e = .returned (.int .i64 k) ∧ w' = w := by
  go_enter Tryd.func16, Tryd.ntmps16
  go_wp2
  go_loopw [1, 5] (fun kv iv wr => kv = .int .i64 k ∧ iv = .int .i64 0 ∧ wr = w) (fun _ _ _ => 0)
  case atStart => exact ⟨rfl, rfl, rfl⟩
  case round =>
    obtain ⟨rfl, rfl, hww⟩ := hrel
    replace hww := hww.symm
    subst hww
    go_wp2
    go_ret
    exact ⟨rfl, rfl⟩
theorem markY_told (a : Option Addr) (cap B : Nat) (us : List Int) (k : Nat) (w a0 : World) (B0 : Nat) (hk2 : k + us.length ≤ 4611686018427387904) (hb : Below B0 a0 w) (hB : B0 ≤ B) (hv : RSW 1 CY B w (.slice a us.length cap) us) :
    Calls Tryd.prog 15 #[.slice a us.length cap, .int .i64 (k : Int)] w fun e w' => e = .returned (.int .i64 ((k + us.length : Nat) : Int)) ∧ Below B0 a0 w' ∧ ToldY w' a us.length k := by
  rcases Nat.eq_zero_or_pos us.length with h0 | h0
  · rw [h0]
    refine (markByteS_none a cap k w).mono ?_
    rintro e w' ⟨rfl, rfl⟩
    exact ⟨by simp, hb, fun h => absurd h (Nat.lt_irrefl _)⟩
  · obtain ⟨b, o, rfl, hgb, hbE, hr⟩ := hv.roomsY h0
    refine (markByteS_any b o us.length cap k w a0 B0 hk2 hb (by omega) hr).mono ?_
    rintro e w' ⟨rfl, hb', hm⟩
    exact ⟨rfl, hb', fun _ => ⟨b, o, rfl, by rw [hm.size]; exact hbE, hm.told⟩⟩
theorem heldY_told (a : Option Addr) (n cap k : Nat) (w : World) (hk2 : k + n ≤ 4611686018427387904) (hv : ToldY w a n k) :
    Calls Tryd.prog 16 #[.slice a n cap, .int .i64 (k : Int)] w fun e w' => e = .returned (.int .i64 ((k + n : Nat) : Int)) ∧ w' = w := by
  rcases Nat.eq_zero_or_pos n with h0 | h0
  · subst h0
    refine (heldByteS_none a cap k w).mono ?_
    rintro e w' ⟨rfl, rfl⟩
    exact ⟨by simp, rfl⟩
  · obtain ⟨b, o, rfl, hb, hc⟩ := hv h0
    exact heldByteS_any b o n cap k w hk2 hc
/-- Bytes in blocks that are as they were. -/
theorem RSW.kept {B : Nat} {w w' : World} {v : Value} {us : List Int} (h : RSW 1 CY B w v us) (hs : w.heap.size ≤ w'.heap.size) (hh : ∀ b, B ≤ b → b < w.heap.size → w'.heap[b]? = w.heap[b]?) : RSW 1 CY B w' v us := by
  obtain ⟨a, cap, rfl, h2⟩ := h
  refine ⟨a, cap, rfl, fun hp => ?_⟩
  obtain ⟨g, o, ha, hB, hg, hc⟩ := h2 hp
  refine ⟨g, o, ha, hB, by omega, fun i hi => ?_⟩
  obtain ⟨cs, x, y⟩ := hc i hi
  have hb := hh g hB hg
  exact ⟨cs, x, fun j hj => ⟨(World.cell?_of_block (a := ⟨g, o + i * 1 + j, none⟩) hb).trans (y j hj).1, (World.frozen?_of_block (a := ⟨g, o + i * 1 + j, none⟩) hb).trans (y j hj).2⟩⟩
/-- Marking a row of values that was made: its block alone is written. -/
theorem markV_row (g cap : Nat) (us : List VA) (w5 w a0 : World) (B0 B : Nat) (hn : us.length ≤ 1048576) (hrow : RowW 3 CV B w5 g us) (hold : Below w5.heap.size w5 w) (hb : Below B0 a0 w) (hB : B0 ≤ g) :
    Calls Tryd.prog 14 #[.slice (some ⟨g, 0, none⟩) us.length cap, .int .i64 1] w fun e w' => e = .returned (.int .i64 ((1 + 3 * us.length : Nat) : Int)) ∧ Below B0 a0 w' ∧ w.heap.size ≤ w'.heap.size ∧ ∀ b, b < w.heap.size → b ≠ g → w'.heap[b]? = w.heap[b]? := by
  have hr := hrow.below liesV hold
  refine (markVS_any g 0 us.length cap 1 w a0 B0 (by omega) (by omega) hb hB hr.1 (fun j hj => ?_)).mono ?_
  · obtain ⟨cs, x, y⟩ := hr.2 j hj
    unfold CV at x
    subst x
    have y0 := y 0 (by omega)
    have y1 := y 1 (by omega)
    have y2 := y 2 (by omega)
    rw [Nat.add_zero] at y0
    rw [Nat.zero_add]
    exact ⟨⟨_, y0.1⟩, ⟨_, y1.1⟩, ⟨_, y2.1⟩, y0.2, y1.2, y2.2⟩
  · rintro e w' ⟨rfl, hb', hm⟩
    exact ⟨rfl, hb', hm.size, hm.block⟩
end Go.Proofs.YtfgjleifhjegkaaDoor
