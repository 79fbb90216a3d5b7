import Derived.Test.YtjfgojlnpbehfaaMT
namespace Go.Proofs.Ytjfgojlnpbehfaa
open Go.ChangeShapes Go.WideShapes Go.ChangeAt Go.RowKit
set_option linter.unusedVariables false
set_option linter.unusedSimpArgs false
set_option maxRecDepth 100000
/-- The cells that a slice leads to hold k, k + 1, .. -/
def Told (w : World) (a : Option Addr) (n : Nat) (k : Int) : Prop := 0 < n → ∃ b o, a = some ⟨b, o, none⟩ ∧ b < w.heap.size ∧ ∀ j, j < n → w.cell? ⟨b, o + j, none⟩ = some (.int .i64 (k + j))
theorem Told.below {w w' : World} {a : Option Addr} {n : Nat} {k : Int} (h : Told w a n k) (hb : Below w.heap.size w w') : Told w' a n k := fun hp => by
  obtain ⟨b, o, h1, h2, h3⟩ := h hp
  exact ⟨b, o, h1, Nat.lt_of_lt_of_le h2 hb.size, fun j hj => (hb.cell (p := ⟨b, o + j, none⟩) h2).trans (h3 j hj)⟩
theorem markI_told (a : Option Addr) (cap B : Nat) (us : List Int) (k : Int) (w a0 : World) (B0 : Nat) (hk : 0 ≤ k) (hk2 : k + us.length ≤ 4611686018427387904) (hb : Below B0 a0 w) (hB : B0 ≤ B) (hv : RSW 1 CI B w (.slice a us.length cap) us) :
    Calls Try.prog 18 #[.slice a us.length cap, .int .i64 k] w fun e w' => e = .returned (.int .i64 (k + us.length)) ∧ Below B0 a0 w' ∧ Told w' a us.length k ∧ ∀ b, b < B → w'.heap[b]? = w.heap[b]? := by
  rcases Nat.eq_zero_or_pos us.length with h0 | h0
  · rw [h0]
    refine (markIntS_none a cap k w).mono ?_
    rintro e w' ⟨rfl, rfl⟩
    exact ⟨by simp, hb, fun h => absurd h (Nat.lt_irrefl _), fun _ _ => rfl⟩
  · obtain ⟨b, o, rfl, hgb, hbE, hr⟩ := hv.rooms h0
    refine (markIntS_any b o us.length cap k w a0 B0 hk hk2 hb (by omega) hr).mono ?_
    rintro e w' ⟨rfl, hb', hm⟩
    exact ⟨rfl, hb', fun _ => ⟨b, o, rfl, by rw [hm.size]; exact hbE, hm.told⟩, fun c hc => hm.block c (by omega)⟩
theorem heldI_told (a : Option Addr) (n cap : Nat) (k : Int) (w : World) (hk : 0 ≤ k) (hk2 : k + n ≤ 4611686018427387904) (hv : Told w a n k) :
    Calls Try.prog 19 #[.slice a n cap, .int .i64 k] w fun e w' => e = .returned (.int .i64 (k + n)) ∧ w' = w := by
  rcases Nat.eq_zero_or_pos n with h0 | h0
  · subst h0
    refine (heldIntS_none a cap k w).mono ?_
    rintro e w' ⟨rfl, rfl⟩
    exact ⟨by simp, rfl⟩
  · obtain ⟨b, o, rfl, hb, hc⟩ := hv h0
    exact heldIntS_any b o n cap k w hk hk2 hc
/-- A list in blocks that are as they were. -/
theorem RSW.high {B E : Nat} {w w' : World} {v : Value} {us : List Int} (h : RSW 1 CI B w v us) (hE : E ≤ B) (hs : w'.heap.size = w.heap.size) (hh : ∀ b, E ≤ b → w'.heap[b]? = w.heap[b]?) : RSW 1 CI B w' v us := by
  obtain ⟨a, cap, rfl, h2⟩ := h
  refine ⟨a, cap, rfl, fun hp => ?_⟩
  obtain ⟨g, o, ha, hB, hg, hc⟩ := h2 hp
  refine ⟨g, o, ha, hB, by rw [hs]; exact hg, fun i hi => ?_⟩
  obtain ⟨cs, x, y⟩ := hc i hi
  have hb := hh g (by omega)
  exact ⟨cs, x, fun j hj => ⟨(World.cell?_of_block (a := ⟨g, o + i * 1 + j, none⟩) hb).trans (y j hj).1, (World.frozen?_of_block (a := ⟨g, o + i * 1 + j, none⟩) hb).trans (y j hj).2⟩⟩
end Go.Proofs.Ytjfgojlnpbehfaa
