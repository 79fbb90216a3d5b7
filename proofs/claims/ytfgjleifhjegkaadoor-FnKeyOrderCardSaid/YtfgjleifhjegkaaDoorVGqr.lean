import Derived.Test.YtfgjleifhjegkaaDoorNA
import Derived.Test.YtfgjleifhjegkaaDoorKGa
namespace Go.Proofs.YtfgjleifhjegkaaDoor
open Go.ChangeShapes Go.WideShapes Go.ChangeAt Go.RowKit
set_option linter.unusedVariables false
set_option linter.unusedSimpArgs false
set_option maxRecDepth 100000
theorem VOut.gq {b q : Nat} {w w' : World} {v : Value} {us : List VA} (h : VOut b w v us) (hg : GQ q w w') (hp : ∀ k, v.ownBlock = some k → k ≠ q) : VOut b w' v us := by
  refine World.ownsRow.kept h hg ?_
  by_cases ho : v.ownBlock = none
  · exact .inl ho
  · exact .inr fun e => hp q e rfl
theorem VOut.ne {b q : Nat} {w : World} {v u : Value} {us : List VA} {r : List Value} (h : VOut b w v us) (hB : Blk w q (u :: r)) (hu : ∀ k, u ≠ .int .i64 k) (hpos : 0 < us.length) : ∀ k, v.ownBlock = some k → k ≠ q := by
  intro k hk e
  subst e
  have hr := h.rsw
  obtain ⟨hl, h2⟩ := h
  rcases h2 with ⟨rfl, h0⟩ | ⟨g, cap, cur, rfl, hg1, hg2, hg3⟩
  · omega
  · have ho : w.ownsRow b 39 3 (.slice (some ⟨g, 0, none⟩) us.length cap) us.length (us.flatMap vcs) := ⟨hl, .inr ⟨g, cap, cur, rfl, hg1, hg2, hg3⟩⟩
    simp [Value.ownBlock] at hk
    subst hk
    have h0 := (hB 0 (by simp)).1
    have h1 := own_cell (j := 0) (u := .int .i64 us[0].k) ho (by
      have := flat3 us 0 hpos 0 (by omega)
      simpa [vcs] using this)
    rw [h0] at h1
    simp at h1
    exact hu _ h1
end Go.Proofs.YtfgjleifhjegkaaDoor
