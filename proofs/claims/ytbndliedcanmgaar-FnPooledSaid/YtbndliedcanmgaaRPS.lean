import Derived.Test.YtbndliedcanmgaaRPQ
import Derived.Test.YtbndliedcanmgaaRPG
namespace Go.Proofs.YtbndliedcanmgaaR
open Go.ChangeShapes Go.WideShapes Go.ChangeAt Go.RowKit
set_option linter.unusedVariables false
set_option linter.unusedSimpArgs false
set_option maxRecDepth 100000
theorem IOut.rs {b : Nat} {w : World} {v : Value} {xs : List Int} (h : IOut b w v xs) : RS 1 CI 0 w v xs := by
  have hlt := World.ownsRow.lt h
  obtain ⟨a, c, rfl⟩ := h.form
  refine ⟨a, c, rfl, fun hp => ?_⟩
  have h2 := h.2
  rcases h2 with ⟨_, h0⟩ | ⟨g, cap, cur, he, hg1, hg2⟩
  · omega
  · simp only [Value.slice.injEq] at he
    obtain ⟨rfl, _, rfl⟩ := he
    refine ⟨g, 0, rfl, Nat.zero_le _, (hlt g rfl).2, fun i hi => ⟨[.int .i64 xs[i]], rfl, fun j hj => ?_⟩⟩
    have : j = 0 := by omega
    subst this
    have := own_cell h (j := i) (u := .int .i64 xs[i]) (by simp [List.getElem?_eq_getElem hi])
    simpa using this
theorem flatP : ∀ (ps : List (Value × POut)) (i : Nat) (h : i < ps.length) (j : Nat), j < 3 → (ps.flatMap poC)[i * 3 + j]? = (poC ps[i])[j]?
  | t :: r, 0, _, j, hj => by
    rw [List.flatMap_cons, Nat.zero_mul, Nat.zero_add, List.getElem?_append_left (by simpa [poC] using hj)]
    rfl
  | t :: r, i + 1, h, j, hj => by
    rw [List.flatMap_cons, List.getElem?_append_right (by simp [poC]; omega)]
    have : (i + 1) * 3 + j - (poC t).length = i * 3 + j := by simp [poC]; omega
    rw [this]
    exact flatP r i (by simpa using h) j hj
theorem OutR.rs {b : Nat} {w : World} {v : Value} {ps : List (Value × POut)} (h : OutR b w v ps) : RS 3 CPr 0 w v (ps.map Prod.snd) := by
  have hlt := h.1.lt
  obtain ⟨a, c, rfl⟩ := h.form
  refine ⟨a, c, by simp, fun hp => ?_⟩
  simp only [List.length_map] at hp
  have h2 := h.1.2
  rcases h2 with ⟨_, h0⟩ | ⟨g, cap, cur, he, hg1, hg2⟩
  · omega
  · simp only [Value.slice.injEq] at he
    obtain ⟨rfl, _, rfl⟩ := he
    refine ⟨g, 0, rfl, Nat.zero_le _, (hlt g rfl).2, fun i hi => ?_⟩
    have hi' : i < ps.length := by simpa using hi
    refine ⟨poC ps[i], ?_, fun j hj => ?_⟩
    · rw [List.getElem_map]
      exact ⟨ps[i].1, rfl, (h.2.1 ps[i] (List.getElem_mem hi')).rs⟩
    · have hf := flatP ps i hi' j hj
      have hl : j < (poC ps[i]).length := by simpa [poC] using hj
      rw [List.getElem?_eq_getElem hl] at hf ⊢
      have := own_cell h.1 hf
      simpa using this
theorem PoolP.rs {us : List POp} {w w' : World} {e : Ending} (h : PoolP us w e w') : ∃ v ps, e = .returned (.tuple #[v, .int .i64 (poolF us).2]) ∧ OutR w.heap.size w' v ps ∧ RS 3 CPr 0 w' v (poolF us).1 ∧ Below w.heap.size w w' := by
  obtain ⟨v, ps, h1, h2, h3, h4⟩ := h
  exact ⟨v, ps, h1, h2, h3 ▸ h2.rs, h4⟩
theorem poolRun_spec (a : Option Addr) (c : Nat) (us : List POp) (w : World) (hr : RS 2 CPo 0 w (.slice a us.length c) us) :
    Calls Try.prog 6 #[.slice a us.length c] w fun e w' => PoolP us w e w' := by
  by_cases h : 4000 < us.length
  · exact poolRun_big a c us w h
  · exact poolRun_rest a c us w (by omega) hr
end Go.Proofs.YtbndliedcanmgaaR
