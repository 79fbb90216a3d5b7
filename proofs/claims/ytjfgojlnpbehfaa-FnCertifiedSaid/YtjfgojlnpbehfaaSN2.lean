import Derived.Test.YtjfgojlnpbehfaaSN
import Derived.Test.YtjfgojlnpbehfaaDW
namespace Go.Proofs.Ytjfgojlnpbehfaa
open Go.ChangeShapes Go.WideShapes Go.ChangeAt Go.RowKit
set_option linter.unusedVariables false
set_option linter.unusedSimpArgs false
set_option maxRecDepth 100000
theorem Waits.turn {us : List TI} {ws : List Int} {S T : List Nat} (U : List Nat) (h : Waits us ws S T 0) : Waits us ws S U 0 := ⟨h.1, fun l hl => by
  have := h.2 l hl
  rw [if_neg (Nat.not_lt_zero _)] at this
  rw [this, if_neg (Nat.not_lt_zero _)]⟩
theorem Waits.at0 {us : List TI} {ws : List Int} {S T : List Nat} {j : Nat} (h : Waits us ws S T 0) (hj : j < ws.length) : ws[j] = (cntL us S j : Nat) := by
  have := h.2 j hj
  rw [if_neg (Nat.not_lt_zero _)] at this
  exact this
/-- Which ones have been taken. -/
def Gone (us : List TI) (gs : List Bool) (out : List Nat) : Prop := gs.length = us.length ∧ ∀ j (h : j < gs.length), (gs[j] = true ↔ j ∈ out)
theorem gone_start (us : List TI) : Gone us (List.replicate us.length false) [] := ⟨by simp, fun j h => by simp⟩
theorem Gone.push {us : List TI} {gs : List Bool} {out : List Nat} (h : Gone us gs out) (k : Nat) : Gone us (gs.set k true) (out ++ [k]) := ⟨by rw [List.length_set]; exact h.1, fun j hj => by
  rw [List.length_set] at hj
  by_cases e : j = k
  · subst e; rw [List.getElem_set_self]; simp
  · rw [List.getElem_set_ne (by omega), h.2 j hj]
    simp [e]⟩
/-- The order as far as it has been told. -/
def OutRow (ty b : Nat) (w : World) (v : Value) (out : List Nat) : Prop := w.ownsRow b ty 1 v out.length (out.map (fun k : Nat => Value.int .i64 (k : Int)))
theorem OutRow.ne {ty ty' b b' g : Nat} {w : World} {v : Value} {out : List Nat} {gs : List Bool} (h : OutRow ty b w v out) (hg : BRow ty' b' w g gs) (ht : ty ≠ ty') : v.ownBlock ≠ some g := by
  obtain ⟨_, h2⟩ := h
  obtain ⟨_, g2⟩ := hg
  rcases h2 with ⟨rfl, _⟩ | ⟨q, cap, cur, rfl, _, hq, _⟩
  · simp [Value.ownBlock]
  · rcases g2 with ⟨e, _⟩ | ⟨q', cap', cur', e, _, hq', _⟩
    · cases e
    · simp only [Value.slice.injEq, Option.some.injEq, Addr.mk.injEq] at e
      obtain ⟨⟨rfl, _⟩, _⟩ := e
      simp only [Value.ownBlock, ne_eq, Option.some.injEq]
      intro e'
      subst e'
      rw [hq] at hq'
      cases hq'
      exact ht rfl
theorem OutRow.rs {ty b : Nat} {w : World} {v : Value} {out : List Nat} (h : OutRow ty b w v out) : RS 1 CI b w v (out.map Int.ofNat) := by
  have hf : Fill 1 CI b (out.map Int.ofNat) (out.map Int.ofNat).length (out.map (fun k : Nat => Value.int .i64 (k : Int))) w := ⟨by simp, fun i hi _ => ⟨[.int .i64 (out.map Int.ofNat)[i]], rfl, fun j hj => by
    have : j = 0 := by omega
    subst this
    simp at hi
    simp [hi]⟩⟩
  have h' : w.ownsRow b ty 1 v (out.map Int.ofNat).length (out.map (fun k : Nat => Value.int .i64 (k : Int))) := by rw [List.length_map]; exact h
  exact hf.own liesI h' (Nat.le_refl _)
theorem OutRow.rsw {ty b : Nat} {w : World} {v : Value} {out : List Nat} (h : OutRow ty b w v out) : RSW 1 CI b w v (out.map Int.ofNat) := by
  have hr := h.rs
  obtain ⟨hl, h2⟩ := h
  rcases h2 with ⟨rfl, h0⟩ | ⟨g, cap, cur, rfl, hg1, hg2, hg3⟩
  · exact ⟨none, 0, by rw [List.length_map, h0], fun hp => by rw [List.length_map] at hp; omega⟩
  · have ho : w.ownsRow b ty 1 (.slice (some ⟨g, 0, none⟩) out.length cap) out.length (out.map (fun k : Nat => Value.int .i64 (k : Int))) := ⟨hl, .inr ⟨g, cap, cur, rfl, hg1, hg2, hg3⟩⟩
    obtain ⟨a', c', he, hh⟩ := hr
    refine ⟨a', c', he, fun hp => ?_⟩
    obtain ⟨g', o', ha, hB, hg, hc⟩ := hh hp
    rw [ha] at he
    simp only [Value.slice.injEq, Option.some.injEq, Addr.mk.injEq] at he
    obtain ⟨⟨rfl, rfl, _⟩, _⟩ := he
    exact ⟨g, 0, ha, hB, hg, fun i hi => let ⟨cs, x, y⟩ := hc i hi; ⟨cs, x, fun j hj => ⟨y j hj, ho.frozenAt _⟩⟩⟩
theorem OutRow.form {ty b : Nat} {w : World} {v : Value} {out : List Nat} (h : OutRow ty b w v out) : ∃ oa oc, v = .slice oa out.length oc := by
  obtain ⟨_, h2⟩ := h
  rcases h2 with ⟨rfl, h0⟩ | ⟨q, cap, cur, rfl, _⟩
  · exact ⟨none, 0, by rw [h0]⟩
  · exact ⟨_, _, rfl⟩
theorem OutRow.below {ty b : Nat} {w w' : World} {v : Value} {out : List Nat} (h : OutRow ty b w v out) (hb : Below w.heap.size w w') : OutRow ty b w' v out := own_below h hb
def lenV : Value → Nat
  | .slice _ n _ => n
  | _ => 0
end Go.Proofs.Ytjfgojlnpbehfaa
