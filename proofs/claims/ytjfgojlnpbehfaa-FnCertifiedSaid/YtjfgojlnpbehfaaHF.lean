import Derived.Test.YtjfgojlnpbehfaaHE
namespace Go.Proofs.Ytjfgojlnpbehfaa
open Go.ChangeShapes Go.WideShapes Go.ChangeAt Go.RowKit
set_option linter.unusedVariables false
set_option linter.unusedSimpArgs false
set_option maxRecDepth 100000
theorem IOw.fill {b : Nat} {w : World} {v : Value} {xs : List Int} (h : IOw b w v xs) : Fill 1 CI b xs xs.length (xs.map (Value.int .i64)) w :=
  ⟨by simp, fun i hi _ => ⟨[.int .i64 xs[i]], rfl, fun j hj => by
    have : j = 0 := by omega
    subst this
    simp [hi]⟩⟩
theorem IOw.rs {b : Nat} {w : World} {v : Value} {xs : List Int} (h : IOw b w v xs) : RS 1 CI b w v xs := h.fill.own liesI h (Nat.le_refl _)
/-- The transactions of a drawn history. -/
def tsI (ts : List (Value × Value × TI)) : List TI := ts.map (fun x => x.2.2)
theorem tC_lies {b : Nat} {w : World} {x : Value × Value × TI} (h : IOw b w x.1 x.2.2.reads ∧ IOw b w x.2.1 x.2.2.writes) : CT b w (tC x) x.2.2 := ⟨x.1, x.2.1, rfl, h.1.rs, h.2.rs⟩
theorem HstN.fill {b : Nat} {w : World} {v : Value} {ts : List (Value × Value × TI)} (h : HstN b w v ts) : Fill 4 CT b (tsI ts) (tsI ts).length (ts.flatMap tC) w := by
  refine ⟨?_, fun i hi _ => ?_⟩
  · rw [List.length_flatMap]
    unfold tsI
    rw [List.length_map]
    clear h
    induction ts with
    | nil => rfl
    | cons a r ih => simp [tC] at ih ⊢; omega
  · have hi' : i < ts.length := by simpa [tsI] using hi
    refine ⟨tC ts[i], ?_, fun j hj => flatT ts i hi' j hj⟩
    have := tC_lies (h.nest ts[i] (List.getElem_mem hi'))
    simpa [tsI] using this
theorem HstN.rs {b : Nat} {w : World} {v : Value} {ts : List (Value × Value × TI)} (h : HstN b w v ts) : RS 4 CT b w v (tsI ts) := h.fill.own liesT (by simpa [tsI] using h.row) (Nat.le_refl _)
theorem tsI_small {ts : List (Value × Value × TI)} {n : Nat} (h : ts.length ≤ 8) (hx : ∀ x ∈ ts, x.2.2.reads.length ≤ 6 ∧ x.2.2.writes.length ≤ 6) (hn : 8 ≤ n) : BH n (tsI ts) :=
  ⟨by simpa [tsI] using Nat.le_trans h hn, fun t ht => by
    obtain ⟨x, hm, rfl⟩ := List.mem_map.1 ht
    have := hx x hm
    exact ⟨by omega, by omega⟩⟩
end Go.Proofs.Ytjfgojlnpbehfaa
