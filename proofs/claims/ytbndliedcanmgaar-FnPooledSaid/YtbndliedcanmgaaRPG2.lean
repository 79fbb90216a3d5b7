import Derived.Test.YtbndliedcanmgaaRPZ
namespace Go.Proofs.YtbndliedcanmgaaR
open Go.ChangeShapes Go.WideShapes Go.ChangeAt Go.RowKit
set_option linter.unusedVariables false
set_option linter.unusedSimpArgs false
set_option maxRecDepth 100000
theorem poolF_zero {us : List POp} {L : List POut} (h : poolF us = (L, 0)) : us.length ≤ 4000 ∧ us.all opOK = true ∧ L = runF us (List.replicate 8 f0) 0 := by
  unfold poolF at h
  split at h
  · simp at h
  · split at h
    · rename_i h1 h2
      simp only [Prod.mk.injEq] at h
      exact ⟨by omega, h2, h.1.symm⟩
    · simp at h
theorem stN_at (us : List POp) (s : List Fr × Nat) (i : Nat) (hi : i < us.length) : ∀ n, i < n → n ≤ us.length → (stN n us s).1[i]? = some (stepF us[i] (stN i us s).2.1 (stN i us s).2.2).1 ∧ (stN n us s).1.length = n
  | 0, h, _ => absurd h (Nat.not_lt_zero _)
  | n + 1, h, hn => by
    have hlen : ∀ m, m ≤ us.length → (stN m us s).1.length = m := fun m => by
      induction m with
      | zero => intro _; rfl
      | succ m ih =>
        intro hm
        have e := stN_on (n := m) (os := us) (s := s) (out := (stN m us s).1) (fs := (stN m us s).2.1) (h := (stN m us s).2.2) rfl (by omega)
        rw [e]
        simp [ih (by omega)]
    have e := stN_on (n := n) (os := us) (s := s) (out := (stN n us s).1) (fs := (stN n us s).2.1) (h := (stN n us s).2.2) rfl (by omega)
    refine ⟨?_, hlen _ hn⟩
    rw [e]
    by_cases hin : i < n
    · have ih := stN_at us s i hi n hin (by omega)
      rw [List.getElem?_append_left (by rw [ih.2]; exact hin)]
      exact ih.1
    · have : i = n := by omega
      subst this
      rw [List.getElem?_append_right (by rw [hlen i (by omega)]; omega), hlen i (by omega), Nat.sub_self]
      rfl
theorem run_at (us : List POp) (i : Nat) (hi : i < us.length) : (runF us (List.replicate 8 f0) 0)[i]? = some (stepF us[i] (stN i us (List.replicate 8 f0, 0)).2.1 (stN i us (List.replicate 8 f0, 0)).2.2).1 := by
  rw [← stN_run us (List.replicate 8 f0) 0]
  exact (stN_at us _ i hi us.length hi (Nat.le_refl _)).1
/-- The answers in memory, to be read. -/
structure GotM (w : World) (g : Nat) (ps : List (Value × POut)) : Prop where
  lt : g < w.heap.size
  row : ∀ i (h : i < ps.length), w.cell? ⟨g, i * 3, none⟩ = some (.int .i64 ps[i].2.rd) ∧ w.cell? ⟨g, i * 3 + 1, none⟩ = some (.int .i64 ps[i].2.wr) ∧ w.cell? ⟨g, i * 3 + 2, none⟩ = some ps[i].1
  nest : ∀ i (h : i < ps.length), ∃ oa oc, ps[i].1 = .slice oa ps[i].2.all.length oc ∧ (0 < ps[i].2.all.length → ∃ b, oa = some ⟨b, 0, none⟩ ∧ b < w.heap.size ∧ ∀ t (ht : t < ps[i].2.all.length), w.cell? ⟨b, t, none⟩ = some (.int .i64 ps[i].2.all[t]))
theorem OutR.got {B : Nat} {w : World} {v : Value} {ps : List (Value × POut)} (h : OutR B w v ps) (hp : 0 < ps.length) : ∃ g cap, v = .slice (some ⟨g, 0, none⟩) ps.length cap ∧ GotM w g ps := by
  obtain ⟨a, c, rfl⟩ := h.form
  have h2 := h.1.2
  rcases h2 with ⟨_, hz⟩ | ⟨g, cp, cur, he, hg1, hg2⟩
  · omega
  · simp only [Value.slice.injEq] at he
    obtain ⟨rfl, _, rfl⟩ := he
    have hlt := h.1.lt g rfl
    have cell : ∀ j (hj : j < ps.length) t, t < 3 → w.cell? ⟨g, j * 3 + t, none⟩ = (poC ps[j])[t]? := fun j hj t ht => by
      have hf := flatP ps j hj t ht
      have hl : t < (poC ps[j]).length := by simpa [poC] using ht
      rw [List.getElem?_eq_getElem hl] at hf ⊢
      exact own_cell h.1 hf
    refine ⟨g, c, rfl, hlt.2, fun i hi => ⟨cell i hi 0 (by omega), cell i hi 1 (by omega), cell i hi 2 (by omega)⟩, fun i hi => ?_⟩
    have hI := h.2.1 ps[i] (List.getElem_mem hi)
    obtain ⟨oa, oc, he⟩ := hI.form
    refine ⟨oa, oc, he, fun hp => ?_⟩
    have hI2 := hI.2
    rcases hI2 with ⟨_, h0⟩ | ⟨b, cp, cur, hv, hb1, hb2, hb3⟩
    · omega
    · rw [he] at hv
      simp only [Value.slice.injEq] at hv
      obtain ⟨rfl, _, rfl⟩ := hv
      have hbl := World.ownsRow.lt hI b (by rw [he]; rfl)
      rw [he] at hI
      exact ⟨b, rfl, hbl.2, fun t ht => own_cell hI (j := t) (by simp [List.getElem?_eq_getElem ht])⟩
theorem GotM.below {w w' : World} {g : Nat} {ps : List (Value × POut)} (h : GotM w g ps) (hb : Below w.heap.size w w') : GotM w' g ps := by
  refine ⟨Nat.lt_of_lt_of_le h.lt hb.size, fun i hi => ⟨(hb.cell (p := ⟨g, i * 3, none⟩) h.lt).trans (h.row i hi).1, (hb.cell (p := ⟨g, i * 3 + 1, none⟩) h.lt).trans (h.row i hi).2.1, (hb.cell (p := ⟨g, i * 3 + 2, none⟩) h.lt).trans (h.row i hi).2.2⟩, fun i hi => ?_⟩
  obtain ⟨oa, oc, he, hn⟩ := h.nest i hi
  refine ⟨oa, oc, he, fun hp => ?_⟩
  obtain ⟨b, e1, e2, e3⟩ := hn hp
  exact ⟨b, e1, Nat.lt_of_lt_of_le e2 hb.size, fun t ht => (hb.cell (p := ⟨b, t, none⟩) e2).trans (e3 t ht)⟩
end Go.Proofs.YtbndliedcanmgaaR
