import Derived.Test.YtbndliedcanmgaaRPX
namespace Go.Proofs.YtbndliedcanmgaaR
open Go.ChangeShapes Go.WideShapes Go.ChangeAt Go.RowKit
set_option linter.unusedVariables false
set_option linter.unusedSimpArgs false
set_option maxRecDepth 100000
/-- What stands on the disk behind pages that were written. -/
def diK (la di : Nat → Int) (l : List Int) : Nat → Int := fun p => if (p : Int) ∈ l then la p else di p
theorem diK_nil (la di : Nat → Int) : diK la di [] = di := by funext p; simp [diK]
theorem diK_on (la di : Nat → Int) (l : List Int) (k pn : Nat) (hk : k < l.length) (hp : l[k] = (pn : Int)) : updN (diK la di (l.take k)) pn (la pn) = diK la di (l.take (k + 1)) := by
  have ht : l.take (k + 1) = l.take k ++ [l[k]] := by rw [List.take_add_one, List.getElem?_eq_getElem hk]; rfl
  funext p
  have hm : ((p : Int) ∈ l.take (k + 1)) ↔ ((p : Int) ∈ l.take k ∨ (p : Int) = (pn : Int)) := by rw [ht, List.mem_append, List.mem_singleton, hp]
  unfold updN diK
  by_cases e : p = pn
  · subst e
    rw [if_pos rfl, if_pos (hm.2 (.inr rfl))]
  · rw [if_neg e]
    by_cases h1 : (p : Int) ∈ l.take k
    · rw [if_pos h1, if_pos (hm.2 (.inl h1))]
    · rw [if_neg h1, if_neg (fun h => by rcases hm.1 h with h | h; exact h1 h; omega)]
theorem dirt_pos {fs : List Fr} (hg : Good fs) {x : Int} (h : x ∈ dirt fs) : 0 ≤ x ∧ x < 300 := by
  unfold dirt at h
  obtain ⟨f, hf, rfl⟩ := List.mem_map.1 h
  obtain ⟨hm, hd⟩ := List.mem_filter.1 hf
  refine ⟨?_, (hg f hm).1⟩
  by_cases hn : f.pg < 0
  · have := ((hg f hm).2 hn).2
    rw [hd] at this
    cases this
  · omega
theorem dirt_nodup {fs : List Fr} (hg : Good fs) (hd : fs.Pairwise (fun a b => 0 ≤ a.pg → a.pg ≠ b.pg)) : (dirt fs).Pairwise (fun a b => a ≠ b) := by
  unfold dirt
  rw [List.pairwise_map, List.pairwise_filter]
  refine hd.imp_of_mem ?_
  intro a b ha hb hab h1 h2
  refine hab ?_
  by_cases hn : a.pg < 0
  · have := ((hg a ha).2 hn).2
    rw [h1] at this
    cases this
  · omega
structure CleanL (fs : List Fr) (la di : Nat → Int) (me : Nat → Bool) (al : List Int) (fs2 : List Fr) : Prop where
  rng : ∀ x ∈ al, 0 ≤ x ∧ x < 300
  inc : ∀ k (h : k + 1 < al.length), al[k] < al[k + 1]
  inv : Inv fs2 la (diK la di al) me
  done : ∀ p, p < 300 → la p = diK la di al p
theorem clean_law (fs : List Fr) (la di : Nat → Int) (me : Nat → Bool) (I : Inv fs la di me) : CleanL fs la di me (clP 300 ([], fs)).1 (clP 300 ([], fs)).2 := by
  rw [clP_good fs I.len I.good]
  simp only
  have hperm : ((dirt fs).mergeSort fun x y => decide (x ≤ y)).Perm (dirt fs) := List.mergeSort_perm _ _
  have hsort : ((dirt fs).mergeSort fun x y => decide (x ≤ y)).Pairwise (fun x y => decide (x ≤ y) = true) := List.pairwise_mergeSort (fun a b c h1 h2 => by simp at h1 h2 ⊢; omega) (fun a b => by simp; omega) _
  have hnd : ((dirt fs).mergeSort fun x y => decide (x ≤ y)).Pairwise (fun a b => a ≠ b) := (hperm.pairwise_iff (fun h => Ne.symm h)).2 (dirt_nodup I.good I.dist)
  have hdone : ∀ p, p < 300 → la p = diK la di ((dirt fs).mergeSort fun x y => decide (x ≤ y)) p := fun p hp => by
    unfold diK
    split
    · rfl
    · rename_i hn
      cases Int.decEq (la p) (di p) with
      | isTrue e => exact e
      | isFalse e =>
        obtain ⟨f, hm, h1, h2⟩ := I.dirty p hp e
        exact absurd (hperm.mem_iff.2 (by unfold dirt; exact List.mem_map.2 ⟨f, List.mem_filter.2 ⟨hm, h2⟩, h1⟩)) hn
  refine ⟨fun x hx => dirt_pos I.good (hperm.mem_iff.1 hx), fun k hk => ?_, ?_, hdone⟩
  · have h1 := List.pairwise_iff_getElem.1 hsort k (k + 1) (by omega) hk (by omega)
    have h2 := List.pairwise_iff_getElem.1 hnd k (k + 1) (by omega) hk (by omega)
    simp at h1
    omega
  · refine ⟨by simpa using I.len, good_clean I.good, ?_, fun p hp hne => absurd (hdone p hp) hne, fun f hf h0 => ?_⟩
    · show (fs.map (fun f => f.d false)).Pairwise _
      rw [List.pairwise_map]
      exact I.dist
    · obtain ⟨g, hg, rfl⟩ := List.mem_map.1 hf
      exact I.met g hg h0
end Go.Proofs.YtbndliedcanmgaaR
