import Derived.Test.YtjfgojlnpbehfaaSM
namespace Go.Proofs.Ytjfgojlnpbehfaa
open Go.ChangeShapes Go.WideShapes Go.ChangeAt Go.RowKit
set_option linter.unusedVariables false
set_option linter.unusedSimpArgs false
set_option maxRecDepth 100000
/-- Of a valid history the Commits rise. -/
theorem hist_rise {us : List TI} (h : histP us) : ∀ (d i : Nat) (hd : i + d + 1 < us.length), (us[i]'(by omega)).com < us[i + d + 1].com
  | 0, i, hd => by
    have := (h.2 (i + 1) hd us[i + 1] (List.getElem?_eq_getElem hd)).2.2.1 (us[i]'(by omega)) (by omega) (by simp)
    simpa using this
  | d + 1, i, hd => by
    have ih := hist_rise h d i (by omega)
    have := (h.2 (i + d + 1 + 1) hd us[i + d + 1 + 1] (List.getElem?_eq_getElem hd)).2.2.1 (us[i + d + 1]'(by omega)) (by omega) (by simp)
    have e : us[i + (d + 1) + 1].com = us[i + d + 1 + 1].com := rfl
    rw [e]
    omega
theorem hist_lt {us : List TI} (h : histP us) {i j : Nat} (hij : i < j) (hj : j < us.length) : (us[i]'(by omega)).com < us[j].com := by
  have := hist_rise h (j - i - 1) i (by omega)
  have e : i + (j - i - 1) + 1 = j := by omega
  simpa [e] using this
theorem hist_begin {us : List TI} (h : histP us) {i : Nat} (hi : i < us.length) : us[i].bgn < us[i].com := (h.2 i hi us[i] (List.getElem?_eq_getElem hi)).2.1
theorem least_mem : ∀ (S : List Nat), S ≠ [] → ∃ k ∈ S, ∀ j ∈ S, k ≤ j
  | [], h => absurd rfl h
  | [a], _ => ⟨a, by simp, fun j hj => by simp at hj; omega⟩
  | a :: b :: r, _ => by
    obtain ⟨k, hk, hl⟩ := least_mem (b :: r) (by simp)
    by_cases hak : a ≤ k
    · exact ⟨a, by simp, fun j hj => by
        rcases List.mem_cons.1 hj with rfl | hj
        · exact Nat.le_refl _
        · have := hl j hj; omega⟩
    · exact ⟨k, List.mem_cons_of_mem _ hk, fun j hj => by
        rcases List.mem_cons.1 hj with rfl | hj
        · omega
        · exact hl j hj⟩
/-- A history without danger: of those that are left one is free. -/
theorem pick_some {us : List TI} (h : histP us) (hd : ¬ dangP us) (out : List Nat) (hn : remL us.length out ≠ []) : ¬ NoPick us out := fun hno => by
  obtain ⟨k, hk, hl⟩ := least_mem _ hn
  have hku := (remL_mem.1 hk).1
  have lt_of : ∀ (i : Nat) (hi : i ∈ remL us.length out), i ≠ k → us[k].com < (us[i]'((remL_mem.1 hi).1)).com := fun i hi hne => hist_lt h (by have := hl i hi; omega) (remL_mem.1 hi).1
  obtain ⟨a, ha, hak⟩ : ∃ a ∈ remL us.length out, aheadB us a k = true := by
    have := hno k hk
    rw [Ne, cntL_zero] at this
    have := Classical.not_forall.1 this
    obtain ⟨a, ha⟩ := this
    have := Classical.not_imp.1 ha
    exact ⟨a, this.1, by simpa using this.2⟩
  have hau := (remL_mem.1 ha).1
  rw [aheadB_at (List.getElem?_eq_getElem hau) (List.getElem?_eq_getElem hku)] at hak
  simp only [Bool.and_eq_true, bne_iff_ne, ne_eq, Bool.or_eq_true, decide_eq_true_eq] at hak
  obtain ⟨hne, hor⟩ := hak
  have h1 := lt_of a ha hne
  have hbk := hist_begin h hku
  have hlead : leadsP us[a] us[k] := by
    rcases hor with e | e
    · omega
    · exact e
  obtain ⟨b, hb, hba⟩ : ∃ b ∈ remL us.length out, aheadB us b a = true := by
    have := hno a ha
    rw [Ne, cntL_zero] at this
    have := Classical.not_forall.1 this
    obtain ⟨b, hb⟩ := this
    have := Classical.not_imp.1 hb
    exact ⟨b, this.1, by simpa using this.2⟩
  have hbu := (remL_mem.1 hb).1
  rw [aheadB_at (List.getElem?_eq_getElem hbu) (List.getElem?_eq_getElem hau)] at hba
  simp only [Bool.and_eq_true, bne_iff_ne, ne_eq, Bool.or_eq_true, decide_eq_true_eq] at hba
  obtain ⟨hnb, hor2⟩ := hba
  rcases hor2 with e | e
  · have hc := hlead.1
    by_cases ebk : b = k
    · subst ebk; omega
    · have := lt_of b hb ebk; omega
  · exact hd ⟨a, hau, us[a], List.getElem?_eq_getElem hau, ⟨b, us[b], hbu, hnb, List.getElem?_eq_getElem hbu, e⟩, ⟨k, us[k], hku, fun e => hne e.symm, List.getElem?_eq_getElem hku, hlead⟩⟩
theorem pig : ∀ (n : Nat) (out : List Nat), (∀ k, k < n → k ∈ out) → n ≤ out.length
  | 0, _, _ => Nat.zero_le _
  | n + 1, out, h => by
    have hn := h n (by omega)
    have ih := pig n (out.erase n) (fun k hk => (List.mem_erase_of_ne (by omega)).2 (h k (by omega)))
    rw [List.length_erase_of_mem hn] at ih
    have := List.length_pos_of_mem hn
    omega
theorem remL_ne {n : Nat} {out : List Nat} (h : out.length < n) : remL n out ≠ [] := fun e => by
  have := pig n out (fun k hk => by
    have hm : k ∉ remL n out := by rw [e]; simp
    rw [remL_mem] at hm
    exact Classical.byContradiction fun hn => hm ⟨hk, hn⟩)
  omega
/-- What SerialOrder answers of a history without danger. -/
theorem serC_good {us : List TI} {l : List Int} {c : Int} (h : histP us) (hd : ¬ dangP us) (hs : SerC us l c) : ∃ out : List Nat, SerOut us out ∧ out.length = us.length ∧ l = out.map Int.ofNat ∧ c = 0 := by
  rcases hs with ⟨hn, _⟩ | ⟨_, out, h1, h2, h3, h4⟩ | ⟨_, out, h1, h2, h3, _⟩
  · exact absurd h hn
  · exact ⟨out, h1, h2, h3, h4⟩
  · exact absurd h3 (pick_some h hd out (remL_ne h2))
theorem serOut_lt {us : List TI} {out : List Nat} (h : SerOut us out) {m x : Nat} (hm : out[m]? = some x) : x < us.length := (remL_mem.1 (h m x hm).1).1
/-- No two are the same, and none must be ahead of one that stands ahead of it. -/
theorem serOut_ok {us : List TI} {out : List Nat} (h : SerOut us out) {m m' x y : Nat} (hmm : m < m') (hx : out[m]? = some x) (hy : out[m']? = some y) : x ≠ y ∧ aheadB us y x = false := by
  have px := h m x hx
  have py := h m' y hy
  have hyn := (remL_mem.1 py.1).2
  have hyr : y ∈ remL us.length (out.take m) := remL_mem.2 ⟨(remL_mem.1 py.1).1, fun hmem => hyn (by
    have : out.take m = (out.take m').take m := by rw [List.take_take]; congr 1; omega
    rw [this] at hmem
    exact List.mem_of_mem_take hmem)⟩
  refine ⟨fun e => ?_, ?_⟩
  · subst e
    apply hyn
    rw [List.mem_iff_getElem?]
    exact ⟨m, by rw [List.getElem?_take_of_lt hmm]; exact hx⟩
  · exact (cntL_zero.1 px.2.1) y hyr
end Go.Proofs.Ytjfgojlnpbehfaa
