import Derived.Test.YtoieiegjhjedoaaSP1
namespace Go.Proofs.Ytoieiegjhjedoaa
open Go.ChangeShapes Go.WideShapes Go.ChangeAt Go.RowKit
set_option linter.unusedVariables false
set_option linter.unusedSimpArgs false
set_option maxRecDepth 100000
/-- Where what is in no node yet ends. -/
def nxt (st : List Int) : Int := match st.getLast? with
  | none => 0
  | some r => r + 1
theorem nxt_nil : nxt [] = 0 := rfl
theorem nxt_app (l : List Int) (x : Int) : nxt (l ++ [x]) = x + 1 := by unfold nxt; simp
/-- What the list of starts says of the nodes that are in no node yet. -/
structure Chn (S st : List Int) (i : Nat) : Prop where
  lt : ∀ x ∈ st, 0 ≤ x ∧ x < i
  ch : ∀ p (h : p < st.length), S[(st[p]).toNat]? = some (nxt (st.take p))
  nx : nxt st = i
  ln : st.length ≤ i
theorem Chn.same {S S' st : List Int} {i : Nat} (h : Chn S st i) (hs : ∀ x : Nat, x < i → S'[x]? = S[x]?) : Chn S' st i :=
  ⟨h.lt, fun p hp => by
    obtain ⟨a, b⟩ := h.lt _ (List.getElem_mem hp)
    rw [hs _ (by omega)]; exact h.ch p hp, h.nx, h.ln⟩
theorem Chn.zero (S : List Int) : Chn S [] 0 := ⟨by simp, fun p hp => by simp at hp, rfl, Nat.le_refl _⟩
theorem Chn.step {S st : List Int} {i r : Nat} (h : Chn S st i) (hr : r ≤ st.length) (hi : S[i]? = some (nxt (st.take r))) : Chn S (st.take r ++ [(i : Int)]) (i + 1) := by
  refine ⟨fun x hx => ?_, fun p hp => ?_, by rw [nxt_app]; omega, ?_⟩
  · rw [List.mem_append] at hx
    rcases hx with hx | hx
    · have := h.lt x (List.mem_of_mem_take hx); omega
    · have : x = (i : Int) := by simpa using hx
      omega
  · simp only [List.length_append, List.length_take, List.length_cons, List.length_nil] at hp
    by_cases hq : p < r
    · have e1 : (st.take r ++ [(i : Int)])[p]'(by simp; omega) = st[p]'(by omega) := by
        rw [List.getElem_append_left (by rw [List.length_take]; omega), List.getElem_take]
      rw [e1, h.ch p (by omega), List.take_append_of_le_length (by rw [List.length_take]; omega), List.take_take]
      congr 2
      rw [Nat.min_eq_left (by omega)]
    · have hp2 : p = r := by omega
      subst hp2
      have e1 : (st.take p ++ [(i : Int)])[p]'(by simp; omega) = (i : Int) := by
        rw [List.getElem_append_right (by rw [List.length_take]; omega)]
        simp
      rw [e1, List.take_append_of_le_length (by rw [List.length_take]; omega), List.take_take]
      simpa using hi
  · have := h.ln
    simp only [List.length_append, List.length_take, List.length_cons, List.length_nil]
    omega
theorem nxt_take {st : List Int} {p : Nat} (h : p < st.length) : nxt (st.take (p + 1)) = st[p] + 1 := by
  rw [List.take_succ_eq_append_getElem h, nxt_app]
theorem nxt_zero {st : List Int} {q i : Nat} {S : List Int} (hc : Chn S st i) (h : nxt (st.take q) = 0) (hq : q ≤ st.length) : q = 0 := by
  cases q with
  | zero => rfl
  | succ p =>
    rw [nxt_take (by omega)] at h
    have := (hc.lt st[p] (List.getElem_mem _)).1
    omega
/-- Kids that are not the last ones. -/
theorem kid_no {ks st : List Int} {m : Nat} (hm : m < ks.length) (hq : ks.length ≤ st.length + (m + 1)) (h : ∀ (h1 : st.length + m < st.length + ks.length) (h2 : st.length + m - ks.length < st.length), ks.length ≤ st.length + m → ks[m] = st[st.length + m - ks.length] → False) : ¬ (ks.length ≤ st.length ∧ st.drop (st.length - ks.length) = ks) := by
  rintro ⟨h1, h2⟩
  have hx : ks[m]? = st[st.length + m - ks.length]? := by
    conv => lhs; rw [← h2]
    rw [List.getElem?_drop]
    congr 1
    omega
  rw [List.getElem?_eq_getElem hm, List.getElem?_eq_getElem (by omega)] at hx
  exact h (by omega) (by omega) (by omega) (Option.some.inj hx)
theorem kid_short {ks st : List Int} (h : st.length < ks.length) : ¬ (ks.length ≤ st.length ∧ st.drop (st.length - ks.length) = ks) := fun ⟨a, _⟩ => by omega
theorem kid_yes {ks st : List Int} {m : Nat} (hm : m < ks.length) (hq : ks.length - m ≤ st.length) (hd : ks.drop (m + 1) = st.drop (st.length - (ks.length - (m + 1)))) (he : ks[m] = st[st.length + m - ks.length]'(by omega)) : ks.drop m = st.drop (st.length - (ks.length - m)) := by
  rw [List.drop_eq_getElem_cons hm, hd, he]
  rw [show st.length - (ks.length - m) = st.length + m - ks.length by omega]
  rw [List.drop_eq_getElem_cons (show st.length + m - ks.length < st.length by omega)]
  congr 2
  omega
theorem nxt_bnd {S st : List Int} {i : Nat} (h : Chn S st i) (q : Nat) : 0 ≤ nxt (st.take q) ∧ nxt (st.take q) ≤ i := by
  by_cases hq : q ≤ st.length
  · cases q with
    | zero => rw [List.take_zero, nxt_nil]; omega
    | succ p =>
      rw [nxt_take (by omega)]
      have := h.lt st[p] (List.getElem_mem _)
      omega
  · rw [List.take_of_length_le (by omega), h.nx]; omega
/-- The kid that must stand at j. -/
theorem kid_at {S st ks : List Int} {i n j : Nat} {c x : Int} (h : Chn S st i) (hn : ks.length = n) (hj : j < n) (hq : n - (j + 1) ≤ st.length) (hc : nxt (st.take (st.length - (n - (j + 1)))) = c) (hx : ks[j]? = some x) (h0 : ¬ c = 0) (hxc : x = c - 1) (hd : ks.drop (j + 1) = st.drop (st.length - (n - (j + 1)))) :
    ∃ y : Nat, x = (y : Int) ∧ y < i ∧ n - j ≤ st.length ∧ S[y]? = some (nxt (st.take (st.length - (n - j)))) ∧ ks.drop j = st.drop (st.length - (n - j)) := by
  subst hn
  have hp : st.length - (ks.length - (j + 1)) ≠ 0 := fun e => by rw [e, List.take_zero, nxt_nil] at hc; omega
  obtain ⟨p, hpe⟩ : ∃ p, st.length - (ks.length - (j + 1)) = p + 1 := ⟨_, (Nat.succ_pred_eq_of_ne_zero hp).symm⟩
  have hpl : p < st.length := by omega
  rw [hpe, nxt_take hpl] at hc
  obtain ⟨a, b⟩ := h.lt st[p] (List.getElem_mem _)
  have hxs : x = st[p] := by omega
  have hks : ks[j] = x := by rw [List.getElem?_eq_getElem hj] at hx; exact Option.some.inj hx
  have hpe2 : st.length - (ks.length - j) = p := by omega
  refine ⟨x.toNat, by omega, by omega, by omega, ?_, ?_⟩
  · rw [hpe2, hxs]; exact h.ch p hpl
  · refine kid_yes hj (by omega) hd ?_
    rw [hks, hxs]
    congr 1
    omega
theorem kid_zero {S st ks : List Int} {i n j : Nat} {c : Int} (h : Chn S st i) (hn : ks.length = n) (hj : j < n) (hq : n - (j + 1) ≤ st.length) (hc : nxt (st.take (st.length - (n - (j + 1)))) = c) (h0 : c = 0) : ¬ (ks.length ≤ st.length ∧ st.drop (st.length - ks.length) = ks) := by
  have := nxt_zero h (hc.trans h0) (by omega)
  exact kid_short (by omega)
theorem kid_other {S st ks : List Int} {i n j : Nat} {c x : Int} (h : Chn S st i) (hn : ks.length = n) (hj : j < n) (hq : n - (j + 1) ≤ st.length) (hc : nxt (st.take (st.length - (n - (j + 1)))) = c) (hx : ks[j]? = some x) (h0 : ¬ c = 0) (hxc : ¬ x = c - 1) : ¬ (ks.length ≤ st.length ∧ st.drop (st.length - ks.length) = ks) := by
  subst hn
  refine kid_no hj (by omega) fun h1 h2 h3 h4 => ?_
  have hpe : st.length - (ks.length - (j + 1)) = (st.length + j - ks.length) + 1 := by omega
  rw [hpe, nxt_take h2] at hc
  have hks : ks[j] = x := by rw [List.getElem?_eq_getElem hj] at hx; exact Option.some.inj hx
  omega
theorem last_fact {S st : List Int} {n : Nat} (h : Chn S st n) (hn : 1 ≤ n) : ∃ l, st = l ++ [((n : Int) - 1)] ∧ S[n - 1]? = some (nxt l) := by
  have hx := h.nx
  have hne : st ≠ [] := fun e => by rw [e, nxt_nil] at hx; omega
  have he := List.dropLast_concat_getLast hne
  have hl : st.getLast hne + 1 = n := by rw [← he, nxt_app] at hx; exact hx
  refine ⟨st.dropLast, by rw [← show st.getLast hne = (n : Int) - 1 by omega]; exact he.symm, ?_⟩
  have hpl : st.length - 1 < st.length := by have := List.length_pos_iff.2 hne; omega
  have hc := h.ch (st.length - 1) hpl
  rw [← List.getLast_eq_getElem hne, show (st.getLast hne).toNat = n - 1 by omega, ← List.dropLast_eq_take] at hc
  exact hc
theorem last_zero {S st l : List Int} {n : Nat} (h : Chn S st n) (he : st = l ++ [((n : Int) - 1)]) (hz : nxt l = 0) : ((st.length : Int) = 1) := by
  have : l.length = 0 := nxt_zero (q := l.length) h (by rw [he, List.take_left]; exact hz) (by rw [he]; simp)
  rw [he]
  simp
  omega
theorem last_other {st l : List Int} {n : Nat} (he : st = l ++ [((n : Int) - 1)]) (hz : ¬ nxt l = 0) : decide ((st.length : Int) = 1) = false := by
  have : l ≠ [] := fun e => hz (by rw [e]; rfl)
  have := List.length_pos_iff.2 this
  rw [he]
  simp
  omega
end Go.Proofs.Ytoieiegjhjedoaa
