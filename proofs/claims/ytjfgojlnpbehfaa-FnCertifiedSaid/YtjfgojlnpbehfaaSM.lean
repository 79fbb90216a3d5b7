import Derived.Test.YtjfgojlnpbehfaaCD
namespace Go.Proofs.Ytjfgojlnpbehfaa
open Go.ChangeShapes Go.WideShapes Go.ChangeAt Go.RowKit
set_option linter.unusedVariables false
set_option linter.unusedSimpArgs false
set_option maxRecDepth 100000
instance decMeet (xs ys : List Int) : Decidable (meetP xs ys) := inferInstanceAs (Decidable (∃ x, x ∈ xs ∧ x ∈ ys))
instance decLeads (s t : TI) : Decidable (leadsP s t) := inferInstanceAs (Decidable (_ ∧ _ ∧ _))
/-- Must the one with the number k be ahead of the one with the number j? -/
def aheadB (us : List TI) (k j : Nat) : Bool :=
  match us[k]?, us[j]? with
  | some a, some b => k != j && (decide (a.com ≤ b.bgn) || decide (leadsP a b))
  | _, _ => false
theorem aheadB_at {us : List TI} {k j : Nat} {a b : TI} (ha : us[k]? = some a) (hb : us[j]? = some b) : aheadB us k j = (k != j && (decide (a.com ≤ b.bgn) || decide (leadsP a b))) := by
  unfold aheadB; rw [ha, hb]
def cntL (us : List TI) (S : List Nat) (j : Nat) : Nat := (S.filter (fun k => aheadB us k j)).length
def remL (n : Nat) (out : List Nat) : List Nat := (List.range n).filter (fun k => !out.contains k)
theorem cntL_le (us : List TI) (S : List Nat) (j : Nat) : cntL us S j ≤ S.length := List.length_filter_le _ _
theorem cntL_zero {us : List TI} {S : List Nat} {j : Nat} : cntL us S j = 0 ↔ ∀ k ∈ S, aheadB us k j = false := by
  unfold cntL
  rw [List.length_eq_zero_iff, List.filter_eq_nil_iff]
  simp
theorem cntL_succ (us : List TI) (i j : Nat) : cntL us (List.range (i + 1)) j = cntL us (List.range i) j + (if aheadB us i j then 1 else 0) := by
  unfold cntL
  rw [List.range_succ, List.filter_append, List.length_append]
  by_cases h : aheadB us i j = true <;> simp [h]
theorem filter_ne {S : List Nat} {a : Nat} (p : Nat → Bool) : S.Nodup → a ∈ S → ((S.filter (fun k => k != a)).filter p).length + (if p a then 1 else 0) = (S.filter p).length := by
  induction S with
  | nil => intro _ h; cases h
  | cons x xs ih =>
    intro hn hm
    rw [List.nodup_cons] at hn
    by_cases e : x = a
    · subst e
      have hx : xs.filter (fun k => k != x) = xs := List.filter_eq_self.2 (fun k hk => by
        simp only [bne_iff_ne, ne_eq]
        intro e; subst e; exact hn.1 hk)
      have h2 : (x :: xs).filter (fun k => k != x) = xs := by simp [List.filter_cons, hx]
      rw [h2, List.filter_cons]
      by_cases hp : p x = true <;> simp [hp]
    · have hm' : a ∈ xs := by
        rcases List.mem_cons.1 hm with h | h
        · exact absurd h.symm e
        · exact h
      have := ih hn.2 hm'
      have h2 : (x :: xs).filter (fun k => k != a) = x :: xs.filter (fun k => k != a) := by simp [List.filter_cons, e]
      rw [h2, List.filter_cons, List.filter_cons]
      by_cases hp : p x = true
      · rw [if_pos hp, if_pos hp, List.length_cons, List.length_cons]; omega
      · rw [if_neg hp, if_neg hp]; exact this
theorem remL_nil (n : Nat) : remL n [] = List.range n := by unfold remL; exact List.filter_eq_self.2 (fun k _ => by simp)
theorem remL_mem {n : Nat} {out : List Nat} {k : Nat} : k ∈ remL n out ↔ k < n ∧ k ∉ out := by unfold remL; simp
theorem remL_nodup (n : Nat) (out : List Nat) : (remL n out).Nodup := List.nodup_range.filter _
theorem remL_push (n : Nat) (out : List Nat) (a : Nat) : remL n (out ++ [a]) = (remL n out).filter (fun k => k != a) := by
  unfold remL
  rw [List.filter_filter]
  apply List.filter_congr
  intro k _
  rw [Bool.eq_iff_iff]
  simp
  constructor
  · intro h; exact ⟨h.2, h.1⟩
  · intro h; exact ⟨h.2, h.1⟩
theorem remL_len (n : Nat) (out : List Nat) : (remL n out).length ≤ n := by
  unfold remL; exact Nat.le_trans (List.length_filter_le _ _) (by simp)
theorem cntL_push {us : List TI} {n : Nat} {out : List Nat} {a : Nat} (j : Nat) (ha : a ∈ remL n out) : cntL us (remL n (out ++ [a])) j + (if aheadB us a j then 1 else 0) = cntL us (remL n out) j := by
  unfold cntL
  rw [remL_push]
  exact filter_ne _ (remL_nodup n out) ha
/-- The one that is taken next. -/
def Pick (us : List TI) (out : List Nat) (i : Nat) : Prop := i ∈ remL us.length out ∧ cntL us (remL us.length out) i = 0 ∧ ∀ k, k < i → k ∈ remL us.length out → cntL us (remL us.length out) k ≠ 0
def NoPick (us : List TI) (out : List Nat) : Prop := ∀ k ∈ remL us.length out, cntL us (remL us.length out) k ≠ 0
def SerOut (us : List TI) (out : List Nat) : Prop := ∀ m i, out[m]? = some i → Pick us (out.take m) i
theorem pick_eq {us : List TI} {out : List Nat} {i j : Nat} (h : Pick us out i) (g : Pick us out j) : i = j := by
  rcases Nat.lt_trichotomy i j with e | e | e
  · exact absurd h.2.1 (g.2.2 i e h.1)
  · exact e
  · exact absurd g.2.1 (h.2.2 j e g.1)
theorem serOut_take {us : List TI} {x y : List Nat} (hx : SerOut us x) (hy : SerOut us y) : ∀ m, m ≤ x.length → m ≤ y.length → x.take m = y.take m
  | 0, _, _ => by simp
  | m + 1, h1, h2 => by
    have ih := serOut_take hx hy m (by omega) (by omega)
    have e1 : x[m]? = some x[m] := List.getElem?_eq_getElem (by omega)
    have e2 : y[m]? = some y[m] := List.getElem?_eq_getElem (by omega)
    have p1 := hx m _ e1
    have p2 := hy m _ e2
    rw [← ih] at p2
    rw [List.take_add_one, List.take_add_one, ih, e1, e2, pick_eq p1 p2]
theorem serOut_nil (us : List TI) : SerOut us [] := fun m i h => by simp at h
theorem serOut_push {us : List TI} {out : List Nat} {i : Nat} (h : SerOut us out) (hp : Pick us out i) : SerOut us (out ++ [i]) := fun m j hj => by
  by_cases e : m < out.length
  · rw [List.getElem?_append_left e] at hj
    rw [List.take_append_of_le_length (by omega)]
    exact h m j hj
  · have hm : m = out.length := by
      have := (List.getElem?_eq_some_iff.1 hj).1
      simp at this
      omega
    subst hm
    rw [List.getElem?_append_right (by omega)] at hj
    simp at hj
    subst hj
    simpa using hp
def SerC (us : List TI) (l : List Int) (c : Int) : Prop :=
  (¬ histP us ∧ l = [] ∧ c = 1) ∨ (histP us ∧ ∃ out : List Nat, SerOut us out ∧ out.length = us.length ∧ l = out.map Int.ofNat ∧ c = 0) ∨ (histP us ∧ ∃ out : List Nat, SerOut us out ∧ out.length < us.length ∧ NoPick us out ∧ l = [] ∧ c = 21)
theorem nopick_short {us : List TI} {x y : List Nat} (hx : SerOut us x) (hy : SerOut us y) (hn : NoPick us x) : y.length ≤ x.length := by
  rcases Nat.lt_or_ge x.length y.length with h | h
  · have e := serOut_take hx hy x.length (Nat.le_refl _) (by omega)
    rw [List.take_length] at e
    have p := hy x.length _ (List.getElem?_eq_getElem h)
    rw [← e] at p
    exact absurd p.2.1 (hn _ p.1)
  · exact h
theorem serC_eq {us : List TI} {l m : List Int} {c d : Int} (h : SerC us l c) (g : SerC us m d) : l = m ∧ c = d := by
  rcases h with ⟨h1, rfl, rfl⟩ | ⟨h1, x, hx, hl, rfl, rfl⟩ | ⟨h1, x, hx, hl, hn, rfl, rfl⟩ <;> rcases g with ⟨g1, rfl, rfl⟩ | ⟨g1, y, gy, gl, rfl, rfl⟩ | ⟨g1, y, gy, gl, gn, rfl, rfl⟩
  · exact ⟨rfl, rfl⟩
  · exact absurd g1 h1
  · exact absurd g1 h1
  · exact absurd h1 g1
  · have e := serOut_take hx gy x.length (Nat.le_refl _) (by omega)
    rw [List.take_length, show x.length = y.length by omega, List.take_length] at e
    exact ⟨by rw [e], rfl⟩
  · have := nopick_short gy hx gn; omega
  · exact absurd h1 g1
  · have := nopick_short hx gy hn; omega
  · exact ⟨rfl, rfl⟩
end Go.Proofs.Ytjfgojlnpbehfaa
