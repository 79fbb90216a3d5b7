import Derived.Test.YtjpcgnkgdaphoaaDoorM5
namespace Go.Proofs.YtjpcgnkgdaphoaaDoor
set_option linter.unusedVariables false
set_option linter.unusedSimpArgs false
def tokText (k : Int) (x : List UInt8) : List UInt8 := if k = 2 then markL 34 x else if k = 5 then markL 39 x else x
/-- A valid token, as the document says it. -/
def tokOK (k : Int) (x : List UInt8) : Prop :=
  if k = 1 then isWordL x = true else if k = 2 then isNameL x = true else if k = 3 ∨ k = 4 then isNumL x k else if k = 5 then strOK x = true else if k = 6 then isSigL x = true else False
theorem tok_one (k : Int) (x : List UInt8) : tokOK k x ↔ lexOne (tokText k x) k x := by
  unfold tokOK tokText
  by_cases h1 : k = 1
  · subst h1; simpa using word_one x
  by_cases h2 : k = 2
  · subst h2; simpa using name_one x
  by_cases h3 : k = 3 ∨ k = 4
  · have h5 : k ≠ 5 := by omega
    simpa [h1, h2, h3, h5] using num_one x k h3
  by_cases h5 : k = 5
  · subst h5; simpa using str_one x
  by_cases h6 : k = 6
  · subst h6; simpa using sig_one x
  simp only [h1, h2, h3, h5, h6, if_false, false_iff]
  intro h
  obtain ⟨n, hc, _⟩ := lexOne_cut h
  rcases cut_kind hc with g | ⟨g, _⟩ | ⟨g, _⟩ | ⟨g, _⟩ | ⟨g, _⟩ <;> omega
/-! What is cut stands where a blank follows. -/
theorem runN_more (p : Int → Bool) (b : UInt8) (hb : p (b.toNat : Int) = false) (r : List UInt8) : ∀ l : List UInt8, runN p (l ++ b :: r) = runN p l
  | [] => by simp [runN, hb]
  | c :: t => by
    have ih := runN_more p b hb r t
    rw [List.cons_append, runN, runN, ih]
theorem take_more (l r : List UInt8) (n : Nat) (h : n ≤ l.length) : (l ++ r).take n = l.take n := by rw [List.take_append_of_le_length h]
theorem get_more (l r : List UInt8) (b : UInt8) (n : Nat) (h : n ≤ l.length) : (l ++ b :: r)[n]? = if n < l.length then l[n]? else some b := by
  split
  · rw [List.getElem?_append_left (by assumption)]
  · have : n = l.length := by omega
    subst this; simp
theorem unq_more (q : UInt8) (hq : q ≠ 32) (r : List UInt8) : ∀ x : List UInt8, unq q (dbl q x ++ q :: 32 :: r) = some (x, (dbl q x).length + 1)
  | [] => by simp [dbl, unq]; exact fun h => absurd h.symm hq
  | c :: t => by
    have ih := unq_more q hq r t
    rw [dbl]
    by_cases h : c = q
    · subst h
      simp only [if_true, List.cons_append]
      rw [unq]
      simp only [if_true, ih]
      simp
    · simp only [if_neg h, List.cons_append]
      rw [unq_other q c _ h, ih]; simp
theorem sig_more (x r : List UInt8) (h : isSigL x = true) : sigL (x ++ 32 :: r) = .tok 6 x x.length := by
  unfold isSigL at h
  simp only [Bool.and_eq_true, decide_eq_true_eq, Bool.not_eq_true', decide_eq_false_iff_not] at h
  obtain ⟨⟨⟨h1, h2⟩, h3⟩, h4⟩ := h
  have hm := sig_mem h4
  unfold signs at hm
  simp only [List.mem_cons, List.not_mem_nil, or_false] at hm
  rcases hm with e | e | e | e | e | e | e | e | e | e | e | e | e | e | e | e | e | e
  case inr.inr.inr.inl => exact absurd e h3
  all_goals
    subst e
    simp [sigL, sigAt, signs, List.find?, List.isPrefixOf]
theorem sig_head (x : List UInt8) (h : isSigL x = true) : ∃ c t, x = c :: t ∧ wdI (c.toNat : Int) = false ∧ digI (c.toNat : Int) = false ∧ c ≠ 34 ∧ c ≠ 39 ∧ blank c = false ∧ (∀ r, cmtAt (x ++ 32 :: r) 0 = false) := by
  unfold isSigL at h
  simp only [Bool.and_eq_true, decide_eq_true_eq, Bool.not_eq_true', decide_eq_false_iff_not] at h
  obtain ⟨⟨⟨h1, h2⟩, h3⟩, h4⟩ := h
  have hm := sig_mem h4
  unfold signs at hm
  simp only [List.mem_cons, List.not_mem_nil, or_false] at hm
  rcases hm with e | e | e | e | e | e | e | e | e | e | e | e | e | e | e | e | e | e
  all_goals
    subst e
    exact ⟨_, _, rfl, by decide, by decide, by decide, by decide, by decide, fun r => by simp [cmtAt]⟩
theorem isLet_more (l r : List UInt8) (n : Nat) (h : n ≤ l.length) (hl : isLet l[n]? = false) : isLet (l ++ 32 :: r)[n]? = false := by
  rw [get_more l r 32 n h]
  split
  · exact hl
  · rfl
theorem num_more (x r : List UInt8) (k : Int) (h : isNumL x k) : numL (x ++ 32 :: r) = .tok k x x.length := by
  obtain ⟨h1, h2⟩ := h
  have hr := runN_le digI x
  have er : runN digI (x ++ 32 :: r) = runN digI x := runN_more digI 32 (by decide) r x
  have et : (x ++ 32 :: r).take (runN digI x) = x.take (runN digI x) := take_more _ _ _ hr
  unfold numL at h2 ⊢
  rw [er, et]
  by_cases hd : decAt x = true
  · have hd' := hd
    unfold decAt at hd'
    simp only [Bool.and_eq_true, decide_eq_true_eq] at hd'
    obtain ⟨g1, g2⟩ := hd'
    have hn1 : runN digI x + 1 < x.length := by
      cases hg : x[runN digI x + 1]? with
      | none => rw [hg] at g2; cases g2
      | some d => exact get_lt hg
    have hdm : decAt (x ++ 32 :: r) = true := by
      unfold decAt
      rw [er, List.getElem?_append_left (by omega), List.getElem?_append_left hn1, g1, g2]
      simp
    have edr : (x ++ 32 :: r).drop (runN digI x + 1) = x.drop (runN digI x + 1) ++ 32 :: r := by rw [List.drop_append_of_le_length (by omega)]
    have edr0 : (x ++ 32 :: r).drop (runN digI x) = x.drop (runN digI x) ++ 32 :: r := by rw [List.drop_append_of_le_length (by omega)]
    have em : runN digI ((x ++ 32 :: r).drop (runN digI x + 1)) = runN digI (x.drop (runN digI x + 1)) := by rw [edr]; exact runN_more digI 32 (by decide) r _
    rw [hd] at h2
    rw [hdm, em, edr0]
    simp only [if_true] at h2 ⊢
    split at h2
    · cases h2
    · rename_i hb
      rw [if_neg hb]
      have hm := runN_le digI (x.drop (runN digI x + 1))
      rw [List.length_drop] at hm
      rw [take_more _ _ _ (by rw [List.length_drop]; omega)]
      obtain ⟨e1, e2, e3⟩ := afterN_tok h2
      unfold afterN at h2 ⊢
      split at h2
      · cases h2
      · rename_i hl
        rw [isLet_more x r _ (by omega) (by simpa using hl)]
        simpa using h2
  · have hd0 : decAt x = false := by simpa using hd
    rw [hd0] at h2
    simp only [Bool.false_eq_true, if_false] at h2
    split at h2
    · cases h2
    · rename_i hb
      obtain ⟨e1, e2, e3⟩ := afterN_tok h2
      have hdm : decAt (x ++ 32 :: r) = false := by
        unfold decAt
        rw [er, ← e3]
        simp
      rw [hdm]
      simp only [Bool.false_eq_true, if_false]
      rw [if_neg hb]
      unfold afterN at h2 ⊢
      split at h2
      · cases h2
      · rename_i hl
        rw [isLet_more x r _ (by omega) (by simpa using hl)]
        simpa using h2
/-- A valid token's text, a blank behind it: it is cut as the token. -/
theorem cut_more (k : Int) (x r : List UInt8) (h : tokOK k x) : ∃ c t, tokText k x = c :: t ∧ blank c = false ∧ cmtAt (tokText k x ++ 32 :: r) 0 = false ∧ cutL (tokText k x ++ 32 :: r) = .tok k x (tokText k x).length := by
  unfold tokOK at h
  unfold tokText
  by_cases h1 : k = 1
  · subst h1
    simp only [if_true] at h
    obtain ⟨n, hk, _⟩ := lexOne_cut ((word_one x).1 h)
    obtain ⟨c, t, hl, hw, hr, hx, hn⟩ := cut_word hk
    have hgo : goI (c.toNat : Int) = true := by unfold goI; rw [hw]; rfl
    have hlen := congrArg List.length hx
    have hle := runN_le goI x
    rw [List.length_map, List.length_take] at hlen
    have hfull : runN goI x = x.length := by omega
    refine ⟨c, t, by simpa using hl, blank_false (.inl hgo), ?_, ?_⟩
    · rw [hl]; exact cmt_false (c := c) rfl (go_ne hgo).1
    · have e : cutL (x ++ 32 :: r) = wordL (x ++ 32 :: r) := by rw [hl]; unfold cutL; simp only [List.cons_append, hw, if_true]
      have e2 : runN goI (x ++ 32 :: r) = x.length := by rw [runN_more goI 32 (by decide), hfull]
      show cutL (x ++ 32 :: r) = _
      rw [e]; unfold wordL
      rw [e2, if_neg (by omega), take_more _ _ _ (Nat.le_refl _)]
      rw [hfull] at hx
      rw [← hx]; simp
  by_cases h2 : k = 2
  · subst h2
    have h' : isNameL x = true := by simpa using h
    have hp := runN_le priI x
    unfold isNameL at h'
    simp only [Bool.and_eq_true, decide_eq_true_eq] at h'
    obtain ⟨⟨g1, g2⟩, g3⟩ := h'
    refine ⟨34, _, rfl, by decide, cmt_false (c := 34) rfl (by decide), ?_⟩
    simp only [if_true]
    unfold markL
    rw [List.cons_append, cut_quo]
    unfold quoL
    rw [List.drop_succ_cons, List.drop_zero, List.append_assoc, List.singleton_append, unq_more 34 (by decide) r x]
    simp only
    rw [if_neg, if_neg (by omega)]
    · simp
    · rintro (g | g)
      · rw [g] at g1; simp at g1
      · omega
  by_cases h3 : k = 3 ∨ k = 4
  · have h5 : k ≠ 5 := by omega
    have h' : isNumL x k := by simpa [h1, h2, h3] using h
    have hd := h'.1
    cases hx : x with
    | nil => rw [hx] at hd; cases hd
    | cons c t =>
      have hd' : digI (c.toNat : Int) = true := by rw [hx] at hd; exact hd
      have hgo : goI (c.toNat : Int) = true := by unfold goI; rw [hd']; simp
      have hw : wdI (c.toNat : Int) = false := by
        have := (digI_iff c).1 hd'
        unfold wdI; simp; omega
      rw [← hx]
      refine ⟨c, t, by simp [h2, h5, hx], blank_false (.inl hgo), ?_, ?_⟩
      · simp only [h2, h5, if_false]; rw [hx]; exact cmt_false (c := c) rfl (go_ne hgo).1
      · simp only [h2, h5, if_false]
        rw [← num_more x r k h', hx]
        unfold cutL; simp only [List.cons_append]; rw [if_neg (by rw [hw]; decide), if_pos hd']
  by_cases h5 : k = 5
  · subst h5
    have h' : strOK x = true := by simpa using h
    unfold strOK textOK at h'
    refine ⟨39, dbl 39 x ++ [39], rfl, by decide, cmt_false (c := 39) rfl (by decide), ?_⟩
    simp only [if_true]
    rw [if_neg (by decide)]
    unfold markL
    rw [List.cons_append, cut_str]
    unfold strL
    rw [List.drop_succ_cons, List.drop_zero, List.append_assoc, List.singleton_append, unq_more 39 (by decide) r x]
    simp only
    cases hc : chars ⟨x.toArray⟩ with
    | none => rw [hc] at h'; simp at h'
    | some cs =>
      rw [hc] at h'
      simp only at h' ⊢
      rw [if_neg (by simp at h'; omega)]
      simp
  by_cases h6 : k = 6
  · subst h6
    have h' : isSigL x = true := by simpa using h
    obtain ⟨c, t, hx, a1, a2, a3, a4, a5, a6⟩ := sig_head x h'
    refine ⟨c, t, by simpa using hx, a5, by simpa using a6 r, ?_⟩
    have := sig_more x r h'
    show cutL (x ++ 32 :: r) = .tok 6 x x.length
    rw [← this, hx]
    unfold cutL; simp only [List.cons_append]; rw [if_neg (by rw [a1]; decide), if_neg (by rw [a2]; decide), if_neg a3, if_neg a4]
  · simp [h1, h2, h3, h5, h6] at h
end Go.Proofs.YtjpcgnkgdaphoaaDoor
