import Derived.Test.YtjpcgnkgdaphoaaDoorM4
namespace Go.Proofs.YtjpcgnkgdaphoaaDoor
set_option linter.unusedVariables false
set_option linter.unusedSimpArgs false
theorem unq_dbl (q : UInt8) : ∀ x : List UInt8, unq q (dbl q x ++ [q]) = some (x, (dbl q x).length + 1)
  | [] => by simp [dbl, unq]
  | c :: t => by
    have ih := unq_dbl q t
    rw [dbl]
    by_cases h : c = q
    · subst h
      simp only [if_true, List.cons_append]
      rw [unq]
      simp only [if_true, ih]
      simp
    · simp only [if_neg h, List.cons_append]
      rw [unq_other q c _ h, ih]; simp
/-- Of which kind is what is cut. -/
theorem cut_kind {l x : List UInt8} {k : Int} {n : Nat} (h : cutL l = .tok k x n) :
    (k = 1) ∨ (k = 2 ∧ l[0]? = some 34 ∧ quoL l = .tok k x n) ∨ ((k = 3 ∨ k = 4) ∧ isDig l[0]? = true ∧ numL l = .tok k x n) ∨ (k = 5 ∧ l[0]? = some 39 ∧ strL l = .tok k x n) ∨ (k = 6 ∧ sigL l = .tok k x n) := by
  cases l with
  | nil => cases h
  | cons c t =>
    unfold cutL at h
    simp only at h
    split at h
    · unfold wordL at h; split at h
      · cases h
      · cases h; exact .inl rfl
    · split at h
      · rename_i hd
        have h' := h
        refine .inr (.inr (.inl ⟨?_, hd, h'⟩))
        unfold numL at h; repeat' split at h
        all_goals first | (cases h; done) | (have := (afterN_tok h).1; omega)
      · split at h
        · rename_i hq
          subst hq
          have h' := h
          refine .inr (.inl ⟨?_, rfl, h'⟩)
          unfold quoL at h; repeat' split at h
          all_goals first | (cases h; done) | (cases h; rfl)
        · split at h
          · rename_i hq
            subst hq
            have h' := h
            refine .inr (.inr (.inr (.inl ⟨?_, rfl, h'⟩)))
            unfold strL at h; repeat' split at h
            all_goals first | (cases h; done) | (cases h; rfl)
          · have h' := h
            refine .inr (.inr (.inr (.inr ⟨?_, h'⟩)))
            unfold sigL at h; split at h
            · cases h
            · cases h; rfl
def isNameL (x : List UInt8) : Bool := decide (1 ≤ x.length) && decide (x.length ≤ 30) && decide (runN priI x = x.length)
def markL (q : UInt8) (x : List UInt8) : List UInt8 := q :: (dbl q x ++ [q])
theorem cut_quo (t : List UInt8) : cutL (34 :: t) = quoL (34 :: t) := by
  unfold cutL; simp only; rw [if_neg (by decide), if_neg (by decide), if_pos trivial]
theorem cut_str (t : List UInt8) : cutL (39 :: t) = strL (39 :: t) := by
  unfold cutL; simp only; rw [if_neg (by decide), if_neg (by decide), if_neg (by decide), if_pos trivial]
theorem name_one (x : List UInt8) : isNameL x = true ↔ lexOne (markL 34 x) 2 x := by
  have hu := unq_dbl 34 x
  have hp := runN_le priI x
  constructor
  · intro h
    unfold isNameL at h
    simp only [Bool.and_eq_true, decide_eq_true_eq] at h
    obtain ⟨⟨h1, h2⟩, h3⟩ := h
    refine lexOne_mk (c := 34) rfl (by decide) (cmt_false (c := 34) rfl (by decide)) ?_
    unfold markL
    rw [cut_quo]
    unfold quoL
    rw [List.drop_succ_cons, List.drop_zero, hu]
    simp only
    rw [if_neg, if_neg (by omega)]
    · simp
    · rintro (g | g)
      · rw [g] at h1; simp at h1
      · omega
  · intro h
    obtain ⟨n, hk, _⟩ := lexOne_cut h
    unfold markL at hk
    rw [cut_quo] at hk
    unfold quoL at hk
    rw [List.drop_succ_cons, List.drop_zero, hu] at hk
    simp only at hk
    split at hk
    · cases hk
    · rename_i h1
      split at hk
      · cases hk
      · rename_i h2
        unfold isNameL
        simp only [Bool.and_eq_true, decide_eq_true_eq]
        refine ⟨⟨?_, by omega⟩, ?_⟩
        · cases x with
          | nil => exact absurd (Or.inl rfl) h1
          | cons => simp
        · have : ¬ runN priI x < x.length := fun g => h1 (.inr g)
          omega
def strOK (x : List UInt8) : Bool := textOK ⟨x.toArray⟩
theorem str_one (x : List UInt8) : strOK x = true ↔ lexOne (markL 39 x) 5 x := by
  have hu := unq_dbl 39 x
  unfold strOK textOK
  constructor
  · intro h
    refine lexOne_mk (c := 39) rfl (by decide) (cmt_false (c := 39) rfl (by decide)) ?_
    unfold markL
    rw [cut_str]
    unfold strL
    rw [List.drop_succ_cons, List.drop_zero, hu]
    simp only
    cases hc : chars ⟨x.toArray⟩ with
    | none => rw [hc] at h; simp at h
    | some cs =>
      rw [hc] at h
      simp only at h ⊢
      rw [if_neg (by simp at h; omega)]
      simp
  · intro h
    obtain ⟨n, hk, _⟩ := lexOne_cut h
    unfold markL at hk
    rw [cut_str] at hk
    unfold strL at hk
    rw [List.drop_succ_cons, List.drop_zero, hu] at hk
    simp only at hk
    cases hc : chars ⟨x.toArray⟩ with
    | none => rw [hc] at hk; simp at hk
    | some cs =>
      rw [hc] at hk
      simp only at hk ⊢
      split at hk
      · cases hk
      · simp; omega
/-- A number's text: it is a digit first, and cut whole with just this text. -/
def isNumL (x : List UInt8) (k : Int) : Prop := isDig x[0]? = true ∧ numL x = .tok k x x.length
theorem num_one (x : List UInt8) (k : Int) (hk : k = 3 ∨ k = 4) : isNumL x k ↔ lexOne x k x := by
  constructor
  · rintro ⟨h1, h2⟩
    cases x with
    | nil => cases h1
    | cons c t =>
      have hd : digI (c.toNat : Int) = true := h1
      have hgo : goI (c.toNat : Int) = true := by unfold goI; rw [hd]; simp
      have hw : wdI (c.toNat : Int) = false := by
        have := (digI_iff c).1 hd
        unfold wdI; simp; omega
      refine lexOne_mk (c := c) rfl (blank_false (.inl hgo)) (cmt_false (c := c) rfl (go_ne hgo).1) ?_
      unfold cutL; simp only; rw [if_neg (by rw [hw]; decide), if_pos hd]; exact h2
  · intro h
    obtain ⟨n, hc, _⟩ := lexOne_cut h
    rcases cut_kind hc with g | ⟨g, _⟩ | ⟨_, g1, g2⟩ | ⟨g, _⟩ | ⟨g, _⟩
    · omega
    · omega
    · refine ⟨g1, ?_⟩
      have hn : n = x.length := by
        have hs := cut_size hc
        have h3 := g2
        have hr := runN_le digI x
        unfold numL at h3
        split at h3
        · split at h3
          · cases h3
          · obtain ⟨_, e, rfl⟩ := afterN_tok h3
            have e2 := congrArg List.length e
            have h4 := (noughts_len (x.take (runN digI x))).1
            rw [List.length_append, List.length_take, List.length_drop] at e2
            rw [List.length_take] at h4
            omega
        · split at h3
          · cases h3
          · obtain ⟨_, e, rfl⟩ := afterN_tok h3
            have e2 := congrArg List.length e
            have h4 := (noughts_len (x.take (runN digI x))).1
            rw [List.length_take] at h4
            omega
      rw [hn] at g2; exact g2
    · omega
    · omega
theorem num_len {x : List UInt8} {k : Int} (h : isNumL x k) : 1 ≤ x.length ∧ x.length ≤ 20 := by
  obtain ⟨h1, h2⟩ := h
  have h0 : 1 ≤ x.length := by cases x with
    | nil => cases h1
    | cons => simp
  refine ⟨h0, ?_⟩
  unfold numL at h2
  split at h2
  · split at h2
    · cases h2
    · rename_i hb
      obtain ⟨_, e, e3⟩ := afterN_tok h2
      have e2 := congrArg List.length e
      rw [List.length_append, List.length_take, List.length_drop] at e2
      omega
  · split at h2
    · cases h2
    · rename_i hb
      obtain ⟨_, e, e3⟩ := afterN_tok h2
      unfold bigI at hb
      simp at hb
      have e2 := congrArg List.length e
      omega
def isSigL (x : List UInt8) : Bool := decide (1 ≤ x.length) && decide (x.length ≤ 2) && !decide (x = [33, 61]) && decide (sigAt x = some x)
theorem sig_mem {x : List UInt8} (h : sigAt x = some x) : x ∈ signs := List.mem_of_find?_eq_some h
theorem sig_one (x : List UInt8) : isSigL x = true ↔ lexOne x 6 x := by
  constructor
  · intro h
    unfold isSigL at h
    simp only [Bool.and_eq_true, decide_eq_true_eq, Bool.not_eq_true', decide_eq_false_iff_not] at h
    obtain ⟨⟨⟨h1, h2⟩, h3⟩, h4⟩ := h
    have hm := sig_mem h4
    unfold signs at hm
    simp only [List.mem_cons, List.not_mem_nil, or_false] at hm
    rcases hm with e | e | e | e | e | e | e | e | e | e | e | e | e | e | e | e | e | e
    case inr.inr.inr.inl => exact absurd e h3
    all_goals
      subst e
      exact lexOne_mk rfl (by decide) (by decide) (by rfl)
  · intro h
    obtain ⟨n, hc, _⟩ := lexOne_cut h
    rcases cut_kind hc with g | ⟨g, _⟩ | ⟨g, _⟩ | ⟨g, _⟩ | ⟨_, g⟩
    · omega
    · omega
    · omega
    · omega
    · unfold sigL at g
      split at g
      · cases g
      · rename_i y hy
        have hl := sigAt_len hy
        cases g
        by_cases e : y = [33, 61]
        · subst e
          rw [if_pos rfl] at hy
          exact absurd hy (by decide)
        · rw [if_neg e] at hy
          rw [if_neg e]
          have hm := sig_mem hy
          have hlen : y.length ≤ 2 := by
            unfold signs at hm
            simp only [List.mem_cons, List.not_mem_nil, or_false] at hm
            rcases hm with e | e | e | e | e | e | e | e | e | e | e | e | e | e | e | e | e | e <;> (subst e; decide)
          unfold isSigL
          simp [e, hy, hlen]; omega
end Go.Proofs.YtjpcgnkgdaphoaaDoor
