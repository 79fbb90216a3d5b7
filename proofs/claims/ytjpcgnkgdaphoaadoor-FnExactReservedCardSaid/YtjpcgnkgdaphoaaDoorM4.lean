import Derived.Test.YtjpcgnkgdaphoaaDoorM3
namespace Go.Proofs.YtjpcgnkgdaphoaaDoor
set_option linter.unusedVariables false
set_option linter.unusedSimpArgs false
/-- What Lex adds lies behind what was there, at places from there on. -/
theorem LexR.adds {l : List UInt8} {k : Nat} {acc : List Tok} {r : LexRes} (h : LexR l k acc r) : ∀ y, r = .ok y → ∃ z, y = acc ++ z ∧ ∀ t ∈ z, k ≤ t.2.2 := by
  induction h with
  | fin h => intro y e; cases e; exact ⟨[], by simp, by simp⟩
  | blank h hb nx ih =>
    intro y e; obtain ⟨z, rfl, hz⟩ := ih y e
    exact ⟨z, rfl, fun t ht => by have := hz t ht; omega⟩
  | cmt hc nx ih =>
    intro y e; obtain ⟨z, rfl, hz⟩ := ih y e
    exact ⟨z, rfl, fun t ht => by have := hz t ht; omega⟩
  | many h hb hc hm => intro y e; cases e
  | bad h hb hc hm hk => intro y e; cases e
  | @tok k acc c r t x n h hb hc hm hk nx ih =>
    intro y e; obtain ⟨z, rfl, hz⟩ := ih y e
    refine ⟨(t, x, k) :: z, by simp, fun u hu => ?_⟩
    rcases List.mem_cons.1 hu with rfl | hu
    · exact Nat.le_refl _
    · have := hz u hu; omega
def lexOne (l : List UInt8) (k : Int) (x : List UInt8) : Prop := LexR l 0 [] (.ok [(k, x, 0)])
theorem lexOne_cut {l : List UInt8} {k : Int} {x : List UInt8} (h : lexOne l k x) : ∃ n, cutL l = .tok k x n ∧ ∃ c t, l = c :: t ∧ blank c = false ∧ cmtAt l 0 = false := by
  unfold lexOne at h
  cases h with
  | blank h hb nx =>
    obtain ⟨z, e, hz⟩ := nx.adds _ rfl
    have : (k, x, 0) ∈ z := by simp only [List.nil_append] at e; rw [← e]; simp
    have := hz _ this; simp at this
  | cmt hc nx =>
    obtain ⟨z, e, hz⟩ := nx.adds _ rfl
    have hm : (k, x, 0) ∈ z := by simp only [List.nil_append] at e; rw [← e]; simp
    have h1 := hz _ hm
    have h2 := get_of_cmt hc
    rw [List.drop_zero] at h1
    have h3 : 1 ≤ runN nlI l := by
      cases l with
      | nil => simp at h2
      | cons c t => simp at h2; subst h2; exact runN_pos nlI 45 t (by decide)
    simp at h1; omega
  | @tok _ _ c r t y n h hb hc hm hk nx =>
    rw [List.drop_zero] at hk
    have nx' := nx
    obtain ⟨z, e, hz⟩ := nx.adds _ rfl
    simp only [List.nil_append, List.cons_append, List.cons.injEq, Prod.mk.injEq] at e
    obtain ⟨⟨rfl, rfl, _⟩, _⟩ := e
    refine ⟨n, hk, ?_⟩
    cases l with
    | nil => simp at h
    | cons d t => simp at h; subst h; exact ⟨d, t, rfl, hb, hc⟩
theorem lexOne_mk {l : List UInt8} {k : Int} {x : List UInt8} {c : UInt8} (h : l[0]? = some c) (hb : blank c = false) (hc : cmtAt l 0 = false) (hk : cutL l = .tok k x l.length) : lexOne l k x := by
  unfold lexOne
  refine LexR.tok h hb hc (by simp) (by rw [List.drop_zero]; exact hk) ?_
  rw [Nat.zero_add, List.nil_append]
  exact LexR.fin (Nat.le_refl _)
theorem blank_false {c : UInt8} (h : goI (c.toNat : Int) = true ∨ c = 34 ∨ c = 39) : blank c = false := by
  unfold blank
  simp only [Bool.or_eq_false_iff, decide_eq_false_iff_not]
  rcases h with h | h | h
  · unfold goI wdI digI at h
    simp at h
    refine ⟨⟨⟨?_, ?_⟩, ?_⟩, ?_⟩ <;> (rintro rfl; revert h; decide)
  · subst h; decide
  · subst h; decide
theorem cmt_false {l : List UInt8} {c : UInt8} (h : l[0]? = some c) (hc : c ≠ 45) : cmtAt l 0 = false := by
  unfold cmtAt; rw [h]; simp [hc]
theorem go_ne {c : UInt8} (h : goI (c.toNat : Int) = true) : c ≠ 45 ∧ c ≠ 34 ∧ c ≠ 39 := by
  refine ⟨?_, ?_, ?_⟩ <;> (rintro rfl; revert h; decide)
/-- A word's text: small letters, digits, at most 30, the first a letter. -/
def smI (b : Int) : Bool := goI b && !(decide (65 ≤ b) && decide (b ≤ 90))
def isWordL (x : List UInt8) : Bool := decide (1 ≤ x.length) && decide (x.length ≤ 30) && isLet x[0]? && decide (runN smI x = x.length)
theorem runN_full (p : Int → Bool) : ∀ l : List UInt8, runN p l = l.length ↔ ∀ c ∈ l, p (c.toNat : Int) = true
  | [] => by simp [runN]
  | c :: t => by
    have ih := runN_full p t
    have hl := runN_le p t
    unfold runN
    by_cases h : p (c.toNat : Int) = true
    · simp [h, ih]
    · simp [h]
theorem lowC_id {c : UInt8} (h : ¬ (65 ≤ c.toNat ∧ c.toNat ≤ 90)) : lowC c = c := by unfold lowC; rw [if_neg h]
theorem lowC_up {c : UInt8} (h : lowC c = c) : ¬ (65 ≤ c.toNat ∧ c.toNat ≤ 90) := by
  intro g
  unfold lowC at h; rw [if_pos g] at h
  have := congrArg UInt8.toNat h
  simp at this
  omega
theorem cut_word {l x : List UInt8} {n : Nat} (h : cutL l = .tok 1 x n) : ∃ c t, l = c :: t ∧ wdI (c.toNat : Int) = true ∧ runN goI l ≤ 30 ∧ x = (l.take (runN goI l)).map lowC ∧ n = runN goI l := by
  cases l with
  | nil => cases h
  | cons c t =>
    unfold cutL at h
    simp only at h
    split at h
    · rename_i hw
      unfold wordL at h; split at h
      · cases h
      · cases h; exact ⟨c, t, rfl, hw, by omega, rfl, rfl⟩
    · exfalso
      split at h
      · unfold numL at h; repeat' split at h
        all_goals first | (cases h; done) | (have := (afterN_tok h).1; cases this)
      · split at h
        · unfold quoL at h; repeat' split at h
          all_goals cases h
        · split at h
          · unfold strL at h; repeat' split at h
            all_goals cases h
          · unfold sigL at h; split at h <;> cases h
theorem word_one (x : List UInt8) : isWordL x = true ↔ lexOne x 1 x := by
  constructor
  · intro h
    unfold isWordL at h
    simp only [Bool.and_eq_true, decide_eq_true_eq] at h
    obtain ⟨⟨⟨h1, h2⟩, h3⟩, h4⟩ := h
    cases x with
    | nil => simp at h1
    | cons c t =>
      have h3' : wdI (c.toNat : Int) = true := h3
      have hs := (runN_full smI (c :: t)).1 h4
      have hg : runN goI (c :: t) = (c :: t).length := (runN_full goI _).2 (fun d hd => by have := hs d hd; unfold smI at this; simp at this; exact this.1)
      have hm : (c :: t).map lowC = c :: t := by
        conv => rhs; rw [← List.map_id (c :: t)]
        apply List.map_congr_left
        intro d hd
        refine lowC_id ?_
        have := hs d hd; unfold smI at this; simp at this
        have h9 := this.2; omega
      have hgo : goI (c.toNat : Int) = true := by unfold goI; rw [h3']; rfl
      refine lexOne_mk (c := c) rfl (blank_false (.inl hgo)) (cmt_false (c := c) rfl (go_ne hgo).1) ?_
      unfold cutL; simp only [h3', if_true]
      unfold wordL
      rw [hg, if_neg (by omega), List.take_length, hm]
  · intro h
    obtain ⟨n, hk, _⟩ := lexOne_cut h
    obtain ⟨c, t, hl, hw, hr, hx, hn⟩ := cut_word hk
    have hle := runN_le goI x
    have hlen := congrArg List.length hx
    rw [List.length_map, List.length_take] at hlen
    have hfull : runN goI x = x.length := by omega
    rw [hfull, List.take_length] at hx
    have hlow : ∀ d ∈ x, lowC d = d := by
      intro d hd
      obtain ⟨i, hi, e⟩ := List.getElem_of_mem hd
      have h5 := congrArg (fun l : List UInt8 => l[i]?) hx
      simp only [List.getElem?_map, List.getElem?_eq_getElem hi, e, Option.map_some] at h5
      exact (Option.some.inj h5).symm
    unfold isWordL
    simp only [Bool.and_eq_true, decide_eq_true_eq]
    refine ⟨⟨⟨?_, by omega⟩, ?_⟩, ?_⟩
    · rw [hl]; simp
    · rw [hl]; exact hw
    · refine (runN_full smI x).2 (fun d hd => ?_)
      have h6 := (runN_full goI x).1 hfull d hd
      have h7 := lowC_up (hlow d hd)
      unfold smI; rw [h6]; simp; omega
end Go.Proofs.YtjpcgnkgdaphoaaDoor
