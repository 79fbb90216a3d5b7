import Derived.WalkKit
namespace Go.Proofs.YtcgnkcehjcednaaDoor
namespace Lk
set_option linter.unusedVariables false
/-- The parts match the text: -1 stands for any characters, -2 for one, another number for itself. -/
def Mt : List Int → List Int → Prop
  | [], t => t = []
  | p :: ps, t => if p = -1 then ∃ k, k ≤ t.length ∧ Mt ps (t.drop k) else ∃ c t', t = c :: t' ∧ (p = -2 ∨ p = c) ∧ Mt ps t'
theorem mt_many {ps t : List Int} : Mt (-1 :: ps) t ↔ ∃ k, k ≤ t.length ∧ Mt ps (t.drop k) := by simp [Mt]
theorem mt_one {p : Int} {ps t : List Int} (h : p ≠ -1) : Mt (p :: ps) t ↔ ∃ c t', t = c :: t' ∧ (p = -2 ∨ p = c) ∧ Mt ps t' := by rw [Mt, if_neg h]
/-- The beginnings of the text that the parts (the last one first) match. -/
def D (t : List Int) : List Int → Nat → Prop
  | [], i => i = 0
  | p :: r, i => if p = -1 then ∃ j, j ≤ i ∧ D t r j else ∃ j c, i = j + 1 ∧ t[j]? = some c ∧ (p = -2 ∨ p = c) ∧ D t r j
theorem drop_cons {t : List Int} {i : Nat} {c : Int} (h : t[i]? = some c) : t.drop i = c :: t.drop (i + 1) := by
  obtain ⟨hl, e⟩ := List.getElem?_eq_some_iff.1 h
  rw [List.drop_eq_getElem_cons hl, e]
theorem cons_drop {t t' : List Int} {i : Nat} {c : Int} (h : t.drop i = c :: t') : t[i]? = some c ∧ t' = t.drop (i + 1) := by
  have hl : i < t.length := by
    apply Decidable.byContradiction; intro hn
    rw [List.drop_eq_nil_of_le (by omega)] at h; cases h
  rw [List.drop_eq_getElem_cons hl] at h
  injection h with h1 h2
  exact ⟨by rw [List.getElem?_eq_getElem hl, h1], h2.symm⟩
theorem shift (t : List Int) (p : Int) (r ps : List Int) :
    (∃ i, i ≤ t.length ∧ D t r i ∧ Mt (p :: ps) (t.drop i)) ↔ (∃ i, i ≤ t.length ∧ D t (p :: r) i ∧ Mt ps (t.drop i)) := by
  by_cases hp : p = -1
  · subst hp
    constructor
    · rintro ⟨i, hi, hd, hm⟩
      obtain ⟨k, hk, hm⟩ := mt_many.1 hm
      rw [List.drop_drop] at hm
      rw [List.length_drop] at hk
      exact ⟨i + k, by omega, by rw [D, if_pos rfl]; exact ⟨i, by omega, hd⟩, hm⟩
    · rintro ⟨i, hi, hd, hm⟩
      rw [D, if_pos rfl] at hd
      obtain ⟨j, hj, hd⟩ := hd
      refine ⟨j, by omega, hd, mt_many.2 ⟨i - j, by rw [List.length_drop]; omega, ?_⟩⟩
      rw [List.drop_drop, show j + (i - j) = i by omega]; exact hm
  · constructor
    · rintro ⟨i, hi, hd, hm⟩
      obtain ⟨c, t', e, hc, hm⟩ := (mt_one hp).1 hm
      obtain ⟨e1, rfl⟩ := cons_drop e
      have := (List.getElem?_eq_some_iff.1 e1).1
      exact ⟨i + 1, by omega, by rw [D, if_neg hp]; exact ⟨i, c, rfl, e1, hc, hd⟩, hm⟩
    · rintro ⟨i, hi, hd, hm⟩
      rw [D, if_neg hp] at hd
      obtain ⟨j, c, rfl, e1, hc, hd⟩ := hd
      exact ⟨j, by omega, hd, (mt_one hp).2 ⟨c, _, drop_cons e1, hc, hm⟩⟩
theorem shift_all (t : List Int) : ∀ (ps r : List Int), (∃ i, i ≤ t.length ∧ D t r i ∧ Mt ps (t.drop i)) ↔ D t (ps.reverse ++ r) t.length
  | [], r => by
    constructor
    · rintro ⟨i, hi, hd, hm⟩
      have hm : t.drop i = [] := hm
      have : i = t.length := by have := congrArg List.length hm; rw [List.length_drop] at this; simp at this; omega
      subst this; simpa using hd
    · intro h
      exact ⟨t.length, Nat.le_refl _, by simpa using h, by show t.drop t.length = []; simp⟩
  | p :: ps, r => by
    rw [shift, shift_all t ps (p :: r)]
    simp
theorem D_iff (t ps : List Int) : D t ps.reverse t.length ↔ Mt ps t := by
  have := shift_all t ps []
  rw [List.append_nil] at this
  rw [← this]
  constructor
  · rintro ⟨i, hi, hd, hm⟩
    have : i = 0 := hd
    subst this; simpa using hm
  · intro h
    exact ⟨0, by omega, rfl, by simpa using h⟩
/-- From part j and character i on. -/
def A (t ps : List Int) (i j : Nat) : Prop := Mt (ps.drop j) (t.drop i)
theorem dropj {ps : List Int} {j : Nat} {p : Int} (h : ps[j]? = some p) : ps.drop j = p :: ps.drop (j + 1) := drop_cons h
theorem A_many {t ps : List Int} {i j : Nat} (h : ps[j]? = some (-1)) (hi : i ≤ t.length) : A t ps i j ↔ ∃ k, i ≤ k ∧ k ≤ t.length ∧ A t ps k (j + 1) := by
  unfold A
  rw [dropj h, mt_many]
  constructor
  · rintro ⟨k, hk, hm⟩
    rw [List.length_drop] at hk
    rw [List.drop_drop] at hm
    exact ⟨i + k, by omega, by omega, hm⟩
  · rintro ⟨k, h1, h2, hm⟩
    refine ⟨k - i, by rw [List.length_drop]; omega, ?_⟩
    rw [List.drop_drop, show i + (k - i) = k by omega]; exact hm
theorem A_one {t ps : List Int} {i j : Nat} {p : Int} (h : ps[j]? = some p) (hp : p ≠ -1) : A t ps i j ↔ ∃ c, t[i]? = some c ∧ (p = -2 ∨ p = c) ∧ A t ps (i + 1) (j + 1) := by
  unfold A
  rw [dropj h, mt_one hp]
  constructor
  · rintro ⟨c, t', e, hc, hm⟩
    obtain ⟨e1, rfl⟩ := cons_drop e
    exact ⟨c, e1, hc, hm⟩
  · rintro ⟨c, e1, hc, hm⟩
    exact ⟨c, _, drop_cons e1, hc, hm⟩
theorem A_end {t ps : List Int} {i j : Nat} (h : ps.length ≤ j) : A t ps i j ↔ t.length ≤ i := by
  unfold A
  rw [List.drop_eq_nil_of_le h]
  show t.drop i = [] ↔ _
  exact List.drop_eq_nil_iff
/-- Parts a to b stand for one character each. -/
def ones (ps : List Int) (a b : Nat) : Prop := ∀ j, a ≤ j → j < b → ∃ p, ps[j]? = some p ∧ p ≠ -1
theorem run_ones {t ps : List Int} : ∀ (n a k : Nat), ones ps a (a + n) → k ≤ t.length → A t ps k a → k + n ≤ t.length ∧ A t ps (k + n) (a + n)
  | 0, a, k, _, hk, h => ⟨by omega, by simpa using h⟩
  | n + 1, a, k, ho, hk, h => by
    obtain ⟨p, e, hp⟩ := ho a (Nat.le_refl _) (by omega)
    obtain ⟨c, e1, _, h1⟩ := (A_one e hp).1 h
    have hl := (List.getElem?_eq_some_iff.1 e1).1
    have := run_ones n (a + 1) (k + 1) (fun j h1 h2 => ho j (by omega) (by omega)) (by omega) h1
    rw [show k + 1 + n = k + (n + 1) by omega, show a + 1 + n = a + (n + 1) by omega] at this
    exact this
/-- What holds at the head of the loop that goes back: at, piece, backAt, backPiece (-1: none). -/
def Inv (t ps : List Int) (i j bi : Nat) (bj : Int) : Prop :=
  i ≤ t.length ∧ j ≤ ps.length ∧ bi ≤ i ∧
  ((bj = -1 ∧ bi = 0 ∧ (Mt ps t ↔ A t ps i j)) ∨
   (∃ b : Nat, bj = b ∧ b + 1 + (i - bi) = j ∧ ps[b]? = some (-1) ∧ ones ps (b + 1) j ∧ (Mt ps t ↔ A t ps bi b) ∧ (A t ps bi (b + 1) ↔ A t ps i j)))
theorem Inv.start (t ps : List Int) : Inv t ps 0 0 0 (-1) := ⟨by omega, by omega, by omega, .inl ⟨rfl, rfl, by simp [A]⟩⟩
theorem Inv.many {t ps : List Int} {i j bi : Nat} {bj : Int} (h : Inv t ps i j bi bj) (hp : ps[j]? = some (-1)) : Inv t ps i (j + 1) i j := by
  obtain ⟨h1, h2, h3, h4⟩ := h
  have hj := (List.getElem?_eq_some_iff.1 hp).1
  refine ⟨h1, by omega, Nat.le_refl _, .inr ⟨j, rfl, by omega, hp, fun x a b => by omega, ?_, Iff.rfl⟩⟩
  rcases h4 with ⟨_, _, h⟩ | ⟨b, _, hb, hpb, ho, hm, ha⟩
  · exact h
  · rw [hm]
    constructor
    · intro hx
      obtain ⟨k, k1, k2, hk⟩ := (A_many hpb (by omega)).1 hx
      have hr := run_ones (i - bi) (b + 1) k (by rw [hb]; exact ho) k2 hk
      rw [hb] at hr
      obtain ⟨r1, r2⟩ := hr
      obtain ⟨q, q1, q2, hq⟩ := (A_many hp r1).1 r2
      exact (A_many hp h1).2 ⟨q, by omega, q2, hq⟩
    · intro hx
      exact (A_many hpb (by omega)).2 ⟨bi, Nat.le_refl _, by omega, ha.2 hx⟩
theorem Inv.one {t ps : List Int} {i j bi : Nat} {bj p c : Int} (h : Inv t ps i j bi bj) (hp : ps[j]? = some p) (h1 : p ≠ -1) (hc : t[i]? = some c) (hpc : p = -2 ∨ p = c) : Inv t ps (i + 1) (j + 1) bi bj := by
  obtain ⟨g1, g2, g3, g4⟩ := h
  have hj := (List.getElem?_eq_some_iff.1 hp).1
  have hi := (List.getElem?_eq_some_iff.1 hc).1
  have e : A t ps i j ↔ A t ps (i + 1) (j + 1) := by
    rw [A_one hp h1]
    constructor
    · rintro ⟨c', e1, _, hx⟩; exact hx
    · intro hx; exact ⟨c, hc, hpc, hx⟩
  refine ⟨by omega, by omega, by omega, ?_⟩
  rcases g4 with ⟨a1, a2, a3⟩ | ⟨b, a1, a2, a3, a4, a5, a6⟩
  · exact .inl ⟨a1, a2, a3.trans e⟩
  · refine .inr ⟨b, a1, by omega, a3, fun x x1 x2 => ?_, a5, a6.trans e⟩
    by_cases hx : x = j
    · subst hx; exact ⟨p, hp, h1⟩
    · exact a4 x x1 (by omega)
/-- The parts do not go on here. -/
def stuck (t ps : List Int) (i j : Nat) : Prop := i < t.length ∧ (j = ps.length ∨ ∃ p c, ps[j]? = some p ∧ p ≠ -1 ∧ t[i]? = some c ∧ p ≠ -2 ∧ p ≠ c)
theorem stuck.no {t ps : List Int} {i j : Nat} (h : stuck t ps i j) : ¬ A t ps i j := by
  obtain ⟨hi, h | ⟨p, c, hp, h1, hc, h2, h3⟩⟩ := h
  · rw [A_end (by omega)]; omega
  · rw [A_one hp h1]
    rintro ⟨c', e, h, _⟩
    rw [hc] at e; cases e
    rcases h with h | h
    · exact h2 h
    · exact h3 h
theorem Inv.back {t ps : List Int} {i j bi b : Nat} (h : Inv t ps i j bi (b : Int)) (hs : stuck t ps i j) : Inv t ps (bi + 1) (b + 1) (bi + 1) b ∧ bi + 1 ≤ t.length ∧ b + 1 ≤ ps.length := by
  obtain ⟨g1, g2, g3, g4⟩ := h
  have hi := hs.1
  rcases g4 with ⟨a1, _⟩ | ⟨b', a1, a2, a3, a4, a5, a6⟩
  · omega
  · obtain rfl : b' = b := by omega
    have hb := (List.getElem?_eq_some_iff.1 a3).1
    refine ⟨⟨by omega, by omega, Nat.le_refl _, .inr ⟨b', rfl, by omega, a3, fun x x1 x2 => by omega, ?_, Iff.rfl⟩⟩, by omega, by omega⟩
    rw [a5, A_many a3 (by omega), A_many a3 (by omega)]
    have hn : ¬ A t ps bi (b' + 1) := fun hx => hs.no (a6.1 hx)
    constructor
    · rintro ⟨k, k1, k2, hk⟩
      by_cases e : k = bi
      · subst e; exact absurd hk hn
      · exact ⟨k, by omega, k2, hk⟩
    · rintro ⟨k, k1, k2, hk⟩
      exact ⟨k, by omega, k2, hk⟩
theorem Inv.fail {t ps : List Int} {i j bi : Nat} {bj : Int} (h : Inv t ps i j bi bj) (hs : stuck t ps i j) (hb : bj < 0) : ¬ Mt ps t := by
  obtain ⟨g1, g2, g3, ⟨_, _, a⟩ | ⟨b', a1, _⟩⟩ := h
  · exact fun hx => hs.no (a.1 hx)
  · omega
theorem Inv.fin {t ps : List Int} {i j bi : Nat} {bj : Int} (h : Inv t ps i j bi bj) (hi : ¬ i < t.length) : Mt ps t ↔ A t ps t.length j := by
  obtain ⟨g1, g2, g3, g4⟩ := h
  obtain rfl : i = t.length := by omega
  rcases g4 with ⟨_, _, a⟩ | ⟨b, a1, a2, a3, a4, a5, a6⟩
  · exact a
  · rw [a5]
    constructor
    · intro hx
      obtain ⟨k, k1, k2, hk⟩ := (A_many a3 (by omega)).1 hx
      have hr := run_ones (t.length - bi) (b + 1) k (by rw [a2]; exact a4) k2 hk
      have : k = bi := by omega
      subst this; exact a6.1 hk
    · intro hx
      exact (A_many a3 (by omega)).2 ⟨bi, Nat.le_refl _, by omega, a6.2 hx⟩
theorem tail_many {t ps : List Int} {j : Nat} (h : ps[j]? = some (-1)) : A t ps t.length j ↔ A t ps t.length (j + 1) := by
  rw [A_many h (Nat.le_refl _)]
  constructor
  · rintro ⟨k, k1, k2, hk⟩
    obtain rfl : k = t.length := by omega
    exact hk
  · intro hk; exact ⟨t.length, Nat.le_refl _, Nat.le_refl _, hk⟩
theorem tail_stop {t ps : List Int} {j : Nat} {p : Int} (h : ps[j]? = some p) (hp : p ≠ -1) : ¬ A t ps t.length j := by
  rw [A_one h hp]
  rintro ⟨c, e, _⟩
  have := (List.getElem?_eq_some_iff.1 e).1
  omega
theorem tail_end {t ps : List Int} : A t ps t.length ps.length := (A_end (Nat.le_refl _)).2 (Nat.le_refl _)
end Lk
end Go.Proofs.YtcgnkcehjcednaaDoor
