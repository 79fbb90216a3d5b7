import Derived.WalkKit
import Derived.Test.YtdcdoeolaongkaaGreatDoorP3
import Derived.Test.YtdcdoeolaongkaaGreatDoorProg
import Derived.Test.YtdcdoeolaongkaaGreatDoorP2
import Derived.ProofKit
import Derived.OpenShut
import Derived.WalkLawsBesides
import Derived.Deep.Light
import Derived.WalkSpells
import Derived.Laws.RangeString
import Derived.Laws.RangeAny
import Derived.Lib.OthersKept
import Derived.Deep.QuietTactic
import Derived.BigQuiet
import Derived.Test.YtdcdoeolaongkaaGreatDoorU1
import Derived.Deep.RegionWith
namespace Go.Proofs.YtdcdoeolaongkaaGreatDoor
namespace Lk
set_option linter.unusedVariables false
/-- The parts match the text: -1 stands for any characters, -2 for one, another number for itself. -/
def Mt : List Int → List Int → Prop
  | [], t => t = []
  | p :: ps, t => if p = -1 then ∃ k, k ≤ t.length ∧ Mt ps (t.drop k) else ∃ c t', t = c :: t' ∧ (p = -2 ∨ p = c) ∧ Mt ps t'
theorem mt_many {ps t : List Int} : Mt (-1 :: ps) t ↔ ∃ k, k ≤ t.length ∧ Mt ps (t.drop k) := by simp [Mt]
theorem mt_one {p : Int} {ps t : List Int} (h : p ≠ -1) : Mt (p :: ps) t ↔ ∃ c t', t = c :: t' ∧ (p = -2 ∨ p = c) ∧ Mt ps t' := by rw [Mt, if_neg h]
/-- The beginnings of the text that the parts (the last one first) match. -/
def D (t : List Int) : List Int → Nat → Prop
  | [], i => i = 0
  | p :: r, i => if p = -1 then ∃ j, j ≤ i ∧ D t r j else ∃ j c, i = j + 1 ∧ t[j]? = some c ∧ (p = -2 ∨ p = c) ∧ D t r j
theorem drop_cons {t : List Int} {i : Nat} {c : Int} (h : t[i]? = some c) : t.drop i = c :: t.drop (i + 1) := by
  obtain ⟨hl, e⟩ := List.getElem?_eq_some_iff.1 h
  rw [List.drop_eq_getElem_cons hl, e]
theorem cons_drop {t t' : List Int} {i : Nat} {c : Int} (h : t.drop i = c :: t') : t[i]? = some c ∧ t' = t.drop (i + 1) := by
  have hl : i < t.length := by
    apply Decidable.byContradiction; intro hn
    rw [List.drop_eq_nil_of_le (by omega)] at h; cases h
  rw [List.drop_eq_getElem_cons hl] at h
  injection h with h1 h2
  exact ⟨by rw [List.getElem?_eq_getElem hl, h1], h2.symm⟩
theorem shift (t : List Int) (p : Int) (r ps : List Int) :
    (∃ i, i ≤ t.length ∧ D t r i ∧ Mt (p :: ps) (t.drop i)) ↔ (∃ i, i ≤ t.length ∧ D t (p :: r) i ∧ Mt ps (t.drop i)) := by
  by_cases hp : p = -1
  · subst hp
    constructor
    · rintro ⟨i, hi, hd, hm⟩
      obtain ⟨k, hk, hm⟩ := mt_many.1 hm
      rw [List.drop_drop] at hm
      rw [List.length_drop] at hk
      exact ⟨i + k, by omega, by rw [D, if_pos rfl]; exact ⟨i, by omega, hd⟩, hm⟩
    · rintro ⟨i, hi, hd, hm⟩
      rw [D, if_pos rfl] at hd
      obtain ⟨j, hj, hd⟩ := hd
      refine ⟨j, by omega, hd, mt_many.2 ⟨i - j, by rw [List.length_drop]; omega, ?_⟩⟩
      rw [List.drop_drop, show j + (i - j) = i by omega]; exact hm
  · constructor
    · rintro ⟨i, hi, hd, hm⟩
      obtain ⟨c, t', e, hc, hm⟩ := (mt_one hp).1 hm
      obtain ⟨e1, rfl⟩ := cons_drop e
      have := (List.getElem?_eq_some_iff.1 e1).1
      exact ⟨i + 1, by omega, by rw [D, if_neg hp]; exact ⟨i, c, rfl, e1, hc, hd⟩, hm⟩
    · rintro ⟨i, hi, hd, hm⟩
      rw [D, if_neg hp] at hd
      obtain ⟨j, c, rfl, e1, hc, hd⟩ := hd
      exact ⟨j, by omega, hd, (mt_one hp).2 ⟨c, _, drop_cons e1, hc, hm⟩⟩
theorem shift_all (t : List Int) : ∀ (ps r : List Int), (∃ i, i ≤ t.length ∧ D t r i ∧ Mt ps (t.drop i)) ↔ D t (ps.reverse ++ r) t.length
  | [], r => by
    constructor
    · rintro ⟨i, hi, hd, hm⟩
      have hm : t.drop i = [] := hm
      have : i = t.length := by have := congrArg List.length hm; rw [List.length_drop] at this; simp at this; omega
      subst this; simpa using hd
    · intro h
      exact ⟨t.length, Nat.le_refl _, by simpa using h, by show t.drop t.length = []; simp⟩
  | p :: ps, r => by
    rw [shift, shift_all t ps (p :: r)]
    simp
theorem D_iff (t ps : List Int) : D t ps.reverse t.length ↔ Mt ps t := by
  have := shift_all t ps []
  rw [List.append_nil] at this
  rw [← this]
  constructor
  · rintro ⟨i, hi, hd, hm⟩
    have : i = 0 := hd
    subst this; simpa using hm
  · intro h
    exact ⟨0, by omega, rfl, by simpa using h⟩
/-- From part j and character i on. -/
def A (t ps : List Int) (i j : Nat) : Prop := Mt (ps.drop j) (t.drop i)
theorem dropj {ps : List Int} {j : Nat} {p : Int} (h : ps[j]? = some p) : ps.drop j = p :: ps.drop (j + 1) := drop_cons h
theorem A_many {t ps : List Int} {i j : Nat} (h : ps[j]? = some (-1)) (hi : i ≤ t.length) : A t ps i j ↔ ∃ k, i ≤ k ∧ k ≤ t.length ∧ A t ps k (j + 1) := by
  unfold A
  rw [dropj h, mt_many]
  constructor
  · rintro ⟨k, hk, hm⟩
    rw [List.length_drop] at hk
    rw [List.drop_drop] at hm
    exact ⟨i + k, by omega, by omega, hm⟩
  · rintro ⟨k, h1, h2, hm⟩
    refine ⟨k - i, by rw [List.length_drop]; omega, ?_⟩
    rw [List.drop_drop, show i + (k - i) = k by omega]; exact hm
theorem A_one {t ps : List Int} {i j : Nat} {p : Int} (h : ps[j]? = some p) (hp : p ≠ -1) : A t ps i j ↔ ∃ c, t[i]? = some c ∧ (p = -2 ∨ p = c) ∧ A t ps (i + 1) (j + 1) := by
  unfold A
  rw [dropj h, mt_one hp]
  constructor
  · rintro ⟨c, t', e, hc, hm⟩
    obtain ⟨e1, rfl⟩ := cons_drop e
    exact ⟨c, e1, hc, hm⟩
  · rintro ⟨c, e1, hc, hm⟩
    exact ⟨c, _, drop_cons e1, hc, hm⟩
theorem A_end {t ps : List Int} {i j : Nat} (h : ps.length ≤ j) : A t ps i j ↔ t.length ≤ i := by
  unfold A
  rw [List.drop_eq_nil_of_le h]
  show t.drop i = [] ↔ _
  exact List.drop_eq_nil_iff
/-- Parts a to b stand for one character each. -/
def ones (ps : List Int) (a b : Nat) : Prop := ∀ j, a ≤ j → j < b → ∃ p, ps[j]? = some p ∧ p ≠ -1
theorem run_ones {t ps : List Int} : ∀ (n a k : Nat), ones ps a (a + n) → k ≤ t.length → A t ps k a → k + n ≤ t.length ∧ A t ps (k + n) (a + n)
  | 0, a, k, _, hk, h => ⟨by omega, by simpa using h⟩
  | n + 1, a, k, ho, hk, h => by
    obtain ⟨p, e, hp⟩ := ho a (Nat.le_refl _) (by omega)
    obtain ⟨c, e1, _, h1⟩ := (A_one e hp).1 h
    have hl := (List.getElem?_eq_some_iff.1 e1).1
    have := run_ones n (a + 1) (k + 1) (fun j h1 h2 => ho j (by omega) (by omega)) (by omega) h1
    rw [show k + 1 + n = k + (n + 1) by omega, show a + 1 + n = a + (n + 1) by omega] at this
    exact this
/-- What holds at the head of the loop that goes back: at, piece, backAt, backPiece (-1: none). -/
def Inv (t ps : List Int) (i j bi : Nat) (bj : Int) : Prop :=
  i ≤ t.length ∧ j ≤ ps.length ∧ bi ≤ i ∧
  ((bj = -1 ∧ bi = 0 ∧ (Mt ps t ↔ A t ps i j)) ∨
   (∃ b : Nat, bj = b ∧ b + 1 + (i - bi) = j ∧ ps[b]? = some (-1) ∧ ones ps (b + 1) j ∧ (Mt ps t ↔ A t ps bi b) ∧ (A t ps bi (b + 1) ↔ A t ps i j)))
theorem Inv.start (t ps : List Int) : Inv t ps 0 0 0 (-1) := ⟨by omega, by omega, by omega, .inl ⟨rfl, rfl, by simp [A]⟩⟩
theorem Inv.many {t ps : List Int} {i j bi : Nat} {bj : Int} (h : Inv t ps i j bi bj) (hp : ps[j]? = some (-1)) : Inv t ps i (j + 1) i j := by
  obtain ⟨h1, h2, h3, h4⟩ := h
  have hj := (List.getElem?_eq_some_iff.1 hp).1
  refine ⟨h1, by omega, Nat.le_refl _, .inr ⟨j, rfl, by omega, hp, fun x a b => by omega, ?_, Iff.rfl⟩⟩
  rcases h4 with ⟨_, _, h⟩ | ⟨b, _, hb, hpb, ho, hm, ha⟩
  · exact h
  · rw [hm]
    constructor
    · intro hx
      obtain ⟨k, k1, k2, hk⟩ := (A_many hpb (by omega)).1 hx
      have hr := run_ones (i - bi) (b + 1) k (by rw [hb]; exact ho) k2 hk
      rw [hb] at hr
      obtain ⟨r1, r2⟩ := hr
      obtain ⟨q, q1, q2, hq⟩ := (A_many hp r1).1 r2
      exact (A_many hp h1).2 ⟨q, by omega, q2, hq⟩
    · intro hx
      exact (A_many hpb (by omega)).2 ⟨bi, Nat.le_refl _, by omega, ha.2 hx⟩
theorem Inv.one {t ps : List Int} {i j bi : Nat} {bj p c : Int} (h : Inv t ps i j bi bj) (hp : ps[j]? = some p) (h1 : p ≠ -1) (hc : t[i]? = some c) (hpc : p = -2 ∨ p = c) : Inv t ps (i + 1) (j + 1) bi bj := by
  obtain ⟨g1, g2, g3, g4⟩ := h
  have hj := (List.getElem?_eq_some_iff.1 hp).1
  have hi := (List.getElem?_eq_some_iff.1 hc).1
  have e : A t ps i j ↔ A t ps (i + 1) (j + 1) := by
    rw [A_one hp h1]
    constructor
    · rintro ⟨c', e1, _, hx⟩; exact hx
    · intro hx; exact ⟨c, hc, hpc, hx⟩
  refine ⟨by omega, by omega, by omega, ?_⟩
  rcases g4 with ⟨a1, a2, a3⟩ | ⟨b, a1, a2, a3, a4, a5, a6⟩
  · exact .inl ⟨a1, a2, a3.trans e⟩
  · refine .inr ⟨b, a1, by omega, a3, fun x x1 x2 => ?_, a5, a6.trans e⟩
    by_cases hx : x = j
    · subst hx; exact ⟨p, hp, h1⟩
    · exact a4 x x1 (by omega)
/-- The parts do not go on here. -/
def stuck (t ps : List Int) (i j : Nat) : Prop := i < t.length ∧ (j = ps.length ∨ ∃ p c, ps[j]? = some p ∧ p ≠ -1 ∧ t[i]? = some c ∧ p ≠ -2 ∧ p ≠ c)
theorem stuck.no {t ps : List Int} {i j : Nat} (h : stuck t ps i j) : ¬ A t ps i j := by
  obtain ⟨hi, h | ⟨p, c, hp, h1, hc, h2, h3⟩⟩ := h
  · rw [A_end (by omega)]; omega
  · rw [A_one hp h1]
    rintro ⟨c', e, h, _⟩
    rw [hc] at e; cases e
    rcases h with h | h
    · exact h2 h
    · exact h3 h
theorem Inv.back {t ps : List Int} {i j bi b : Nat} (h : Inv t ps i j bi (b : Int)) (hs : stuck t ps i j) : Inv t ps (bi + 1) (b + 1) (bi + 1) b ∧ bi + 1 ≤ t.length ∧ b + 1 ≤ ps.length := by
  obtain ⟨g1, g2, g3, g4⟩ := h
  have hi := hs.1
  rcases g4 with ⟨a1, _⟩ | ⟨b', a1, a2, a3, a4, a5, a6⟩
  · omega
  · obtain rfl : b' = b := by omega
    have hb := (List.getElem?_eq_some_iff.1 a3).1
    refine ⟨⟨by omega, by omega, Nat.le_refl _, .inr ⟨b', rfl, by omega, a3, fun x x1 x2 => by omega, ?_, Iff.rfl⟩⟩, by omega, by omega⟩
    rw [a5, A_many a3 (by omega), A_many a3 (by omega)]
    have hn : ¬ A t ps bi (b' + 1) := fun hx => hs.no (a6.1 hx)
    constructor
    · rintro ⟨k, k1, k2, hk⟩
      by_cases e : k = bi
      · subst e; exact absurd hk hn
      · exact ⟨k, by omega, k2, hk⟩
    · rintro ⟨k, k1, k2, hk⟩
      exact ⟨k, by omega, k2, hk⟩
theorem Inv.fail {t ps : List Int} {i j bi : Nat} {bj : Int} (h : Inv t ps i j bi bj) (hs : stuck t ps i j) (hb : bj < 0) : ¬ Mt ps t := by
  obtain ⟨g1, g2, g3, ⟨_, _, a⟩ | ⟨b', a1, _⟩⟩ := h
  · exact fun hx => hs.no (a.1 hx)
  · omega
theorem Inv.fin {t ps : List Int} {i j bi : Nat} {bj : Int} (h : Inv t ps i j bi bj) (hi : ¬ i < t.length) : Mt ps t ↔ A t ps t.length j := by
  obtain ⟨g1, g2, g3, g4⟩ := h
  obtain rfl : i = t.length := by omega
  rcases g4 with ⟨_, _, a⟩ | ⟨b, a1, a2, a3, a4, a5, a6⟩
  · exact a
  · rw [a5]
    constructor
    · intro hx
      obtain ⟨k, k1, k2, hk⟩ := (A_many a3 (by omega)).1 hx
      have hr := run_ones (t.length - bi) (b + 1) k (by rw [a2]; exact a4) k2 hk
      have : k = bi := by omega
      subst this; exact a6.1 hk
    · intro hx
      exact (A_many a3 (by omega)).2 ⟨bi, Nat.le_refl _, by omega, a6.2 hx⟩
theorem tail_many {t ps : List Int} {j : Nat} (h : ps[j]? = some (-1)) : A t ps t.length j ↔ A t ps t.length (j + 1) := by
  rw [A_many h (Nat.le_refl _)]
  constructor
  · rintro ⟨k, k1, k2, hk⟩
    obtain rfl : k = t.length := by omega
    exact hk
  · intro hk; exact ⟨t.length, Nat.le_refl _, Nat.le_refl _, hk⟩
theorem tail_stop {t ps : List Int} {j : Nat} {p : Int} (h : ps[j]? = some p) (hp : p ≠ -1) : ¬ A t ps t.length j := by
  rw [A_one h hp]
  rintro ⟨c, e, _⟩
  have := (List.getElem?_eq_some_iff.1 e).1
  omega
theorem tail_end {t ps : List Int} : A t ps t.length ps.length := (A_end (Nat.le_refl _)).2 (Nat.le_refl _)
end Lk
end Go.Proofs.YtdcdoeolaongkaaGreatDoor
namespace Go.Proofs.YtdcdoeolaongkaaGreatDoor
namespace Lk
set_option linter.unusedVariables false
/-- A pattern's pieces: many, any, the character; with a sign that is open or not. -/
def pcs : Bool → List Int → List (Bool × Bool × Int)
  | false, [] => []
  | true, [] => [(false, false, 92)]
  | true, c :: cs => (false, false, c) :: pcs false cs
  | false, c :: cs => if c = 92 then pcs true cs else (c == 37, c == 95, c) :: pcs false cs
def part (x : Bool × Bool × Int) : Int := if x.1 then -1 else if x.2.1 then -2 else x.2.2
def prt (e : Bool) (cs : List Int) : List Int := (pcs e cs).map part
theorem prt_nil : prt false [] = [] := rfl
theorem prt_many (cs : List Int) : prt false (37 :: cs) = -1 :: prt false cs := by simp [prt, pcs, part]
theorem prt_any (cs : List Int) : prt false (95 :: cs) = -2 :: prt false cs := by simp [prt, pcs, part]
theorem prt_esc (d : Int) (cs : List Int) : prt false (92 :: d :: cs) = d :: prt false cs := by simp [prt, pcs, part]
theorem prt_end : prt false [92] = [92] := by simp [prt, pcs, part]
theorem prt_else {c : Int} (cs : List Int) (h1 : c ≠ 37) (h2 : c ≠ 95) (h3 : c ≠ 92) : prt false (c :: cs) = c :: prt false cs := by simp [prt, pcs, part, h1, h2, h3]
theorem pcs_len : ∀ (e : Bool) (cs : List Int), (pcs e cs).length ≤ cs.length + 1
  | false, [] => by simp [pcs]
  | true, [] => by simp [pcs]
  | true, c :: cs => by have := pcs_len false cs; simp [pcs]; omega
  | false, c :: cs => by
    have h1 := pcs_len true cs
    have h2 := pcs_len false cs
    unfold pcs
    split
    · simp; omega
    · simp; omega
theorem pcs_nn : ∀ (e : Bool) (cs : List Int), (∀ c ∈ cs, (0 : Int) ≤ c) → ∀ x ∈ pcs e cs, (0 : Int) ≤ x.2.2
  | false, [], _, x, hx => by simp [pcs] at hx
  | true, [], _, x, hx => by simp [pcs] at hx; subst hx; decide
  | true, c :: cs, h, x, hx => by
    simp only [pcs, List.mem_cons] at hx
    rcases hx with rfl | hx
    · exact h c (by simp)
    · exact pcs_nn false cs (fun d hd => h d (by simp [hd])) x hx
  | false, c :: cs, h, x, hx => by
    unfold pcs at hx
    split at hx
    · exact pcs_nn true cs (fun d hd => h d (by simp [hd])) x hx
    · simp only [List.mem_cons] at hx
      rcases hx with rfl | hx
      · exact h c (by simp)
      · exact pcs_nn false cs (fun d hd => h d (by simp [hd])) x hx
theorem part_many {m a : Bool} {c : Int} (h : 0 ≤ c) : part (m, a, c) = -1 ↔ m = true := by
  cases m <;> cases a <;> simp [part] <;> omega
theorem part_one {a : Bool} {c d : Int} (h : 0 ≤ c) (hd : 0 ≤ d) : (part (false, a, c) = -2 ∨ part (false, a, c) = d) ↔ (a = true ∨ c = d) := by
  cases a <;> simp [part] <;> omega
theorem pcs_get {e : Bool} {cs : List Int} {j : Nat} {x : Bool × Bool × Int} (h : (pcs e cs)[j]? = some x) : (prt e cs)[j]? = some (part x) := by
  simp [prt, h]
theorem prt_len (e : Bool) (cs : List Int) : (prt e cs).length = (pcs e cs).length := by simp [prt]
/-- The rows of the spec's table. -/
theorem D_many {t r : List Int} {i : Nat} : D t (-1 :: r) i ↔ D t r i ∨ (0 < i ∧ D t (-1 :: r) (i - 1)) := by
  simp only [D, if_true]
  constructor
  · rintro ⟨j, hj, hd⟩
    by_cases e : j = i
    · subst e; exact .inl hd
    · exact .inr ⟨by omega, j, by omega, hd⟩
  · rintro (hd | ⟨h, j, hj, hd⟩)
    · exact ⟨i, Nat.le_refl _, hd⟩
    · exact ⟨j, by omega, hd⟩
theorem D_one {t r : List Int} {p c : Int} {i : Nat} (hp : p ≠ -1) (hi : 0 < i) (hc : t[i - 1]? = some c) (h : p = -2 ∨ p = c) : D t (p :: r) i ↔ D t r (i - 1) := by
  rw [D, if_neg hp]
  constructor
  · rintro ⟨j, c', rfl, _, _, hd⟩; simpa using hd
  · intro hd; exact ⟨i - 1, c, by omega, hc, h, hd⟩
theorem D_not {t r : List Int} {p c : Int} {i : Nat} (hp : p ≠ -1) (hi : 0 < i) (hc : t[i - 1]? = some c) (h2 : p ≠ -2) (h3 : p ≠ c) : ¬ D t (p :: r) i := by
  rw [D, if_neg hp]
  rintro ⟨j, c', rfl, e, h, _⟩
  rw [Nat.add_sub_cancel, e] at hc
  cases hc
  rcases h with h | h
  · exact h2 h
  · exact h3 h
theorem D_zero {t r : List Int} {p : Int} (hp : p ≠ -1) : ¬ D t (p :: r) 0 := by
  rw [D, if_neg hp]
  rintro ⟨j, c', e, _⟩; omega
end Lk
end Go.Proofs.YtdcdoeolaongkaaGreatDoor
namespace Go.Proofs.YtdcdoeolaongkaaGreatDoor
namespace Lk
open Go.Lib
set_option linter.unusedVariables false
set_option linter.unusedSimpArgs false
/-- A byte that goes on with a character. -/
def cont (b : Nat) : Prop := 128 ≤ b ∧ b < 192
def encs (l : List Int) : List Nat := l.flatMap fun c => encN c.toNat
theorem encs_nil : encs [] = [] := rfl
theorem encs_cons (c : Int) (l : List Int) : encs (c :: l) = encN c.toNat ++ encs l := by simp [encs]
theorem encs_app (a b : List Int) : encs (a ++ b) = encs a ++ encs b := by simp [encs]
def sane (l : List Int) : Prop := ∀ c ∈ l, (0 : Int) ≤ c ∧ c ≤ 1114111
theorem sane_cons {c : Int} {l : List Int} : sane (c :: l) ↔ (0 ≤ c ∧ c ≤ 1114111) ∧ sane l := by simp [sane]
theorem sane_app {a b : List Int} : sane (a ++ b) ↔ sane a ∧ sane b := by
  constructor
  · intro h; exact ⟨fun c hc => h c (by simp [hc]), fun c hc => h c (by simp [hc])⟩
  · rintro ⟨h, g⟩ c hc
    rcases List.mem_append.1 hc with hc | hc
    · exact h c hc
    · exact g c hc
theorem enc_form {r : Nat} (h : r ≤ 1114111) : ∃ b t, encN r = b :: t ∧ ¬ cont b ∧ ∀ x ∈ t, cont x := by
  unfold encN cont
  split
  · exact ⟨_, _, rfl, by omega, by simp⟩
  split
  · refine ⟨_, _, rfl, by omega, ?_⟩; intro x hx; simp at hx; omega
  split
  · refine ⟨_, _, rfl, by omega, ?_⟩; intro x hx; simp at hx; omega
  · refine ⟨_, _, rfl, by omega, ?_⟩; intro x hx; simp at hx; omega
theorem enc_inj {r q : Nat} (h : r ≤ 1114111) (g : q ≤ 1114111) (e : encN r = encN q) : r = q := by
  unfold encN at e
  split at e <;> split at e <;> (try split at e) <;> (try split at e) <;> (try split at e) <;> (try split at e) <;> simp at e <;> omega
/-- The head of a list, if it has one, begins a character. -/
def starts : List Nat → Prop
  | [] => True
  | b :: _ => ¬ cont b
theorem starts_encs {l : List Int} (h : sane l) : starts (encs l) := by
  cases l with
  | nil => trivial
  | cons c l =>
    obtain ⟨h1, h2⟩ := sane_cons.1 h
    obtain ⟨b, t, e, hb, _⟩ := enc_form (r := c.toNat) (by omega)
    rw [encs_cons, e]; exact hb
/-- Two such lists with the same sum have the same first part. -/
theorem conts_eq : ∀ (t u x y : List Nat), (∀ z ∈ t, cont z) → (∀ z ∈ u, cont z) → starts x → starts y → t ++ x = u ++ y → t = u ∧ x = y
  | [], [], x, y, _, _, _, _, e => ⟨rfl, e⟩
  | [], b :: u, x, y, _, hu, hx, _, e => by
    rw [List.nil_append] at e; subst e; exact absurd (hu b (by simp)) hx
  | a :: t, [], x, y, ht, _, _, hy, e => by
    rw [List.nil_append] at e; subst e; exact absurd (ht a (by simp)) hy
  | a :: t, b :: u, x, y, ht, hu, hx, hy, e => by
    simp only [List.cons_append, List.cons.injEq] at e
    obtain ⟨rfl, e⟩ := e
    obtain ⟨h1, h2⟩ := conts_eq t u x y (fun z hz => ht z (by simp [hz])) (fun z hz => hu z (by simp [hz])) hx hy e
    exact ⟨by rw [h1], h2⟩
theorem encs_inj : ∀ (a b : List Int), sane a → sane b → encs a = encs b → a = b
  | [], [], _, _, _ => rfl
  | [], d :: b, _, hb, e => by
    obtain ⟨h1, h2⟩ := sane_cons.1 hb
    obtain ⟨x, t, ex, _, _⟩ := enc_form (r := d.toNat) (by omega)
    rw [encs_cons, ex] at e; cases e
  | c :: a, [], ha, _, e => by
    obtain ⟨h1, h2⟩ := sane_cons.1 ha
    obtain ⟨x, t, ex, _, _⟩ := enc_form (r := c.toNat) (by omega)
    rw [encs_cons, ex] at e; cases e
  | c :: a, d :: b, ha, hb, e => by
    obtain ⟨h1, h2⟩ := sane_cons.1 ha
    obtain ⟨g1, g2⟩ := sane_cons.1 hb
    obtain ⟨x, t, ex, _, ht⟩ := enc_form (r := c.toNat) (by omega)
    obtain ⟨y, u, ey, _, hu⟩ := enc_form (r := d.toNat) (by omega)
    rw [encs_cons, encs_cons, ex, ey] at e
    simp only [List.cons_append, List.cons.injEq] at e
    obtain ⟨rfl, e⟩ := e
    obtain ⟨k1, k2⟩ := conts_eq t u _ _ ht hu (starts_encs h2) (starts_encs g2) e
    have : encN c.toNat = encN d.toNat := by rw [ex, ey, k1]
    have := enc_inj (by omega) (by omega) this
    rw [encs_inj a b h2 g2 k2, show c = d by omega]
/-- Where a character begins, the list is cut between two characters. -/
theorem encs_cut : ∀ (l : List Int) (x y : List Nat), sane l → starts y → encs l = x ++ y → ∃ a b, l = a ++ b ∧ x = encs a ∧ y = encs b
  | [], x, y, _, _, e => by
    rw [encs_nil] at e
    have := List.append_eq_nil_iff.1 e.symm
    exact ⟨[], [], rfl, this.1, this.2⟩
  | c :: l, x, y, h, hy, e => by
    obtain ⟨h1, h2⟩ := sane_cons.1 h
    obtain ⟨b, t, eb, _, ht⟩ := enc_form (r := c.toNat) (by omega)
    cases x with
    | nil => exact ⟨[], c :: l, rfl, rfl, by simpa using e.symm⟩
    | cons d x =>
      rw [encs_cons, eb] at e
      simp only [List.cons_append, List.cons.injEq] at e
      obtain ⟨rfl, e⟩ := e
      have key : ∃ x', x = t ++ x' ∧ encs l = x' ++ y := by
        clear eb h
        induction t generalizing x with
        | nil => exact ⟨x, rfl, e⟩
        | cons z t ih =>
          cases x with
          | nil =>
            exfalso
            rw [List.nil_append] at e
            rw [← e] at hy
            exact hy (ht z (by simp))
          | cons v x =>
            simp only [List.cons_append, List.cons.injEq] at e
            obtain ⟨rfl, e⟩ := e
            obtain ⟨x', e1, e2⟩ := ih (fun q hq => ht q (by simp [hq])) x e
            exact ⟨x', by rw [e1, List.cons_append], e2⟩
      obtain ⟨x', rfl, e2⟩ := key
      obtain ⟨a, a', rfl, rfl, rfl⟩ := encs_cut l x' y h2 hy e2
      exact ⟨c :: a, a', rfl, by rw [encs_cons, eb]; rfl, rfl⟩
/-- The escaped characters. -/
def escL (l : List Int) : List Int := l.flatMap fun c => if c = 37 ∨ c = 95 ∨ c = 92 then [92, c] else [c]
def escB (l : List Nat) : List Nat := l.flatMap fun b => if b = 37 ∨ b = 95 ∨ b = 92 then [92, b] else [b]
theorem escB_app (a b : List Nat) : escB (a ++ b) = escB a ++ escB b := by simp [escB]
theorem escB_plain : ∀ (l : List Nat), (∀ x ∈ l, 128 ≤ x) → escB l = l
  | [], _ => rfl
  | a :: l, h => by
    have ha := h a (by simp)
    have := escB_plain l (fun x hx => h x (by simp [hx]))
    unfold escB at this ⊢
    rw [List.flatMap_cons, this, if_neg (by omega)]; rfl
theorem esc_one {c : Int} (h0 : 0 ≤ c) (h1 : c ≤ 1114111) : escB (encN c.toNat) = encs (if c = 37 ∨ c = 95 ∨ c = 92 then [92, c] else [c]) := by
  by_cases h : c < 128
  · have e : encN c.toNat = [c.toNat] := by unfold encN; rw [if_pos (by omega)]
    rw [e]
    by_cases hc : c = 37 ∨ c = 95 ∨ c = 92
    · rw [if_pos hc]
      rcases hc with rfl | rfl | rfl <;> decide
    · rw [if_neg hc, encs_cons, encs_nil, e]
      unfold escB
      rw [List.flatMap_cons, if_neg (by omega)]; rfl
  · rw [if_neg (by omega), encs_cons, encs_nil, List.append_nil]
    apply escB_plain
    intro x hx
    unfold encN at hx
    rw [if_neg (by omega)] at hx
    split at hx
    · simp at hx; omega
    split at hx
    · simp at hx; omega
    · simp at hx; omega
theorem esc_encs : ∀ (l : List Int), sane l → escB (encs l) = encs (escL l)
  | [], _ => rfl
  | c :: l, h => by
    obtain ⟨h1, h2⟩ := sane_cons.1 h
    rw [encs_cons, escB_app, esc_one h1.1 h1.2, esc_encs l h2, ← encs_app]; rfl
theorem escL_sane {l : List Int} (h : sane l) : sane (escL l) := by
  intro c hc
  unfold escL at hc
  rw [List.mem_flatMap] at hc
  obtain ⟨d, hd, hc⟩ := hc
  have := h d hd
  split at hc
  · simp at hc; rcases hc with rfl | rfl
    · omega
    · exact this
  · simp at hc; subst hc; exact this
theorem prt_escL : ∀ (l r : List Int), sane l → prt false (escL l ++ r) = l ++ prt false r
  | [], r, _ => rfl
  | c :: l, r, h => by
    obtain ⟨h1, h2⟩ := sane_cons.1 h
    have ih := prt_escL l r h2
    have e : escL (c :: l) = (if c = 37 ∨ c = 95 ∨ c = 92 then [92, c] else [c]) ++ escL l := rfl
    rw [e]
    by_cases hc : c = 37 ∨ c = 95 ∨ c = 92
    · rw [if_pos hc]
      show prt false (92 :: c :: (escL l ++ r)) = _
      rw [prt_esc, ih]; rfl
    · rw [if_neg hc]
      show prt false (c :: (escL l ++ r)) = _
      rw [prt_else _ (by omega) (by omega) (by omega), ih]; rfl
theorem mt_plain : ∀ (l r t : List Int), sane l → (Mt (l ++ r) t ↔ ∃ t', t = l ++ t' ∧ Mt r t')
  | [], r, t, _ => by simp
  | c :: l, r, t, h => by
    obtain ⟨h1, h2⟩ := sane_cons.1 h
    rw [List.cons_append, mt_one (by omega)]
    constructor
    · rintro ⟨d, t', rfl, hd, hm⟩
      obtain ⟨t'', rfl, hm2⟩ := (mt_plain l r t' h2).1 hm
      have : c = d := by omega
      subst this
      exact ⟨t'', rfl, hm2⟩
    · rintro ⟨t', rfl, hm⟩
      exact ⟨c, l ++ t', rfl, .inr rfl, (mt_plain l r _ h2).2 ⟨t', rfl, hm⟩⟩
theorem mt_is {l t : List Int} (h : sane l) : Mt (prt false (escL l)) t ↔ t = l := by
  have := prt_escL l [] h
  rw [List.append_nil] at this
  rw [this, prt_nil, mt_plain l [] t h]
  constructor
  · rintro ⟨t', rfl, hm⟩
    have : t' = [] := hm
    rw [this, List.append_nil]
  · rintro rfl; exact ⟨[], by simp, rfl⟩
theorem mt_in {l t : List Int} (h : sane l) : Mt (prt false (37 :: (escL l ++ [37]))) t ↔ ∃ a b, t = a ++ l ++ b := by
  rw [prt_many, prt_escL l [37] h, prt_many, prt_nil, mt_many]
  constructor
  · rintro ⟨k, hk, hm⟩
    obtain ⟨t', e, _⟩ := (mt_plain l _ _ h).1 hm
    exact ⟨t.take k, t', by rw [List.append_assoc, ← e, List.take_append_drop]⟩
  · rintro ⟨a, b, rfl⟩
    refine ⟨a.length, by simp, (mt_plain l _ _ h).2 ⟨b, by simp, mt_many.2 ⟨b.length, Nat.le_refl _, by simp [Mt]⟩⟩⟩
theorem prt_lines : ∀ (n : Nat), prt false (List.replicate n 95) = List.replicate n (-2)
  | 0 => rfl
  | n + 1 => by rw [List.replicate_succ, prt_any, prt_lines n, List.replicate_succ]
theorem mt_lines : ∀ (n : Nat) (t : List Int), Mt (List.replicate n (-2)) t ↔ t.length = n
  | 0, t => by simp [Mt]
  | n + 1, t => by
    rw [List.replicate_succ, mt_one (by decide)]
    constructor
    · rintro ⟨c, t', rfl, _, hm⟩
      have := (mt_lines n t').1 hm
      simp [this]
    · intro h
      cases t with
      | nil => simp at h
      | cons c t => exact ⟨c, t, rfl, .inl rfl, (mt_lines n t).2 (by simpa using h)⟩
end Lk
end Go.Proofs.YtdcdoeolaongkaaGreatDoor
namespace Go.Proofs.YtdcdoeolaongkaaGreatDoor
namespace Lk
open Go.Lib
set_option linter.unusedVariables false
set_option linter.unusedSimpArgs false
/-- A character's bytes tell how many there are. -/
theorem enc_prefix (r q : Nat) (h : r ≤ 1114111) (g : q ≤ 1114111) (x y : List Nat) (e : encN r ++ x = encN q ++ y) : r = q ∧ x = y := by
  unfold encN at e
  split at e <;> split at e <;> (try split at e) <;> (try split at e) <;> (try split at e) <;> (try split at e) <;> simp at e <;> (first | omega | exact ⟨by omega, by simp_all⟩)
theorem chars_F (s : ByteArray) : ∀ f pos cs, s.size ≤ pos + f → chF s f pos = some cs → bytesN s pos = encs cs ∧ sane cs := by
  intro f
  induction f with
  | zero =>
    intro pos cs hf e
    rw [chF_end s 0 pos (by omega)] at e; simp at e; subst e
    exact ⟨bytes_end s pos (by omega), by intro c hc; cases hc⟩
  | succ f ih =>
    intro pos cs hf e
    by_cases hp : pos < s.size
    · rw [chF, if_pos hp] at e
      by_cases hb : Utf8.decode s pos = (65533, 1)
      · rw [if_pos hb] at e; cases e
      rw [if_neg hb] at e
      obtain ⟨l, e3, e4⟩ := Option.map_eq_some_iff.1 e
      subst e4
      have w1 := decode_width_pos s pos hp
      obtain ⟨i1, i2⟩ := ih (pos + (Utf8.decode s pos).2) l (by omega) e3
      have hr := rune_le s pos
      exact ⟨by rw [dec_bytes s pos hp hb, i1, encs_cons]; rfl, sane_cons.2 ⟨⟨by omega, by omega⟩, i2⟩⟩
    · rw [chF_end s _ pos hp] at e; simp at e; subst e
      exact ⟨bytes_end s pos hp, by intro c hc; cases hc⟩
theorem chars_encs {s : ByteArray} {cs : List Int} (h : chars s = some cs) : bytesN s 0 = encs cs ∧ sane cs := chars_F s s.size 0 cs (by omega) h
theorem bytesN_inj {s t : ByteArray} (h : bytesN s 0 = bytesN t 0) : s = t := by
  unfold bytesN at h
  simp only [List.drop_zero] at h
  have : s.data.toList = t.data.toList := by
    have inj : ∀ (a b : List UInt8), a.map UInt8.toNat = b.map UInt8.toNat → a = b := by
      intro a
      induction a with
      | nil => intro b e; cases b <;> simp_all
      | cons x a ih =>
        intro b e
        cases b with
        | nil => simp at e
        | cons y b =>
          simp only [List.map_cons, List.cons.injEq] at e
          rw [UInt8.toNat_inj.1 e.1, ih b e.2]
    exact inj _ _ h
  obtain ⟨⟨l⟩⟩ := s; obtain ⟨⟨m⟩⟩ := t
  simp at this; rw [this]
/-- Like at a text's own escaped form. -/
theorem like_is {s t p : ByteArray} {cs ct cp : List Int} (hs : chars s = some cs) (ht : chars t = some ct) (hp : chars p = some cp) (e : bytesN p 0 = escB (bytesN t 0)) : Mt (prt false cp) cs ↔ s = t := by
  obtain ⟨s1, s2⟩ := chars_encs hs
  obtain ⟨t1, t2⟩ := chars_encs ht
  obtain ⟨p1, p2⟩ := chars_encs hp
  have : cp = escL ct := encs_inj _ _ p2 (escL_sane t2) (by rw [← p1, e, t1, esc_encs ct t2])
  rw [this, mt_is t2]
  constructor
  · rintro rfl; exact bytesN_inj (by rw [s1, t1])
  · rintro rfl; rw [hs] at ht; cases ht; rfl
theorem like_in {s t p : ByteArray} {cs ct cp : List Int} (hs : chars s = some cs) (ht : chars t = some ct) (hp : chars p = some cp) (e : bytesN p 0 = [37] ++ escB (bytesN t 0) ++ [37]) : Mt (prt false cp) cs ↔ ∃ x y, bytesN s 0 = x ++ bytesN t 0 ++ y := by
  obtain ⟨s1, s2⟩ := chars_encs hs
  obtain ⟨t1, t2⟩ := chars_encs ht
  obtain ⟨p1, p2⟩ := chars_encs hp
  have hz : sane [37] := by intro c hc; simp at hc; omega
  have hq : sane (37 :: (escL ct ++ [37])) := sane_cons.2 ⟨by omega, sane_app.2 ⟨escL_sane t2, hz⟩⟩
  have h37 : encs [37] = [37] := by decide
  have : cp = 37 :: (escL ct ++ [37]) := encs_inj _ _ p2 hq (by rw [← p1, e, t1, esc_encs ct t2, show (37 :: (escL ct ++ [37]) : List Int) = [37] ++ escL ct ++ [37] by simp, encs_app, encs_app, h37])
  rw [this, mt_in t2]
  constructor
  · rintro ⟨a, b, rfl⟩
    exact ⟨encs a, encs b, by rw [s1, t1, encs_app, encs_app]⟩
  · rintro ⟨x, y, h⟩
    by_cases hct : ct = []
    · exact ⟨cs, [], by simp [hct]⟩
    rw [s1, t1, List.append_assoc] at h
    have st : starts (encs ct ++ y) := by
      cases ct with
      | nil => exact absurd rfl hct
      | cons c l =>
        obtain ⟨h1, h2⟩ := sane_cons.1 t2
        obtain ⟨b, t, eb, hb, _⟩ := enc_form (r := c.toNat) (by omega)
        rw [encs_cons, eb]; exact hb
    obtain ⟨a, b, rfl, rfl, eb⟩ := encs_cut cs x _ s2 st h
    have sb := (sane_app.1 s2).2
    -- y begins a character, or is empty: the first part of what is left is ct
    have key : ∀ (l m : List Int) (y : List Nat), sane l → sane m → encs m = encs l ++ y → ∃ r, m = l ++ r := by
      intro l
      induction l with
      | nil => intro m y _ _ _; exact ⟨m, rfl⟩
      | cons c l ih =>
        intro m y hl hm e
        obtain ⟨h1, h2⟩ := sane_cons.1 hl
        obtain ⟨b', t', eb', _, ht'⟩ := enc_form (r := c.toNat) (by omega)
        cases m with
        | nil => rw [encs_nil, encs_cons, eb'] at e; cases e
        | cons d m =>
          obtain ⟨g1, g2⟩ := sane_cons.1 hm
          rw [encs_cons, encs_cons, List.append_assoc] at e
          have pre := enc_prefix c.toNat d.toNat (by omega) (by omega) _ _ e.symm
          obtain ⟨q1, q2⟩ := pre
          obtain ⟨r, rfl⟩ := ih m y h2 g2 q2.symm
          exact ⟨r, by rw [show c = d by omega]; rfl⟩
    obtain ⟨r, rfl⟩ := key ct b y t2 sb (by rw [eb])
    exact ⟨a, r, by rw [List.append_assoc]⟩
theorem like_lines {s p : ByteArray} {cs cp : List Int} {n : Nat} (hs : chars s = some cs) (hp : chars p = some cp) (e : bytesN p 0 = List.replicate n 95) : Mt (prt false cp) cs ↔ cs.length = n := by
  obtain ⟨p1, p2⟩ := chars_encs hp
  have hz : sane (List.replicate n 95) := by intro c hc; have := List.eq_of_mem_replicate hc; omega
  have hen : encs (List.replicate n 95) = List.replicate n 95 := by
    clear e hz
    induction n with
    | zero => rfl
    | succ n ih => rw [List.replicate_succ, encs_cons, ih, List.replicate_succ]; rfl
  have : cp = List.replicate n 95 := encs_inj _ _ p2 hz (by rw [← p1, e, hen])
  rw [this, prt_lines, mt_lines]
end Lk
end Go.Proofs.YtdcdoeolaongkaaGreatDoor
namespace Go.Proofs.YtdcdoeolaongkaaGreatDoor
open Go.ChangeShapes Go.WideShapes Go.ChangeAt Go.RowKit
namespace Lk
set_option linter.unusedVariables false
set_option linter.unusedSimpArgs false
set_option maxRecDepth 100000
theorem info21 : (Tryz.prog.info? 21).map (fun i => (i.zero, i.size, i.bytes)) = some (some (.int .i32 0), 1, 4) := by kernel_rfl
theorem info111 : (Tryz.prog.info? 121).map (fun i => (i.zero, i.size, i.bytes)) = some (some (.agg #[.bool false, .bool false, .int .i32 0]), 3, 8) := by kernel_rfl
/-- A row is kept while a string's iterator goes on. -/
theorem row_iter {w : World} {B e size n k pos : Nat} {v : Value} {xs : List Value} {s : ByteArray} (h : w.ownsRow B e size v n xs) (hk : w.heap[k]? = some (.stringIter s pos)) (q : Nat) : (w.iterAt k s q).ownsRow B e size v n xs := by
  obtain ⟨h1, h2⟩ := h
  refine ⟨h1, ?_⟩
  rcases h2 with a | ⟨g, cap, cur, e1, e2, e3, e4⟩
  · exact .inl a
  · have hne : g ≠ k := by intro hc; rw [hc, hk] at e3; cases e3
    exact .inr ⟨g, cap, cur, e1, e2, (Lib.iterAt_other w k g s q hne).trans e3, e4⟩
theorem row_no_iter {w : World} {B e size n k pos : Nat} {v : Value} {xs : List Value} {s : ByteArray} (h : w.ownsRow B e size v n xs) (hk : w.heap[k]? = some (.stringIter s pos)) : some k ≠ v.ownBlock := by
  rcases h.2 with ⟨rfl, _⟩ | ⟨g, cap, cur, rfl, _, e3, _⟩
  · intro hc; cases hc
  · intro hc
    have : k = g := by simpa [Value.ownBlock] using hc
    rw [← this, hk] at e3; cases e3
theorem three_new (w : World) (x y z : Value) (t : TypeId) : ∀ j u, [x, y, z][j]? = some u → (w.alloc (.cells #[x, y, z] t)).cell? ((⟨w.heap.size, 0, none⟩ : Addr).add j) = some u := by
  intro j u hj
  match j, hj with
  | 0, hj => simp at hj; subst hj; simp [Addr.add]
  | 1, hj => simp at hj; subst hj; simp [Addr.add]
  | 2, hj => simp at hj; subst hj; simp [Addr.add]
  | (j + 3), hj => simp at hj
/-- One step of a range over a well formed text. -/
theorem step_ch {s : ByteArray} {b pos : Nat} {acc cs : List Int} (h : pos < s.size) (hb : s.size ≤ pos + b) (hm : (chF s b pos).map (acc ++ ·) = some cs) :
    (chF s (b - 1) (pos + (Utf8.decode s pos).2)).map ((acc ++ [((Utf8.decode s pos).1 : Int)]) ++ ·) = some cs ∧ pos + (Utf8.decode s pos).2 ≤ s.size ∧ 1 ≤ (Utf8.decode s pos).2 := by
  obtain ⟨f, rfl⟩ : ∃ f, b = f + 1 := ⟨b - 1, by omega⟩
  rw [chF, if_pos h] at hm
  by_cases hd : Utf8.decode s pos = (65533, 1)
  · rw [if_pos hd] at hm; cases hm
  · rw [if_neg hd, Option.map_map] at hm
    refine ⟨?_, (width_le s pos h).1, Lib.decode_width_pos s pos h⟩
    rw [Nat.add_sub_cancel, ← hm]
    congr 1
    funext l
    simp
/-- A row that grows beside an iterator in block g. -/
structure Beside (w : World) (s : ByteArray) (g pos : Nat) (e size : Nat) (v : Value) (n : Nat) (xs : List Value) (wr : World) : Prop where
  it : wr.heap[g]? = some (.stringIter s pos)
  own : wr.ownsRow w.heap.size e size v n xs
  bel : Below w.heap.size w wr
theorem Beside.next {w wr : World} {s : ByteArray} {g pos e size n : Nat} {v : Value} {xs : List Value} (h : Beside w s g pos e size v n xs wr) (hg : w.heap.size ≤ g) (q : Nat) : Beside w s g q e size v n xs (wr.iterAt g s q) :=
  ⟨Lib.iterAt_heap wr g s pos q h.it, row_iter h.own h.it q, Lib.below_iterAt h.bel hg s q⟩
theorem Beside.grown {w wr w1 : World} {s : ByteArray} {g pos e size n m : Nat} {v v' : Value} {xs ys : List Value} (h : Beside w s g pos e size v n xs wr) (o : Obj) (hown : w1.ownsRow w.heap.size e size v' m ys) (hgrow : (wr.alloc o).grownBy w1 v.ownBlock) : Beside w s g pos e size v' m ys w1 := by
  have hz := h.bel.size
  have hlt : g < wr.heap.size := (Array.getElem?_eq_some_iff.1 h.it).1
  refine ⟨?_, hown, ?_⟩
  · exact (hgrow.block g (by simp; omega) (row_no_iter h.own h.it)).trans ((Below.heap_alloc _ _ _ hlt).trans h.it)
  · exact (h.bel.alloc hz o).grown hgrow (by simp; omega) (fun j hj => (h.own.lt j hj).1)
def ch32 (l : List Int) : List Value := l.map (Value.int .i32)
def CharsR (s : ByteArray) (cs : List Int) (w : World) (v : Value) (wr : World) : Prop :=
  ∃ (pos b : Nat) (acc : List Int), pos ≤ s.size ∧ s.size ≤ pos + b ∧ acc.length ≤ pos ∧ (chF s b pos).map (acc ++ ·) = some cs ∧ Beside w s w.heap.size pos 21 1 v acc.length (ch32 acc) wr
set_option maxHeartbeats 4000000 in
theorem charsOf_any (s : ByteArray) (cs : List Int) (w : World) (hs : s.size ≤ 1048576) (hc : chars s = some cs) :
    Calls Tryz.prog 72 #[.string s] w fun e w' => ∃ v, e = .returned v ∧ w'.ownsRow w.heap.size 21 1 v cs.length (ch32 cs) ∧ Below w.heap.size w w' := by
  obtain ⟨i0, hi, hz0, hz1, hz2⟩ := info_parts info21
  have HC : Hid (chars s = some cs) := hc
  clear hc
  go_enter Tryz.func72, Tryz.ntmps72
  go_wp2
  go_loopw [3] (fun v wr => CharsR s cs w v wr) (fun _ wr => s.size - wr.iterPos w.heap.size)
  case atStart => exact ⟨0, s.size, [], by omega, by omega, by simp, by rw [← HC.out]; simp [chars], ⟨World.iter_heap w s 0, World.ownsRow_nil _ _ _ _, (Below.refl _ w).alloc (Nat.le_refl _) _⟩⟩
  case round =>
    obtain ⟨pos, b, acc, hp, hb, hacc, hm, hbe⟩ := hrel
    have HM : Hid ((chF s b pos).map (acc ++ ·) = some cs) := hm
    have hmu : wr.iterPos w.heap.size = pos := by simp [World.iterPos, hbe.it]
    clear hm
    by_cases hlt : pos < s.size
    · have hnx : ∀ ty, (Instr.next (.pointer (some ⟨w.heap.size, 0, none⟩)) true ty).run Tryz.prog wr = _ := fun ty => Lib.run_next_any_at wr w.heap.size s pos ty hbe.it hlt
      obtain ⟨S1, S2, S3⟩ := step_ch hlt hb HM.out
      have HS : Hid ((chF s (b - 1) (pos + (Utf8.decode s pos).2)).map ((acc ++ [((Utf8.decode s pos).1 : Int)]) ++ ·) = some cs) := S1
      have hb2 := hbe.next (Nat.le_refl _) (pos + (Utf8.decode s pos).2)
      clear S1 hbe
      generalize (Utf8.decode s pos).2 = K at *
      generalize (Utf8.decode s pos).1 = R at *
      obtain ⟨W, hW⟩ : ∃ W, wr.iterAt w.heap.size s (pos + K) = W := ⟨_, rfl⟩
      rw [hW] at hnx hb2
      have hz := hb2.bel.size
      have hown := hb2.own
      go_wp2_with (at_builtin; refine wpList_append_own _ rfl (.tmp 11) (.tmp 13) 97 rfl w.heap.size 21 i0 (.int .i32 0) 1 4 Tryz.underlying97 hi hz0 hz1 hz2 rfl (by decide) _ _ _ rfl (hown.alloc _) ⟨W.heap.size, 0, none⟩ 1 1 [.int .i32 (R : Int)] rfl rfl (cell_one_new _ _ _) (by intro u hu; simp at hu; subst hu; rfl) (by unfold maxLen; omega) (by omega) (by simp; omega) ?_; intro v' w1 hown' hgrow _)
      have hb3 := hb2.grown _ hown' hgrow
      clear hown' hgrow hown hb2
      go_roundw
      case rel => exact ⟨pos + K, b - 1, acc ++ [(R : Int)], S2, by omega, by simp; omega, HS.out, by simpa [ch32] using hb3⟩
      case measure => rw [hmu, show w1.iterPos w.heap.size = pos + K by simp [World.iterPos, hb3.it]]; omega
    · have hnx : ∀ ty, (Instr.next (.pointer (some ⟨w.heap.size, 0, none⟩)) true ty).run Tryz.prog wr = _ := fun ty => Lib.run_next_end_at wr w.heap.size s pos ty hbe.it hlt
      have HE : Hid (acc = cs) := (by have := HM.out; rw [chF_end s b pos hlt] at this; simpa using this : acc = cs)
      go_wp2
      go_ret
      rw [← HE.out]
      exact ⟨_, rfl, hbe.own, hbe.bel⟩
/-- The cells of a pattern's pieces. -/
def pc3 (l : List (Bool × Bool × Int)) : List Value := l.flatMap fun x => [.bool x.1, .bool x.2.1, .int .i32 x.2.2]
theorem pc3_snoc (l : List (Bool × Bool × Int)) (m a : Bool) (c : Int) : pc3 (l ++ [(m, a, c)]) = pc3 l ++ [.bool m, .bool a, .int .i32 c] := by simp [pc3]
theorem pc3_len (l : List (Bool × Bool × Int)) : (pc3 l).length = l.length * 3 := by
  induction l with
  | nil => rfl
  | cons x l ih => simp [pc3] at ih ⊢; omega
def PiecesR (s : ByteArray) (ps : List (Bool × Bool × Int)) (w : World) (v ev : Value) (wr : World) : Prop :=
  ∃ (pos b : Nat) (esc : Bool) (acc : List (Bool × Bool × Int)) (rest : List Int), ev = .bool esc ∧ pos ≤ s.size ∧ s.size ≤ pos + b ∧ acc.length ≤ pos ∧ Hid (chF s b pos = some rest ∧ acc ++ pcs esc rest = ps) ∧ Beside w s w.heap.size pos 121 3 v acc.length (pc3 acc) wr
/-- One step of a range over a well formed text, by what is left. -/
theorem step_rest {s : ByteArray} {b pos : Nat} {rest : List Int} (h : pos < s.size) (hb : s.size ≤ pos + b) (hm : chF s b pos = some rest) :
    ∃ r, rest = ((Utf8.decode s pos).1 : Int) :: r ∧ chF s (b - 1) (pos + (Utf8.decode s pos).2) = some r ∧ pos + (Utf8.decode s pos).2 ≤ s.size ∧ 1 ≤ (Utf8.decode s pos).2 := by
  obtain ⟨f, rfl⟩ : ∃ f, b = f + 1 := ⟨b - 1, by omega⟩
  rw [chF, if_pos h] at hm
  by_cases hd : Utf8.decode s pos = (65533, 1)
  · rw [if_pos hd] at hm; cases hm
  · rw [if_neg hd] at hm
    obtain ⟨r, hr, e⟩ := Option.map_eq_some_iff.1 hm
    exact ⟨r, e.symm, hr, (width_le s pos h).1, Lib.decode_width_pos s pos h⟩
end Lk
end Go.Proofs.YtdcdoeolaongkaaGreatDoor
namespace Go.Proofs.YtdcdoeolaongkaaGreatDoor
open Go.ChangeShapes Go.WideShapes Go.ChangeAt Go.RowKit
namespace Lk
set_option linter.unusedVariables false
set_option linter.unusedSimpArgs false
set_option maxRecDepth 100000
set_option maxHeartbeats 8000000 in
theorem pieces_any (s : ByteArray) (cs : List Int) (w : World) (hs : s.size ≤ 1048576) (hc : chars s = some cs) :
    Calls Tryz.prog 73 #[.string s] w fun e w' => ∃ v, e = .returned v ∧ w'.ownsRow w.heap.size 121 3 v (pcs false cs).length (pc3 (pcs false cs)) ∧ Below w.heap.size w w' := by
  obtain ⟨i0, hi, hz0, hz1, hz2⟩ := info_parts info111
  have HC : Hid (chF s s.size 0 = some cs) := hc
  clear hc
  obtain ⟨ps, hps⟩ : ∃ ps, pcs false cs = ps := ⟨_, rfl⟩
  have HP : Hid (pcs false cs = ps) := hps
  rw [hps]
  clear hps
  go_enter Tryz.func73, Tryz.ntmps73
  go_wp2
  go_loopw [3, 4] (fun v ev wr => PiecesR s ps w v ev wr) (fun _ _ wr => s.size - wr.iterPos w.heap.size)
  case atStart => exact ⟨0, s.size, false, [], cs, rfl, by omega, by omega, by simp, ⟨HC.out, by rw [← HP.out]; rfl⟩, ⟨World.iter_heap w s 0, World.ownsRow_nil _ _ _ _, (Below.refl _ w).alloc (Nat.le_refl _) _⟩⟩
  case round =>
    obtain ⟨pos, b, esc, acc, rest, rfl, hp, hb, hacc, HM, hbe⟩ := hrel
    have hmu : wr.iterPos w.heap.size = pos := by simp [World.iterPos, hbe.it]
    by_cases hlt : pos < s.size
    · have hnx : ∀ ty, (Instr.next (.pointer (some ⟨w.heap.size, 0, none⟩)) true ty).run Tryz.prog wr = _ := fun ty => Lib.run_next_any_at wr w.heap.size s pos ty hbe.it hlt
      obtain ⟨r, S0, S1, S2, S3⟩ := step_rest hlt hb HM.out.1
      have HS : Hid (chF s (b - 1) (pos + (Utf8.decode s pos).2) = some r) := S1
      have HN : Hid (acc ++ pcs esc (((Utf8.decode s pos).1 : Int) :: r) = ps) := (by rw [← S0]; exact HM.out.2 : acc ++ pcs esc (((Utf8.decode s pos).1 : Int) :: r) = ps)
      have hb2 := hbe.next (Nat.le_refl _) (pos + (Utf8.decode s pos).2)
      clear S1 hbe S0 HM
      generalize (Utf8.decode s pos).2 = K at *
      generalize (Utf8.decode s pos).1 = R at *
      obtain ⟨W, hW⟩ : ∃ W, wr.iterAt w.heap.size s (pos + K) = W := ⟨_, rfl⟩
      rw [hW] at hnx hb2
      have hz := hb2.bel.size
      have hown := hb2.own
      cases esc with
      | true =>
        have HR : Hid ((acc ++ [(false, false, (R : Int))]) ++ pcs false r = ps) := (by rw [← HN.out]; simp [pcs] : (acc ++ [(false, false, (R : Int))]) ++ pcs false r = ps)
        clear HN
        go_wp2_with (at_builtin; refine wpList_append_own _ rfl (.tmp 23) (.tmp 26) 99 rfl w.heap.size 121 i0 (.agg #[.bool false, .bool false, .int .i32 0]) 3 8 Tryz.underlying99 hi hz0 hz1 hz2 rfl (by decide) _ _ _ rfl (hown.alloc _) ⟨W.heap.size, 0, none⟩ 1 1 [.bool false, .bool false, .int .i32 (R : Int)] rfl rfl (three_new _ _ _ _ _) (by intro u hu; simp at hu; rcases hu with rfl | rfl <;> rfl) (by unfold maxLen; omega) (by omega) (by simp; omega) ?_; intro v' w1 hown' hgrow _)
        have hb3 := hb2.grown _ hown' hgrow
        clear hown' hgrow hown hb2
        go_roundw
        case rel => exact ⟨pos + K, b - 1, false, acc ++ [(false, false, (R : Int))], r, rfl, S2, by omega, by simp; omega, ⟨HS.out, HR.out⟩, by rw [pc3_snoc]; simpa using hb3⟩
        case measure => rw [hmu, show w1.iterPos w.heap.size = pos + K by simp [World.iterPos, hb3.it]]; omega
      | false =>
        by_cases h92 : (R : Int) = 92
        · have HR : Hid (acc ++ pcs true r = ps) := (by rw [← HN.out]; simp [pcs, h92] : acc ++ pcs true r = ps)
          have e92 : ((R : Int) == 92) = true := by simpa using h92
          clear HN h92
          go_wp2
          go_roundw
          case rel => exact ⟨pos + K, b - 1, true, acc, r, rfl, S2, by omega, by omega, ⟨HS.out, HR.out⟩, hb2⟩
          case measure => rw [hmu, show W.iterPos w.heap.size = pos + K by simp [World.iterPos, hb2.it]]; omega
        · have HR : Hid ((acc ++ [(((R : Int) == 37), ((R : Int) == 95), (R : Int))]) ++ pcs false r = ps) := (by rw [← HN.out]; simp [pcs, h92] : (acc ++ [(((R : Int) == 37), ((R : Int) == 95), (R : Int))]) ++ pcs false r = ps)
          have e92 : ((R : Int) == 92) = false := by simpa using h92
          clear HN h92
          go_wp2_with (at_builtin; refine wpList_append_own _ rfl (.tmp 12) (.tmp 19) 99 rfl w.heap.size 121 i0 (.agg #[.bool false, .bool false, .int .i32 0]) 3 8 Tryz.underlying99 hi hz0 hz1 hz2 rfl (by decide) _ _ _ rfl (hown.alloc _) ⟨W.heap.size, 0, none⟩ 1 1 [.bool ((R : Int) == 37), .bool ((R : Int) == 95), .int .i32 (R : Int)] rfl rfl (three_new _ _ _ _ _) (by intro u hu; simp at hu; rcases hu with rfl | rfl | rfl <;> rfl) (by unfold maxLen; omega) (by omega) (by simp; omega) ?_; intro v' w1 hown' hgrow _)
          have hb3 := hb2.grown _ hown' hgrow
          clear hown' hgrow hown hb2
          go_roundw
          case rel => exact ⟨pos + K, b - 1, false, acc ++ [(((R : Int) == 37), ((R : Int) == 95), (R : Int))], r, rfl, S2, by omega, by simp; omega, ⟨HS.out, HR.out⟩, by rw [pc3_snoc]; simpa using hb3⟩
          case measure => rw [hmu, show w1.iterPos w.heap.size = pos + K by simp [World.iterPos, hb3.it]]; omega
    · have hnx : ∀ ty, (Instr.next (.pointer (some ⟨w.heap.size, 0, none⟩)) true ty).run Tryz.prog wr = _ := fun ty => Lib.run_next_end_at wr w.heap.size s pos ty hbe.it hlt
      have HE : Hid (acc ++ pcs esc [] = ps) := (by obtain ⟨a1, a2⟩ := HM.out; rw [chF_end s b pos hlt] at a1; cases a1; exact a2 : acc ++ pcs esc [] = ps)
      have hz := hbe.bel.size
      have hown := hbe.own
      clear HM
      cases esc with
      | false =>
        have HE2 : Hid (acc = ps) := (by have := HE.out; simpa [pcs] using this : acc = ps)
        clear HE
        go_wp2
        go_ret
        rw [← HE2.out]
        exact ⟨_, rfl, hbe.own, hbe.bel⟩
      | true =>
        have HE2 : Hid (acc ++ [(false, false, (92 : Int))] = ps) := HE.out
        clear HE
        go_wp2_with (at_builtin; refine wpList_append_own _ rfl (.tmp 32) (.tmp 34) 99 rfl w.heap.size 121 i0 (.agg #[.bool false, .bool false, .int .i32 0]) 3 8 Tryz.underlying99 hi hz0 hz1 hz2 rfl (by decide) _ _ _ rfl (hown.alloc _) ⟨wr.heap.size, 0, none⟩ 1 1 [.bool false, .bool false, .int .i32 92] rfl rfl (three_new _ _ _ _ _) (by intro u hu; simp at hu; rcases hu with rfl | rfl <;> rfl) (by unfold maxLen; omega) (by omega) (by simp; omega) ?_; intro v' w1 hown' hgrow _)
        have hb3 := hbe.grown _ hown' hgrow
        clear hown' hgrow hown hbe
        go_ret
        rw [← HE2.out]
        exact ⟨_, rfl, by rw [pc3_snoc]; simpa using hb3.own, hb3.bel⟩
end Lk
end Go.Proofs.YtdcdoeolaongkaaGreatDoor
namespace Go.Proofs.YtdcdoeolaongkaaGreatDoor
open Go.ChangeShapes Go.WideShapes Go.ChangeAt Go.RowKit
namespace Lk
set_option linter.unusedVariables false
set_option linter.unusedSimpArgs false
set_option maxRecDepth 100000
theorem row_cell {w : World} {b e s g n c : Nat} {xs : List Value} {u : Value} {j : Nat} (h : w.ownsRow b e s (.slice (some ⟨g, 0, none⟩) n c) n xs) (hj : xs[j]? = some u) : w.cell? ⟨g, j, none⟩ = some u := by
  have := h.cells rfl j u hj
  by_cases hz : j = 0
  · subst hz; simpa [Addr.add] using this
  · simpa [Addr.add, hz] using this
/-- Characters that lie readable. -/
def RdT (w : World) (v : Value) (t : List Int) : Prop :=
  ∃ (a : Option Addr) (cap : Nat), v = .slice a t.length cap ∧ ∀ i (h : i < t.length), ∃ g, a = some ⟨g, 0, none⟩ ∧ g < w.heap.size ∧ w.cell? ⟨g, i, none⟩ = some (.int .i32 t[i])
/-- Pieces that lie readable. -/
def RdP (w : World) (v : Value) (ps : List (Bool × Bool × Int)) : Prop :=
  ∃ (a : Option Addr) (cap : Nat), v = .slice a ps.length cap ∧ ∀ j (h : j < ps.length), ∃ g, a = some ⟨g, 0, none⟩ ∧ g < w.heap.size ∧ w.cell? ⟨g, j * 3, none⟩ = some (.bool ps[j].1) ∧ w.cell? ⟨g, j * 3 + 1, none⟩ = some (.bool ps[j].2.1) ∧ w.cell? ⟨g, j * 3 + 2, none⟩ = some (.int .i32 ps[j].2.2)
theorem RdT.of_own {w : World} {b : Nat} {v : Value} {t : List Int} (h : w.ownsRow b 21 1 v t.length (ch32 t)) : RdT w v t := by
  have h0 := h
  rcases h.2 with ⟨rfl, e⟩ | ⟨g, cap, cur, rfl, _, hg, _⟩
  · exact ⟨none, 0, by rw [e], fun i hi => by omega⟩
  · refine ⟨_, cap, rfl, fun i hi => ⟨g, rfl, (Array.getElem?_eq_some_iff.1 hg).1, row_cell h0 ?_⟩⟩
    simp [ch32, hi]
theorem pc3_get : ∀ (ps : List (Bool × Bool × Int)) (j : Nat) (h : j < ps.length), (pc3 ps)[j * 3]? = some (.bool ps[j].1) ∧ (pc3 ps)[j * 3 + 1]? = some (.bool ps[j].2.1) ∧ (pc3 ps)[j * 3 + 2]? = some (.int .i32 ps[j].2.2)
  | x :: ps, 0, _ => by simp [pc3]
  | x :: ps, j + 1, h => by
    have ih := pc3_get ps j (by simpa using h)
    have e : pc3 (x :: ps) = .bool x.1 :: .bool x.2.1 :: .int .i32 x.2.2 :: pc3 ps := by simp [pc3]
    rw [e, show (j + 1) * 3 = j * 3 + 3 by omega]
    simpa using ih
theorem RdP.of_own {w : World} {b : Nat} {v : Value} {ps : List (Bool × Bool × Int)} (h : w.ownsRow b 121 3 v ps.length (pc3 ps)) : RdP w v ps := by
  have h0 := h
  rcases h.2 with ⟨rfl, e⟩ | ⟨g, cap, cur, rfl, _, hg, _⟩
  · exact ⟨none, 0, by rw [e], fun i hi => by omega⟩
  · refine ⟨_, cap, rfl, fun j hj => ?_⟩
    obtain ⟨q0, q1, q2⟩ := pc3_get ps j hj
    exact ⟨g, rfl, (Array.getElem?_eq_some_iff.1 hg).1, row_cell h0 q0, row_cell h0 q1, row_cell h0 q2⟩
theorem below_drewN {B : Nat} {w w' : World} (h : Below B w w') (n : Nat) : Below B w (w'.drewN n) := ⟨h.os, h.tape, h.output, h.size, h.block⟩
theorem meas_many {L P j bi i : Nat} (h1 : bi ≤ i) (h2 : j < P) : (L - i) * (P + 1) + (P - (j + 1)) < (L - bi) * (P + 1) + (P - j) := by
  have := Nat.mul_le_mul_right (P + 1) (show L - i ≤ L - bi by omega)
  omega
theorem meas_back {L P j bi b : Nat} (h1 : bi < L) : (L - (bi + 1)) * (P + 1) + (P - (b + 1)) < (L - bi) * (P + 1) + (P - j) := by
  have e : L - bi = (L - (bi + 1)) + 1 := by omega
  rw [e, Nat.succ_mul]
  omega
def MatR (t : List Int) (ps : List (Bool × Bool × Int)) (w : World) (vi vj vb vp : Value) (wr : World) : Prop :=
  ∃ (i j bi : Nat) (bj : Int), vi = .int .i64 i ∧ vj = .int .i64 j ∧ vb = .int .i64 bi ∧ vp = .int .i64 bj ∧ Hid (Inv t (ps.map part) i j bi bj) ∧ i ≤ t.length ∧ j ≤ ps.length ∧ bi ≤ i ∧ -1 ≤ bj ∧ bj < ps.length ∧ Below w.heap.size w wr
theorem map_get {ps : List (Bool × Bool × Int)} {j : Nat} (h : j < ps.length) {m a : Bool} {c : Int} (e : ps[j] = (m, a, c)) : (ps.map part)[j]? = some (part (m, a, c)) := by
  simp [h, e]
open Classical in
set_option maxHeartbeats 16000000 in
theorem matches_any (t : List Int) (ps : List (Bool × Bool × Int)) (v0 v1 : Value) (w : World) (ht : RdT w v0 t) (hp : RdP w v1 ps) (hn : ∀ c ∈ t, (0 : Int) ≤ c) (hq : ∀ x ∈ ps, (0 : Int) ≤ x.2.2) (hl : t.length ≤ 1048576) (hk : ps.length ≤ 1048577) :
    Calls Tryz.prog 71 #[v0, v1] w fun e w' => e = .returned (.bool (decide (Mt (ps.map part) t))) ∧ Below w.heap.size w w' := by
  obtain ⟨ta, tc, rfl, HT⟩ := ht
  obtain ⟨pa, pc, rfl, HP⟩ := hp
  have HT' : Hid (∀ i (h : i < t.length), ∃ g, ta = some ⟨g, 0, none⟩ ∧ g < w.heap.size ∧ w.cell? ⟨g, i, none⟩ = some (.int .i32 t[i])) := HT
  have HP' : Hid (∀ j (h : j < ps.length), ∃ g, pa = some ⟨g, 0, none⟩ ∧ g < w.heap.size ∧ w.cell? ⟨g, j * 3, none⟩ = some (.bool ps[j].1) ∧ w.cell? ⟨g, j * 3 + 1, none⟩ = some (.bool ps[j].2.1) ∧ w.cell? ⟨g, j * 3 + 2, none⟩ = some (.int .i32 ps[j].2.2)) := HP
  have HN : Hid (∀ c ∈ t, (0 : Int) ≤ c) := hn
  have HQ : Hid (∀ x ∈ ps, (0 : Int) ≤ x.2.2) := hq
  clear HT HP hn hq
  go_enter Tryz.func71, Tryz.ntmps71
  go_wp2
  go_loopw [5, 6, 7, 8] (fun vi vj vb vp wr => MatR t ps w vi vj vb vp wr) (fun _ vj vb _ _ => (t.length - (intOf vb).toNat) * (ps.length + 1) + (ps.length - (intOf vj).toNat))
  case atStart => exact ⟨0, 0, 0, -1, rfl, rfl, rfl, rfl, Inv.start _ _, by omega, by omega, by omega, by omega, by omega, Below.refl _ _⟩
  case round =>
    obtain ⟨i, j, bi, bj, rfl, rfl, rfl, rfl, HI, hi, hj, hbi, hbj, hbk, hbel⟩ := hrel
    by_cases hlt : i < t.length
    · have hlti : (i : Int) < t.length := by omega
      obtain ⟨gt, rfl, hgt, ht0⟩ := HT'.out i hlt
      have ct : ∀ n, (wr.drewN n).cell? ⟨gt, i, none⟩ = some (.int .i32 t[i]) := fun n => (hbel.cell (p := ⟨gt, i, none⟩) hgt).trans ht0
      have hti : 0 ≤ t[i] := HN.out _ (List.getElem_mem hlt)
      have htg : t[i]? = some t[i] := List.getElem?_eq_getElem hlt
      generalize t[i] = tc0 at *
      by_cases hjl : j < ps.length
      · have hjli : (j : Int) < ps.length := by omega
        have hjd : decide ((j : Int) < (ps.length : Int)) = true := by simpa using hjli
        obtain ⟨gp, rfl, hgp, p0, p1, p2⟩ := HP'.out j hjl
        have hpn : 0 ≤ ps[j].2.2 := HQ.out _ (List.getElem_mem hjl)
        have hmap : (ps.map part)[j]? = some (part ps[j]) := by simp [hjl]
        obtain ⟨x, hx⟩ : ∃ x, ps[j] = x := ⟨_, rfl⟩
        rw [hx] at p0 p1 p2 hpn hmap
        clear hx
        obtain ⟨m, a, c⟩ := x
        simp only at p0 p1 p2 hpn
        have q0 : ∀ n, (wr.drewN n).cell? ⟨gp, j * 3, none⟩ = some (.bool m) := fun n => (hbel.cell (p := ⟨gp, j * 3, none⟩) hgp).trans p0
        have q1 : ∀ n, (wr.drewN n).cell? ⟨gp, j * 3 + 1, none⟩ = some (.bool a) := fun n => (hbel.cell (p := ⟨gp, j * 3 + 1, none⟩) hgp).trans p1
        have q2 : ∀ n, (wr.drewN n).cell? ⟨gp, j * 3 + 2, none⟩ = some (.int .i32 c) := fun n => (hbel.cell (p := ⟨gp, j * 3 + 2, none⟩) hgp).trans p2
        have r0 : wr.cell? ⟨gp, j * 3, none⟩ = some (.bool m) := q0 0
        have r1 : wr.cell? ⟨gp, j * 3 + 1, none⟩ = some (.bool a) := q1 0
        have r2 : wr.cell? ⟨gp, j * 3 + 2, none⟩ = some (.int .i32 c) := q2 0
        have rt : wr.cell? ⟨gt, i, none⟩ = some (.int .i32 tc0) := ct 0
        clear p0 p1 p2 ht0
        cases m with
        | true =>
          have HI2 : Hid (Inv t (ps.map part) i (j + 1) i j) := HI.out.many (by rw [hmap]; simp [part])
          clear HI hmap
          go_wp2
          go_roundw
          case rel => exact ⟨i, j + 1, i, j, rfl, by go_num, rfl, rfl, HI2, hi, by omega, Nat.le_refl _, by omega, by omega, hbel⟩
          case measure => have := meas_many (L := t.length) hbi hjl; simpa [intOf] using this
        | false =>
          have hnm : part (false, a, c) ≠ -1 := by rw [ne_eq, part_many hpn]; simp
          by_cases hmt : a = true ∨ c = tc0
          · have HI2 : Hid (Inv t (ps.map part) (i + 1) (j + 1) bi bj) := HI.out.one hmap hnm htg ((part_one hpn hti).2 hmt)
            clear HI hmap
            cases a with
            | true =>
              go_wp2
              go_quiet (fail)
              go_wp2
              go_roundw
              case rel => exact ⟨i + 1, j + 1, bi, bj, by go_num, by go_num, rfl, rfl, HI2, by omega, by omega, by omega, hbj, hbk, below_drewN hbel _⟩
              case measure => simp [intOf]; omega
            | false =>
              have hct : (c == tc0) = true := by simpa using hmt
              clear hmt
              go_wp2
              go_quiet (fail)
              go_wp2
              go_roundw
              case rel => exact ⟨i + 1, j + 1, bi, bj, by go_num, by go_num, rfl, rfl, HI2, by omega, by omega, by omega, hbj, hbk, below_drewN hbel _⟩
              case measure => simp [intOf]; omega
          · have hst : stuck t (ps.map part) i j := ⟨hlt, .inr ⟨_, tc0, hmap, hnm, htg, fun h => hmt ((part_one hpn hti).1 (.inl h)), fun h => hmt ((part_one hpn hti).1 (.inr h))⟩⟩
            have HST : Hid (stuck t (ps.map part) i j) := hst
            obtain ⟨ha, hc⟩ : a = false ∧ (c == tc0) = false := by simpa using hmt
            subst ha
            clear hst hmap hmt
            by_cases hb0 : 0 ≤ bj
            · obtain ⟨b, rfl⟩ : ∃ b : Nat, bj = b := ⟨bj.toNat, by omega⟩
              obtain ⟨i1, i2, i3⟩ := HI.out.back HST.out
              have HI2 : Hid (Inv t (ps.map part) (bi + 1) (b + 1) (bi + 1) b) := i1
              simp at i3
              clear i1 HI HST
              go_wp2
              go_quiet (fail)
              go_wp2
              go_roundw
              case rel => exact ⟨bi + 1, b + 1, bi + 1, b, by go_num, by go_num, by go_num, rfl, HI2, by omega, by omega, Nat.le_refl _, by omega, by omega, below_drewN hbel _⟩
              case measure => have := meas_back (L := t.length) (P := ps.length) (j := j) (bi := bi) (b := b) (by omega); simpa [intOf] using this
            · have HF : Hid (¬ Mt (ps.map part) t) := HI.out.fail HST.out (by omega)
              clear HI HST
              go_wp2
              go_quiet (fail)
              go_wp2
              go_ret
              exact ⟨by rw [decide_eq_false HF.out]; rfl, below_drewN hbel _⟩
      · have hjli : ¬ (j : Int) < ps.length := by omega
        have hjd : decide ((j : Int) < (ps.length : Int)) = false := by simpa using hjli
        have hst : stuck t (ps.map part) i j := ⟨hlt, .inl (by simp; omega)⟩
        have HST : Hid (stuck t (ps.map part) i j) := hst
        clear hst
        by_cases hb0 : 0 ≤ bj
        · obtain ⟨b, rfl⟩ : ∃ b : Nat, bj = b := ⟨bj.toNat, by omega⟩
          obtain ⟨i1, i2, i3⟩ := HI.out.back HST.out
          have HI2 : Hid (Inv t (ps.map part) (bi + 1) (b + 1) (bi + 1) b) := i1
          simp at i3
          clear i1 HI HST
          go_wp2
          go_quiet (fail)
          go_wp2
          go_roundw
          case rel => exact ⟨bi + 1, b + 1, bi + 1, b, by go_num, by go_num, by go_num, rfl, HI2, by omega, by omega, Nat.le_refl _, by omega, by omega, below_drewN hbel _⟩
          case measure => have := meas_back (L := t.length) (P := ps.length) (j := j) (bi := bi) (b := b) (by omega); simpa [intOf] using this
        · have HF : Hid (¬ Mt (ps.map part) t) := HI.out.fail HST.out (by omega)
          clear HI HST
          go_wp2
          go_quiet (fail)
          go_wp2
          go_ret
          exact ⟨by rw [decide_eq_false HF.out]; rfl, below_drewN hbel _⟩
    · have hlti : ¬ (i : Int) < t.length := by omega
      have HF : Hid (Mt (ps.map part) t ↔ A t (ps.map part) t.length j) := HI.out.fin hlt
      clear HI
      go_wp2
      go_loopw [6] (fun vj wr => ∃ j : Nat, vj = .int .i64 j ∧ j ≤ ps.length ∧ Hid (Mt (ps.map part) t ↔ A t (ps.map part) t.length j) ∧ Below w.heap.size w wr) (fun vj _ => ps.length - (intOf vj).toNat)
      case atStart => exact ⟨j, rfl, hj, HF, hbel⟩
      case round =>
        clear hbel HF hj
        obtain ⟨j, rfl, hj, HF, hbel⟩ := hrel
        by_cases hjl : j < ps.length
        · have hjli : (j : Int) < ps.length := by omega
          obtain ⟨gp, rfl, hgp, p0, p1, p2⟩ := HP'.out j hjl
          have hpn : 0 ≤ ps[j].2.2 := HQ.out _ (List.getElem_mem hjl)
          have hmap : (ps.map part)[j]? = some (part ps[j]) := by simp [hjl]
          obtain ⟨x, hx⟩ : ∃ x, ps[j] = x := ⟨_, rfl⟩
          rw [hx] at p0 hpn hmap
          clear hx p1 p2
          obtain ⟨m, a, c⟩ := x
          simp only at p0 hpn
          have r0 : wr.cell? ⟨gp, j * 3, none⟩ = some (.bool m) := (hbel.cell (p := ⟨gp, j * 3, none⟩) hgp).trans p0
          clear p0
          cases m with
          | true =>
            have HF2 : Hid (Mt (ps.map part) t ↔ A t (ps.map part) t.length (j + 1)) := HF.out.trans (tail_many (by rw [hmap]; simp [part]))
            clear HF hmap
            go_wp2
            go_roundw
            case rel => exact ⟨j + 1, by go_num, by omega, HF2, hbel⟩
            case measure => simp [intOf]; omega
          | false =>
            have HF2 : Hid (¬ Mt (ps.map part) t) := fun h => tail_stop hmap (by rw [ne_eq, part_many hpn]; simp) (HF.out.1 h)
            have hje : ((j : Int) == (ps.length : Int)) = false := by simp; omega
            clear HF hmap
            go_wp2
            go_ret
            exact ⟨by rw [decide_eq_false HF2.out]; simp [hje], hbel⟩
        · have hjli : ¬ (j : Int) < ps.length := by omega
          obtain rfl : j = ps.length := by omega
          have HF2 : Hid (Mt (ps.map part) t) := HF.out.2 (by have := tail_end (t := t) (ps := ps.map part); simpa using this)
          clear HF
          go_wp2
          go_ret
          exact ⟨by rw [decide_eq_true HF2.out]; simp, hbel⟩
end Lk
end Go.Proofs.YtdcdoeolaongkaaGreatDoor
namespace Go.Proofs.YtdcdoeolaongkaaGreatDoor
open Go.ChangeShapes Go.WideShapes Go.ChangeAt Go.RowKit Go.Shelf
namespace Lk
set_option linter.unusedVariables false
set_option linter.unusedSimpArgs false
set_option maxRecDepth 100000
theorem undrew {W w' : World} (hb : Below W.drew.heap.size W.drew w') : Below W.heap.size W w' := (Below.refl W.heap.size W).drew.trans hb
theorem chain {w W w' : World} (h : Below w.heap.size w W) (hb : Below W.heap.size W w') : Below w.heap.size w w' := h.trans (hb.mono h.size)
theorem RdT.below {w w' : World} {v : Value} {t : List Int} (h : RdT w v t) (hb : Below w.heap.size w w') : RdT w' v t := by
  obtain ⟨a, cap, rfl, hc⟩ := h
  refine ⟨a, cap, rfl, fun i hi => ?_⟩
  obtain ⟨g, e, hg, hx⟩ := hc i hi
  exact ⟨g, e, Nat.lt_of_lt_of_le hg hb.size, (hb.cell (p := ⟨g, i, none⟩) hg).trans hx⟩
theorem RdP.below {w w' : World} {v : Value} {t : List (Bool × Bool × Int)} (h : RdP w v t) (hb : Below w.heap.size w w') : RdP w' v t := by
  obtain ⟨a, cap, rfl, hc⟩ := h
  refine ⟨a, cap, rfl, fun i hi => ?_⟩
  obtain ⟨g, e, hg, h0, h1, h2⟩ := hc i hi
  exact ⟨g, e, Nat.lt_of_lt_of_le hg hb.size, (hb.cell (p := ⟨g, i * 3, none⟩) hg).trans h0, (hb.cell (p := ⟨g, i * 3 + 1, none⟩) hg).trans h1, (hb.cell (p := ⟨g, i * 3 + 2, none⟩) hg).trans h2⟩
theorem chF_nn (s : ByteArray) : ∀ (f pos : Nat) (l : List Int), chF s f pos = some l → ∀ c ∈ l, (0 : Int) ≤ c
  | 0, pos, l, h, c, hc => by
    unfold chF at h
    split at h
    · cases h
    · cases h; cases hc
  | f + 1, pos, l, h, c, hc => by
    unfold chF at h
    split at h
    · split at h
      · cases h
      · obtain ⟨r, hr, rfl⟩ := Option.map_eq_some_iff.1 h
        rcases List.mem_cons.1 hc with rfl | hc
        · omega
        · exact chF_nn s f _ r hr c hc
    · cases h; cases hc
theorem chars_nn {s : ByteArray} {cs : List Int} (h : chars s = some cs) : ∀ c ∈ cs, (0 : Int) ≤ c := chF_nn s s.size 0 cs h
theorem fits_any (k t : Int) (w : World) : Calls Tryz.prog 70 #[.int .i64 k, .int .i64 t] w fun e w' => e = .returned (.bool (k == t || k == 0)) ∧ w' = w := by
  go_enter Tryz.func70, Tryz.ntmps70
  go_wp2
  all_goals
    go_ret
    refine ⟨ret_bool ?_, rfl⟩
    go_light
    grind
open Classical in
/-- What Like answers: kind, number, code. -/
noncomputable def likeR (k1 n1 : Int) (s1 : ByteArray) (k2 n2 : Int) (s2 : ByteArray) : Int × Int × Int :=
  if vok k1 n1 s1 = false ∨ vok k2 n2 s2 = false then (0, 0, 1)
  else if ¬ (k1 = 3 ∨ k1 = 0) ∨ ¬ (k2 = 3 ∨ k2 = 0) then (0, 0, 10)
  else if k1 = 0 ∨ k2 = 0 then (0, 0, 0)
  else (4, zB (decide (Mt (prt false ((chars s2).getD [])) ((chars s1).getD []))), 0)
def likeV (r : Int × Int × Int) : Value := .tuple #[.agg #[.int .i64 r.1, .int .i64 r.2.1, .string ⟨#[]⟩], .int .i64 r.2.2]
theorem vok_text {n : Int} {s : ByteArray} (h : vok 3 n s = true) : ∃ cs, chars s = some cs ∧ cs.length ≤ 255 := by
  simp [vok] at h
  have h2 := h.2
  unfold textOK at h2
  cases e : chars s with
  | none => rw [e] at h2; cases h2
  | some cs => rw [e] at h2; exact ⟨cs, rfl, by simpa using h2⟩
theorem vok_range {k n : Int} {s : ByteArray} (h : vok k n s = true) : 0 ≤ k ∧ k ≤ 5 := by
  unfold vok at h
  by_cases e : k = 0 ∨ k = 1 ∨ k = 2 ∨ k = 3 ∨ k = 4 ∨ k = 5
  · omega
  · rw [if_neg (by omega), if_neg (by omega), if_neg (by omega), if_neg (by omega), if_neg (by omega), if_neg (by omega)] at h; cases h
open Classical in
set_option maxHeartbeats 16000000 in
theorem like_impl (k1 n1 : Int) (s1 : ByteArray) (k2 n2 : Int) (s2 : ByteArray) (w : World) (hs1 : s1.size ≤ 1048576) (hs2 : s2.size ≤ 1048576) (hT : Tabs w) :
    Calls Tryz.prog 30 #[.agg #[.int .i64 k1, .int .i64 n1, .string s1], .agg #[.int .i64 k2, .int .i64 n2, .string s2]] w fun e w' => e = .returned (likeV (likeR k1 n1 s1 k2 n2 s2)) ∧ Below w.heap.size w w' := by
  have bw0 : Below w.heap.size w (((w.alloc (.cells #[.int .i64 k1, .int .i64 n1, .string s1] 29)).alloc (.cells #[.int .i64 k2, .int .i64 n2, .string s2] 29)).alloc (.cells #[.int .i64 0, .int .i64 0, .string ⟨#[]⟩] 29)) := ((below_alloc w _).alloc (by simp) _).alloc (by simp; omega) _
  cases hv1 : vok k1 n1 s1 with
  | false =>
    have HV1 : Hid (vok k1 n1 s1 = false) := hv1
    have HR : Hid (likeR k1 n1 s1 k2 n2 s2 = (0, 0, 1)) := (by unfold likeR; rw [if_pos (.inl hv1)] : likeR k1 n1 s1 k2 n2 s2 = (0, 0, 1))
    rw [HR.out]
    clear hv1
    go_enter Tryz.func30, Tryz.ntmps30
    go_wp2_with fail
    refine (vok_impl k1 n1 s1 _ hs1 (tabs_below hT bw0)).mono ?_
    rw [HV1.out]
    rintro e w1 ⟨rfl, hb⟩
    obtain ⟨hc, hf⟩ := bcell hb
    have bw1 : Below w.heap.size w w1 := bw0.trans (hb.mono (by simp; omega))
    have hx1 : w.heap.size + 1 + 1 < w1.heap.size := by have := hb.size; simp at this; omega
    have hz1 : w.heap.size + 1 < w1.heap.size := by omega
    have hy1 : w.heap.size < w1.heap.size := by omega
    go_wp2
    refine bodyPost_ret (v := likeV (0, 0, 1)) (by simp [results, Tryz.results30, go_sem, likeV, hc, hf, hx1, hz1, hy1]) rfl ⟨rfl, ?_⟩
    refine bw1.trans ?_
    (go_light; repeat (first | with_reducible exact Below.refl _ _ | (with_reducible refine Below.setCell ?_ ?_ _; rotate_left; (focus first | (simp; done) | (simp; omega) | omega)) | (with_reducible refine Below.alloc ?_ ?_ _; rotate_left; (focus first | (simp; done) | (simp; omega) | omega)) | with_reducible refine Below.drew ?_))
  | true =>
  cases hv2 : vok k2 n2 s2 with
  | false =>
    have HV1 : Hid (vok k1 n1 s1 = true) := hv1
    have HV2 : Hid (vok k2 n2 s2 = false) := hv2
    have HR : Hid (likeR k1 n1 s1 k2 n2 s2 = (0, 0, 1)) := (by unfold likeR; rw [if_pos (.inr hv2)] : likeR k1 n1 s1 k2 n2 s2 = (0, 0, 1))
    rw [HR.out]
    clear hv1 hv2
    go_enter Tryz.func30, Tryz.ntmps30
    go_wp2_with fail
    refine (vok_impl k1 n1 s1 _ hs1 (tabs_below hT bw0)).mono ?_
    rw [HV1.out]
    rintro e w1 ⟨rfl, hb⟩
    obtain ⟨hc, hf⟩ := bcell hb
    have bw1 : Below w.heap.size w w1 := bw0.trans (hb.mono (by simp; omega))
    have hx1 : w.heap.size + 1 + 1 < w1.heap.size := by have := hb.size; simp at this; omega
    have hz1 : w.heap.size + 1 < w1.heap.size := by omega
    have hy1 : w.heap.size < w1.heap.size := by omega
    go_wp2_with fail
    refine (vok_impl k2 n2 s2 _ hs2 (tabs_below hT bw1)).mono ?_
    rw [HV2.out]
    rintro e w2 ⟨rfl, hb2⟩
    obtain ⟨hc2, hf2⟩ := bcell hb2
    have bw2 : Below w.heap.size w w2 := bw1.trans (hb2.mono bw1.size)
    have hx2 : w.heap.size + 1 + 1 < w2.heap.size := by have := hb2.size; omega
    have hz2 : w.heap.size + 1 < w2.heap.size := by omega
    have hy2 : w.heap.size < w2.heap.size := by omega
    go_wp2
    refine bodyPost_ret (v := likeV (0, 0, 1)) (by simp [results, Tryz.results30, go_sem, likeV, hc, hf, hx1, hz1, hy1, hc2, hf2, hx2, hz2, hy2]) rfl ⟨rfl, ?_⟩
    refine bw2.trans ?_
    (go_light; repeat (first | with_reducible exact Below.refl _ _ | (with_reducible refine Below.setCell ?_ ?_ _; rotate_left; (focus first | (simp; done) | (simp; omega) | omega)) | (with_reducible refine Below.alloc ?_ ?_ _; rotate_left; (focus first | (simp; done) | (simp; omega) | omega)) | with_reducible refine Below.drew ?_))
  | true =>
  have HV1 : Hid (vok k1 n1 s1 = true) := hv1
  have HV2 : Hid (vok k2 n2 s2 = true) := hv2
  have HL : Hid (likeR k1 n1 s1 k2 n2 s2 = if ¬ (k1 = 3 ∨ k1 = 0) ∨ ¬ (k2 = 3 ∨ k2 = 0) then (0, 0, 10) else if k1 = 0 ∨ k2 = 0 then (0, 0, 0) else (4, zB (decide (Mt (prt false ((chars s2).getD [])) ((chars s1).getD []))), 0)) := (by unfold likeR; rw [if_neg (by rw [hv1, hv2]; simp)] : likeR k1 n1 s1 k2 n2 s2 = _)
  have HQ1 : Hid (k1 = 3 → ∃ cs, chars s1 = some cs ∧ cs.length ≤ 255) := (fun e => vok_text (n := n1) (by rw [← e]; exact hv1))
  have HQ2 : Hid (k2 = 3 → ∃ cs, chars s2 = some cs ∧ cs.length ≤ 255) := (fun e => vok_text (n := n2) (by rw [← e]; exact hv2))
  clear hv1 hv2
  by_cases t1 : k1 = 3 ∨ k1 = 0
  · have e1 : (k1 == 3 || k1 == 0) = true := by simpa using t1
    by_cases t2 : k2 = 3 ∨ k2 = 0
    · have e2 : (k2 == 3 || k2 == 0) = true := by simpa using t2
      by_cases z1 : k1 = 0
      · have HR : Hid (likeR k1 n1 s1 k2 n2 s2 = (0, 0, 0)) := (by rw [HL.out, if_neg (by simp [t1, t2]), if_pos (.inl z1)] : likeR k1 n1 s1 k2 n2 s2 = (0, 0, 0))
        rw [HR.out]
        have y1 : (k1 == 0) = true := by simpa using z1
        clear t1 t2 z1 HL HQ1 HQ2
        go_enter Tryz.func30, Tryz.ntmps30
        go_wp2_with fail
        refine (vok_impl k1 n1 s1 _ hs1 (tabs_below hT bw0)).mono ?_
        rw [HV1.out]
        rintro e w1 ⟨rfl, hb⟩
        obtain ⟨hc, hf⟩ := bcell hb
        have bw1 : Below w.heap.size w w1 := bw0.trans (hb.mono (by simp; omega))
        have hx1 : w.heap.size + 1 + 1 < w1.heap.size := by have := hb.size; simp at this; omega
        have hz1 : w.heap.size + 1 < w1.heap.size := by omega
        have hy1 : w.heap.size < w1.heap.size := by omega
        go_wp2_with fail
        refine (vok_impl k2 n2 s2 _ hs2 (tabs_below hT bw1)).mono ?_
        rw [HV2.out]
        rintro e w2 ⟨rfl, hb2⟩
        obtain ⟨hc2, hf2⟩ := bcell hb2
        have bw2 : Below w.heap.size w w2 := bw1.trans (hb2.mono bw1.size)
        have hx2 : w.heap.size + 1 + 1 < w2.heap.size := by have := hb2.size; omega
        have hz2 : w.heap.size + 1 < w2.heap.size := by omega
        have hy2 : w.heap.size < w2.heap.size := by omega
        go_wp2_with (go_at_call 70; refine (fits_any _ _ _).mono ?_; (try rw [e1]); (try rw [e2]); rintro e w' ⟨rfl, rfl⟩)
        refine bodyPost_ret (v := likeV (0, 0, 0)) (by simp [results, Tryz.results30, go_sem, likeV, hc, hf, hx1, hz1, hy1, hc2, hf2, hx2, hz2, hy2]) rfl ⟨rfl, ?_⟩
        refine bw2.trans ?_
        (go_light; repeat (first | with_reducible exact Below.refl _ _ | (with_reducible refine Below.setCell ?_ ?_ _; rotate_left; (focus first | (simp; done) | (simp; omega) | omega)) | (with_reducible refine Below.alloc ?_ ?_ _; rotate_left; (focus first | (simp; done) | (simp; omega) | omega)) | with_reducible refine Below.drew ?_))
      · have y1 : (k1 == 0) = false := by simpa using z1
        by_cases z2 : k2 = 0
        · have HR : Hid (likeR k1 n1 s1 k2 n2 s2 = (0, 0, 0)) := (by rw [HL.out, if_neg (by simp [t1, t2]), if_pos (.inr z2)] : likeR k1 n1 s1 k2 n2 s2 = (0, 0, 0))
          rw [HR.out]
          have y2 : (k2 == 0) = true := by simpa using z2
          clear t1 t2 z1 z2 HL HQ1 HQ2
          go_enter Tryz.func30, Tryz.ntmps30
          go_wp2_with fail
          refine (vok_impl k1 n1 s1 _ hs1 (tabs_below hT bw0)).mono ?_
          rw [HV1.out]
          rintro e w1 ⟨rfl, hb⟩
          obtain ⟨hc, hf⟩ := bcell hb
          have bw1 : Below w.heap.size w w1 := bw0.trans (hb.mono (by simp; omega))
          have hx1 : w.heap.size + 1 + 1 < w1.heap.size := by have := hb.size; simp at this; omega
          have hz1 : w.heap.size + 1 < w1.heap.size := by omega
          have hy1 : w.heap.size < w1.heap.size := by omega
          go_wp2_with fail
          refine (vok_impl k2 n2 s2 _ hs2 (tabs_below hT bw1)).mono ?_
          rw [HV2.out]
          rintro e w2 ⟨rfl, hb2⟩
          obtain ⟨hc2, hf2⟩ := bcell hb2
          have bw2 : Below w.heap.size w w2 := bw1.trans (hb2.mono bw1.size)
          have hx2 : w.heap.size + 1 + 1 < w2.heap.size := by have := hb2.size; omega
          have hz2 : w.heap.size + 1 < w2.heap.size := by omega
          have hy2 : w.heap.size < w2.heap.size := by omega
          go_wp2_with (go_at_call 70; refine (fits_any _ _ _).mono ?_; (try rw [e1]); (try rw [e2]); rintro e w' ⟨rfl, rfl⟩)
          refine bodyPost_ret (v := likeV (0, 0, 0)) (by simp [results, Tryz.results30, go_sem, likeV, hc, hf, hx1, hz1, hy1, hc2, hf2, hx2, hz2, hy2]) rfl ⟨rfl, ?_⟩
          refine bw2.trans ?_
          (go_light; repeat (first | with_reducible exact Below.refl _ _ | (with_reducible refine Below.setCell ?_ ?_ _; rotate_left; (focus first | (simp; done) | (simp; omega) | omega)) | (with_reducible refine Below.alloc ?_ ?_ _; rotate_left; (focus first | (simp; done) | (simp; omega) | omega)) | with_reducible refine Below.drew ?_))
        · have y2 : (k2 == 0) = false := by simpa using z2
          obtain rfl : k1 = 3 := t1.resolve_right z1
          obtain rfl : k2 = 3 := t2.resolve_right z2
          obtain ⟨cs1, hc1, hl1⟩ := HQ1.out rfl
          obtain ⟨cs2, hc2', hl2⟩ := HQ2.out rfl
          obtain ⟨r, hr⟩ : ∃ r : Bool, decide (Mt ((pcs false cs2).map part) cs1) = r := ⟨_, rfl⟩
          have HR : Hid (likeR 3 n1 s1 3 n2 s2 = (4, zB r, 0)) := (by rw [HL.out, if_neg (by simp), if_neg (by simp), hc1, hc2', ← hr]; rfl : likeR 3 n1 s1 3 n2 s2 = (4, zB r, 0))
          have HM : Hid (decide (Mt ((pcs false cs2).map part) cs1) = r) := hr
          have HC1 : Hid (chars s1 = some cs1) := hc1
          have HC2 : Hid (chars s2 = some cs2) := hc2'
          have HN1 : Hid (∀ c ∈ cs1, (0 : Int) ≤ c) := chars_nn hc1
          have HN2 : Hid (∀ x ∈ pcs false cs2, (0 : Int) ≤ x.2.2) := pcs_nn false cs2 (chars_nn hc2')
          have hp2 := pcs_len false cs2
          rw [HR.out]
          clear t1 t2 z1 z2 HL HQ1 HQ2 hc1 hc2' hr y1 y2
          go_enter Tryz.func30, Tryz.ntmps30
          go_wp2_with fail
          refine (vok_impl 3 n1 s1 _ hs1 (tabs_below hT bw0)).mono ?_
          rw [HV1.out]
          rintro e w1 ⟨rfl, hb⟩
          obtain ⟨hc, hf⟩ := bcell hb
          have bw1 : Below w.heap.size w w1 := bw0.trans (hb.mono (by simp; omega))
          have hx1 : w.heap.size + 1 + 1 < w1.heap.size := by have := hb.size; simp at this; omega
          have hz1 : w.heap.size + 1 < w1.heap.size := by omega
          have hy1 : w.heap.size < w1.heap.size := by omega
          go_wp2_with fail
          refine (vok_impl 3 n2 s2 _ hs2 (tabs_below hT bw1)).mono ?_
          rw [HV2.out]
          rintro e w2 ⟨rfl, hb2⟩
          obtain ⟨hc2, hf2⟩ := bcell hb2
          have bw2 : Below w.heap.size w w2 := bw1.trans (hb2.mono bw1.size)
          have hx2 : w.heap.size + 1 + 1 < w2.heap.size := by have := hb2.size; omega
          have hz2 : w.heap.size + 1 < w2.heap.size := by omega
          have hy2 : w.heap.size < w2.heap.size := by omega
          go_wp2_with (go_at_call 70; refine (fits_any _ _ _).mono ?_; (try rw [e1]); (try rw [e2]); rintro e w' ⟨rfl, rfl⟩)
          go_region_with (first
            | (go_at_call 72; refine (charsOf_any _ cs1 _ hs1 HC1.out).mono ?_; rintro e wA ⟨vA, rfl, hoA, hbA⟩; (first | (replace hbA := undrew hbA) | skip); have RA := RdT.of_own hoA; obtain ⟨hcA, hfA⟩ := bcell hbA; have bwA := chain (by assumption) hbA; have hxA : w.heap.size + 1 + 1 < wA.heap.size := (by have := hbA.size; omega); have hzA : w.heap.size + 1 < wA.heap.size := (by omega); have hyA : w.heap.size < wA.heap.size := (by omega))
            | (go_at_call 73; refine (pieces_any _ cs2 _ hs2 HC2.out).mono ?_; rintro e wB ⟨vB, rfl, hoB, hbB⟩; (first | (replace hbB := undrew hbB) | skip); have RB := RdP.of_own hoB; obtain ⟨hcB, hfB⟩ := bcell hbB; have bwB := chain (by assumption) hbB; have hxB : w.heap.size + 1 + 1 < wB.heap.size := (by have := hbB.size; omega); have hzB : w.heap.size + 1 < wB.heap.size := (by omega); have hyB : w.heap.size < wB.heap.size := (by omega))
            | (go_at_call 71; refine (matches_any cs1 (pcs false cs2) _ _ _ (by first | exact RA | exact RA.below hbB) (by first | exact RB | exact RB.below hbA) HN1.out HN2.out (by omega) (by omega)).mono ?_; rw [HM.out]; rintro e wM ⟨rfl, hbM⟩; obtain ⟨hcM, hfM⟩ := bcell hbM; have bwM := chain (by assumption) hbM; have hxM : w.heap.size + 1 + 1 < wM.heap.size := (by have := hbM.size; omega); have hzM : w.heap.size + 1 < wM.heap.size := (by omega); have hyM : w.heap.size < wM.heap.size := (by omega))
            | (go_at_call 58; refine (boolValue_any _ _).mono ?_; rintro e wV ⟨rfl, hbV⟩; obtain ⟨hcV, hfV⟩ := bcell hbV; have bwV := chain (by assumption) hbV; have hxV : w.heap.size + 1 + 1 < wV.heap.size := (by have := hbV.size; omega); have hzV : w.heap.size + 1 < wV.heap.size := (by omega); have hyV : w.heap.size < wV.heap.size := (by omega)))
          all_goals
            go_wp2
            refine bodyPost_ret (v := likeV (4, zB r, 0)) (by simp [results, Tryz.results30, go_sem, likeV, hc, hf, hx1, hz1, hy1, hc2, hf2, hx2, hz2, hy2, hcA, hfA, hxA, hcB, hfB, hxB, hcM, hfM, hxM, hcV, hfV, hxV]) rfl ⟨rfl, ?_⟩
            refine bwV.trans ?_
            (go_light; repeat (first | with_reducible exact Below.refl _ _ | (with_reducible refine Below.setCell ?_ ?_ _; rotate_left; (focus first | (simp; done) | (simp; omega) | omega)) | (with_reducible refine Below.alloc ?_ ?_ _; rotate_left; (focus first | (simp; done) | (simp; omega) | omega)) | with_reducible refine Below.drew ?_))
    · have e2 : (k2 == 3 || k2 == 0) = false := by simpa using t2
      have HR : Hid (likeR k1 n1 s1 k2 n2 s2 = (0, 0, 10)) := (by rw [HL.out, if_pos (.inr t2)] : likeR k1 n1 s1 k2 n2 s2 = (0, 0, 10))
      rw [HR.out]
      clear t1 t2 HL HQ1 HQ2
      go_enter Tryz.func30, Tryz.ntmps30
      go_wp2_with fail
      refine (vok_impl k1 n1 s1 _ hs1 (tabs_below hT bw0)).mono ?_
      rw [HV1.out]
      rintro e w1 ⟨rfl, hb⟩
      obtain ⟨hc, hf⟩ := bcell hb
      have bw1 : Below w.heap.size w w1 := bw0.trans (hb.mono (by simp; omega))
      have hx1 : w.heap.size + 1 + 1 < w1.heap.size := by have := hb.size; simp at this; omega
      have hz1 : w.heap.size + 1 < w1.heap.size := by omega
      have hy1 : w.heap.size < w1.heap.size := by omega
      go_wp2_with fail
      refine (vok_impl k2 n2 s2 _ hs2 (tabs_below hT bw1)).mono ?_
      rw [HV2.out]
      rintro e w2 ⟨rfl, hb2⟩
      obtain ⟨hc2, hf2⟩ := bcell hb2
      have bw2 : Below w.heap.size w w2 := bw1.trans (hb2.mono bw1.size)
      have hx2 : w.heap.size + 1 + 1 < w2.heap.size := by have := hb2.size; omega
      have hz2 : w.heap.size + 1 < w2.heap.size := by omega
      have hy2 : w.heap.size < w2.heap.size := by omega
      go_wp2_with (go_at_call 70; refine (fits_any _ _ _).mono ?_; (first | rw [e1] | rw [e2]); rintro e w' ⟨rfl, rfl⟩)
      refine bodyPost_ret (v := likeV (0, 0, 10)) (by simp [results, Tryz.results30, go_sem, likeV, hc, hf, hx1, hz1, hy1, hc2, hf2, hx2, hz2, hy2]) rfl ⟨rfl, ?_⟩
      refine bw2.trans ?_
      (go_light; repeat (first | with_reducible exact Below.refl _ _ | (with_reducible refine Below.setCell ?_ ?_ _; rotate_left; (focus first | (simp; done) | (simp; omega) | omega)) | (with_reducible refine Below.alloc ?_ ?_ _; rotate_left; (focus first | (simp; done) | (simp; omega) | omega)) | with_reducible refine Below.drew ?_))
  · have e1 : (k1 == 3 || k1 == 0) = false := by simpa using t1
    have HR : Hid (likeR k1 n1 s1 k2 n2 s2 = (0, 0, 10)) := (by rw [HL.out, if_pos (.inl t1)] : likeR k1 n1 s1 k2 n2 s2 = (0, 0, 10))
    rw [HR.out]
    clear t1 HL HQ1 HQ2
    go_enter Tryz.func30, Tryz.ntmps30
    go_wp2_with fail
    refine (vok_impl k1 n1 s1 _ hs1 (tabs_below hT bw0)).mono ?_
    rw [HV1.out]
    rintro e w1 ⟨rfl, hb⟩
    obtain ⟨hc, hf⟩ := bcell hb
    have bw1 : Below w.heap.size w w1 := bw0.trans (hb.mono (by simp; omega))
    have hx1 : w.heap.size + 1 + 1 < w1.heap.size := by have := hb.size; simp at this; omega
    have hz1 : w.heap.size + 1 < w1.heap.size := by omega
    have hy1 : w.heap.size < w1.heap.size := by omega
    go_wp2_with fail
    refine (vok_impl k2 n2 s2 _ hs2 (tabs_below hT bw1)).mono ?_
    rw [HV2.out]
    rintro e w2 ⟨rfl, hb2⟩
    obtain ⟨hc2, hf2⟩ := bcell hb2
    have bw2 : Below w.heap.size w w2 := bw1.trans (hb2.mono bw1.size)
    have hx2 : w.heap.size + 1 + 1 < w2.heap.size := by have := hb2.size; omega
    have hz2 : w.heap.size + 1 < w2.heap.size := by omega
    have hy2 : w.heap.size < w2.heap.size := by omega
    go_wp2_with (go_at_call 70; refine (fits_any _ _ _).mono ?_; rw [e1]; rintro e w' ⟨rfl, rfl⟩)
    refine bodyPost_ret (v := likeV (0, 0, 10)) (by simp [results, Tryz.results30, go_sem, likeV, hc, hf, hx1, hz1, hy1, hc2, hf2, hx2, hz2, hy2]) rfl ⟨rfl, ?_⟩
    refine bw2.trans ?_
    (go_light; repeat (first | with_reducible exact Below.refl _ _ | (with_reducible refine Below.setCell ?_ ?_ _; rotate_left; (focus first | (simp; done) | (simp; omega) | omega)) | (with_reducible refine Below.alloc ?_ ?_ _; rotate_left; (focus first | (simp; done) | (simp; omega) | omega)) | with_reducible refine Below.drew ?_))

end Lk
end Go.Proofs.YtdcdoeolaongkaaGreatDoor
