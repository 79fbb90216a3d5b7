import Derived.WalkKit
import Derived.Test.YtdcdoeolaongkaaGreatDoorP3
import Derived.Test.YtdcdoeolaongkaaGreatDoorR0
import Derived.Lib.MapLaws
import Derived.Lib.TrimByte
import Derived.Test.YtdcdoeolaongkaaGreatDoorProg
import Derived.ProofKit
import Derived.OpenShut
import Derived.WalkLawsBesides
import Derived.Deep.Light
import Derived.WalkSpells
import Derived.Deep.QuietTactic
import Derived.BigQuiet
import Derived.Test.YtdcdoeolaongkaaGreatDoorU1
import Derived.Lib.AppendStr
import Derived.Laws.BytesArg
import Derived.Test.YtdcdoeolaongkaaGreatDoorVX
import Derived.Test.YtdcdoeolaongkaaGreatDoorP2
import Derived.Laws.RangeString
import Derived.Laws.RangeAny
import Derived.Lib.OthersKept
import Derived.Test.YtdcdoeolaongkaaGreatDoorMB
import Derived.Deep.RegionHeld3
namespace Go.Proofs.YtdcdoeolaongkaaGreatDoor
namespace Lk
set_option linter.unusedVariables false
/-- The parts match the text: -1 stands for any characters, -2 for one, another number for itself. -/
def Mt : List Int → List Int → Prop
  | [], t => t = []
  | p :: ps, t => if p = -1 then ∃ k, k ≤ t.length ∧ Mt ps (t.drop k) else ∃ c t', t = c :: t' ∧ (p = -2 ∨ p = c) ∧ Mt ps t'
theorem mt_many {ps t : List Int} : Mt (-1 :: ps) t ↔ ∃ k, k ≤ t.length ∧ Mt ps (t.drop k) := by simp [Mt]
theorem mt_one {p : Int} {ps t : List Int} (h : p ≠ -1) : Mt (p :: ps) t ↔ ∃ c t', t = c :: t' ∧ (p = -2 ∨ p = c) ∧ Mt ps t' := by rw [Mt, if_neg h]
/-- The beginnings of the text that the parts (the last one first) match. -/
def D (t : List Int) : List Int → Nat → Prop
  | [], i => i = 0
  | p :: r, i => if p = -1 then ∃ j, j ≤ i ∧ D t r j else ∃ j c, i = j + 1 ∧ t[j]? = some c ∧ (p = -2 ∨ p = c) ∧ D t r j
theorem drop_cons {t : List Int} {i : Nat} {c : Int} (h : t[i]? = some c) : t.drop i = c :: t.drop (i + 1) := by
  obtain ⟨hl, e⟩ := List.getElem?_eq_some_iff.1 h
  rw [List.drop_eq_getElem_cons hl, e]
theorem cons_drop {t t' : List Int} {i : Nat} {c : Int} (h : t.drop i = c :: t') : t[i]? = some c ∧ t' = t.drop (i + 1) := by
  have hl : i < t.length := by
    apply Decidable.byContradiction; intro hn
    rw [List.drop_eq_nil_of_le (by omega)] at h; cases h
  rw [List.drop_eq_getElem_cons hl] at h
  injection h with h1 h2
  exact ⟨by rw [List.getElem?_eq_getElem hl, h1], h2.symm⟩
theorem shift (t : List Int) (p : Int) (r ps : List Int) :
    (∃ i, i ≤ t.length ∧ D t r i ∧ Mt (p :: ps) (t.drop i)) ↔ (∃ i, i ≤ t.length ∧ D t (p :: r) i ∧ Mt ps (t.drop i)) := by
  by_cases hp : p = -1
  · subst hp
    constructor
    · rintro ⟨i, hi, hd, hm⟩
      obtain ⟨k, hk, hm⟩ := mt_many.1 hm
      rw [List.drop_drop] at hm
      rw [List.length_drop] at hk
      exact ⟨i + k, by omega, by rw [D, if_pos rfl]; exact ⟨i, by omega, hd⟩, hm⟩
    · rintro ⟨i, hi, hd, hm⟩
      rw [D, if_pos rfl] at hd
      obtain ⟨j, hj, hd⟩ := hd
      refine ⟨j, by omega, hd, mt_many.2 ⟨i - j, by rw [List.length_drop]; omega, ?_⟩⟩
      rw [List.drop_drop, show j + (i - j) = i by omega]; exact hm
  · constructor
    · rintro ⟨i, hi, hd, hm⟩
      obtain ⟨c, t', e, hc, hm⟩ := (mt_one hp).1 hm
      obtain ⟨e1, rfl⟩ := cons_drop e
      have := (List.getElem?_eq_some_iff.1 e1).1
      exact ⟨i + 1, by omega, by rw [D, if_neg hp]; exact ⟨i, c, rfl, e1, hc, hd⟩, hm⟩
    · rintro ⟨i, hi, hd, hm⟩
      rw [D, if_neg hp] at hd
      obtain ⟨j, c, rfl, e1, hc, hd⟩ := hd
      exact ⟨j, by omega, hd, (mt_one hp).2 ⟨c, _, drop_cons e1, hc, hm⟩⟩
theorem shift_all (t : List Int) : ∀ (ps r : List Int), (∃ i, i ≤ t.length ∧ D t r i ∧ Mt ps (t.drop i)) ↔ D t (ps.reverse ++ r) t.length
  | [], r => by
    constructor
    · rintro ⟨i, hi, hd, hm⟩
      have hm : t.drop i = [] := hm
      have : i = t.length := by have := congrArg List.length hm; rw [List.length_drop] at this; simp at this; omega
      subst this; simpa using hd
    · intro h
      exact ⟨t.length, Nat.le_refl _, by simpa using h, by show t.drop t.length = []; simp⟩
  | p :: ps, r => by
    rw [shift, shift_all t ps (p :: r)]
    simp
theorem D_iff (t ps : List Int) : D t ps.reverse t.length ↔ Mt ps t := by
  have := shift_all t ps []
  rw [List.append_nil] at this
  rw [← this]
  constructor
  · rintro ⟨i, hi, hd, hm⟩
    have : i = 0 := hd
    subst this; simpa using hm
  · intro h
    exact ⟨0, by omega, rfl, by simpa using h⟩
/-- From part j and character i on. -/
def A (t ps : List Int) (i j : Nat) : Prop := Mt (ps.drop j) (t.drop i)
theorem dropj {ps : List Int} {j : Nat} {p : Int} (h : ps[j]? = some p) : ps.drop j = p :: ps.drop (j + 1) := drop_cons h
theorem A_many {t ps : List Int} {i j : Nat} (h : ps[j]? = some (-1)) (hi : i ≤ t.length) : A t ps i j ↔ ∃ k, i ≤ k ∧ k ≤ t.length ∧ A t ps k (j + 1) := by
  unfold A
  rw [dropj h, mt_many]
  constructor
  · rintro ⟨k, hk, hm⟩
    rw [List.length_drop] at hk
    rw [List.drop_drop] at hm
    exact ⟨i + k, by omega, by omega, hm⟩
  · rintro ⟨k, h1, h2, hm⟩
    refine ⟨k - i, by rw [List.length_drop]; omega, ?_⟩
    rw [List.drop_drop, show i + (k - i) = k by omega]; exact hm
theorem A_one {t ps : List Int} {i j : Nat} {p : Int} (h : ps[j]? = some p) (hp : p ≠ -1) : A t ps i j ↔ ∃ c, t[i]? = some c ∧ (p = -2 ∨ p = c) ∧ A t ps (i + 1) (j + 1) := by
  unfold A
  rw [dropj h, mt_one hp]
  constructor
  · rintro ⟨c, t', e, hc, hm⟩
    obtain ⟨e1, rfl⟩ := cons_drop e
    exact ⟨c, e1, hc, hm⟩
  · rintro ⟨c, e1, hc, hm⟩
    exact ⟨c, _, drop_cons e1, hc, hm⟩
theorem A_end {t ps : List Int} {i j : Nat} (h : ps.length ≤ j) : A t ps i j ↔ t.length ≤ i := by
  unfold A
  rw [List.drop_eq_nil_of_le h]
  show t.drop i = [] ↔ _
  exact List.drop_eq_nil_iff
/-- Parts a to b stand for one character each. -/
def ones (ps : List Int) (a b : Nat) : Prop := ∀ j, a ≤ j → j < b → ∃ p, ps[j]? = some p ∧ p ≠ -1
theorem run_ones {t ps : List Int} : ∀ (n a k : Nat), ones ps a (a + n) → k ≤ t.length → A t ps k a → k + n ≤ t.length ∧ A t ps (k + n) (a + n)
  | 0, a, k, _, hk, h => ⟨by omega, by simpa using h⟩
  | n + 1, a, k, ho, hk, h => by
    obtain ⟨p, e, hp⟩ := ho a (Nat.le_refl _) (by omega)
    obtain ⟨c, e1, _, h1⟩ := (A_one e hp).1 h
    have hl := (List.getElem?_eq_some_iff.1 e1).1
    have := run_ones n (a + 1) (k + 1) (fun j h1 h2 => ho j (by omega) (by omega)) (by omega) h1
    rw [show k + 1 + n = k + (n + 1) by omega, show a + 1 + n = a + (n + 1) by omega] at this
    exact this
/-- What holds at the head of the loop that goes back: at, piece, backAt, backPiece (-1: none). -/
def Inv (t ps : List Int) (i j bi : Nat) (bj : Int) : Prop :=
  i ≤ t.length ∧ j ≤ ps.length ∧ bi ≤ i ∧
  ((bj = -1 ∧ bi = 0 ∧ (Mt ps t ↔ A t ps i j)) ∨
   (∃ b : Nat, bj = b ∧ b + 1 + (i - bi) = j ∧ ps[b]? = some (-1) ∧ ones ps (b + 1) j ∧ (Mt ps t ↔ A t ps bi b) ∧ (A t ps bi (b + 1) ↔ A t ps i j)))
theorem Inv.start (t ps : List Int) : Inv t ps 0 0 0 (-1) := ⟨by omega, by omega, by omega, .inl ⟨rfl, rfl, by simp [A]⟩⟩
theorem Inv.many {t ps : List Int} {i j bi : Nat} {bj : Int} (h : Inv t ps i j bi bj) (hp : ps[j]? = some (-1)) : Inv t ps i (j + 1) i j := by
  obtain ⟨h1, h2, h3, h4⟩ := h
  have hj := (List.getElem?_eq_some_iff.1 hp).1
  refine ⟨h1, by omega, Nat.le_refl _, .inr ⟨j, rfl, by omega, hp, fun x a b => by omega, ?_, Iff.rfl⟩⟩
  rcases h4 with ⟨_, _, h⟩ | ⟨b, _, hb, hpb, ho, hm, ha⟩
  · exact h
  · rw [hm]
    constructor
    · intro hx
      obtain ⟨k, k1, k2, hk⟩ := (A_many hpb (by omega)).1 hx
      have hr := run_ones (i - bi) (b + 1) k (by rw [hb]; exact ho) k2 hk
      rw [hb] at hr
      obtain ⟨r1, r2⟩ := hr
      obtain ⟨q, q1, q2, hq⟩ := (A_many hp r1).1 r2
      exact (A_many hp h1).2 ⟨q, by omega, q2, hq⟩
    · intro hx
      exact (A_many hpb (by omega)).2 ⟨bi, Nat.le_refl _, by omega, ha.2 hx⟩
theorem Inv.one {t ps : List Int} {i j bi : Nat} {bj p c : Int} (h : Inv t ps i j bi bj) (hp : ps[j]? = some p) (h1 : p ≠ -1) (hc : t[i]? = some c) (hpc : p = -2 ∨ p = c) : Inv t ps (i + 1) (j + 1) bi bj := by
  obtain ⟨g1, g2, g3, g4⟩ := h
  have hj := (List.getElem?_eq_some_iff.1 hp).1
  have hi := (List.getElem?_eq_some_iff.1 hc).1
  have e : A t ps i j ↔ A t ps (i + 1) (j + 1) := by
    rw [A_one hp h1]
    constructor
    · rintro ⟨c', e1, _, hx⟩; exact hx
    · intro hx; exact ⟨c, hc, hpc, hx⟩
  refine ⟨by omega, by omega, by omega, ?_⟩
  rcases g4 with ⟨a1, a2, a3⟩ | ⟨b, a1, a2, a3, a4, a5, a6⟩
  · exact .inl ⟨a1, a2, a3.trans e⟩
  · refine .inr ⟨b, a1, by omega, a3, fun x x1 x2 => ?_, a5, a6.trans e⟩
    by_cases hx : x = j
    · subst hx; exact ⟨p, hp, h1⟩
    · exact a4 x x1 (by omega)
/-- The parts do not go on here. -/
def stuck (t ps : List Int) (i j : Nat) : Prop := i < t.length ∧ (j = ps.length ∨ ∃ p c, ps[j]? = some p ∧ p ≠ -1 ∧ t[i]? = some c ∧ p ≠ -2 ∧ p ≠ c)
theorem stuck.no {t ps : List Int} {i j : Nat} (h : stuck t ps i j) : ¬ A t ps i j := by
  obtain ⟨hi, h | ⟨p, c, hp, h1, hc, h2, h3⟩⟩ := h
  · rw [A_end (by omega)]; omega
  · rw [A_one hp h1]
    rintro ⟨c', e, h, _⟩
    rw [hc] at e; cases e
    rcases h with h | h
    · exact h2 h
    · exact h3 h
theorem Inv.back {t ps : List Int} {i j bi b : Nat} (h : Inv t ps i j bi (b : Int)) (hs : stuck t ps i j) : Inv t ps (bi + 1) (b + 1) (bi + 1) b ∧ bi + 1 ≤ t.length ∧ b + 1 ≤ ps.length := by
  obtain ⟨g1, g2, g3, g4⟩ := h
  have hi := hs.1
  rcases g4 with ⟨a1, _⟩ | ⟨b', a1, a2, a3, a4, a5, a6⟩
  · omega
  · obtain rfl : b' = b := by omega
    have hb := (List.getElem?_eq_some_iff.1 a3).1
    refine ⟨⟨by omega, by omega, Nat.le_refl _, .inr ⟨b', rfl, by omega, a3, fun x x1 x2 => by omega, ?_, Iff.rfl⟩⟩, by omega, by omega⟩
    rw [a5, A_many a3 (by omega), A_many a3 (by omega)]
    have hn : ¬ A t ps bi (b' + 1) := fun hx => hs.no (a6.1 hx)
    constructor
    · rintro ⟨k, k1, k2, hk⟩
      by_cases e : k = bi
      · subst e; exact absurd hk hn
      · exact ⟨k, by omega, k2, hk⟩
    · rintro ⟨k, k1, k2, hk⟩
      exact ⟨k, by omega, k2, hk⟩
theorem Inv.fail {t ps : List Int} {i j bi : Nat} {bj : Int} (h : Inv t ps i j bi bj) (hs : stuck t ps i j) (hb : bj < 0) : ¬ Mt ps t := by
  obtain ⟨g1, g2, g3, ⟨_, _, a⟩ | ⟨b', a1, _⟩⟩ := h
  · exact fun hx => hs.no (a.1 hx)
  · omega
theorem Inv.fin {t ps : List Int} {i j bi : Nat} {bj : Int} (h : Inv t ps i j bi bj) (hi : ¬ i < t.length) : Mt ps t ↔ A t ps t.length j := by
  obtain ⟨g1, g2, g3, g4⟩ := h
  obtain rfl : i = t.length := by omega
  rcases g4 with ⟨_, _, a⟩ | ⟨b, a1, a2, a3, a4, a5, a6⟩
  · exact a
  · rw [a5]
    constructor
    · intro hx
      obtain ⟨k, k1, k2, hk⟩ := (A_many a3 (by omega)).1 hx
      have hr := run_ones (t.length - bi) (b + 1) k (by rw [a2]; exact a4) k2 hk
      have : k = bi := by omega
      subst this; exact a6.1 hk
    · intro hx
      exact (A_many a3 (by omega)).2 ⟨bi, Nat.le_refl _, by omega, a6.2 hx⟩
theorem tail_many {t ps : List Int} {j : Nat} (h : ps[j]? = some (-1)) : A t ps t.length j ↔ A t ps t.length (j + 1) := by
  rw [A_many h (Nat.le_refl _)]
  constructor
  · rintro ⟨k, k1, k2, hk⟩
    obtain rfl : k = t.length := by omega
    exact hk
  · intro hk; exact ⟨t.length, Nat.le_refl _, Nat.le_refl _, hk⟩
theorem tail_stop {t ps : List Int} {j : Nat} {p : Int} (h : ps[j]? = some p) (hp : p ≠ -1) : ¬ A t ps t.length j := by
  rw [A_one h hp]
  rintro ⟨c, e, _⟩
  have := (List.getElem?_eq_some_iff.1 e).1
  omega
theorem tail_end {t ps : List Int} : A t ps t.length ps.length := (A_end (Nat.le_refl _)).2 (Nat.le_refl _)
end Lk
end Go.Proofs.YtdcdoeolaongkaaGreatDoor
namespace Go.Proofs.YtdcdoeolaongkaaGreatDoor
namespace Lk
set_option linter.unusedVariables false
/-- A pattern's pieces: many, any, the character; with a sign that is open or not. -/
def pcs : Bool → List Int → List (Bool × Bool × Int)
  | false, [] => []
  | true, [] => [(false, false, 92)]
  | true, c :: cs => (false, false, c) :: pcs false cs
  | false, c :: cs => if c = 92 then pcs true cs else (c == 37, c == 95, c) :: pcs false cs
def part (x : Bool × Bool × Int) : Int := if x.1 then -1 else if x.2.1 then -2 else x.2.2
def prt (e : Bool) (cs : List Int) : List Int := (pcs e cs).map part
theorem prt_nil : prt false [] = [] := rfl
theorem prt_many (cs : List Int) : prt false (37 :: cs) = -1 :: prt false cs := by simp [prt, pcs, part]
theorem prt_any (cs : List Int) : prt false (95 :: cs) = -2 :: prt false cs := by simp [prt, pcs, part]
theorem prt_esc (d : Int) (cs : List Int) : prt false (92 :: d :: cs) = d :: prt false cs := by simp [prt, pcs, part]
theorem prt_end : prt false [92] = [92] := by simp [prt, pcs, part]
theorem prt_else {c : Int} (cs : List Int) (h1 : c ≠ 37) (h2 : c ≠ 95) (h3 : c ≠ 92) : prt false (c :: cs) = c :: prt false cs := by simp [prt, pcs, part, h1, h2, h3]
theorem pcs_len : ∀ (e : Bool) (cs : List Int), (pcs e cs).length ≤ cs.length + 1
  | false, [] => by simp [pcs]
  | true, [] => by simp [pcs]
  | true, c :: cs => by have := pcs_len false cs; simp [pcs]; omega
  | false, c :: cs => by
    have h1 := pcs_len true cs
    have h2 := pcs_len false cs
    unfold pcs
    split
    · simp; omega
    · simp; omega
theorem pcs_nn : ∀ (e : Bool) (cs : List Int), (∀ c ∈ cs, (0 : Int) ≤ c) → ∀ x ∈ pcs e cs, (0 : Int) ≤ x.2.2
  | false, [], _, x, hx => by simp [pcs] at hx
  | true, [], _, x, hx => by simp [pcs] at hx; subst hx; decide
  | true, c :: cs, h, x, hx => by
    simp only [pcs, List.mem_cons] at hx
    rcases hx with rfl | hx
    · exact h c (by simp)
    · exact pcs_nn false cs (fun d hd => h d (by simp [hd])) x hx
  | false, c :: cs, h, x, hx => by
    unfold pcs at hx
    split at hx
    · exact pcs_nn true cs (fun d hd => h d (by simp [hd])) x hx
    · simp only [List.mem_cons] at hx
      rcases hx with rfl | hx
      · exact h c (by simp)
      · exact pcs_nn false cs (fun d hd => h d (by simp [hd])) x hx
theorem part_many {m a : Bool} {c : Int} (h : 0 ≤ c) : part (m, a, c) = -1 ↔ m = true := by
  cases m <;> cases a <;> simp [part] <;> omega
theorem part_one {a : Bool} {c d : Int} (h : 0 ≤ c) (hd : 0 ≤ d) : (part (false, a, c) = -2 ∨ part (false, a, c) = d) ↔ (a = true ∨ c = d) := by
  cases a <;> simp [part] <;> omega
theorem pcs_get {e : Bool} {cs : List Int} {j : Nat} {x : Bool × Bool × Int} (h : (pcs e cs)[j]? = some x) : (prt e cs)[j]? = some (part x) := by
  simp [prt, h]
theorem prt_len (e : Bool) (cs : List Int) : (prt e cs).length = (pcs e cs).length := by simp [prt]
/-- The rows of the spec's table. -/
theorem D_many {t r : List Int} {i : Nat} : D t (-1 :: r) i ↔ D t r i ∨ (0 < i ∧ D t (-1 :: r) (i - 1)) := by
  simp only [D, if_true]
  constructor
  · rintro ⟨j, hj, hd⟩
    by_cases e : j = i
    · subst e; exact .inl hd
    · exact .inr ⟨by omega, j, by omega, hd⟩
  · rintro (hd | ⟨h, j, hj, hd⟩)
    · exact ⟨i, Nat.le_refl _, hd⟩
    · exact ⟨j, by omega, hd⟩
theorem D_one {t r : List Int} {p c : Int} {i : Nat} (hp : p ≠ -1) (hi : 0 < i) (hc : t[i - 1]? = some c) (h : p = -2 ∨ p = c) : D t (p :: r) i ↔ D t r (i - 1) := by
  rw [D, if_neg hp]
  constructor
  · rintro ⟨j, c', rfl, _, _, hd⟩; simpa using hd
  · intro hd; exact ⟨i - 1, c, by omega, hc, h, hd⟩
theorem D_not {t r : List Int} {p c : Int} {i : Nat} (hp : p ≠ -1) (hi : 0 < i) (hc : t[i - 1]? = some c) (h2 : p ≠ -2) (h3 : p ≠ c) : ¬ D t (p :: r) i := by
  rw [D, if_neg hp]
  rintro ⟨j, c', rfl, e, h, _⟩
  rw [Nat.add_sub_cancel, e] at hc
  cases hc
  rcases h with h | h
  · exact h2 h
  · exact h3 h
theorem D_zero {t r : List Int} {p : Int} (hp : p ≠ -1) : ¬ D t (p :: r) 0 := by
  rw [D, if_neg hp]
  rintro ⟨j, c', e, _⟩; omega
end Lk
end Go.Proofs.YtdcdoeolaongkaaGreatDoor
namespace Go.Proofs.YtdcdoeolaongkaaGreatDoor
namespace Lk
open Go.Lib
set_option linter.unusedVariables false
set_option linter.unusedSimpArgs false
/-- A byte that goes on with a character. -/
def cont (b : Nat) : Prop := 128 ≤ b ∧ b < 192
def encs (l : List Int) : List Nat := l.flatMap fun c => encN c.toNat
theorem encs_nil : encs [] = [] := rfl
theorem encs_cons (c : Int) (l : List Int) : encs (c :: l) = encN c.toNat ++ encs l := by simp [encs]
theorem encs_app (a b : List Int) : encs (a ++ b) = encs a ++ encs b := by simp [encs]
def sane (l : List Int) : Prop := ∀ c ∈ l, (0 : Int) ≤ c ∧ c ≤ 1114111
theorem sane_cons {c : Int} {l : List Int} : sane (c :: l) ↔ (0 ≤ c ∧ c ≤ 1114111) ∧ sane l := by simp [sane]
theorem sane_app {a b : List Int} : sane (a ++ b) ↔ sane a ∧ sane b := by
  constructor
  · intro h; exact ⟨fun c hc => h c (by simp [hc]), fun c hc => h c (by simp [hc])⟩
  · rintro ⟨h, g⟩ c hc
    rcases List.mem_append.1 hc with hc | hc
    · exact h c hc
    · exact g c hc
theorem enc_form {r : Nat} (h : r ≤ 1114111) : ∃ b t, encN r = b :: t ∧ ¬ cont b ∧ ∀ x ∈ t, cont x := by
  unfold encN cont
  split
  · exact ⟨_, _, rfl, by omega, by simp⟩
  split
  · refine ⟨_, _, rfl, by omega, ?_⟩; intro x hx; simp at hx; omega
  split
  · refine ⟨_, _, rfl, by omega, ?_⟩; intro x hx; simp at hx; omega
  · refine ⟨_, _, rfl, by omega, ?_⟩; intro x hx; simp at hx; omega
theorem enc_inj {r q : Nat} (h : r ≤ 1114111) (g : q ≤ 1114111) (e : encN r = encN q) : r = q := by
  unfold encN at e
  split at e <;> split at e <;> (try split at e) <;> (try split at e) <;> (try split at e) <;> (try split at e) <;> simp at e <;> omega
/-- The head of a list, if it has one, begins a character. -/
def starts : List Nat → Prop
  | [] => True
  | b :: _ => ¬ cont b
theorem starts_encs {l : List Int} (h : sane l) : starts (encs l) := by
  cases l with
  | nil => trivial
  | cons c l =>
    obtain ⟨h1, h2⟩ := sane_cons.1 h
    obtain ⟨b, t, e, hb, _⟩ := enc_form (r := c.toNat) (by omega)
    rw [encs_cons, e]; exact hb
/-- Two such lists with the same sum have the same first part. -/
theorem conts_eq : ∀ (t u x y : List Nat), (∀ z ∈ t, cont z) → (∀ z ∈ u, cont z) → starts x → starts y → t ++ x = u ++ y → t = u ∧ x = y
  | [], [], x, y, _, _, _, _, e => ⟨rfl, e⟩
  | [], b :: u, x, y, _, hu, hx, _, e => by
    rw [List.nil_append] at e; subst e; exact absurd (hu b (by simp)) hx
  | a :: t, [], x, y, ht, _, _, hy, e => by
    rw [List.nil_append] at e; subst e; exact absurd (ht a (by simp)) hy
  | a :: t, b :: u, x, y, ht, hu, hx, hy, e => by
    simp only [List.cons_append, List.cons.injEq] at e
    obtain ⟨rfl, e⟩ := e
    obtain ⟨h1, h2⟩ := conts_eq t u x y (fun z hz => ht z (by simp [hz])) (fun z hz => hu z (by simp [hz])) hx hy e
    exact ⟨by rw [h1], h2⟩
theorem encs_inj : ∀ (a b : List Int), sane a → sane b → encs a = encs b → a = b
  | [], [], _, _, _ => rfl
  | [], d :: b, _, hb, e => by
    obtain ⟨h1, h2⟩ := sane_cons.1 hb
    obtain ⟨x, t, ex, _, _⟩ := enc_form (r := d.toNat) (by omega)
    rw [encs_cons, ex] at e; cases e
  | c :: a, [], ha, _, e => by
    obtain ⟨h1, h2⟩ := sane_cons.1 ha
    obtain ⟨x, t, ex, _, _⟩ := enc_form (r := c.toNat) (by omega)
    rw [encs_cons, ex] at e; cases e
  | c :: a, d :: b, ha, hb, e => by
    obtain ⟨h1, h2⟩ := sane_cons.1 ha
    obtain ⟨g1, g2⟩ := sane_cons.1 hb
    obtain ⟨x, t, ex, _, ht⟩ := enc_form (r := c.toNat) (by omega)
    obtain ⟨y, u, ey, _, hu⟩ := enc_form (r := d.toNat) (by omega)
    rw [encs_cons, encs_cons, ex, ey] at e
    simp only [List.cons_append, List.cons.injEq] at e
    obtain ⟨rfl, e⟩ := e
    obtain ⟨k1, k2⟩ := conts_eq t u _ _ ht hu (starts_encs h2) (starts_encs g2) e
    have : encN c.toNat = encN d.toNat := by rw [ex, ey, k1]
    have := enc_inj (by omega) (by omega) this
    rw [encs_inj a b h2 g2 k2, show c = d by omega]
/-- Where a character begins, the list is cut between two characters. -/
theorem encs_cut : ∀ (l : List Int) (x y : List Nat), sane l → starts y → encs l = x ++ y → ∃ a b, l = a ++ b ∧ x = encs a ∧ y = encs b
  | [], x, y, _, _, e => by
    rw [encs_nil] at e
    have := List.append_eq_nil_iff.1 e.symm
    exact ⟨[], [], rfl, this.1, this.2⟩
  | c :: l, x, y, h, hy, e => by
    obtain ⟨h1, h2⟩ := sane_cons.1 h
    obtain ⟨b, t, eb, _, ht⟩ := enc_form (r := c.toNat) (by omega)
    cases x with
    | nil => exact ⟨[], c :: l, rfl, rfl, by simpa using e.symm⟩
    | cons d x =>
      rw [encs_cons, eb] at e
      simp only [List.cons_append, List.cons.injEq] at e
      obtain ⟨rfl, e⟩ := e
      have key : ∃ x', x = t ++ x' ∧ encs l = x' ++ y := by
        clear eb h
        induction t generalizing x with
        | nil => exact ⟨x, rfl, e⟩
        | cons z t ih =>
          cases x with
          | nil =>
            exfalso
            rw [List.nil_append] at e
            rw [← e] at hy
            exact hy (ht z (by simp))
          | cons v x =>
            simp only [List.cons_append, List.cons.injEq] at e
            obtain ⟨rfl, e⟩ := e
            obtain ⟨x', e1, e2⟩ := ih (fun q hq => ht q (by simp [hq])) x e
            exact ⟨x', by rw [e1, List.cons_append], e2⟩
      obtain ⟨x', rfl, e2⟩ := key
      obtain ⟨a, a', rfl, rfl, rfl⟩ := encs_cut l x' y h2 hy e2
      exact ⟨c :: a, a', rfl, by rw [encs_cons, eb]; rfl, rfl⟩
/-- The escaped characters. -/
def escL (l : List Int) : List Int := l.flatMap fun c => if c = 37 ∨ c = 95 ∨ c = 92 then [92, c] else [c]
def escB (l : List Nat) : List Nat := l.flatMap fun b => if b = 37 ∨ b = 95 ∨ b = 92 then [92, b] else [b]
theorem escB_app (a b : List Nat) : escB (a ++ b) = escB a ++ escB b := by simp [escB]
theorem escB_plain : ∀ (l : List Nat), (∀ x ∈ l, 128 ≤ x) → escB l = l
  | [], _ => rfl
  | a :: l, h => by
    have ha := h a (by simp)
    have := escB_plain l (fun x hx => h x (by simp [hx]))
    unfold escB at this ⊢
    rw [List.flatMap_cons, this, if_neg (by omega)]; rfl
theorem esc_one {c : Int} (h0 : 0 ≤ c) (h1 : c ≤ 1114111) : escB (encN c.toNat) = encs (if c = 37 ∨ c = 95 ∨ c = 92 then [92, c] else [c]) := by
  by_cases h : c < 128
  · have e : encN c.toNat = [c.toNat] := by unfold encN; rw [if_pos (by omega)]
    rw [e]
    by_cases hc : c = 37 ∨ c = 95 ∨ c = 92
    · rw [if_pos hc]
      rcases hc with rfl | rfl | rfl <;> decide
    · rw [if_neg hc, encs_cons, encs_nil, e]
      unfold escB
      rw [List.flatMap_cons, if_neg (by omega)]; rfl
  · rw [if_neg (by omega), encs_cons, encs_nil, List.append_nil]
    apply escB_plain
    intro x hx
    unfold encN at hx
    rw [if_neg (by omega)] at hx
    split at hx
    · simp at hx; omega
    split at hx
    · simp at hx; omega
    · simp at hx; omega
theorem esc_encs : ∀ (l : List Int), sane l → escB (encs l) = encs (escL l)
  | [], _ => rfl
  | c :: l, h => by
    obtain ⟨h1, h2⟩ := sane_cons.1 h
    rw [encs_cons, escB_app, esc_one h1.1 h1.2, esc_encs l h2, ← encs_app]; rfl
theorem escL_sane {l : List Int} (h : sane l) : sane (escL l) := by
  intro c hc
  unfold escL at hc
  rw [List.mem_flatMap] at hc
  obtain ⟨d, hd, hc⟩ := hc
  have := h d hd
  split at hc
  · simp at hc; rcases hc with rfl | rfl
    · omega
    · exact this
  · simp at hc; subst hc; exact this
theorem prt_escL : ∀ (l r : List Int), sane l → prt false (escL l ++ r) = l ++ prt false r
  | [], r, _ => rfl
  | c :: l, r, h => by
    obtain ⟨h1, h2⟩ := sane_cons.1 h
    have ih := prt_escL l r h2
    have e : escL (c :: l) = (if c = 37 ∨ c = 95 ∨ c = 92 then [92, c] else [c]) ++ escL l := rfl
    rw [e]
    by_cases hc : c = 37 ∨ c = 95 ∨ c = 92
    · rw [if_pos hc]
      show prt false (92 :: c :: (escL l ++ r)) = _
      rw [prt_esc, ih]; rfl
    · rw [if_neg hc]
      show prt false (c :: (escL l ++ r)) = _
      rw [prt_else _ (by omega) (by omega) (by omega), ih]; rfl
theorem mt_plain : ∀ (l r t : List Int), sane l → (Mt (l ++ r) t ↔ ∃ t', t = l ++ t' ∧ Mt r t')
  | [], r, t, _ => by simp
  | c :: l, r, t, h => by
    obtain ⟨h1, h2⟩ := sane_cons.1 h
    rw [List.cons_append, mt_one (by omega)]
    constructor
    · rintro ⟨d, t', rfl, hd, hm⟩
      obtain ⟨t'', rfl, hm2⟩ := (mt_plain l r t' h2).1 hm
      have : c = d := by omega
      subst this
      exact ⟨t'', rfl, hm2⟩
    · rintro ⟨t', rfl, hm⟩
      exact ⟨c, l ++ t', rfl, .inr rfl, (mt_plain l r _ h2).2 ⟨t', rfl, hm⟩⟩
theorem mt_is {l t : List Int} (h : sane l) : Mt (prt false (escL l)) t ↔ t = l := by
  have := prt_escL l [] h
  rw [List.append_nil] at this
  rw [this, prt_nil, mt_plain l [] t h]
  constructor
  · rintro ⟨t', rfl, hm⟩
    have : t' = [] := hm
    rw [this, List.append_nil]
  · rintro rfl; exact ⟨[], by simp, rfl⟩
theorem mt_in {l t : List Int} (h : sane l) : Mt (prt false (37 :: (escL l ++ [37]))) t ↔ ∃ a b, t = a ++ l ++ b := by
  rw [prt_many, prt_escL l [37] h, prt_many, prt_nil, mt_many]
  constructor
  · rintro ⟨k, hk, hm⟩
    obtain ⟨t', e, _⟩ := (mt_plain l _ _ h).1 hm
    exact ⟨t.take k, t', by rw [List.append_assoc, ← e, List.take_append_drop]⟩
  · rintro ⟨a, b, rfl⟩
    refine ⟨a.length, by simp, (mt_plain l _ _ h).2 ⟨b, by simp, mt_many.2 ⟨b.length, Nat.le_refl _, by simp [Mt]⟩⟩⟩
theorem prt_lines : ∀ (n : Nat), prt false (List.replicate n 95) = List.replicate n (-2)
  | 0 => rfl
  | n + 1 => by rw [List.replicate_succ, prt_any, prt_lines n, List.replicate_succ]
theorem mt_lines : ∀ (n : Nat) (t : List Int), Mt (List.replicate n (-2)) t ↔ t.length = n
  | 0, t => by simp [Mt]
  | n + 1, t => by
    rw [List.replicate_succ, mt_one (by decide)]
    constructor
    · rintro ⟨c, t', rfl, _, hm⟩
      have := (mt_lines n t').1 hm
      simp [this]
    · intro h
      cases t with
      | nil => simp at h
      | cons c t => exact ⟨c, t, rfl, .inl rfl, (mt_lines n t).2 (by simpa using h)⟩
end Lk
end Go.Proofs.YtdcdoeolaongkaaGreatDoor
namespace Go.Proofs.YtdcdoeolaongkaaGreatDoor
namespace Lk
open Go.Lib
set_option linter.unusedVariables false
set_option linter.unusedSimpArgs false
/-- A character's bytes tell how many there are. -/
theorem enc_prefix (r q : Nat) (h : r ≤ 1114111) (g : q ≤ 1114111) (x y : List Nat) (e : encN r ++ x = encN q ++ y) : r = q ∧ x = y := by
  unfold encN at e
  split at e <;> split at e <;> (try split at e) <;> (try split at e) <;> (try split at e) <;> (try split at e) <;> simp at e <;> (first | omega | exact ⟨by omega, by simp_all⟩)
theorem chars_F (s : ByteArray) : ∀ f pos cs, s.size ≤ pos + f → chF s f pos = some cs → bytesN s pos = encs cs ∧ sane cs := by
  intro f
  induction f with
  | zero =>
    intro pos cs hf e
    rw [chF_end s 0 pos (by omega)] at e; simp at e; subst e
    exact ⟨bytes_end s pos (by omega), by intro c hc; cases hc⟩
  | succ f ih =>
    intro pos cs hf e
    by_cases hp : pos < s.size
    · rw [chF, if_pos hp] at e
      by_cases hb : Utf8.decode s pos = (65533, 1)
      · rw [if_pos hb] at e; cases e
      rw [if_neg hb] at e
      obtain ⟨l, e3, e4⟩ := Option.map_eq_some_iff.1 e
      subst e4
      have w1 := decode_width_pos s pos hp
      obtain ⟨i1, i2⟩ := ih (pos + (Utf8.decode s pos).2) l (by omega) e3
      have hr := rune_le s pos
      exact ⟨by rw [dec_bytes s pos hp hb, i1, encs_cons]; rfl, sane_cons.2 ⟨⟨by omega, by omega⟩, i2⟩⟩
    · rw [chF_end s _ pos hp] at e; simp at e; subst e
      exact ⟨bytes_end s pos hp, by intro c hc; cases hc⟩
theorem chars_encs {s : ByteArray} {cs : List Int} (h : chars s = some cs) : bytesN s 0 = encs cs ∧ sane cs := chars_F s s.size 0 cs (by omega) h
theorem bytesN_inj {s t : ByteArray} (h : bytesN s 0 = bytesN t 0) : s = t := by
  unfold bytesN at h
  simp only [List.drop_zero] at h
  have : s.data.toList = t.data.toList := by
    have inj : ∀ (a b : List UInt8), a.map UInt8.toNat = b.map UInt8.toNat → a = b := by
      intro a
      induction a with
      | nil => intro b e; cases b <;> simp_all
      | cons x a ih =>
        intro b e
        cases b with
        | nil => simp at e
        | cons y b =>
          simp only [List.map_cons, List.cons.injEq] at e
          rw [UInt8.toNat_inj.1 e.1, ih b e.2]
    exact inj _ _ h
  obtain ⟨⟨l⟩⟩ := s; obtain ⟨⟨m⟩⟩ := t
  simp at this; rw [this]
/-- Like at a text's own escaped form. -/
theorem like_is {s t p : ByteArray} {cs ct cp : List Int} (hs : chars s = some cs) (ht : chars t = some ct) (hp : chars p = some cp) (e : bytesN p 0 = escB (bytesN t 0)) : Mt (prt false cp) cs ↔ s = t := by
  obtain ⟨s1, s2⟩ := chars_encs hs
  obtain ⟨t1, t2⟩ := chars_encs ht
  obtain ⟨p1, p2⟩ := chars_encs hp
  have : cp = escL ct := encs_inj _ _ p2 (escL_sane t2) (by rw [← p1, e, t1, esc_encs ct t2])
  rw [this, mt_is t2]
  constructor
  · rintro rfl; exact bytesN_inj (by rw [s1, t1])
  · rintro rfl; rw [hs] at ht; cases ht; rfl
theorem like_in {s t p : ByteArray} {cs ct cp : List Int} (hs : chars s = some cs) (ht : chars t = some ct) (hp : chars p = some cp) (e : bytesN p 0 = [37] ++ escB (bytesN t 0) ++ [37]) : Mt (prt false cp) cs ↔ ∃ x y, bytesN s 0 = x ++ bytesN t 0 ++ y := by
  obtain ⟨s1, s2⟩ := chars_encs hs
  obtain ⟨t1, t2⟩ := chars_encs ht
  obtain ⟨p1, p2⟩ := chars_encs hp
  have hz : sane [37] := by intro c hc; simp at hc; omega
  have hq : sane (37 :: (escL ct ++ [37])) := sane_cons.2 ⟨by omega, sane_app.2 ⟨escL_sane t2, hz⟩⟩
  have h37 : encs [37] = [37] := by decide
  have : cp = 37 :: (escL ct ++ [37]) := encs_inj _ _ p2 hq (by rw [← p1, e, t1, esc_encs ct t2, show (37 :: (escL ct ++ [37]) : List Int) = [37] ++ escL ct ++ [37] by simp, encs_app, encs_app, h37])
  rw [this, mt_in t2]
  constructor
  · rintro ⟨a, b, rfl⟩
    exact ⟨encs a, encs b, by rw [s1, t1, encs_app, encs_app]⟩
  · rintro ⟨x, y, h⟩
    by_cases hct : ct = []
    · exact ⟨cs, [], by simp [hct]⟩
    rw [s1, t1, List.append_assoc] at h
    have st : starts (encs ct ++ y) := by
      cases ct with
      | nil => exact absurd rfl hct
      | cons c l =>
        obtain ⟨h1, h2⟩ := sane_cons.1 t2
        obtain ⟨b, t, eb, hb, _⟩ := enc_form (r := c.toNat) (by omega)
        rw [encs_cons, eb]; exact hb
    obtain ⟨a, b, rfl, rfl, eb⟩ := encs_cut cs x _ s2 st h
    have sb := (sane_app.1 s2).2
    -- y begins a character, or is empty: the first part of what is left is ct
    have key : ∀ (l m : List Int) (y : List Nat), sane l → sane m → encs m = encs l ++ y → ∃ r, m = l ++ r := by
      intro l
      induction l with
      | nil => intro m y _ _ _; exact ⟨m, rfl⟩
      | cons c l ih =>
        intro m y hl hm e
        obtain ⟨h1, h2⟩ := sane_cons.1 hl
        obtain ⟨b', t', eb', _, ht'⟩ := enc_form (r := c.toNat) (by omega)
        cases m with
        | nil => rw [encs_nil, encs_cons, eb'] at e; cases e
        | cons d m =>
          obtain ⟨g1, g2⟩ := sane_cons.1 hm
          rw [encs_cons, encs_cons, List.append_assoc] at e
          have pre := enc_prefix c.toNat d.toNat (by omega) (by omega) _ _ e.symm
          obtain ⟨q1, q2⟩ := pre
          obtain ⟨r, rfl⟩ := ih m y h2 g2 q2.symm
          exact ⟨r, by rw [show c = d by omega]; rfl⟩
    obtain ⟨r, rfl⟩ := key ct b y t2 sb (by rw [eb])
    exact ⟨a, r, by rw [List.append_assoc]⟩
theorem like_lines {s p : ByteArray} {cs cp : List Int} {n : Nat} (hs : chars s = some cs) (hp : chars p = some cp) (e : bytesN p 0 = List.replicate n 95) : Mt (prt false cp) cs ↔ cs.length = n := by
  obtain ⟨p1, p2⟩ := chars_encs hp
  have hz : sane (List.replicate n 95) := by intro c hc; have := List.eq_of_mem_replicate hc; omega
  have hen : encs (List.replicate n 95) = List.replicate n 95 := by
    clear e hz
    induction n with
    | zero => rfl
    | succ n ih => rw [List.replicate_succ, encs_cons, ih, List.replicate_succ]; rfl
  have : cp = List.replicate n 95 := encs_inj _ _ p2 hz (by rw [← p1, e, hen])
  rw [this, prt_lines, mt_lines]
end Lk
end Go.Proofs.YtdcdoeolaongkaaGreatDoor
namespace Go.Proofs.YtdcdoeolaongkaaGreatDoor
namespace Ca
open Go.Lib
open Go.Proofs.YtdcdoeolaongkaaGreatDoor.Lk
set_option linter.unusedVariables false
set_option linter.unusedSimpArgs false
/-- Lower or upper: the closure's work on a character. -/
def shiftF (a b d : Int) (c : Int) : Int := if a ≤ c ∧ c ≤ b then c + d else c
/-- The same on a byte. -/
def gN (a b : Nat) (d : Int) (c : Nat) : Nat := if a ≤ c ∧ c ≤ b then ((c : Int) + d).toNat else c
theorem encN_big {r : Nat} (h : 128 ≤ r) : ∀ x ∈ encN r, 128 ≤ x := by
  intro x hx
  unfold encN at hx
  rw [if_neg (by omega)] at hx
  split at hx
  · simp at hx; omega
  · split at hx <;> simp at hx <;> omega
theorem map_same {a b : Nat} {d : Int} (hb : b < 128) : ∀ (l : List Nat), (∀ x ∈ l, 128 ≤ x) → l.map (gN a b d) = l
  | [], _ => rfl
  | x :: l, h => by
    have h1 := h x (by simp)
    rw [List.map_cons, map_same hb l (fun y hy => h y (by simp [hy]))]
    unfold gN; rw [if_neg (by omega)]
theorem map_F (a b : Nat) (d : Int) (hab : a ≤ b) (hb : b < 128) (h0 : 0 ≤ (a : Int) + d) (h1 : (b : Int) + d < 128) (s : ByteArray) : ∀ f pos cs, s.size ≤ pos + f → chF s f pos = some cs → (mapD (shiftF a b d) (s.data.toList.drop pos)).map UInt8.toNat = (bytesN s pos).map (gN a b d) := by
  intro f
  induction f with
  | zero =>
    intro pos cs hf e
    have e2 : s.data.toList.drop pos = [] := List.drop_eq_nil_of_le (by rw [← size_eq]; omega)
    rw [bytes_end s pos (by omega), e2, mapD_nil]; rfl
  | succ f ih =>
    intro pos cs hf e
    by_cases hp : pos < s.size
    · rw [chF, if_pos hp] at e
      by_cases hv : Utf8.decode s pos = (65533, 1)
      · rw [if_pos hv] at e; cases e
      rw [if_neg hv] at e
      obtain ⟨l, e3, e4⟩ := Option.map_eq_some_iff.1 e
      have w1 := decode_width_pos s pos hp
      have i1 := ih (pos + (Utf8.decode s pos).2) l (by omega) e3
      have hne : s.data.toList.drop pos ≠ [] := by
        intro e; have := congrArg List.length e; rw [List.length_drop, ← size_eq] at this; simp at this; omega
      have hby := dec_bytes s pos hp hv
      by_cases hr : (Utf8.decode s pos).1 < 128
      · rw [mapD_step _ _ hne, decodeL_drop, List.drop_drop, List.map_append, i1, hby, List.map_append]
        congr 1
        have en : encN (Utf8.decode s pos).1 = [(Utf8.decode s pos).1] := by unfold encN; rw [if_pos hr]
        rw [en]
        generalize (Utf8.decode s pos).1 = r at hr
        have hs : 0 ≤ shiftF a b d r ∧ shiftF a b d r ≤ 127 := by
          unfold shiftF; split <;> omega
        rw [if_pos hs.1]
        unfold encodeRune
        rw [encodeRuneZ_one hs.1 hs.2]
        simp only [List.map_cons, List.map_nil]
        congr 1
        have : (shiftF a b d r).toNat = gN a b d r := by
          unfold shiftF gN; split <;> split <;> omega
        rw [this]
        have hl : gN a b d r < 256 := by omega
        show (UInt8.ofNat (gN a b d r)).toNat = _
        rw [UInt8.toNat_ofNat']
        exact Nat.mod_eq_of_lt hl
      · have hsf : shiftF a b d (Utf8.decode s pos).1 = (Utf8.decode s pos).1 := by unfold shiftF; rw [if_neg (by omega)]
        rw [mapD_same _ _ hne (by rw [decodeL_drop]; exact hsf) (by rw [decodeL_drop]; exact fun e => hv (Prod.ext (by simpa using e.1) e.2)), decodeL_drop, List.drop_drop, List.map_append, i1, hby, List.map_append]
        congr 1
        rw [map_same hb _ (encN_big (by omega))]
        have hc : (bytesN s pos) = ((s.data.toList.drop pos).take (Utf8.decode s pos).2).map UInt8.toNat ++ bytesN s (pos + (Utf8.decode s pos).2) := by
          unfold bytesN
          rw [← List.drop_drop, ← List.map_append, List.take_append_drop]
        rw [hby] at hc
        exact (List.append_cancel_right hc).symm
    · have e2 : s.data.toList.drop pos = [] := List.drop_eq_nil_of_le (by rw [← size_eq]; omega)
      rw [bytes_end s pos hp, e2, mapD_nil]; rfl
/-- What strings.Map makes of a valid text. -/
theorem map_text {s : ByteArray} {cs : List Int} (a b : Nat) (d : Int) (hab : a ≤ b) (hb : b < 128) (h0 : 0 ≤ (a : Int) + d) (h1 : (b : Int) + d < 128) (h : chars s = some cs) {t : ByteArray} (ht : bytesN t 0 = (bytesN s 0).map (gN a b d)) : t = ⟨(mapD (shiftF a b d) s.data.toList).toArray⟩ := by
  refine bytesN_inj ?_
  rw [ht, ← map_F a b d hab hb h0 h1 s s.size 0 cs (by omega) h]
  simp [bytesN]
/-! Spaces at both ends. -/
theorem dropWhile_app {p : UInt8 → Bool} : ∀ (l m : List UInt8), (l ++ m).dropWhile p = if l.dropWhile p = [] then m.dropWhile p else l.dropWhile p ++ m
  | [], m => by simp
  | x :: l, m => by
    have ih := dropWhile_app (p := p) l m
    cases hx : p x
    · simp [List.dropWhile_cons, hx]
    · simp only [List.cons_append, List.dropWhile_cons, hx, if_true]; exact ih
theorem trim_cons (l : List UInt8) (c : UInt8) : trimB (c :: l) c = trimB l c := by
  unfold trimB trimRightB
  rw [List.reverse_cons, dropWhile_app]
  split
  · rename_i h; rw [h]; simp [trimLeftB]
  · rw [List.reverse_append]; simp [trimLeftB]
theorem trim_snoc (l : List UInt8) (c : UInt8) : trimB (l ++ [c]) c = trimB l c := by
  unfold trimB trimRightB
  rw [List.reverse_append]; simp
theorem trim_done (l : List UInt8) (c : UInt8) (h1 : ∀ b, l[0]? = some b → b ≠ c) (h2 : ∀ b, 0 < l.length → l[l.length - 1]? = some b → b ≠ c) : trimB l c = l := by
  unfold trimB
  rw [trimRightB_take l c l.length (Nat.le_refl _) (fun j b hj hb => by rw [List.getElem?_eq_none hj] at hb; cases hb) h2, List.take_length]
  rw [trimLeftB_drop l c 0 (Nat.zero_le _) (fun j b hj _ => by omega) h1, List.drop_zero]
theorem list_get (t : ByteArray) (i : Nat) (h : i < t.size) : t.data.toList[i]? = some (t[i]'h) := by
  have h' : i < t.data.toList.length := by rw [← size_eq]; exact h
  rw [List.getElem?_eq_getElem h']; rfl
theorem trim_left {t : ByteArray} (h : 0 < t.size) (hc : t[0]'h = 32) : trimB (t.extract 1 t.size).data.toList 32 = trimB t.data.toList 32 := by
  have e : t.data.toList = 32 :: t.data.toList.drop 1 := by
    have h' : 0 < t.data.toList.length := by rw [← size_eq]; exact h
    have hx : t.data.toList[0]'h' = 32 := hc
    have := List.drop_eq_getElem_cons h'
    rw [List.drop_zero, hx] at this
    exact this
  rw [extract_from]
  simp only
  conv => rhs; rw [e]
  rw [trim_cons]
theorem trim_right {t : ByteArray} (h : 0 < t.size) (hc : t[t.size - 1]'(by omega) = 32) : trimB (t.extract 0 (t.size - 1)).data.toList 32 = trimB t.data.toList 32 := by
  have hl : t.data.toList.length = t.size := (size_eq t).symm
  have e : t.data.toList = t.data.toList.take (t.size - 1) ++ [32] := by
    have h' : t.size - 1 < t.data.toList.length := by omega
    have hx : t.data.toList[t.size - 1]'h' = 32 := hc
    have := List.take_append_getElem (l := t.data.toList) (i := t.size - 1) h'
    rw [hx] at this
    rw [this, List.take_of_length_le (by omega)]
  rw [extract_upto]
  simp only
  conv => rhs; rw [e]
  rw [trim_snoc]
theorem trim_end {t : ByteArray} (h1 : ∀ h : 0 < t.size, t[0]'h ≠ 32) (h2 : ∀ h : 0 < t.size, t[t.size - 1]'(by omega) ≠ 32) : trimB t.data.toList 32 = t.data.toList := by
  have hl : t.data.toList.length = t.size := (size_eq t).symm
  refine trim_done _ _ (fun b hb => ?_) (fun b hp hb => ?_)
  · by_cases h : 0 < t.size
    · rw [list_get t 0 h] at hb; simp at hb; rw [← hb]; exact h1 h
    · rw [List.getElem?_eq_none (by omega)] at hb; cases hb
  · rw [hl] at hb hp
    rw [list_get t _ (by omega)] at hb; simp at hb; rw [← hb]; exact h2 hp
end Ca
end Go.Proofs.YtdcdoeolaongkaaGreatDoor
namespace Go.Proofs.YtdcdoeolaongkaaGreatDoor.Dr
open Go.ChangeShapes Go.WideShapes Go.ChangeAt Go.RowKit
set_option linter.unusedVariables false
set_option linter.unusedSimpArgs false
set_option maxRecDepth 100000
theorem ret_int {k : IntKind} {a b : Int} (h : a = b) : Ending.returned (.int k a) = .returned (.int k b) := by rw [h]
/-- All but block c is as it was. -/
structure Upd (c : Nat) (w w' : World) : Prop where
  os : w'.os = w.os
  tape : w'.tape = w.tape
  output : w'.output = w.output
  size : w.heap.size ≤ w'.heap.size
  block : ∀ k, k < w.heap.size → k ≠ c → w'.heap[k]? = w.heap[k]?
theorem Upd.refl (c : Nat) (w : World) : Upd c w w := ⟨rfl, rfl, rfl, Nat.le_refl _, fun _ _ _ => rfl⟩
theorem Upd.trans {c : Nat} {a b d : World} (h : Upd c a b) (k : Upd c b d) : Upd c a d :=
  ⟨k.os.trans h.os, k.tape.trans h.tape, k.output.trans h.output, Nat.le_trans h.size k.size, fun j hj hc => (k.block j (Nat.lt_of_lt_of_le hj h.size) hc).trans (h.block j hj hc)⟩
theorem Upd.of_below {c : Nat} {w w' : World} (h : Below w.heap.size w w') : Upd c w w' := ⟨h.os, h.tape, h.output, h.size, fun k hk _ => h.block k hk⟩
theorem Upd.drewN {c : Nat} {w w' : World} (h : Upd c w w') (n : Nat) : Upd c w (w'.drewN n) := ⟨h.os, h.tape, h.output, h.size, h.block⟩
theorem Upd.setCell {c : Nat} {w w' : World} (h : Upd c w w') (o : Nat) (u : Value) : Upd c w (w'.setCell ⟨c, o, none⟩ u) := by
  have hb := (Below.refl 0 w').setCell (p := ⟨c, o, none⟩) (Nat.zero_le _) u
  exact ⟨hb.os.trans h.os, hb.tape.trans h.tape, hb.output.trans h.output, Nat.le_trans h.size hb.size, fun k hk hc => (Below.heap_setCell w' ⟨c, o, none⟩ u k hc).trans (h.block k hk hc)⟩
theorem Upd.cell {c : Nat} {w w' : World} (h : Upd c w w') {p : Addr} (hp : p.block < w.heap.size) (hc : p.block ≠ c) : w'.cell? p = w.cell? p := World.cell?_of_block (w := w) (h.block p.block hp hc)
theorem Upd.frozen {c : Nat} {w w' : World} (h : Upd c w w') {p : Addr} (hp : p.block < w.heap.size) (hc : p.block ≠ c) : w'.frozen? p = w.frozen? p := World.frozen?_of_block (w := w) (h.block p.block hp hc)
theorem Upd.below {c : Nat} {w W w' : World} (hb : Below w.heap.size w W) (h : Upd c W w') (hc : w.heap.size ≤ c) : Below w.heap.size w w' :=
  ⟨h.os.trans hb.os, h.tape.trans hb.tape, h.output.trans hb.output, Nat.le_trans hb.size h.size, fun k hk => (h.block k (Nat.lt_of_lt_of_le hk hb.size) (by omega)).trans (hb.block k hk)⟩
/-- The code's bytes lie readable, apart from block c. -/
def Bytes (w : World) (c : Nat) (v0 : Option Addr) (len : Nat) : Prop :=
  ∀ j, j < len → ∃ g o b, v0 = some ⟨g, o, none⟩ ∧ g < c ∧ w.cell? ⟨g, o + j, none⟩ = some (.int .u8 b) ∧ 0 ≤ b ∧ b < 256
theorem Bytes.upd {w w' : World} {c : Nat} {v0 : Option Addr} {len : Nat} (h : Bytes w c v0 len) (u : Upd c w w') (hc : c < w.heap.size) : Bytes w' c v0 len := fun j hj => by
  obtain ⟨g, o, b, e1, e2, e4, e5, e6⟩ := h j hj
  exact ⟨g, o, b, e1, e2, (u.cell (p := ⟨g, o + j, none⟩) (Nat.lt_trans e2 hc) (Nat.ne_of_lt e2)).trans e4, e5, e6⟩
theorem Bytes.same {w w' : World} {c : Nat} {v0 : Option Addr} {len : Nat} (h : Bytes w c v0 len) (u : ∀ k, k < c → w'.heap[k]? = w.heap[k]?) : Bytes w' c v0 len := fun j hj => by
  obtain ⟨g, o, b, e1, e2, e4, e5, e6⟩ := h j hj
  exact ⟨g, o, b, e1, e2, (World.cell?_of_block (w := w) (u g e2)).trans e4, e5, e6⟩
/-- A cursor at block c that has been asked at most A times. -/
structure Cur (w : World) (c : Nat) (A : Int) (v0 : Option Addr) (len cap : Nat) (at' seed room : Int) : Prop where
  c0 : w.cell? ⟨c, 0, none⟩ = some (.slice v0 len cap)
  c1 : w.cell? ⟨c, 1, none⟩ = some (.int .i64 at')
  c2 : w.cell? ⟨c, 2, none⟩ = some (.int .i64 seed)
  c3 : w.cell? ⟨c, 3, none⟩ = some (.int .i64 room)
  f1 : w.frozen? ⟨c, 1, none⟩ = false
  f2 : w.frozen? ⟨c, 2, none⟩ = false
  a0 : 0 ≤ at'
  a1 : at' ≤ A
  s0 : 0 ≤ seed
  s1 : seed < 2147483648
  ln : len ≤ 1048576
  lt : c < w.heap.size
  bs : Bytes w c v0 len
def IsCur (w : World) (c : Nat) (A : Int) : Prop := ∃ v0 len cap at' seed room, Cur w c A v0 len cap at' seed room
theorem Cur.size (w : World) (p : Addr) (u : Value) : w.heap.size ≤ (w.setCell p u).heap.size := ((Below.refl 0 w).setCell (p := p) (Nat.zero_le _) u).size
theorem Cur.at {w : World} {c : Nat} {A : Int} {v0 : Option Addr} {len cap : Nat} {at' seed room : Int} (h : Cur w c A v0 len cap at' seed room) : Cur (w.setCell ⟨c, 1, none⟩ (.int .i64 (at' + 1))) c (A + 1) v0 len cap (at' + 1) seed room := by
  have hb := h.bs.upd ((Upd.refl c w).setCell 1 (.int .i64 (at' + 1))) h.lt
  have hs := Cur.size w ⟨c, 1, none⟩ (.int .i64 (at' + 1))
  obtain ⟨c0, c1, c2, c3, f1, f2, a0, a1, s0, s1, ln, lt, bs⟩ := h
  clear bs
  exact ⟨by simp [go_sem, *], by simp [go_sem, *], by simp [go_sem, *], by simp [go_sem, *], by simp [go_sem, *], by simp [go_sem, *], by omega, by omega, s0, s1, ln, by omega, hb⟩
theorem Cur.seed {w : World} {c : Nat} {A : Int} {v0 : Option Addr} {len cap : Nat} {at' seed room : Int} (h : Cur w c A v0 len cap at' seed room) (x : Int) (x0 : 0 ≤ x) (x1 : x < 2147483648) : Cur (w.setCell ⟨c, 2, none⟩ (.int .i64 x)) c A v0 len cap at' x room := by
  have hb := h.bs.upd ((Upd.refl c w).setCell 2 (.int .i64 x)) h.lt
  have hs := Cur.size w ⟨c, 2, none⟩ (.int .i64 x)
  obtain ⟨c0, c1, c2, c3, f1, f2, a0, a1, s0, s1, ln, lt, bs⟩ := h
  clear bs
  exact ⟨by simp [go_sem, *], by simp [go_sem, *], by simp [go_sem, *], by simp [go_sem, *], by simp [go_sem, *], by simp [go_sem, *], by omega, by omega, x0, x1, ln, by omega, hb⟩
theorem Cur.drewN {w : World} {c : Nat} {A : Int} {v0 : Option Addr} {len cap : Nat} {at' seed room : Int} (h : Cur w c A v0 len cap at' seed room) (n : Nat) : Cur (w.drewN n) c A v0 len cap at' seed room :=
  ⟨h.c0, h.c1, h.c2, h.c3, h.f1, h.f2, h.a0, h.a1, h.s0, h.s1, h.ln, h.lt, h.bs⟩
set_option maxHeartbeats 4000000 in
theorem byte_any (c : Nat) (A : Int) (w : World) (h : IsCur w c A) (hA : A ≤ 1000000000) : Calls Tryz.prog 111 #[.pointer (some ⟨c, 0, none⟩)] w fun e w' => ∃ r : Int, 0 ≤ r ∧ r < 256 ∧ e = .returned (.int .i64 r) ∧ IsCur w' c (A + 1) ∧ Upd c w w' := by
  obtain ⟨v0, len, cap, at', seed, room, hC⟩ := h
  have HC : Hid (Cur w c A v0 len cap at' seed room) := hC
  obtain ⟨c0, c1, c2, c3, f1, f2, a0, a1, s0, s1, ln, lt, bs⟩ := hC
  have HB : Hid (Bytes w c v0 len) := bs
  clear bs
  by_cases h1 : 200 + 40 * (len : Int) < at' + 1
  · go_enter Tryz.func111, Tryz.ntmps111
    go_wp2
    go_quiet (fail)
    go_wp2
    go_ret
    exact ⟨0, by omega, by omega, rfl, ⟨_, _, _, _, _, _, HC.out.at.drewN _⟩, ((Upd.refl c w).setCell _ _).drewN _⟩
  · by_cases h2 : (len : Int) < at' + 1
    · go_enter Tryz.func111, Tryz.ntmps111
      go_wp2
      go_quiet (fail)
      go_wp2
      go_quiet (fail)
      go_wp2
      go_ret
      refine ⟨_, ?_, ?_, rfl, ⟨_, _, _, _, _, _, (HC.out.at.seed ((seed * 1103515245 + 12345) % 2147483648) (by omega) (by omega)).drewN _⟩, (((Upd.refl c w).setCell _ _).setCell _ _).drewN _⟩
      all_goals
        go_light
        omega
    · have hj : at'.toNat < len := by omega
      obtain ⟨g, o, b, rfl, hgc0, hcell, hb0, hb1⟩ := HB.out at'.toNat hj
      have hgc : g ≠ c := Nat.ne_of_lt hgc0
      clear hgc0
      have e1 : ((at'.toNat : Nat) : Int) = at' := by omega
      go_enter Tryz.func111, Tryz.ntmps111
      go_wp2
      go_quiet (fail)
      go_wp2
      go_quiet (fail)
      go_wp2
      have hcell' : ∀ n, ((w.setCell ⟨c, 1, none⟩ (.int .i64 (at' + 1))).drewN n).cell? ⟨g, o + at'.toNat, none⟩ = some (.int .u8 b) := fun n => by simp [go_sem, *]
      have hi0 : 0 ≤ at' + 1 - 1 := by omega
      have hi1 : at' + 1 - 1 < (len : Int) := by omega
      go_region
      all_goals
        go_wp2
        go_quiet (fail)
        go_wp2
        go_ret
        refine ⟨b, hb0, hb1, ret_int ?_, ?_, ?_⟩
        · go_light
          first | rfl | omega
        · exact ⟨_, _, _, _, _, _, (((HC.out.at).drewN _).seed _ (by omega) (by omega)).drewN _⟩
        · exact ((((Upd.refl c w).setCell _ _).drewN _).setCell _ _).drewN _
theorem IsCur.same {w w' : World} {c : Nat} {A : Int} (h : IsCur w c A) (u : ∀ k, k ≤ c → w'.heap[k]? = w.heap[k]?) (hz : c < w'.heap.size) : IsCur w' c A := by
  obtain ⟨v0, len, cap, at', seed, room, hC⟩ := h
  have hb := u c (Nat.le_refl _)
  exact ⟨v0, len, cap, at', seed, room, ⟨(World.cell?_of_block (w := w) (a := ⟨c, 0, none⟩) hb).trans hC.c0, (World.cell?_of_block (w := w) (a := ⟨c, 1, none⟩) hb).trans hC.c1, (World.cell?_of_block (w := w) (a := ⟨c, 2, none⟩) hb).trans hC.c2, (World.cell?_of_block (w := w) (a := ⟨c, 3, none⟩) hb).trans hC.c3, (World.frozen?_of_block (w := w) (a := ⟨c, 1, none⟩) hb).trans hC.f1, (World.frozen?_of_block (w := w) (a := ⟨c, 2, none⟩) hb).trans hC.f2, hC.a0, hC.a1, hC.s0, hC.s1, hC.ln, hz, hC.bs.same fun k hk => u k (Nat.le_of_lt hk)⟩⟩
theorem IsCur.lt {w : World} {c : Nat} {A : Int} (h : IsCur w c A) : c < w.heap.size := by
  obtain ⟨_, _, _, _, _, _, hC⟩ := h
  exact hC.lt
theorem IsCur.below {w w' : World} {c B : Nat} {A : Int} (h : IsCur w c A) (hb : Below B w w') (hB : c < B) : IsCur w' c A :=
  h.same (fun k hk => hb.block k (Nat.lt_of_le_of_lt hk hB)) (Nat.lt_of_lt_of_le h.lt hb.size)
theorem IsCur.mono {w : World} {c : Nat} {A B : Int} (h : IsCur w c A) (hAB : A ≤ B) : IsCur w c B := by
  obtain ⟨v0, len, cap, at', seed, room, hC⟩ := h
  exact ⟨v0, len, cap, at', seed, room, ⟨hC.c0, hC.c1, hC.c2, hC.c3, hC.f1, hC.f2, hC.a0, Int.le_trans hC.a1 hAB, hC.s0, hC.s1, hC.ln, hC.lt, hC.bs⟩⟩
/-- What a draw leaves: a number in its range, the cursor, all else as it was. -/
def Drawn (c : Nat) (A : Int) (n : Int) (w : World) (e : Ending) (w' : World) : Prop := ∃ r : Int, 0 ≤ r ∧ r < n ∧ e = .returned (.int .i64 r) ∧ IsCur w' c A ∧ Upd c w w'
set_option maxHeartbeats 4000000 in
theorem pick_any (c : Nat) (A n : Int) (w : World) (h : IsCur w c A) (hA : A ≤ 100000000) (h1 : 2 ≤ n) (h2 : n ≤ 65536) : Calls Tryz.prog 51 #[.pointer (some ⟨c, 0, none⟩), .int .i64 n] w fun e w' => Drawn c (A + 2) n w e w' := by
  by_cases h256 : n ≤ 256
  · go_enter Tryz.func51, Tryz.ntmps51
    go_wp2_with fail
    refine (byte_any c A _ h (by omega)).mono ?_
    rintro e w1 ⟨r, r0, r1, rfl, hc1, hu1⟩
    have hm0 : 0 ≤ r % n := Int.emod_nonneg _ (by omega)
    have hm1 : r % n < n := Int.emod_lt_of_pos _ (by omega)
    have hn0 : (n == 0) = false := by rw [beq_eq_false_iff_ne]; omega
    go_wp2
    go_ret
    exact ⟨_, by omega, by omega, rfl, hc1.mono (by omega), hu1⟩
  · go_enter Tryz.func51, Tryz.ntmps51
    go_wp2_with fail
    refine (byte_any c A _ h (by omega)).mono ?_
    rintro e w1 ⟨r, r0, r1, rfl, hc1, hu1⟩
    go_wp2_with fail
    refine (byte_any c (A + 1) _ hc1 (by omega)).mono ?_
    rintro e w2 ⟨q, q0, q1, rfl, hc2, hu2⟩
    have hm0 : 0 ≤ (r * 256 + q) % n := Int.emod_nonneg _ (by omega)
    have hm1 : (r * 256 + q) % n < n := Int.emod_lt_of_pos _ (by omega)
    have hn0 : (n == 0) = false := by rw [beq_eq_false_iff_ne]; omega
    go_wp2
    go_ret
    exact ⟨_, by omega, by omega, rfl, hc2.mono (by omega), hu1.trans hu2⟩
end Go.Proofs.YtdcdoeolaongkaaGreatDoor.Dr
namespace Go.Proofs.YtdcdoeolaongkaaGreatDoor.Dr
open Go.ChangeShapes Go.WideShapes Go.ChangeAt Go.RowKit
set_option linter.unusedVariables false
set_option linter.unusedSimpArgs false
set_option maxRecDepth 100000
theorem in_wf {a : Int} (h1 : -9223372036854775808 ≤ a) (h2 : a ≤ 9223372036854775807) : (Lit.int .i64 a).wf = true := by
  have := wrap64_wf a
  rwa [show wrap64 a = a by unfold wrap64; omega] at this
theorem alloc_ints (w : World) (xs : List Int) (i : Nat) (h : i < xs.length) : (w.alloc (.cells (xs.map (Value.int .i64)).toArray 3)).cell? ⟨w.heap.size, i, none⟩ = some (.int .i64 (xs.getD i 0)) := by
  rw [World.cell?_alloc_at _ _ _ _ rfl]
  simp [List.getD, h]
theorem alloc_strs (w : World) (xs : List ByteArray) (i : Nat) (h : i < xs.length) : (w.alloc (.cells (xs.map Value.string).toArray 9)).cell? ⟨w.heap.size, i, none⟩ = some (.string (xs.getD i ByteArray.empty)) := by
  rw [World.cell?_alloc_at _ _ _ _ rfl]
  simp [List.getD, h]
theorem getD_all {α : Type} {P : α → Prop} {d : α} {xs : List α} (h : ∀ x ∈ xs, P x) (hd : P d) (i : Nat) : P (xs.getD i d) := by
  rw [List.getD]
  cases e : xs[i]? with
  | none => exact hd
  | some x => exact h x (List.mem_of_getElem? e)
theorem cur_alloc {w : World} {c : Nat} {A : Int} (h : IsCur w c A) (o : Obj) : IsCur (w.alloc o) c A :=
  h.below ((Below.refl _ w).alloc (Nat.le_refl _) o) h.lt
theorem upd_alloc (c : Nat) (w : World) (o : Obj) : Upd c w (w.alloc o) := Upd.of_below ((Below.refl _ w).alloc (Nat.le_refl _) o)
def ints16 : List Int := [0, 1, 2, 3, -1, 5, 7, 10, -4, 100, 12345, 9223372036854775807, -9223372036854775808, 3037000500, -3037000500, 99999999999999]
def decs16 : List Int := [0, 10000, 5000, 15000, -10000, -5000, 1, -1, 12345678, 33333, 999999999999999999, -999999999999999999, 99999999999999, 20000, 1000000000000, 25000]
/-- A drawn number. -/
def DrawnI (P : Int → Prop) (c : Nat) (A : Int) (w : World) (e : Ending) (w' : World) : Prop := ∃ x : Int, P x ∧ e = .returned (.int .i64 x) ∧ IsCur w' c A ∧ Upd c w w'
set_option maxHeartbeats 4000000 in
theorem drawInt_any (c : Nat) (A : Int) (w : World) (h : IsCur w c A) (hA : A ≤ 100000000) : Calls Tryz.prog 134 #[.pointer (some ⟨c, 0, none⟩)] w fun e w' => DrawnI (fun x => -9223372036854775808 ≤ x ∧ x ≤ 9223372036854775807) c (A + 2) w e w' := by
  have hlt := h.lt
  have hne : w.heap.size ≠ c := by omega
  have hP : ∀ i, -9223372036854775808 ≤ ints16.getD i 0 ∧ ints16.getD i 0 ≤ 9223372036854775807 := fun i => getD_all (P := fun x => -9223372036854775808 ≤ x ∧ x ≤ 9223372036854775807) (by decide) (by decide) i
  have HP := hP
  go_enter Tryz.func134, Tryz.ntmps134
  go_wp2_with fail
  refine (pick_any c A 16 _ (cur_alloc h _) (by omega) (by omega) (by omega)).mono ?_
  rintro e w1 ⟨r, r0, r1, rfl, hc1, hu1⟩
  have hcell : w1.cell? ⟨w.heap.size, r.toNat, none⟩ = some (.int .i64 (ints16.getD r.toNat 0)) := (hu1.cell (p := ⟨w.heap.size, r.toNat, none⟩) (by simp) hne).trans (alloc_ints w ints16 r.toNat (by show r.toNat < 16; omega))
  have hx := hP r.toNat
  clear hP HP
  generalize ints16.getD r.toNat 0 = x at *
  have HX : Hid (-9223372036854775808 ≤ x ∧ x ≤ 9223372036854775807) := hx
  clear hx
  go_wp2
  go_ret
  exact ⟨x, HX.out, rfl, hc1, (upd_alloc c w _).trans hu1⟩
set_option maxHeartbeats 4000000 in
theorem drawDec_any (c : Nat) (A : Int) (w : World) (h : IsCur w c A) (hA : A ≤ 100000000) : Calls Tryz.prog 135 #[.pointer (some ⟨c, 0, none⟩)] w fun e w' => DrawnI (fun x => -999999999999999999 ≤ x ∧ x ≤ 999999999999999999) c (A + 2) w e w' := by
  have hlt := h.lt
  have hne : w.heap.size ≠ c := by omega
  have hP : ∀ i, -999999999999999999 ≤ decs16.getD i 0 ∧ decs16.getD i 0 ≤ 999999999999999999 := fun i => getD_all (P := fun x => -999999999999999999 ≤ x ∧ x ≤ 999999999999999999) (by decide) (by decide) i
  go_enter Tryz.func135, Tryz.ntmps135
  go_wp2_with fail
  refine (pick_any c A 16 _ (cur_alloc h _) (by omega) (by omega) (by omega)).mono ?_
  rintro e w1 ⟨r, r0, r1, rfl, hc1, hu1⟩
  have hcell : w1.cell? ⟨w.heap.size, r.toNat, none⟩ = some (.int .i64 (decs16.getD r.toNat 0)) := (hu1.cell (p := ⟨w.heap.size, r.toNat, none⟩) (by simp) hne).trans (alloc_ints w decs16 r.toNat (by show r.toNat < 16; omega))
  have hx := hP r.toNat
  clear hP
  generalize decs16.getD r.toNat 0 = x at *
  have HX : Hid (-999999999999999999 ≤ x ∧ x ≤ 999999999999999999) := hx
  clear hx
  go_wp2
  go_ret
  exact ⟨x, HX.out, rfl, hc1, (upd_alloc c w _).trans hu1⟩
end Go.Proofs.YtdcdoeolaongkaaGreatDoor.Dr
namespace Go.Proofs.YtdcdoeolaongkaaGreatDoor.Dr
open Go.ChangeShapes Go.WideShapes Go.ChangeAt Go.RowKit
set_option linter.unusedVariables false
set_option linter.unusedSimpArgs false
set_option maxRecDepth 100000
def strs18 : List ByteArray := [⟨#[97]⟩, ⟨#[98]⟩, ⟨#[65]⟩, ⟨#[32]⟩, ⟨#[37]⟩, ⟨#[95]⟩, ⟨#[92]⟩, ⟨#[39]⟩, ⟨#[195, 169]⟩, ⟨#[230, 176, 180]⟩, ⟨#[45, 49, 50]⟩, ⟨#[51, 46, 53]⟩, ⟨#[116, 114, 117, 101]⟩, ⟨#[50, 48, 50, 48, 45, 48, 50, 45, 50, 57]⟩, ⟨#[240, 159, 152, 128]⟩, ⟨#[120, 121, 122]⟩, ⟨#[48]⟩, ⟨#[57]⟩]
theorem strs18_size (i : Nat) : (strs18.getD i ByteArray.empty).size ≤ 12 := getD_all (P := fun t : ByteArray => t.size ≤ 12) (by decide) (by decide) i
/-- A drawn text, short. -/
def DrawnS (L : Nat) (c : Nat) (A : Int) (w : World) (e : Ending) (w' : World) : Prop := ∃ s : ByteArray, s.size ≤ L ∧ e = .returned (.string s) ∧ IsCur w' c A ∧ Upd c w w'
set_option maxHeartbeats 4000000 in
theorem drawText_any (c : Nat) (A : Int) (w : World) (h : IsCur w c A) (hA : A ≤ 10000000) : Calls Tryz.prog 136 #[.pointer (some ⟨c, 0, none⟩)] w fun e w' => DrawnS 60 c (A + 20) w e w' := by
  have hlt := h.lt
  have hne : w.heap.size ≠ c := by omega
  go_enter Tryz.func136, Tryz.ntmps136
  go_wp2_with fail
  refine (pick_any c A 5 _ (cur_alloc h _) (by omega) (by omega) (by omega)).mono ?_
  rintro e w1 ⟨r, r0, r1, rfl, hc1, hu1⟩
  have hl : ∀ i, i < 18 → w1.cell? ⟨w.heap.size, i, none⟩ = some (.string (strs18.getD i ByteArray.empty)) := fun i hi => (hu1.cell (p := ⟨w.heap.size, i, none⟩) (by simp) hne).trans (alloc_strs w strs18 i hi)
  have hz1 : w.heap.size < w1.heap.size := by have := hu1.size; simp at this; omega
  have HL : Hid (∀ i, i < 18 → w1.cell? ⟨w.heap.size, i, none⟩ = some (.string (strs18.getD i ByteArray.empty))) := hl
  have HU : Hid (Upd c w w1) := (upd_alloc c w _).trans hu1
  have HC1 : Hid (IsCur w1 c (A + 2)) := hc1
  clear hl hu1 hc1 h
  go_wp2
  go_loopw [4, 5] (fun o k wr => ∃ (m : Nat) (s : ByteArray), m ≤ 4 ∧ k = .int .i64 m ∧ o = .string s ∧ s.size + 12 * m ≤ 48 ∧ IsCur wr c (A + 2 + 2 * (4 - (m : Int))) ∧ Upd c w1 wr) (fun _ k _ => (intOf k).toNat)
  case atStart => exact ⟨r.toNat, ByteArray.empty, by omega, by go_num, rfl, by show 0 + 12 * r.toNat ≤ 48; omega, HC1.out.mono (by omega), Upd.refl _ _⟩
  case round =>
    obtain ⟨m, s, hm, rfl, rfl, hs, hcr, hur⟩ := hrel
    by_cases h0 : 0 < m
    · have h0' : (0 : Int) < m := by omega
      have hzr : w.heap.size < wr.heap.size := Nat.lt_of_lt_of_le hz1 hur.size
      have HCR : Hid (IsCur wr c (A + 2 + 2 * (4 - (m : Int)))) := hcr
      have HUR : Hid (Upd c w1 wr) := hur
      clear hcr hur
      go_wp2_with fail
      refine (pick_any c _ 18 _ HCR.out (by omega) (by omega) (by omega)).mono ?_
      rintro e w2 ⟨q, q0, q1, rfl, hc2, hu2⟩
      have hcell : w2.cell? ⟨w.heap.size, q.toNat, none⟩ = some (.string (strs18.getD q.toNat ByteArray.empty)) := (hu2.cell (p := ⟨w.heap.size, q.toNat, none⟩) hzr hne).trans ((HUR.out.cell (p := ⟨w.heap.size, q.toNat, none⟩) hz1 hne).trans (HL.out q.toNat (by omega)))
      have hts := strs18_size q.toNat
      generalize strs18.getD q.toNat ByteArray.empty = t at *
      have HC2 : Hid (IsCur w2 c (A + 2 + 2 * (4 - (m : Int)) + 2)) := hc2
      have HU2 : Hid (Upd c wr w2) := hu2
      clear hc2 hu2
      go_wp2
      go_roundw
      case rel => exact ⟨m - 1, s ++ t, by omega, by go_num, rfl, by simp; omega, HC2.out.mono (by omega), HUR.out.trans HU2.out⟩
      case measure => simp [intOf]; omega
    · have h0' : ¬ (0 : Int) < m := by omega
      go_wp2
      go_ret
      exact ⟨s, by omega, rfl, hcr.mono (by omega), HU.out.trans hur⟩
end Go.Proofs.YtdcdoeolaongkaaGreatDoor.Dr
namespace Go.Proofs.YtdcdoeolaongkaaGreatDoor.Dr
open Go.ChangeShapes Go.WideShapes Go.ChangeAt Go.RowKit
set_option linter.unusedVariables false
set_option linter.unusedSimpArgs false
set_option maxRecDepth 100000
theorem info5 : (Tryz.prog.info? 5).map (fun i => (i.zero, i.size, i.bytes)) = some (some (.int .u8 0), 1, 1) := by kernel_rfl
theorem strOf_size (ns : List Int) : (strOfNums ns).size = ns.length := by simp [strOfNums, ByteArray.size]
theorem strCells_map (s : ByteArray) : Lib.strCells s = (s.data.toList.map (fun b => (b.toNat : Int))).map (Value.int .u8) := by
  simp [Lib.strCells]
set_option maxHeartbeats 4000000 in
theorem times_any (n : Nat) (w : World) (h1 : 1 ≤ n) (h2 : n ≤ 300) : Calls Tryz.prog 99 #[.string ⟨#[195, 169]⟩, .int .i64 n] w fun e w' => ∃ t : ByteArray, t.size ≤ 600 ∧ e = .returned (.string t) ∧ Below w.heap.size w w' := by
  obtain ⟨i0, hi, hz0, hz1, hz2⟩ := info_parts info5
  go_enter Tryz.func99, Tryz.ntmps99
  go_wp2
  go_loopw [5, 6] (fun v i wr => ∃ (j : Nat) (ns : List Int), j ≤ n ∧ i = .int .i64 j ∧ ns.length = 2 * j ∧ wr.ownsRow w.heap.size 5 1 v ns.length (ns.map (Value.int .u8)) ∧ Below w.heap.size w wr) (fun _ i _ => n - (intOf i).toNat)
  case atStart => exact ⟨0, [], by omega, rfl, rfl, World.ownsRow_made w #[] 0 (Nat.le_refl _) (by unfold maxLen; omega) (by simp), (Below.refl _ _).alloc (Nat.le_refl _) _⟩
  case round =>
    obtain ⟨j, ns, hj, rfl, hl, hown, hbel⟩ := hrel
    have HL : Hid (ns.length = 2 * j) := hl
    have hl1 : ns.length ≤ 600 := by omega
    clear hl
    by_cases hlt : j < n
    · have hlt' : (j : Int) < n := by omega
      go_wp2_with (at_builtin; refine Lib.wpList_append_own_string _ rfl (.tmp 13) (.tmp 14) 27 9 rfl w.heap.size 5 i0 Tryz.underlying27 Tryz.underlying9 hi hz0 hz1 hz2 _ _ _ rfl hown ⟨#[195, 169]⟩ rfl (by show _ + 2 ≤ _; unfold maxLen; omega) (by show _ + 2 ≤ _; omega) hbel.size ?_; intro v' w1 hown' hgrow _)
      have HB1 : Hid (Below w.heap.size w w1) := hbel.grown hgrow hbel.size (fun k hk => (hown.lt k hk).1)
      have ho1 : w1.ownsRow w.heap.size 5 1 v' (ns ++ [195, 169]).length ((ns ++ [195, 169]).map (Value.int .u8)) := by
        rw [strCells_map, show ({ data := #[195, 169] } : ByteArray).size = 2 from rfl] at hown'
        simpa using hown'
      have HO : Hid (w1.ownsRow w.heap.size 5 1 v' (ns ++ [195, 169]).length ((ns ++ [195, 169]).map (Value.int .u8))) := ho1
      clear ho1
      clear hown' hgrow hown hbel
      go_wp2
      go_roundw
      case rel => exact ⟨j + 1, ns ++ [195, 169], by omega, by go_num, by have := HL.out; simp; omega, HO.out, HB1.out⟩
      case measure => simp [intOf]; omega
    · have hlt' : ¬ (j : Int) < n := by omega
      have hpos : 1 ≤ ns.length := by have := HL.out; omega
      have hown0 := hown
      obtain ⟨hlen, hcase⟩ := hown0
      rcases hcase with ⟨_, h0⟩ | ⟨g, cap, cur, rfl, hg1, hg2, hg3, hg4, hg5, hg6⟩
      · omega
      have hcells : ∀ i, i < ns.length → wr.cell? ⟨g, 0 + i, none⟩ = some (.int .u8 (ns.getD i 0)) := fun i hi => by
        have := hown.cells (g := g) rfl i (.int .u8 (ns.getD i 0)) (by simp [List.getD, hi])
        simp only [Addr.add] at this
        by_cases e : i = 0
        · subst e; simpa using this
        · simpa [e] using this
      clear hown hg2 hg3 hg4 hg5 hg6 hlen
      have hcv := run_convert_bytes_arg (P := Tryz.prog) wr 27 5 Tryz.underlying27 Tryz.underlying5 g 0 ns.length cap ns rfl hcells 9 Tryz.underlying9
      have hss := strOf_size ns
      generalize strOfNums ns = t at *
      have HS : Hid (t.size = ns.length) := hss
      clear hss hcells
      go_wp2
      go_ret
      exact ⟨t, by rw [HS.out]; omega, rfl, hbel⟩
end Go.Proofs.YtdcdoeolaongkaaGreatDoor.Dr
namespace Go.Proofs.YtdcdoeolaongkaaGreatDoor
namespace Lk
open Go.ChangeShapes Go.WideShapes Go.ChangeAt Go.RowKit
set_option linter.unusedVariables false
set_option linter.unusedSimpArgs false
set_option maxRecDepth 100000
def ints (l : List Nat) : List Int := l.map Int.ofNat
theorem ints_app (a b : List Nat) : ints (a ++ b) = ints a ++ ints b := by simp [ints]
theorem bytes_strOf {l : List Nat} (h : ∀ x ∈ l, x < 256) : bytesN (strOfNums (ints l)) 0 = l := by
  unfold bytesN
  rw [List.drop_zero, strOfNums_data]
  induction l with
  | nil => rfl
  | cons a l ih =>
    have ha := h a (by simp)
    have := ih (fun x hx => h x (by simp [hx]))
    simp only [ints, List.map_cons] at this ⊢
    rw [this]
    congr 1
    show (UInt8.ofNat (Int.ofNat a).toNat).toNat = a
    simp; omega
theorem escB_lt {l : List Nat} (h : ∀ x ∈ l, x < 256) : ∀ x ∈ escB l, x < 256 := by
  intro x hx
  unfold escB at hx
  rw [List.mem_flatMap] at hx
  obtain ⟨b, hb, hx⟩ := hx
  have := h b hb
  split at hx
  · simp at hx; omega
  · simp at hx; omega
theorem escB_len : ∀ (l : List Nat), (escB l).length ≤ 2 * l.length
  | [] => by simp [escB]
  | a :: l => by
    have := escB_len l
    have e : escB (a :: l) = (if a = 37 ∨ a = 95 ∨ a = 92 then [92, a] else [a]) ++ escB l := rfl
    rw [e, List.length_append, List.length_cons]
    split
    · simp only [List.length_cons, List.length_nil]; omega
    · simp only [List.length_cons, List.length_nil]; omega
theorem bytesN_lt (s : ByteArray) (p : Nat) : ∀ x ∈ bytesN s p, x < 256 := by
  intro x hx
  unfold bytesN at hx
  obtain ⟨b, _, rfl⟩ := List.mem_map.1 hx
  exact b.toNat_lt
theorem bytesN_len (s : ByteArray) : (bytesN s 0).length = s.size := by
  unfold bytesN; rw [List.length_map, List.length_drop, Rd.len_eq]; rfl
/-- The bytes escaped so far. -/
def escTo (s : ByteArray) (k : Nat) : List Nat := escB ((s.data.toList.take k).map UInt8.toNat)
theorem escTo_full (s : ByteArray) : escTo s s.size = escB (bytesN s 0) := by
  unfold escTo bytesN; rw [Rd.take_full, List.drop_zero]
theorem escTo_sign {s : ByteArray} {k : Nat} (h : k < s.size) {c : Nat} (e : (s[k]'h).toNat = c) (hc : c = 37 ∨ c = 95 ∨ c = 92) : escTo s (k + 1) = escTo s k ++ [92] ++ [c] := by
  unfold escTo
  rw [Rd.take_snoc s k h, List.map_append, escB_app, List.append_assoc]
  congr 1
  simp only [List.map_cons, List.map_nil, e]
  unfold escB
  rw [List.flatMap_cons, if_pos hc]; rfl
theorem escTo_else {s : ByteArray} {k : Nat} (h : k < s.size) {c : Nat} (e : (s[k]'h).toNat = c) (hc : ¬ (c = 37 ∨ c = 95 ∨ c = 92)) : escTo s (k + 1) = escTo s k ++ [c] := by
  unfold escTo
  rw [Rd.take_snoc s k h, List.map_append, escB_app]
  congr 1
  simp only [List.map_cons, List.map_nil, e]
  unfold escB
  rw [List.flatMap_cons, if_neg hc]; rfl
theorem escTo_len (s : ByteArray) (k : Nat) (h : k ≤ s.size) : (escTo s k).length ≤ 2 * k := by
  have := escB_len ((s.data.toList.take k).map UInt8.toNat)
  have e : ((s.data.toList.take k).map UInt8.toNat).length = k := by simp [Rd.len_eq]; omega
  unfold escTo; omega
/-- A row of bytes that is ours. -/
def OwnB (w : World) (v : Value) (l : List Nat) (wr : World) : Prop :=
  wr.ownsRow w.heap.size 5 1 v l.length ((ints l).map (Value.int .u8)) ∧ v ≠ .slice none 0 0 ∧ Below w.heap.size w wr
theorem OwnB.grow {w wr w1 : World} {v v' : Value} {l : List Nat} {x : Nat} (h : OwnB w v l wr) (o : Obj)
    (ho : w1.ownsRow w.heap.size 5 1 v' (l.length + 1) ((ints l).map (Value.int .u8) ++ [.int .u8 (x : Int)])) (hg : (wr.alloc o).grownBy w1 v.ownBlock) : OwnB w v' (l ++ [x]) w1 := by
  obtain ⟨h1, h2, h3⟩ := h
  refine ⟨by rw [ints_app]; simpa [ints] using ho, ?_, ?_⟩
  · rintro rfl
    rcases ho.2 with ⟨_, h0⟩ | ⟨g, cap, cur, e, _⟩
    · omega
    · cases e
  · exact (h3.alloc h3.size o).grown hg (by have := h3.size; simp; omega) (fun k hk => (h1.lt k hk).1)
/-- The text that such a row becomes. -/
theorem OwnB.text {w wr : World} {v : Value} {l : List Nat} (h : OwnB w v l wr) (hl : ∀ x ∈ l, x < 256) : ∃ t : ByteArray, bytesN t 0 = l ∧ t.size = l.length ∧ (convert 27 9 v).run Tryz.prog wr = .ok (.string t) wr := by
  obtain ⟨h1, h2, h3⟩ := h
  have h0 := h1
  obtain ⟨hlen, hcase⟩ := h0
  rcases hcase with ⟨rfl, _⟩ | ⟨g, cap, cur, rfl, _⟩
  · exact absurd rfl h2
  have hcells : ∀ i, i < l.length → wr.cell? ⟨g, 0 + i, none⟩ = some (.int .u8 ((ints l).getD i 0)) := fun i hi => by
    have := h1.cells (g := g) rfl i (.int .u8 ((ints l).getD i 0)) (by simp [List.getD, ints, hi])
    simp only [Addr.add] at this
    by_cases e : i = 0
    · subst e; simpa using this
    · simpa [e] using this
  have hcv := run_convert_bytes_arg (P := Tryz.prog) wr 27 5 Tryz.underlying27 Tryz.underlying5 g 0 l.length cap (ints l) (by simp [ints]) hcells 9 Tryz.underlying9
  exact ⟨_, bytes_strOf hl, by rw [Dr.strOf_size]; simp [ints], hcv⟩
theorem OwnB.start (w : World) : OwnB w (.slice (some ⟨w.heap.size, 0, none⟩) 0 0) [] (w.alloc (.cells #[] 5)) :=
  ⟨World.ownsRow_made w #[] 0 (Nat.le_refl _) (by unfold maxLen; omega) (by simp), by simp, (Below.refl _ _).alloc (Nat.le_refl _) _⟩
set_option maxHeartbeats 4000000 in
theorem escaped_any (s : ByteArray) (w : World) (hs : s.size ≤ 1048576) : Calls Tryz.prog 28 #[.string s] w fun e w' => ∃ t : ByteArray, bytesN t 0 = escB (bytesN s 0) ∧ e = .returned (.string t) ∧ Below w.heap.size w w' := by
  obtain ⟨i0, hi, hz0, hz1, hz2⟩ := info_parts Dr.info5
  go_enter Tryz.func28, Tryz.ntmps28
  go_wp2
  go_loopw [3, 4] (fun v i wr => ∃ k : Nat, k ≤ s.size ∧ i = .int .i64 k ∧ OwnB w v (escTo s k) wr) (fun _ i _ => s.size - (intOf i).toNat)
  case atStart => exact ⟨0, by omega, rfl, OwnB.start w⟩
  case round =>
    obtain ⟨k, hk, rfl, hO⟩ := hrel
    have hll := escTo_len s k hk
    have hzz := hO.2.2.size
    by_cases hlt : k < s.size
    · have hlt' : (k : Int) < s.size := by omega
      have hown := hO.1
      have HO : Hid (OwnB w _ (escTo s k) wr) := hO
      clear hO
      obtain ⟨c, hc⟩ : ∃ c : Nat, (s[k]'hlt).toNat = c := ⟨_, rfl⟩
      have hci : ((s[k]'hlt).toNat : Int) = c := by rw [hc]
      by_cases hx : c = 37 ∨ c = 95 ∨ c = 92
      · have HE : Hid (escTo s (k + 1) = escTo s k ++ [92] ++ [c]) := escTo_sign hlt hc hx
        clear hc
        generalize escTo s k = l at *
        rcases hx with rfl | rfl | rfl
        all_goals
          go_wp2_with (at_builtin; first
            | (refine wpList_append_own _ rfl (.tmp 28) (.tmp 29) 27 rfl w.heap.size 5 i0 (.int .u8 0) 1 1 Tryz.underlying27 hi hz0 hz1 hz2 rfl (by decide) _ _ _ rfl (hown.alloc _) ⟨wr.heap.size, 0, none⟩ 1 1 [.int .u8 92] rfl rfl (cell_one_new _ _ _) (by intro u hu; simp at hu; subst hu; rfl) (by unfold maxLen; omega) (by omega) (by simp; omega) ?_; intro v' w1 hown' hgrow _; have HO1 := HO.out.grow (x := 92) _ hown' hgrow; have hown1 := HO1.1; have hz1' := HO1.2.2.size; have HO2 : Hid (OwnB w v' (l ++ [92]) w1) := HO1; have hl1 : (l ++ [92]).length ≤ 2 * k + 1 := (by rw [List.length_append]; show l.length + 1 ≤ _; omega); clear hown' hgrow hown HO1; generalize l ++ [92] = l1 at *)
            | (refine wpList_append_own _ rfl (.tmp 31) (.tmp 35) 27 rfl w.heap.size 5 i0 (.int .u8 0) 1 1 Tryz.underlying27 hi hz0 hz1 hz2 rfl (by decide) _ _ _ rfl (hown1.alloc _) ⟨w1.heap.size, 0, none⟩ 1 1 [.int .u8 _] rfl rfl (cell_one_new _ _ _) (by intro u hu; simp at hu; subst hu; rfl) (by unfold maxLen; omega) (by omega) (by simp; omega) ?_; intro v2 w2 hown2 hgrow2 _))
          have HO3 := HO2.out.grow _ hown2 hgrow2
          clear hown2 hgrow2 hown1
          go_wp2
          go_roundw
          case rel => exact ⟨k + 1, by omega, by go_num, by rw [HE.out]; exact HO3⟩
          case measure => simp [intOf]; omega
      · have HE : Hid (escTo s (k + 1) = escTo s k ++ [c]) := escTo_else hlt hc hx
        have n1 : ((c : Int) == 37) = false := by simp; omega
        have n2 : ((c : Int) == 95) = false := by simp; omega
        have n3 : ((c : Int) == 92) = false := by simp; omega
        have m1 : ¬ (c : Int) = 37 := by omega
        have m2 : ¬ (c : Int) = 95 := by omega
        have m3 : ¬ (c : Int) = 92 := by omega
        clear hc hx
        generalize escTo s k = l at *
        go_wp2_with (at_builtin; refine wpList_append_own _ rfl (.tmp 31) (.tmp 35) 27 rfl w.heap.size 5 i0 (.int .u8 0) 1 1 Tryz.underlying27 hi hz0 hz1 hz2 rfl (by decide) _ _ _ rfl (hown.alloc _) ⟨wr.heap.size, 0, none⟩ 1 1 [.int .u8 _] rfl rfl (cell_one_new _ _ _) (by intro u hu; simp at hu; subst hu; rfl) (by unfold maxLen; omega) (by omega) (by simp; omega) ?_; intro v2 w2 hown2 hgrow2 _)
        have HO3 := HO.out.grow _ hown2 hgrow2
        clear hown2 hgrow2 hown
        go_wp2
        go_roundw
        case rel => exact ⟨k + 1, by omega, by go_num, by rw [HE.out]; exact HO3⟩
        case measure => simp [intOf]; omega
    · have hlt' : ¬ (k : Int) < s.size := by omega
      obtain rfl : k = s.size := by omega
      have he := escTo_full s
      obtain ⟨t, ht, _, hcv⟩ := hO.text (by rw [he]; exact escB_lt (bytesN_lt s 0))
      have hbel := hO.2.2
      have HT : Hid (bytesN t 0 = escB (bytesN s 0)) := ht.trans he
      clear ht he hO hll
      go_wp2
      go_ret
      exact ⟨t, HT.out, rfl, hbel⟩
end Lk
end Go.Proofs.YtdcdoeolaongkaaGreatDoor
namespace Go.Proofs.YtdcdoeolaongkaaGreatDoor
namespace Ca
open Go.ChangeShapes Go.WideShapes Go.ChangeAt Go.RowKit Go.Shelf
open Go.Proofs.YtdcdoeolaongkaaGreatDoor.Lk
set_option linter.unusedVariables false
set_option linter.unusedSimpArgs false
set_option maxRecDepth 100000
def caseTo (a b : Nat) (d : Int) (s : ByteArray) (k : Nat) : List Nat := ((s.data.toList.take k).map UInt8.toNat).map (gN a b d)
theorem caseTo_step {a b : Nat} {d : Int} {s : ByteArray} {k c : Nat} (h : k < s.size) (hc : (s[k]'h).toNat = c) : caseTo a b d s (k + 1) = caseTo a b d s k ++ [gN a b d c] := by
  have h' : k < s.data.toList.length := by rw [← Lib.size_eq]; exact h
  have hx : s.data.toList[k]'h' = s[k]'h := rfl
  unfold caseTo
  rw [List.take_succ_eq_append_getElem h', List.map_append, List.map_append]
  simp [hx, hc]
theorem caseTo_full (a b : Nat) (d : Int) (s : ByteArray) : caseTo a b d s s.size = (bytesN s 0).map (gN a b d) := by
  unfold caseTo bytesN
  rw [List.take_of_length_le (by rw [← Lib.size_eq]; omega), List.drop_zero]
theorem caseTo_len (a b : Nat) (d : Int) (s : ByteArray) (k : Nat) (h : k ≤ s.size) : (caseTo a b d s k).length = k := by
  unfold caseTo
  have : s.data.toList.length = s.size := (Lib.size_eq s).symm
  simp; omega
theorem gN_lt {a b c : Nat} {d : Int} (hb : b < 128) (h1 : (b : Int) + d < 128) (hc : c < 256) : gN a b d c < 256 := by
  unfold gN; split <;> omega
theorem bytes_lt (s : ByteArray) : ∀ x ∈ bytesN s 0, x < 256 := by
  intro x hx
  unfold bytesN at hx
  obtain ⟨y, _, rfl⟩ := List.mem_map.1 hx
  exact y.toNat_lt
set_option maxHeartbeats 8000000 in
theorem caseL_any (s : ByteArray) (w : World) (hs : s.size ≤ 1048576) : Calls Tryz.prog 76 #[.string s, .int .u8 65, .int .u8 97] w fun e w' => ∃ t : ByteArray, bytesN t 0 = (bytesN s 0).map (gN 65 90 (32)) ∧ e = .returned (.string t) ∧ Below w.heap.size w w' := by
  obtain ⟨i0, hi, hz0, hz1, hz2⟩ := info_parts Dr.info5
  go_enter Tryz.func76, Tryz.ntmps76
  go_wp2
  go_loopw [7, 8, 9] (fun v i _ wr => ∃ k : Nat, k ≤ s.size ∧ i = .int .i64 k ∧ OwnB w v (caseTo 65 90 (32) s k) wr) (fun _ i _ _ => s.size - (intOf i).toNat)
  case atStart => exact ⟨0, by omega, rfl, OwnB.start w⟩
  case round =>
    obtain ⟨k, hk, rfl, hO⟩ := hrel
    have hll := caseTo_len 65 90 (32) s k hk
    have hzz := hO.2.2.size
    by_cases hlt : k < s.size
    · have hlt' : (k : Int) < s.size := by omega
      have hown := hO.1
      have HO : Hid (OwnB w _ (caseTo 65 90 (32) s k) wr) := hO
      clear hO
      obtain ⟨c, hc⟩ : ∃ c : Nat, (s[k]'hlt).toNat = c := ⟨_, rfl⟩
      have hc256 : c < 256 := by rw [← hc]; exact (s[k]'hlt).toNat_lt
      have hci : ((s[k]'hlt).toNat : Int) = c := by rw [hc]
      have HE : Hid (caseTo 65 90 (32) s (k + 1) = caseTo 65 90 (32) s k ++ [gN 65 90 (32) c]) := caseTo_step hlt hc
      clear hc
      generalize caseTo 65 90 (32) s k = l at *
      by_cases h1 : 65 ≤ c
      · have h1i : (65 : Int) ≤ c := by omega
        by_cases h2 : c ≤ 90
        · have h2i : (c : Int) ≤ 90 := by omega
          have HG : Hid (gN 65 90 (32) c = c + 32) := (by unfold gN; rw [if_pos ⟨h1, h2⟩]; omega : gN 65 90 (32) c = c + 32)
          have w1' : IntKind.u8.wrap ((c : Int) - 65) = (c : Int) - 65 := by rw [IntKind.wrap_u8]; omega
          have w2' : IntKind.u8.wrap ((c : Int) - 65 + 97) = ((c + 32 : Nat) : Int) := by rw [IntKind.wrap_u8]; omega
          go_wp2_with (at_builtin; refine wpList_append_own _ rfl (.tmp 34) (.tmp 36) 27 rfl w.heap.size 5 i0 (.int .u8 0) 1 1 Tryz.underlying27 hi hz0 hz1 hz2 rfl (by decide) _ _ _ rfl (hown.alloc _) ⟨wr.heap.size, 0, none⟩ 1 1 [.int .u8 _] rfl rfl (cell_one_new _ _ _) (by intro u hu; simp at hu; subst hu; rfl) (by unfold maxLen; omega) (by omega) (by simp; omega) ?_; intro v2 w2 hown2 hgrow2 _)
          have HO3 := HO.out.grow (x := c + 32) _ hown2 hgrow2
          clear hown2 hgrow2 hown
          go_wp2
          go_roundw
          case rel => exact ⟨k + 1, by omega, by go_num, by rw [HE.out, HG.out]; exact HO3⟩
          case measure => simp [intOf]; omega
        · have h2i : ¬ (c : Int) ≤ 90 := by omega
          have h2d : decide ((c : Int) ≤ 90) = false := by simpa using h2i
          have HG : Hid (gN 65 90 (32) c = c) := (by unfold gN; rw [if_neg (by omega)] : gN 65 90 (32) c = c)
          go_wp2_with (at_builtin; refine wpList_append_own _ rfl (.tmp 34) (.tmp 36) 27 rfl w.heap.size 5 i0 (.int .u8 0) 1 1 Tryz.underlying27 hi hz0 hz1 hz2 rfl (by decide) _ _ _ rfl (hown.alloc _) ⟨wr.heap.size, 0, none⟩ 1 1 [.int .u8 _] rfl rfl (cell_one_new _ _ _) (by intro u hu; simp at hu; subst hu; rfl) (by unfold maxLen; omega) (by omega) (by simp; omega) ?_; intro v2 w2 hown2 hgrow2 _)
          have HO3 := HO.out.grow (x := c) _ hown2 hgrow2
          clear hown2 hgrow2 hown
          go_wp2
          go_roundw
          case rel => exact ⟨k + 1, by omega, by go_num, by rw [HE.out, HG.out]; exact HO3⟩
          case measure => simp [intOf]; omega
      · have h1i : ¬ (65 : Int) ≤ c := by omega
        have h1d : decide ((65 : Int) ≤ c) = false := by simpa using h1i
        have HG : Hid (gN 65 90 (32) c = c) := (by unfold gN; rw [if_neg (by omega)] : gN 65 90 (32) c = c)
        go_wp2_with (at_builtin; refine wpList_append_own _ rfl (.tmp 34) (.tmp 36) 27 rfl w.heap.size 5 i0 (.int .u8 0) 1 1 Tryz.underlying27 hi hz0 hz1 hz2 rfl (by decide) _ _ _ rfl (hown.alloc _) ⟨wr.heap.size, 0, none⟩ 1 1 [.int .u8 _] rfl rfl (cell_one_new _ _ _) (by intro u hu; simp at hu; subst hu; rfl) (by unfold maxLen; omega) (by omega) (by simp; omega) ?_; intro v2 w2 hown2 hgrow2 _)
        have HO3 := HO.out.grow (x := c) _ hown2 hgrow2
        clear hown2 hgrow2 hown
        go_wp2
        go_roundw
        case rel => exact ⟨k + 1, by omega, by go_num, by rw [HE.out, HG.out]; exact HO3⟩
        case measure => simp [intOf]; omega
    · have hlt' : ¬ (k : Int) < s.size := by omega
      obtain rfl : k = s.size := by omega
      have he := caseTo_full 65 90 (32) s
      obtain ⟨t, ht, _, hcv⟩ := hO.text (by rw [he]; intro x hx; obtain ⟨y, hy, rfl⟩ := List.mem_map.1 hx; exact gN_lt (by omega) (by omega) (bytes_lt s y hy))
      have hbel := hO.2.2
      have HT : Hid (bytesN t 0 = (bytesN s 0).map (gN 65 90 (32))) := ht.trans he
      clear ht he hO hll
      go_wp2
      go_ret
      exact ⟨t, HT.out, rfl, hbel⟩
set_option maxHeartbeats 8000000 in
theorem caseU_any (s : ByteArray) (w : World) (hs : s.size ≤ 1048576) : Calls Tryz.prog 76 #[.string s, .int .u8 97, .int .u8 65] w fun e w' => ∃ t : ByteArray, bytesN t 0 = (bytesN s 0).map (gN 97 122 (-32)) ∧ e = .returned (.string t) ∧ Below w.heap.size w w' := by
  obtain ⟨i0, hi, hz0, hz1, hz2⟩ := info_parts Dr.info5
  go_enter Tryz.func76, Tryz.ntmps76
  go_wp2
  go_loopw [7, 8, 9] (fun v i _ wr => ∃ k : Nat, k ≤ s.size ∧ i = .int .i64 k ∧ OwnB w v (caseTo 97 122 (-32) s k) wr) (fun _ i _ _ => s.size - (intOf i).toNat)
  case atStart => exact ⟨0, by omega, rfl, OwnB.start w⟩
  case round =>
    obtain ⟨k, hk, rfl, hO⟩ := hrel
    have hll := caseTo_len 97 122 (-32) s k hk
    have hzz := hO.2.2.size
    by_cases hlt : k < s.size
    · have hlt' : (k : Int) < s.size := by omega
      have hown := hO.1
      have HO : Hid (OwnB w _ (caseTo 97 122 (-32) s k) wr) := hO
      clear hO
      obtain ⟨c, hc⟩ : ∃ c : Nat, (s[k]'hlt).toNat = c := ⟨_, rfl⟩
      have hc256 : c < 256 := by rw [← hc]; exact (s[k]'hlt).toNat_lt
      have hci : ((s[k]'hlt).toNat : Int) = c := by rw [hc]
      have HE : Hid (caseTo 97 122 (-32) s (k + 1) = caseTo 97 122 (-32) s k ++ [gN 97 122 (-32) c]) := caseTo_step hlt hc
      clear hc
      generalize caseTo 97 122 (-32) s k = l at *
      by_cases h1 : 97 ≤ c
      · have h1i : (97 : Int) ≤ c := by omega
        by_cases h2 : c ≤ 122
        · have h2i : (c : Int) ≤ 122 := by omega
          have HG : Hid (gN 97 122 (-32) c = c - 32) := (by unfold gN; rw [if_pos ⟨h1, h2⟩]; omega : gN 97 122 (-32) c = c - 32)
          have w1' : IntKind.u8.wrap ((c : Int) - 97) = (c : Int) - 97 := by rw [IntKind.wrap_u8]; omega
          have w2' : IntKind.u8.wrap ((c : Int) - 97 + 65) = ((c - 32 : Nat) : Int) := by rw [IntKind.wrap_u8]; omega
          go_wp2_with (at_builtin; refine wpList_append_own _ rfl (.tmp 34) (.tmp 36) 27 rfl w.heap.size 5 i0 (.int .u8 0) 1 1 Tryz.underlying27 hi hz0 hz1 hz2 rfl (by decide) _ _ _ rfl (hown.alloc _) ⟨wr.heap.size, 0, none⟩ 1 1 [.int .u8 _] rfl rfl (cell_one_new _ _ _) (by intro u hu; simp at hu; subst hu; rfl) (by unfold maxLen; omega) (by omega) (by simp; omega) ?_; intro v2 w2 hown2 hgrow2 _)
          have HO3 := HO.out.grow (x := c - 32) _ hown2 hgrow2
          clear hown2 hgrow2 hown
          go_wp2
          go_roundw
          case rel => exact ⟨k + 1, by omega, by go_num, by rw [HE.out, HG.out]; exact HO3⟩
          case measure => simp [intOf]; omega
        · have h2i : ¬ (c : Int) ≤ 122 := by omega
          have h2d : decide ((c : Int) ≤ 122) = false := by simpa using h2i
          have HG : Hid (gN 97 122 (-32) c = c) := (by unfold gN; rw [if_neg (by omega)] : gN 97 122 (-32) c = c)
          go_wp2_with (at_builtin; refine wpList_append_own _ rfl (.tmp 34) (.tmp 36) 27 rfl w.heap.size 5 i0 (.int .u8 0) 1 1 Tryz.underlying27 hi hz0 hz1 hz2 rfl (by decide) _ _ _ rfl (hown.alloc _) ⟨wr.heap.size, 0, none⟩ 1 1 [.int .u8 _] rfl rfl (cell_one_new _ _ _) (by intro u hu; simp at hu; subst hu; rfl) (by unfold maxLen; omega) (by omega) (by simp; omega) ?_; intro v2 w2 hown2 hgrow2 _)
          have HO3 := HO.out.grow (x := c) _ hown2 hgrow2
          clear hown2 hgrow2 hown
          go_wp2
          go_roundw
          case rel => exact ⟨k + 1, by omega, by go_num, by rw [HE.out, HG.out]; exact HO3⟩
          case measure => simp [intOf]; omega
      · have h1i : ¬ (97 : Int) ≤ c := by omega
        have h1d : decide ((97 : Int) ≤ c) = false := by simpa using h1i
        have HG : Hid (gN 97 122 (-32) c = c) := (by unfold gN; rw [if_neg (by omega)] : gN 97 122 (-32) c = c)
        go_wp2_with (at_builtin; refine wpList_append_own _ rfl (.tmp 34) (.tmp 36) 27 rfl w.heap.size 5 i0 (.int .u8 0) 1 1 Tryz.underlying27 hi hz0 hz1 hz2 rfl (by decide) _ _ _ rfl (hown.alloc _) ⟨wr.heap.size, 0, none⟩ 1 1 [.int .u8 _] rfl rfl (cell_one_new _ _ _) (by intro u hu; simp at hu; subst hu; rfl) (by unfold maxLen; omega) (by omega) (by simp; omega) ?_; intro v2 w2 hown2 hgrow2 _)
        have HO3 := HO.out.grow (x := c) _ hown2 hgrow2
        clear hown2 hgrow2 hown
        go_wp2
        go_roundw
        case rel => exact ⟨k + 1, by omega, by go_num, by rw [HE.out, HG.out]; exact HO3⟩
        case measure => simp [intOf]; omega
    · have hlt' : ¬ (k : Int) < s.size := by omega
      obtain rfl : k = s.size := by omega
      have he := caseTo_full 97 122 (-32) s
      obtain ⟨t, ht, _, hcv⟩ := hO.text (by rw [he]; intro x hx; obtain ⟨y, hy, rfl⟩ := List.mem_map.1 hx; exact gN_lt (by omega) (by omega) (bytes_lt s y hy))
      have hbel := hO.2.2
      have HT : Hid (bytesN t 0 = (bytesN s 0).map (gN 97 122 (-32))) := ht.trans he
      clear ht he hO hll
      go_wp2
      go_ret
      exact ⟨t, HT.out, rfl, hbel⟩
set_option maxHeartbeats 400000 in
theorem shiftC_any (a b d : Int) (B : Nat) (x : Nat) (w : World) (hx : x ≤ 1114111) (hd : -1000 ≤ d) (hd2 : d ≤ 1000)
    (h1 : w.cell? ⟨B, 0, none⟩ = some (.int .i32 a)) (h2 : w.cell? ⟨B + 1, 0, none⟩ = some (.int .i32 b)) (h3 : w.cell? ⟨B + 2, 0, none⟩ = some (.int .i32 d)) :
    Calls Tryz.prog 184 #[.int .i32 x, .pointer (some ⟨B, 0, none⟩), .pointer (some ⟨B + 1, 0, none⟩), .pointer (some ⟨B + 2, 0, none⟩)] w fun e w' => e = .returned (.int .i32 (shiftF a b d x)) ∧ w' = w := by
  by_cases g1 : a ≤ (x : Int)
  · by_cases g2 : (x : Int) ≤ b
    · go_enter Tryz.func184, Tryz.ntmps184
      go_wp2
      go_ret
      refine ⟨ret_int ?_, rfl⟩
      unfold shiftF; rw [if_pos ⟨g1, g2⟩]
    · go_enter Tryz.func184, Tryz.ntmps184
      go_wp2
      go_ret
      refine ⟨ret_int ?_, rfl⟩
      unfold shiftF; rw [if_neg (by omega)]
  · go_enter Tryz.func184, Tryz.ntmps184
    go_wp2
    go_ret
    refine ⟨ret_int ?_, rfl⟩
    unfold shiftF; rw [if_neg (by omega)]
theorem mapGrows_of (a b d : Int) (B : Nat) (W : World) (hd : -1000 ≤ d) (hd2 : d ≤ 1000) (hB : B + 2 < W.heap.size)
    (h1 : W.cell? ⟨B, 0, none⟩ = some (.int .i32 a)) (h2 : W.cell? ⟨B + 1, 0, none⟩ = some (.int .i32 b)) (h3 : W.cell? ⟨B + 2, 0, none⟩ = some (.int .i32 d)) :
    MapAtRunes Tryz.prog 184 #[.pointer (some ⟨B, 0, none⟩), .pointer (some ⟨B + 1, 0, none⟩), .pointer (some ⟨B + 2, 0, none⟩)] (shiftF a b d) W := by
  intro W' x hx hb
  have c1 := (hb.cell (p := ⟨B, 0, none⟩) (by show B < _; omega)).trans h1
  have c2 := (hb.cell (p := ⟨B + 1, 0, none⟩) (by show B + 1 < _; omega)).trans h2
  have c3 := (hb.cell (p := ⟨B + 2, 0, none⟩) (by show B + 2 < _; omega)).trans h3
  refine (shiftC_any a b d B x W' hx hd hd2 c1 c2 c3).mono ?_
  rintro e w' ⟨rfl, rfl⟩
  exact ⟨rfl, 0, rfl⟩
set_option maxHeartbeats 800000 in
theorem shifted_any (s : ByteArray) (a b d : Int) (w : World) (hnn : 0 ≤ a + d) (hs : s.size < 35184372088832) (hd : -1000 ≤ d) (hd2 : d ≤ 1000) (hT : Tabs w) :
    Calls Tryz.prog 150 #[.string s, .int .i32 a, .int .i32 b, .int .i32 d] w fun e w' => e = .returned (.agg #[.int .i64 3, .int .i64 0, .string ⟨(Lib.mapD (shiftF a b d) s.data.toList).toArray⟩]) ∧ Below w.heap.size w w' := by
  have eg : ∀ args w, (callFunc 184 args).run Tryz.prog w = .ok (.enter 184 args) w := enters_of Tryz.func184 (by kernel_rfl) rfl
  have hm := fun W (hB : w.heap.size + 2 < W.heap.size) h1 h2 h3 (hT : Tabs W) => Tryz.strings_Map_runes 184 _ eg (shiftF a b d) s W hs (mapGrows_of a b d w.heap.size W hd hd2 hB h1 h2 h3) (fun x hx => by unfold shiftF; split <;> omega) hT
  have hT4 : ∀ o1 o2 o3 o4, Tabs ((((w.alloc o1).alloc o2).alloc o3).alloc o4) := fun o1 o2 o3 o4 => tabs_below (tabs_below (tabs_below (tabs_below hT (below_alloc _ _)) (below_alloc _ _)) (below_alloc _ _)) (below_alloc _ _)
  go_enter Tryz.func150, Tryz.ntmps150
  go_wp2_with (go_at_call 183; refine Calls.mono (hm _ (by simp) (by go_simp) (by go_simp) (by go_simp) (hT4 _ _ _ _)) ?_; rintro e w1 ⟨rfl, hb1⟩; obtain ⟨hc1, hf1⟩ := bcell hb1; have hz1 : w.heap.size + 3 < w1.heap.size := (by have := hb1.size; simp at this; omega); have bw1 : Below w.heap.size w w1 := (((((Below.refl _ _).alloc (Nat.le_refl _) _).alloc (by simp) _).alloc (by simp; omega) _).alloc (by simp; omega) _).trans (hb1.mono (by simp; omega)); clear hb1)
  refine (Rd.textValue_any _ _).mono ?_
  rintro e w2 ⟨rfl, hb2⟩
  obtain ⟨hc2, hf2⟩ := bcell hb2
  have hz2 : w.heap.size + 3 < w2.heap.size := by have := hb2.size; omega
  have bw2 : Below w.heap.size w w2 := bw1.trans (hb2.mono (by have := bw1.size; omega))
  go_wp2
  refine bodyPost_ret (v := .agg #[.int .i64 3, .int .i64 0, .string ⟨(Lib.mapD (shiftF a b d) s.data.toList).toArray⟩]) (by simp [results, Tryz.results150, go_sem, hc1, hf1, hz1, hc2, hf2, hz2]) rfl ⟨rfl, ?_⟩
  exact ((bw2.setCell (by show w.heap.size ≤ w.heap.size + 3; omega) _).setCell (by show w.heap.size ≤ w.heap.size + 3; omega) _).setCell (by show w.heap.size ≤ w.heap.size + 3; omega) _
set_option maxHeartbeats 2000000 in
theorem lower_work (k n : Int) (s : ByteArray) (a : Option Addr) (cap : Nat) (W : World) (h : RVO W (.slice a 1 cap) [(k, n, s)]) (hs : s.size ≤ 1048576) (hT : Tabs W) :
    Calls Tryz.prog 86 #[.slice a 1 cap] W fun e w' => Gives (fun V => V = Rd.tV 3 0 ⟨(Lib.mapD (shiftF 65 90 32) s.data.toList).toArray⟩ 0) W e w' := by
  obtain ⟨g, o, rfl, hg, c0, c1, c2⟩ := one_cells h
  have bw0 := below_alloc W (.cells #[.int .i64 0, .int .i64 0, .string ⟨#[]⟩] 29)
  have d2 := (bw0.cell (p := ⟨g, o + 2, none⟩) hg).trans c2
  have hcon := fun w h => shifted_any s 65 90 (32) w (by omega) (by omega) (by omega) (by omega) h
  generalize (⟨(Lib.mapD (shiftF 65 90 32) s.data.toList).toArray⟩ : ByteArray) = r at *
  clear h c0 c1 c2
  go_enter Tryz.func86, Tryz.ntmps86
  go_wp2_with (go_at_call 150; fail)
  refine (hcon _ (tabs_below hT bw0)).mono ?_
  rintro e w1 ⟨rfl, hb1⟩
  obtain ⟨hc1, hf1⟩ := bcell hb1
  have hz1 : W.heap.size < w1.heap.size := by have := hb1.size; simp at this; omega
  have bw1 : Below W.heap.size W w1 := bw0.trans (hb1.mono (by simp))
  go_wp2
  refine bodyPost_ret (v := Rd.tV 3 0 r 0) (by simp [results, Tryz.results86, go_sem, Rd.tV, hc1, hf1, hz1]) rfl (Gives.mk rfl ?_)
  exact ((bw1.setCell (Nat.le_refl _) _).setCell (Nat.le_refl _) _).setCell (Nat.le_refl _) _
set_option maxHeartbeats 2000000 in
theorem upper_work (k n : Int) (s : ByteArray) (a : Option Addr) (cap : Nat) (W : World) (h : RVO W (.slice a 1 cap) [(k, n, s)]) (hs : s.size ≤ 1048576) (hT : Tabs W) :
    Calls Tryz.prog 87 #[.slice a 1 cap] W fun e w' => Gives (fun V => V = Rd.tV 3 0 ⟨(Lib.mapD (shiftF 97 122 (-32)) s.data.toList).toArray⟩ 0) W e w' := by
  obtain ⟨g, o, rfl, hg, c0, c1, c2⟩ := one_cells h
  have bw0 := below_alloc W (.cells #[.int .i64 0, .int .i64 0, .string ⟨#[]⟩] 29)
  have d2 := (bw0.cell (p := ⟨g, o + 2, none⟩) hg).trans c2
  have hcon := fun w h => shifted_any s 97 122 (-32) w (by omega) (by omega) (by omega) (by omega) h
  generalize (⟨(Lib.mapD (shiftF 97 122 (-32)) s.data.toList).toArray⟩ : ByteArray) = r at *
  clear h c0 c1 c2
  go_enter Tryz.func87, Tryz.ntmps87
  go_wp2_with (go_at_call 150; fail)
  refine (hcon _ (tabs_below hT bw0)).mono ?_
  rintro e w1 ⟨rfl, hb1⟩
  obtain ⟨hc1, hf1⟩ := bcell hb1
  have hz1 : W.heap.size < w1.heap.size := by have := hb1.size; simp at this; omega
  have bw1 : Below W.heap.size W w1 := bw0.trans (hb1.mono (by simp))
  go_wp2
  refine bodyPost_ret (v := Rd.tV 3 0 r 0) (by simp [results, Tryz.results87, go_sem, Rd.tV, hc1, hf1, hz1]) rfl (Gives.mk rfl ?_)
  exact ((bw1.setCell (Nat.le_refl _) _).setCell (Nat.le_refl _) _).setCell (Nat.le_refl _) _
end Ca
end Go.Proofs.YtdcdoeolaongkaaGreatDoor
namespace Go.Proofs.YtdcdoeolaongkaaGreatDoor
open Go.ChangeShapes Go.WideShapes Go.ChangeAt Go.RowKit
namespace Lk
set_option linter.unusedVariables false
set_option linter.unusedSimpArgs false
set_option maxRecDepth 100000
theorem info21 : (Tryz.prog.info? 21).map (fun i => (i.zero, i.size, i.bytes)) = some (some (.int .i32 0), 1, 4) := by kernel_rfl
theorem info111 : (Tryz.prog.info? 121).map (fun i => (i.zero, i.size, i.bytes)) = some (some (.agg #[.bool false, .bool false, .int .i32 0]), 3, 8) := by kernel_rfl
/-- A row is kept while a string's iterator goes on. -/
theorem row_iter {w : World} {B e size n k pos : Nat} {v : Value} {xs : List Value} {s : ByteArray} (h : w.ownsRow B e size v n xs) (hk : w.heap[k]? = some (.stringIter s pos)) (q : Nat) : (w.iterAt k s q).ownsRow B e size v n xs := by
  obtain ⟨h1, h2⟩ := h
  refine ⟨h1, ?_⟩
  rcases h2 with a | ⟨g, cap, cur, e1, e2, e3, e4⟩
  · exact .inl a
  · have hne : g ≠ k := by intro hc; rw [hc, hk] at e3; cases e3
    exact .inr ⟨g, cap, cur, e1, e2, (Lib.iterAt_other w k g s q hne).trans e3, e4⟩
theorem row_no_iter {w : World} {B e size n k pos : Nat} {v : Value} {xs : List Value} {s : ByteArray} (h : w.ownsRow B e size v n xs) (hk : w.heap[k]? = some (.stringIter s pos)) : some k ≠ v.ownBlock := by
  rcases h.2 with ⟨rfl, _⟩ | ⟨g, cap, cur, rfl, _, e3, _⟩
  · intro hc; cases hc
  · intro hc
    have : k = g := by simpa [Value.ownBlock] using hc
    rw [← this, hk] at e3; cases e3
theorem three_new (w : World) (x y z : Value) (t : TypeId) : ∀ j u, [x, y, z][j]? = some u → (w.alloc (.cells #[x, y, z] t)).cell? ((⟨w.heap.size, 0, none⟩ : Addr).add j) = some u := by
  intro j u hj
  match j, hj with
  | 0, hj => simp at hj; subst hj; simp [Addr.add]
  | 1, hj => simp at hj; subst hj; simp [Addr.add]
  | 2, hj => simp at hj; subst hj; simp [Addr.add]
  | (j + 3), hj => simp at hj
/-- One step of a range over a well formed text. -/
theorem step_ch {s : ByteArray} {b pos : Nat} {acc cs : List Int} (h : pos < s.size) (hb : s.size ≤ pos + b) (hm : (chF s b pos).map (acc ++ ·) = some cs) :
    (chF s (b - 1) (pos + (Utf8.decode s pos).2)).map ((acc ++ [((Utf8.decode s pos).1 : Int)]) ++ ·) = some cs ∧ pos + (Utf8.decode s pos).2 ≤ s.size ∧ 1 ≤ (Utf8.decode s pos).2 := by
  obtain ⟨f, rfl⟩ : ∃ f, b = f + 1 := ⟨b - 1, by omega⟩
  rw [chF, if_pos h] at hm
  by_cases hd : Utf8.decode s pos = (65533, 1)
  · rw [if_pos hd] at hm; cases hm
  · rw [if_neg hd, Option.map_map] at hm
    refine ⟨?_, (width_le s pos h).1, Lib.decode_width_pos s pos h⟩
    rw [Nat.add_sub_cancel, ← hm]
    congr 1
    funext l
    simp
/-- A row that grows beside an iterator in block g. -/
structure Beside (w : World) (s : ByteArray) (g pos : Nat) (e size : Nat) (v : Value) (n : Nat) (xs : List Value) (wr : World) : Prop where
  it : wr.heap[g]? = some (.stringIter s pos)
  own : wr.ownsRow w.heap.size e size v n xs
  bel : Below w.heap.size w wr
theorem Beside.next {w wr : World} {s : ByteArray} {g pos e size n : Nat} {v : Value} {xs : List Value} (h : Beside w s g pos e size v n xs wr) (hg : w.heap.size ≤ g) (q : Nat) : Beside w s g q e size v n xs (wr.iterAt g s q) :=
  ⟨Lib.iterAt_heap wr g s pos q h.it, row_iter h.own h.it q, Lib.below_iterAt h.bel hg s q⟩
theorem Beside.grown {w wr w1 : World} {s : ByteArray} {g pos e size n m : Nat} {v v' : Value} {xs ys : List Value} (h : Beside w s g pos e size v n xs wr) (o : Obj) (hown : w1.ownsRow w.heap.size e size v' m ys) (hgrow : (wr.alloc o).grownBy w1 v.ownBlock) : Beside w s g pos e size v' m ys w1 := by
  have hz := h.bel.size
  have hlt : g < wr.heap.size := (Array.getElem?_eq_some_iff.1 h.it).1
  refine ⟨?_, hown, ?_⟩
  · exact (hgrow.block g (by simp; omega) (row_no_iter h.own h.it)).trans ((Below.heap_alloc _ _ _ hlt).trans h.it)
  · exact (h.bel.alloc hz o).grown hgrow (by simp; omega) (fun j hj => (h.own.lt j hj).1)
def ch32 (l : List Int) : List Value := l.map (Value.int .i32)
def CharsR (s : ByteArray) (cs : List Int) (w : World) (v : Value) (wr : World) : Prop :=
  ∃ (pos b : Nat) (acc : List Int), pos ≤ s.size ∧ s.size ≤ pos + b ∧ acc.length ≤ pos ∧ (chF s b pos).map (acc ++ ·) = some cs ∧ Beside w s w.heap.size pos 21 1 v acc.length (ch32 acc) wr
set_option maxHeartbeats 4000000 in
theorem charsOf_any (s : ByteArray) (cs : List Int) (w : World) (hs : s.size ≤ 1048576) (hc : chars s = some cs) :
    Calls Tryz.prog 72 #[.string s] w fun e w' => ∃ v, e = .returned v ∧ w'.ownsRow w.heap.size 21 1 v cs.length (ch32 cs) ∧ Below w.heap.size w w' := by
  obtain ⟨i0, hi, hz0, hz1, hz2⟩ := info_parts info21
  have HC : Hid (chars s = some cs) := hc
  clear hc
  go_enter Tryz.func72, Tryz.ntmps72
  go_wp2
  go_loopw [3] (fun v wr => CharsR s cs w v wr) (fun _ wr => s.size - wr.iterPos w.heap.size)
  case atStart => exact ⟨0, s.size, [], by omega, by omega, by simp, by rw [← HC.out]; simp [chars], ⟨World.iter_heap w s 0, World.ownsRow_nil _ _ _ _, (Below.refl _ w).alloc (Nat.le_refl _) _⟩⟩
  case round =>
    obtain ⟨pos, b, acc, hp, hb, hacc, hm, hbe⟩ := hrel
    have HM : Hid ((chF s b pos).map (acc ++ ·) = some cs) := hm
    have hmu : wr.iterPos w.heap.size = pos := by simp [World.iterPos, hbe.it]
    clear hm
    by_cases hlt : pos < s.size
    · have hnx : ∀ ty, (Instr.next (.pointer (some ⟨w.heap.size, 0, none⟩)) true ty).run Tryz.prog wr = _ := fun ty => Lib.run_next_any_at wr w.heap.size s pos ty hbe.it hlt
      obtain ⟨S1, S2, S3⟩ := step_ch hlt hb HM.out
      have HS : Hid ((chF s (b - 1) (pos + (Utf8.decode s pos).2)).map ((acc ++ [((Utf8.decode s pos).1 : Int)]) ++ ·) = some cs) := S1
      have hb2 := hbe.next (Nat.le_refl _) (pos + (Utf8.decode s pos).2)
      clear S1 hbe
      generalize (Utf8.decode s pos).2 = K at *
      generalize (Utf8.decode s pos).1 = R at *
      obtain ⟨W, hW⟩ : ∃ W, wr.iterAt w.heap.size s (pos + K) = W := ⟨_, rfl⟩
      rw [hW] at hnx hb2
      have hz := hb2.bel.size
      have hown := hb2.own
      go_wp2_with (at_builtin; refine wpList_append_own _ rfl (.tmp 11) (.tmp 13) 97 rfl w.heap.size 21 i0 (.int .i32 0) 1 4 Tryz.underlying97 hi hz0 hz1 hz2 rfl (by decide) _ _ _ rfl (hown.alloc _) ⟨W.heap.size, 0, none⟩ 1 1 [.int .i32 (R : Int)] rfl rfl (cell_one_new _ _ _) (by intro u hu; simp at hu; subst hu; rfl) (by unfold maxLen; omega) (by omega) (by simp; omega) ?_; intro v' w1 hown' hgrow _)
      have hb3 := hb2.grown _ hown' hgrow
      clear hown' hgrow hown hb2
      go_roundw
      case rel => exact ⟨pos + K, b - 1, acc ++ [(R : Int)], S2, by omega, by simp; omega, HS.out, by simpa [ch32] using hb3⟩
      case measure => rw [hmu, show w1.iterPos w.heap.size = pos + K by simp [World.iterPos, hb3.it]]; omega
    · have hnx : ∀ ty, (Instr.next (.pointer (some ⟨w.heap.size, 0, none⟩)) true ty).run Tryz.prog wr = _ := fun ty => Lib.run_next_end_at wr w.heap.size s pos ty hbe.it hlt
      have HE : Hid (acc = cs) := (by have := HM.out; rw [chF_end s b pos hlt] at this; simpa using this : acc = cs)
      go_wp2
      go_ret
      rw [← HE.out]
      exact ⟨_, rfl, hbe.own, hbe.bel⟩
/-- The cells of a pattern's pieces. -/
def pc3 (l : List (Bool × Bool × Int)) : List Value := l.flatMap fun x => [.bool x.1, .bool x.2.1, .int .i32 x.2.2]
theorem pc3_snoc (l : List (Bool × Bool × Int)) (m a : Bool) (c : Int) : pc3 (l ++ [(m, a, c)]) = pc3 l ++ [.bool m, .bool a, .int .i32 c] := by simp [pc3]
theorem pc3_len (l : List (Bool × Bool × Int)) : (pc3 l).length = l.length * 3 := by
  induction l with
  | nil => rfl
  | cons x l ih => simp [pc3] at ih ⊢; omega
def PiecesR (s : ByteArray) (ps : List (Bool × Bool × Int)) (w : World) (v ev : Value) (wr : World) : Prop :=
  ∃ (pos b : Nat) (esc : Bool) (acc : List (Bool × Bool × Int)) (rest : List Int), ev = .bool esc ∧ pos ≤ s.size ∧ s.size ≤ pos + b ∧ acc.length ≤ pos ∧ Hid (chF s b pos = some rest ∧ acc ++ pcs esc rest = ps) ∧ Beside w s w.heap.size pos 121 3 v acc.length (pc3 acc) wr
/-- One step of a range over a well formed text, by what is left. -/
theorem step_rest {s : ByteArray} {b pos : Nat} {rest : List Int} (h : pos < s.size) (hb : s.size ≤ pos + b) (hm : chF s b pos = some rest) :
    ∃ r, rest = ((Utf8.decode s pos).1 : Int) :: r ∧ chF s (b - 1) (pos + (Utf8.decode s pos).2) = some r ∧ pos + (Utf8.decode s pos).2 ≤ s.size ∧ 1 ≤ (Utf8.decode s pos).2 := by
  obtain ⟨f, rfl⟩ : ∃ f, b = f + 1 := ⟨b - 1, by omega⟩
  rw [chF, if_pos h] at hm
  by_cases hd : Utf8.decode s pos = (65533, 1)
  · rw [if_pos hd] at hm; cases hm
  · rw [if_neg hd] at hm
    obtain ⟨r, hr, e⟩ := Option.map_eq_some_iff.1 hm
    exact ⟨r, e.symm, hr, (width_le s pos h).1, Lib.decode_width_pos s pos h⟩
end Lk
end Go.Proofs.YtdcdoeolaongkaaGreatDoor
namespace Go.Proofs.YtdcdoeolaongkaaGreatDoor
namespace Lk
open Go.ChangeShapes Go.WideShapes Go.ChangeAt Go.RowKit
set_option linter.unusedVariables false
set_option linter.unusedSimpArgs false
set_option maxRecDepth 100000
theorem OwnB.grows {w wr w1 : World} {v v' : Value} {l ys : List Nat} {n : Nat} {cs : List Value} (h : OwnB w v l wr) (o : Obj) (hn : n = ys.length) (hp : 0 < n) (hc : cs = (ints ys).map (Value.int .u8))
    (ho : w1.ownsRow w.heap.size 5 1 v' (l.length + n) ((ints l).map (Value.int .u8) ++ cs)) (hg : (wr.alloc o).grownBy w1 v.ownBlock) : OwnB w v' (l ++ ys) w1 := by
  obtain ⟨h1, h2, h3⟩ := h
  subst hn hc
  refine ⟨by rw [ints_app]; simpa using ho, ?_, ?_⟩
  · rintro rfl
    rcases ho.2 with ⟨_, h0⟩ | ⟨g, cap, cur, e, _⟩
    · omega
    · cases e
  · exact (h3.alloc h3.size o).grown hg (by have := h3.size; simp; omega) (fun k hk => (h1.lt k hk).1)
theorem two_new (w : World) (x y : Value) (t : TypeId) : ∀ j u, [x, y][j]? = some u → (w.alloc (.cells #[x, y] t)).cell? ((⟨w.heap.size, 0, none⟩ : Addr).add j) = some u := by
  intro j u h
  match j, h with
  | 0, h => simp at h; subst h; simp [go_sem]
  | 1, h => simp at h; subst h; simp [go_sem, Addr.add]
theorem tre_new (w : World) (x y z : Value) (t : TypeId) : ∀ j u, [x, y, z][j]? = some u → (w.alloc (.cells #[x, y, z] t)).cell? ((⟨w.heap.size, 0, none⟩ : Addr).add j) = some u := by
  intro j u h
  match j, h with
  | 0, h => simp at h; subst h; simp [go_sem]
  | 1, h => simp at h; subst h; simp [go_sem, Addr.add]
  | 2, h => simp at h; subst h; simp [go_sem, Addr.add]
theorem four_new (w : World) (x y z q : Value) (t : TypeId) : ∀ j u, [x, y, z, q][j]? = some u → (w.alloc (.cells #[x, y, z, q] t)).cell? ((⟨w.heap.size, 0, none⟩ : Addr).add j) = some u := by
  intro j u h
  match j, h with
  | 0, h => simp at h; subst h; simp [go_sem]
  | 1, h => simp at h; subst h; simp [go_sem, Addr.add]
  | 2, h => simp at h; subst h; simp [go_sem, Addr.add]
  | 3, h => simp at h; subst h; simp [go_sem, Addr.add]
theorem encN_lt {r : Nat} (h : r ≤ 1114111) : ∀ x ∈ encN r, x < 256 := by
  intro x hx
  unfold encN at hx
  split at hx
  · simp at hx; omega
  split at hx
  · simp at hx; omega
  split at hx
  · simp at hx; omega
  · simp at hx; omega
theorem encs_lt {l : List Int} (h : sane l) : ∀ x ∈ encs l, x < 256 := by
  intro x hx
  unfold encs at hx
  obtain ⟨c, hc, hx⟩ := List.mem_flatMap.1 hx
  have := h c hc
  exact encN_lt (by omega) x hx
theorem encN_len (r : Nat) : (encN r).length ≤ 4 := by
  unfold encN
  split
  · simp
  split
  · simp
  split <;> simp
theorem encs_len : ∀ (l : List Int), (encs l).length ≤ 4 * l.length
  | [] => by simp [encs]
  | c :: l => by
    have := encs_len l
    have h := encN_len c.toNat
    rw [encs_cons, List.length_append, List.length_cons]; omega
theorem encs_take {l : List Int} {k : Nat} (h : k < l.length) : encs (l.take (k + 1)) = encs (l.take k) ++ encN (l[k]).toNat := by
  rw [List.take_succ_eq_append_getElem h, encs_app, encs_cons, encs_nil, List.append_nil]
set_option maxHeartbeats 8000000 in
theorem text_any (ts : List Int) (v0 : Value) (w : World) (hv : Mp.RIO w v0 ts) (hS : sane ts) (hl : ts.length ≤ 1048576) :
    Calls Tryz.prog 69 #[v0] w fun e w' => ∃ t : ByteArray, bytesN t 0 = encs ts ∧ e = .returned (.string t) ∧ Below w.heap.size w w' := by
  obtain ⟨i0, hi, hz0, hz1, hz2⟩ := info_parts Dr.info5
  obtain ⟨a, cap, rfl, hcells⟩ := hv
  go_enter Tryz.func69, Tryz.ntmps69
  go_wp2
  go_loopw [3, 9] (fun v i wr => ∃ k : Nat, k ≤ ts.length ∧ i = .int .i64 k ∧ OwnB w v (encs (ts.take k)) wr) (fun _ i _ => ts.length - (intOf i).toNat)
  case atStart => exact ⟨0, by omega, rfl, OwnB.start w⟩
  case round =>
    obtain ⟨k, hk, rfl, hO⟩ := hrel
    have hll := encs_len (ts.take k)
    have hlk : (ts.take k).length ≤ 1048576 := by rw [List.length_take]; omega
    have hzz := hO.2.2.size
    by_cases hlt : k < ts.length
    · have hlt' : (k : Int) < ts.length := by omega
      obtain ⟨g, o, rfl, hg, hc⟩ := hcells (by omega)
      have hcell : wr.cell? ⟨g, o + k, none⟩ = some (.int .i64 ts[k]) := (hO.2.2.cell (p := ⟨g, o + k, none⟩) hg).trans (hc k hlt)
      have hown := hO.1
      have HO : Hid (OwnB w _ (encs (ts.take k)) wr) := hO
      have HE : Hid (encs (ts.take (k + 1)) = encs (ts.take k) ++ encN (ts[k]).toNat) := encs_take hlt
      have hs := hS ts[k] (List.getElem_mem hlt)
      have hgz : g < wr.heap.size := by omega
      clear hO hcells hc
      generalize ts[k] = c at *
      generalize encs (ts.take k) = l at *
      obtain ⟨m, rfl⟩ : ∃ m : Nat, c = m := ⟨c.toNat, by omega⟩
      have hme : ((m : Int)).toNat = m := by omega
      rw [hme] at HE
      clear hme
      by_cases h1 : (m : Int) < 128
      · have HQ : Hid (encN m = [m]) := (by unfold encN; rw [if_pos (by omega)] : encN m = [m])
        go_wp2_with (at_builtin; refine wpList_append_own _ rfl (.tmp 37) (.tmp 40) 27 rfl w.heap.size 5 i0 (.int .u8 0) 1 1 Tryz.underlying27 hi hz0 hz1 hz2 rfl (by decide) _ _ _ rfl (hown.alloc _) ⟨wr.heap.size, 0, none⟩ 1 1 [.int .u8 _] rfl rfl (cell_one_new _ _ _) (by intro u hu; simp at hu; subst hu; rfl) (by unfold maxLen; omega) (by omega) (by simp; omega) ?_; intro v2 w2 hown2 hgrow2 _)
        have HO3 := HO.out.grows (ys := [m]) _ rfl (by simp) rfl hown2 hgrow2
        clear hown2 hgrow2 hown
        go_wp2
        go_roundw
        case rel => exact ⟨k + 1, by omega, by go_num, by rw [HE.out, HQ.out]; exact HO3⟩
        case measure => simp [intOf]; omega
      · by_cases h2 : (m : Int) < 2048
        · have HQ : Hid (encN m = [192 + m / 64, 128 + m % 64]) := (by unfold encN; rw [if_neg (by omega), if_pos (by omega)] : encN m = [192 + m / 64, 128 + m % 64])
          have e1 : (m : Int).tdiv 64 = ((m / 64 : Nat) : Int) := rfl
          have e2 : (m : Int).tmod 64 = ((m % 64 : Nat) : Int) := rfl
          have b1 : m / 64 < 32 := by omega
          have b2 : m % 64 < 64 := by omega
          generalize m / 64 = q1 at *
          generalize m % 64 = q0 at *
          go_wp2_with (at_builtin; refine wpList_append_own _ rfl (.tmp 45) (.tmp 54) 27 rfl w.heap.size 5 i0 (.int .u8 0) 1 1 Tryz.underlying27 hi hz0 hz1 hz2 rfl (by decide) _ _ _ rfl (hown.alloc _) ⟨wr.heap.size, 0, none⟩ 2 2 [.int .u8 _, .int .u8 _] rfl rfl (two_new _ _ _ _) (by intro u hu; simp at hu; rcases hu with rfl | rfl <;> rfl) (by unfold maxLen; omega) (by omega) (by simp; omega) ?_; intro v2 w2 hown2 hgrow2 _)
          have HO3 := HO.out.grows (ys := [192 + q1, 128 + q0]) _ rfl (by simp) (by simp [ints]) hown2 hgrow2
          clear hown2 hgrow2 hown
          go_wp2
          go_roundw
          case rel => exact ⟨k + 1, by omega, by go_num, by rw [HE.out, HQ.out]; exact HO3⟩
          case measure => simp [intOf]; omega
        · by_cases h3 : (m : Int) < 65536
          · have HQ : Hid (encN m = [224 + m / 4096, 128 + m / 64 % 64, 128 + m % 64]) := (by unfold encN; rw [if_neg (by omega), if_neg (by omega), if_pos (by omega)] : encN m = [224 + m / 4096, 128 + m / 64 % 64, 128 + m % 64])
            have e1 : (m : Int).tdiv 4096 = ((m / 4096 : Nat) : Int) := rfl
            have e2 : (m : Int).tmod 64 = ((m % 64 : Nat) : Int) := rfl
            have e3 : (m : Int).tdiv 64 = ((m / 64 : Nat) : Int) := rfl
            have e4 : ((m / 64 : Nat) : Int).tmod 64 = ((m / 64 % 64 : Nat) : Int) := rfl
            have b1 : m / 4096 < 16 := by omega
            have b2 : m % 64 < 64 := by omega
            have b3 : m / 64 < 1024 := by omega
            have b4 : m / 64 % 64 < 64 := by omega
            generalize m / 64 % 64 = q1 at *
            generalize m / 64 = q3 at *
            generalize m / 4096 = q2 at *
            generalize m % 64 = q0 at *
            go_wp2_with (at_builtin; refine wpList_append_own _ rfl (.tmp 59) (.tmp 73) 27 rfl w.heap.size 5 i0 (.int .u8 0) 1 1 Tryz.underlying27 hi hz0 hz1 hz2 rfl (by decide) _ _ _ rfl (hown.alloc _) ⟨wr.heap.size, 0, none⟩ 3 3 [.int .u8 _, .int .u8 _, .int .u8 _] rfl rfl (tre_new _ _ _ _ _) (by intro u hu; simp at hu; rcases hu with rfl | rfl | rfl <;> rfl) (by unfold maxLen; omega) (by omega) (by simp; omega) ?_; intro v2 w2 hown2 hgrow2 _)
            have HO3 := HO.out.grows (ys := [224 + q2, 128 + q1, 128 + q0]) _ rfl (by simp) (by simp [ints]) hown2 hgrow2
            clear hown2 hgrow2 hown
            go_wp2
            go_roundw
            case rel => exact ⟨k + 1, by omega, by go_num, by rw [HE.out, HQ.out]; exact HO3⟩
            case measure => simp [intOf]; omega
          · have HQ : Hid (encN m = [240 + m / 262144, 128 + m / 4096 % 64, 128 + m / 64 % 64, 128 + m % 64]) := (by unfold encN; rw [if_neg (by omega), if_neg (by omega), if_neg (by omega)] : encN m = [240 + m / 262144, 128 + m / 4096 % 64, 128 + m / 64 % 64, 128 + m % 64])
            have e1 : (m : Int).tdiv 4096 = ((m / 4096 : Nat) : Int) := rfl
            have e2 : (m : Int).tmod 64 = ((m % 64 : Nat) : Int) := rfl
            have e3 : (m : Int).tdiv 64 = ((m / 64 : Nat) : Int) := rfl
            have e4 : ((m / 64 : Nat) : Int).tmod 64 = ((m / 64 % 64 : Nat) : Int) := rfl
            have e5 : (m : Int).tdiv 262144 = ((m / 262144 : Nat) : Int) := rfl
            have e6 : ((m / 4096 : Nat) : Int).tmod 64 = ((m / 4096 % 64 : Nat) : Int) := rfl
            have b1 : m / 4096 < 300 := by omega
            have b2 : m % 64 < 64 := by omega
            have b3 : m / 64 < 20000 := by omega
            have b4 : m / 64 % 64 < 64 := by omega
            have b5 : m / 262144 < 5 := by omega
            have b6 : m / 4096 % 64 < 64 := by omega
            generalize m / 64 % 64 = q1 at *
            generalize m / 4096 % 64 = q2 at *
            generalize m / 64 = r1 at *
            generalize m / 4096 = r2 at *
            generalize m / 262144 = q3 at *
            generalize m % 64 = q0 at *
            go_wp2_with (at_builtin; refine wpList_append_own _ rfl (.tmp 13) (.tmp 32) 27 rfl w.heap.size 5 i0 (.int .u8 0) 1 1 Tryz.underlying27 hi hz0 hz1 hz2 rfl (by decide) _ _ _ rfl (hown.alloc _) ⟨wr.heap.size, 0, none⟩ 4 4 [.int .u8 _, .int .u8 _, .int .u8 _, .int .u8 _] rfl rfl (four_new _ _ _ _ _ _) (by intro u hu; simp at hu; rcases hu with rfl | rfl | rfl | rfl <;> rfl) (by unfold maxLen; omega) (by omega) (by simp; omega) ?_; intro v2 w2 hown2 hgrow2 _)
            have HO3 := HO.out.grows (ys := [240 + q3, 128 + q2, 128 + q1, 128 + q0]) _ rfl (by simp) (by simp [ints]) hown2 hgrow2
            clear hown2 hgrow2 hown
            go_wp2
            go_roundw
            case rel => exact ⟨k + 1, by omega, by go_num, by rw [HE.out, HQ.out]; exact HO3⟩
            case measure => simp [intOf]; omega
    · have hlt' : ¬ (k : Int) < ts.length := by omega
      have he : ts.take k = ts := List.take_of_length_le (by omega)
      rw [he] at hO
      obtain ⟨t, ht, _, hcv⟩ := hO.text (encs_lt hS)
      have hbel := hO.2.2
      have HT : Hid (bytesN t 0 = encs ts) := ht
      clear ht he hO hll
      go_wp2
      go_ret
      exact ⟨t, HT.out, rfl, hbel⟩
end Lk
end Go.Proofs.YtdcdoeolaongkaaGreatDoor
namespace Go.Proofs.YtdcdoeolaongkaaGreatDoor
namespace Ca
open Go.ChangeShapes Go.WideShapes Go.ChangeAt Go.RowKit Go.Shelf
open Go.Proofs.YtdcdoeolaongkaaGreatDoor.Lk
set_option linter.unusedVariables false
set_option linter.unusedSimpArgs false
set_option maxRecDepth 100000
/-- The characters whose numbers, from i + 1 on, lie from f on and below f + n. -/
def subR (f n : Int) : Nat → List Int → List Int
  | _, [] => []
  | i, c :: r => if f ≤ (i : Int) + 1 ∧ (i : Int) + 1 < f + n then c :: subR f n (i + 1) r else subR f n (i + 1) r
theorem enc_dec (s : ByteArray) (pos : Nat) (h : pos < s.size) (hv : ¬ Utf8.decode s pos = (65533, 1)) : (Lib.encodeRune ((Utf8.decode s pos).1 : Int)).map UInt8.toNat = encN (Utf8.decode s pos).1 := by
  have hne : s.data.toList.drop pos ≠ [] := by
    intro e; have := congrArg List.length e; rw [List.length_drop, ← Lib.size_eq] at this; simp at this; omega
  have h1 := Lib.encode_decode (s.data.toList.drop pos) hne (by rw [decodeL_drop]; exact fun e => hv (Prod.ext e.1 e.2))
  rw [decodeL_drop] at h1
  rw [h1]
  have hby := dec_bytes s pos h hv
  have hc : (bytesN s pos) = ((s.data.toList.drop pos).take (Utf8.decode s pos).2).map UInt8.toNat ++ bytesN s (pos + (Utf8.decode s pos).2) := by
    unfold bytesN
    rw [← List.drop_drop, ← List.map_append, List.take_append_drop]
  rw [hby] at hc
  exact (List.append_cancel_right hc).symm
/-- A builder beside an iterator. -/
structure BI (W0 : World) (s : ByteArray) (B b g pos : Nat) (l : List UInt8) (wr : World) : Prop where
  it : wr.heap[g]? = some (.stringIter s pos)
  bd : Lib.IsBuilderF 128 5 B b (Lib.byteCells l) wr
  bel : Below B W0 wr
theorem BI.next {W0 wr : World} {s : ByteArray} {B b g pos : Nat} {l : List UInt8} (h : BI W0 s B b g pos l wr) (hg : B ≤ g) (q : Nat) : BI W0 s B b g q l (wr.iterAt g s q) :=
  ⟨Lib.iterAt_heap wr g s pos q h.it, h.bd.iterAt h.it q, Lib.below_iterAt h.bel hg s q⟩
theorem write_any (B b : Nat) (l : List UInt8) (r : Int) (hr0 : -2147483648 ≤ r) (hr1 : r ≤ 2147483647) (w : World) (h : Lib.IsBuilderF 128 5 B b (Lib.byteCells l) w) (hlen : l.length + 4 ≤ 140737488355328) (hBw : B ≤ w.heap.size) :
    Calls Tryz.prog 152 #[.pointer (some ⟨b, 0, none⟩), .int .i32 r] w fun e w' => ∃ k, e = .returned (.tuple #[.int .i64 k, .nilIface]) ∧ Lib.IsBuilderF 128 5 B b (Lib.byteCells (l ++ Lib.encodeRune r)) w' ∧ Below B w w' ∧ Lib.OthersKept 5 (some b) w w' := by
  refine (Any.Builder_WriteRune_k (P := Tryz.prog) (ρ := Tryz.lays230_ren) { Tryz.lays230 with } Tryz.Builder_Extra_230 B b (Lib.byteCells l) r hr0 hr1 w h (by rw [Lib.byteCells_length]; exact hlen) hBw).mono ?_
  rintro e w' ⟨rfl, h1, h2, h3⟩
  exact ⟨_, rfl, .inr (by rw [Lib.byteCells_append, Lib.byteCells_encodeRune]; exact h1), h2, h3⟩
theorem addInts_ok (f n : Int) (w : World) (wf : (Lit.int .i64 f).wf = true) (hn : 0 ≤ n) (h : f + n ≤ 9223372036854775807) : Calls Tryz.prog 151 #[.int .i64 f, .int .i64 n] w fun e w' => e = .returned (.tuple #[.int .i64 (f + n), .int .i64 0]) ∧ w' = w := by
  have hw : -9223372036854775808 ≤ f ∧ f ≤ 9223372036854775807 := bounds_i64 wf
  have h3 : IntKind.i64.wrap (f + n) = f + n := by simp only [IntKind.wrap_i64, wrap64]; omega
  by_cases h0 : 0 < f
  · have h1 : IntKind.i64.wrap (9223372036854775807 - f) = 9223372036854775807 - f := by simp only [IntKind.wrap_i64, wrap64]; omega
    have h2 : ¬ 9223372036854775807 - f < n := by omega
    have h4 : ¬ f < 0 := by omega
    go_enter Tryz.func151, Tryz.ntmps151
    go_wp2
    go_ret2
    exact ⟨rfl, rfl⟩
  · by_cases h4 : f < 0
    · have h1 : IntKind.i64.wrap (-9223372036854775808 - f) = -9223372036854775808 - f := by simp only [IntKind.wrap_i64, wrap64]; omega
      have h2 : ¬ n < -9223372036854775808 - f := by omega
      go_enter Tryz.func151, Tryz.ntmps151
      go_wp2
      go_ret2
      exact ⟨rfl, rfl⟩
    · go_enter Tryz.func151, Tryz.ntmps151
      go_wp2
      go_ret2
      exact ⟨rfl, rfl⟩
theorem addInts_big (f n : Int) (w : World) (wf : (Lit.int .i64 f).wf = true) (wn : (Lit.int .i64 n).wf = true) (hn : 0 ≤ n) (h : ¬ f + n ≤ 9223372036854775807) : Calls Tryz.prog 151 #[.int .i64 f, .int .i64 n] w fun e w' => e = .returned (.tuple #[.int .i64 0, .int .i64 13]) ∧ w' = w := by
  have hw : -9223372036854775808 ≤ f ∧ f ≤ 9223372036854775807 := bounds_i64 wf
  have hw2 : -9223372036854775808 ≤ n ∧ n ≤ 9223372036854775807 := bounds_i64 wn
  have h0 : 0 < f := by omega
  have h1 : IntKind.i64.wrap (9223372036854775807 - f) = 9223372036854775807 - f := by simp only [IntKind.wrap_i64, wrap64]; omega
  have h2 : 9223372036854775807 - f < n := by omega
  go_enter Tryz.func151, Tryz.ntmps151
  go_wp2
  go_ret2
  exact ⟨rfl, rfl⟩
theorem three_cells {W : World} {a : Option Addr} {cap : Nat} {k n k1 n1 k2 n2 : Int} {s s1 s2 : ByteArray} (h : RVO W (.slice a 3 cap) [(k, n, s), (k1, n1, s1), (k2, n2, s2)]) : ∃ g o, a = some ⟨g, o, none⟩ ∧ g < W.heap.size ∧ W.cell? ⟨g, o + 2, none⟩ = some (.string s) ∧ W.cell? ⟨g, o + 3 + 1, none⟩ = some (.int .i64 n1) ∧ W.cell? ⟨g, o + 6 + 1, none⟩ = some (.int .i64 n2) := by
  obtain ⟨a', cap', e, h2⟩ := h
  simp only [Value.slice.injEq] at e
  obtain ⟨rfl, _, rfl⟩ := e
  obtain ⟨g, o, ha, hg, hc⟩ := h2 (by simp)
  refine ⟨g, o, ha, hg, ?_, ?_, ?_⟩
  · simpa using (hc 0 (by simp)).2.2
  · simpa using (hc 1 (by simp)).2.1
  · simpa using (hc 2 (by simp)).2.1
def SubP (s : ByteArray) (f n : Int) (tot : List Int) (W0 : World) (B b g : Nat) (nv : Value) (wr : World) : Prop :=
  ∃ (pos bb i : Nat) (out rest : List Int) (l : List UInt8), nv = .int .i64 i ∧ pos ≤ s.size ∧ s.size ≤ pos + bb ∧ i ≤ pos ∧ l.length ≤ 4 * i ∧ Hid (chF s bb pos = some rest ∧ out ++ subR f n i rest = tot ∧ l.map UInt8.toNat = encs out) ∧ BI W0 s B b g pos l wr
set_option maxHeartbeats 2000000 in
theorem substr_neg (k n : Int) (s : ByteArray) (k1 n1 : Int) (s1 : ByteArray) (k2 n2 : Int) (s2 : ByteArray) (a : Option Addr) (cap : Nat) (W : World) (h : RVO W (.slice a 3 cap) [(k, n, s), (k1, n1, s1), (k2, n2, s2)]) (hn : n2 < 0) :
    Calls Tryz.prog 88 #[.slice a 3 cap] W fun e w' => Gives (fun V => V = Rd.tV 0 0 ⟨#[]⟩ 15) W e w' := by
  obtain ⟨g, o, rfl, hg, c0, c1, c2⟩ := three_cells h
  have bw0 := below_alloc W (.cells #[.int .i64 0, .int .i64 0, .string ⟨#[]⟩] 29)
  have d1 := (bw0.cell (p := ⟨g, o + 3 + 1, none⟩) hg).trans c1
  have d2 := (bw0.cell (p := ⟨g, o + 6 + 1, none⟩) hg).trans c2
  clear h c0 c1 c2
  go_enter Tryz.func88, Tryz.ntmps88
  go_wp2
  go_quiet (fail)
  go_wp2
  refine bodyPost_ret (v := Rd.tV 0 0 ⟨#[]⟩ 15) (by simp [results, Tryz.results88, go_sem, Rd.tV]) rfl (Gives.mk rfl ?_)
  have hq : Below W.heap.size (W.alloc (.cells #[.int .i64 0, .int .i64 0, .string ⟨#[]⟩] 29)) ((W.alloc (.cells #[.int .i64 0, .int .i64 0, .string ⟨#[]⟩] 29)).drewN nq) := (below_drewNm _ nq).mono (by simp)
  exact (((bw0.trans hq).setCell (Nat.le_refl _) _).setCell (Nat.le_refl _) _).setCell (Nat.le_refl _) _
set_option maxHeartbeats 8000000 in
theorem substr_ok (k n : Int) (s : ByteArray) (k1 n1 : Int) (s1 : ByteArray) (k2 n2 : Int) (s2 : ByteArray) (a : Option Addr) (cap : Nat) (W : World) (h : RVO W (.slice a 3 cap) [(k, n, s), (k1, n1, s1), (k2, n2, s2)]) (hs : s.size ≤ 1048576) (cs : List Int) (hcs : chars s = some cs) (wf1 : (Lit.int .i64 n1).wf = true) (wf2 : (Lit.int .i64 n2).wf = true) (hn : 0 ≤ n2) (hsum : n1 + n2 ≤ 9223372036854775807) :
    Calls Tryz.prog 88 #[.slice a 3 cap] W fun e w' => Gives (fun V => ∃ t : ByteArray, bytesN t 0 = encs (subR n1 n2 0 cs) ∧ V = Rd.tV 3 0 t 0) W e w' := by
  obtain ⟨g, o, rfl, hg, c0, c1, c2⟩ := three_cells h
  have bw0 := below_alloc W (.cells #[.int .i64 0, .int .i64 0, .string ⟨#[]⟩] 29)
  have d0 := (bw0.cell (p := ⟨g, o + 2, none⟩) hg).trans c0
  have d1 := (bw0.cell (p := ⟨g, o + 3 + 1, none⟩) hg).trans c1
  have d2 := (bw0.cell (p := ⟨g, o + 6 + 1, none⟩) hg).trans c2
  have hn' : ¬ n2 < 0 := by omega
  have hw : -9223372036854775808 ≤ n1 ∧ n1 ≤ 9223372036854775807 := bounds_i64 wf1
  have HC : Hid (chars s = some cs) := hcs
  have HAD : Hid (∀ w, _) := fun w => (addInts_ok n1 n2 w wf1 hn hsum)
  clear h c0 c1 c2 hcs
  go_enter Tryz.func88, Tryz.ntmps88
  go_wp2
  go_quiet (fail)
  go_wp2_with (go_at_call 151; refine (HAD.out _).mono ?_; rintro e w' ⟨rfl, rfl⟩)
  go_loopw [9, 11] (fun nv _ wr => SubP s n1 n2 (subR n1 n2 0 cs) (W.alloc (.cells #[.int .i64 0, .int .i64 0, .string ⟨#[]⟩] 29)) (W.heap.size + 1) (W.heap.size + 1) (W.heap.size + 1 + 1) nv wr) (fun _ _ wr => s.size - wr.iterPos (W.heap.size + 1 + 1))
  case atStart =>
    have hsz : ((W.alloc (.cells #[.int .i64 0, .int .i64 0, .string ⟨#[]⟩] 29)).drewN nq).heap.size = W.heap.size + 1 := by simp
    have hb0 : Below (W.heap.size + 1) (W.alloc (.cells #[.int .i64 0, .int .i64 0, .string ⟨#[]⟩] 29)) ((W.alloc (.cells #[.int .i64 0, .int .i64 0, .string ⟨#[]⟩] 29)).drewN nq) := (below_drewNm _ nq).mono (by simp)
    have hB := Lib.IsBuilderF.of (Lib.fresh_isBuilder 128 5 ((W.alloc (.cells #[.int .i64 0, .int .i64 0, .string ⟨#[]⟩] 29)).drewN nq))
    rw [hsz] at hB
    generalize (W.alloc (.cells #[.int .i64 0, .int .i64 0, .string ⟨#[]⟩] 29)).drewN nq = Wq at *
    refine ⟨0, s.size, 0, [], cs, [], rfl, by omega, by omega, by omega, by simp, (⟨HC.out, by simp, rfl⟩ : chF s s.size 0 = some cs ∧ [] ++ subR n1 n2 0 cs = subR n1 n2 0 cs ∧ ([] : List UInt8).map UInt8.toNat = encs []), ⟨?_, hB.alloc _, (hb0.alloc (by omega) _).alloc (by simp; omega) _⟩⟩
    have := World.iter_heap (Wq.alloc (.cells #[.pointer none, .slice none 0 0] 128)) s 0
    simpa [hsz] using this
  case round =>
    obtain ⟨pos, bb, i, out, rest, l, rfl, hp, hb, hip, hll, HH, hBI⟩ := hrel
    have hmu : wr.iterPos (W.heap.size + 1 + 1) = pos := by simp [World.iterPos, hBI.it]
    by_cases hlt : pos < s.size
    · have hnx : ∀ ty, (Instr.next (.pointer (some ⟨W.heap.size + 1 + 1, 0, none⟩)) true ty).run Tryz.prog wr = _ := fun ty => Lib.run_next_any_at wr (W.heap.size + 1 + 1) s pos ty hBI.it hlt
      obtain ⟨h1, h2, h3⟩ := HH.out
      obtain ⟨r, hr, S1, S2, S3⟩ := step_rest hlt hb h1
      have hdv : ¬ Utf8.decode s pos = (65533, 1) := by
        intro e
        obtain ⟨f, rfl⟩ : ∃ f, bb = f + 1 := ⟨bb - 1, by omega⟩
        rw [chF, if_pos hlt, if_pos e] at h1; cases h1
      have HEN : Hid ((Lib.encodeRune ((Utf8.decode s pos).1 : Int)).map UInt8.toNat = encN (Utf8.decode s pos).1) := enc_dec s pos hlt hdv
      have hrl := Lib.rune_le s pos
      rw [hr] at h2
      have HS : Hid (chF s (bb - 1) (pos + (Utf8.decode s pos).2) = some r ∧ out ++ subR n1 n2 i (((Utf8.decode s pos).1 : Int) :: r) = subR n1 n2 0 cs ∧ l.map UInt8.toNat = encs out) := ⟨S1, h2, h3⟩
      have hb2 := hBI.next (by omega) (pos + (Utf8.decode s pos).2)
      clear S1 hBI h1 h2 h3 HH hr hdv
      generalize (Utf8.decode s pos).2 = K at *
      generalize (Utf8.decode s pos).1 = R at *
      obtain ⟨WW, hWW⟩ : ∃ WW, wr.iterAt (W.heap.size + 1 + 1) s (pos + K) = WW := ⟨_, rfl⟩
      rw [hWW] at hnx hb2
      have hz := hb2.bel.size
      simp at hz
      have hi1 : IntKind.i64.wrap ((i : Int) + 1) = (i : Int) + 1 := by simp only [IntKind.wrap_i64, wrap64]; omega
      by_cases g1 : n1 ≤ (i : Int) + 1
      · by_cases g2 : (i : Int) + 1 < n1 + n2
        · have HT : Hid (subR n1 n2 i ((R : Int) :: r) = (R : Int) :: subR n1 n2 (i + 1) r) := (by simp only [subR]; rw [if_pos ⟨g1, by omega⟩] : subR n1 n2 i ((R : Int) :: r) = (R : Int) :: subR n1 n2 (i + 1) r)
          go_wp2_with (go_at_call 152; fail)
          refine (write_any (W.heap.size + 1) (W.heap.size + 1) l R (by omega) (by omega) _ hb2.bd (by omega) (by omega)).mono ?_
          rintro e w1 ⟨kk, rfl, hbd, hbel, hok⟩
          have hit : w1.heap[W.heap.size + 1 + 1]? = some (.stringIter s (pos + K)) := hok _ _ hb2.it (by simp) (by intro c fz; simp)
          have hel := Lib.encodeRuneZ_length (R : Int)
          have HL : Hid ((l ++ Lib.encodeRune (R : Int)).length ≤ 4 * (i + 1)) := (by rw [List.length_append]; unfold Lib.encodeRune; rw [List.length_map]; omega : (l ++ Lib.encodeRune (R : Int)).length ≤ 4 * (i + 1))
          have hb3 := hb2.bel.trans (hbel.mono (Nat.le_refl _))
          clear hbel hok
          go_wp2
          go_roundw
          case rel =>
            refine ⟨pos + K, bb - 1, i + 1, out ++ [(R : Int)], r, l ++ Lib.encodeRune (R : Int), by go_num, S2, by omega, by omega, HL.out, ?_, ⟨hit, hbd, hb3⟩⟩
            refine (⟨HS.out.1, ?_, ?_⟩ : chF s (bb - 1) (pos + K) = some r ∧ (out ++ [(R : Int)]) ++ subR n1 n2 (i + 1) r = subR n1 n2 0 cs ∧ (l ++ Lib.encodeRune (R : Int)).map UInt8.toNat = encs (out ++ [(R : Int)]))
            · rw [← HS.out.2.1, HT.out]; simp
            · rw [List.map_append, HS.out.2.2, HEN.out, encs_app, encs_cons, encs_nil, List.append_nil]; rfl
          case measure => rw [hmu, show w1.iterPos (W.heap.size + 1 + 1) = pos + K by simp [World.iterPos, hit]]; omega
        · have HT : Hid (subR n1 n2 i ((R : Int) :: r) = subR n1 n2 (i + 1) r) := (by simp only [subR]; rw [if_neg (by omega)] : subR n1 n2 i ((R : Int) :: r) = subR n1 n2 (i + 1) r)
          have g2b : decide ((i : Int) + 1 < n1 + n2) = false := by simpa using g2
          have hit := hb2.it
          go_wp2
          go_roundw
          case rel => exact ⟨pos + K, bb - 1, i + 1, out, r, l, by go_num, S2, by omega, by omega, by omega, (⟨HS.out.1, by rw [← HS.out.2.1, HT.out], HS.out.2.2⟩ : chF s (bb - 1) (pos + K) = some r ∧ out ++ subR n1 n2 (i + 1) r = subR n1 n2 0 cs ∧ l.map UInt8.toNat = encs out), hb2⟩
          case measure => rw [hmu, show WW.iterPos (W.heap.size + 1 + 1) = pos + K by simp [World.iterPos, hit]]; omega
      · have HT : Hid (subR n1 n2 i ((R : Int) :: r) = subR n1 n2 (i + 1) r) := (by simp only [subR]; rw [if_neg (by omega)] : subR n1 n2 i ((R : Int) :: r) = subR n1 n2 (i + 1) r)
        have g1b : decide (n1 ≤ (i : Int) + 1) = false := by simpa using g1
        have hit := hb2.it
        go_wp2
        go_roundw
        case rel => exact ⟨pos + K, bb - 1, i + 1, out, r, l, by go_num, S2, by omega, by omega, by omega, (⟨HS.out.1, by rw [← HS.out.2.1, HT.out], HS.out.2.2⟩ : chF s (bb - 1) (pos + K) = some r ∧ out ++ subR n1 n2 (i + 1) r = subR n1 n2 0 cs ∧ l.map UInt8.toNat = encs out), hb2⟩
        case measure => rw [hmu, show WW.iterPos (W.heap.size + 1 + 1) = pos + K by simp [World.iterPos, hit]]; omega
    · have hnx : ∀ ty, (Instr.next (.pointer (some ⟨W.heap.size + 1 + 1, 0, none⟩)) true ty).run Tryz.prog wr = _ := fun ty => Lib.run_next_end_at wr (W.heap.size + 1 + 1) s pos ty hBI.it hlt
      obtain ⟨h1, h2, h3⟩ := HH.out
      have HE : Hid (l.map UInt8.toNat = encs (subR n1 n2 0 cs)) := (by
        rw [chF_end s bb pos hlt] at h1
        simp only [Option.some.injEq] at h1
        subst h1
        rw [h3, ← h2]; simp [subR] : l.map UInt8.toNat = encs (subR n1 n2 0 cs))
      clear HH h1 h2 h3
      have hz := hBI.bel.size
      simp at hz
      go_wp2_with (go_at_call 153; fail)
      refine (Tryz.Builder_String_any_k (W.heap.size + 1) (W.heap.size + 1) l _ hBI.bd (by omega)).mono ?_
      rintro e w1 ⟨rfl, hbd, hb1, hok⟩
      have b1 := hBI.bel.trans (hb1.mono (Nat.le_refl _))
      have hz1 := b1.size
      simp at hz1
      go_wp2_with (go_at_call 46; fail)
      refine (Rd.textValue_any _ _).mono ?_
      rintro e w2 ⟨rfl, hb2⟩
      have b2 := b1.trans (hb2.mono (by omega))
      have hy2 : W.heap.size < w2.heap.size := by have := hb2.size; omega
      have z0 : w2.cell? ⟨W.heap.size, 0, none⟩ = some (.int .i64 0) := (b2.cell (p := ⟨W.heap.size, 0, none⟩) (by show W.heap.size < _; omega)).trans (by simp [go_sem])
      have z1 : w2.cell? ⟨W.heap.size, 1, none⟩ = some (.int .i64 0) := (b2.cell (p := ⟨W.heap.size, 1, none⟩) (by show W.heap.size < _; omega)).trans (by simp [go_sem])
      have z2 : w2.cell? ⟨W.heap.size, 2, none⟩ = some (.string ⟨#[]⟩) := (b2.cell (p := ⟨W.heap.size, 2, none⟩) (by show W.heap.size < _; omega)).trans (by simp [go_sem])
      have j0 : w2.frozen? ⟨W.heap.size, 0, none⟩ = false := (b2.frozen (p := ⟨W.heap.size, 0, none⟩) (by show W.heap.size < _; omega)).trans (by simp [go_sem])
      have j1 : w2.frozen? ⟨W.heap.size, 1, none⟩ = false := (b2.frozen (p := ⟨W.heap.size, 1, none⟩) (by show W.heap.size < _; omega)).trans (by simp [go_sem])
      have j2 : w2.frozen? ⟨W.heap.size, 2, none⟩ = false := (b2.frozen (p := ⟨W.heap.size, 2, none⟩) (by show W.heap.size < _; omega)).trans (by simp [go_sem])
      have bw2 : Below W.heap.size W w2 := bw0.trans (b2.mono (by omega))
      go_wp2
      refine bodyPost_ret (v := Rd.tV 3 0 ⟨l.toArray⟩ 0) (by simp [results, Tryz.results88, go_sem, Rd.tV, z0, z1, z2, j0, j1, j2, hy2]) rfl (Gives.mk ⟨⟨l.toArray⟩, ?_, rfl⟩ ?_)
      · unfold bytesN; simpa using HE.out
      · exact ((bw2.setCell (Nat.le_refl _) _).setCell (Nat.le_refl _) _).setCell (Nat.le_refl _) _
set_option maxHeartbeats 8000000 in
theorem substr_big (k n : Int) (s : ByteArray) (k1 n1 : Int) (s1 : ByteArray) (k2 n2 : Int) (s2 : ByteArray) (a : Option Addr) (cap : Nat) (W : World) (h : RVO W (.slice a 3 cap) [(k, n, s), (k1, n1, s1), (k2, n2, s2)]) (hs : s.size ≤ 1048576) (cs : List Int) (hcs : chars s = some cs) (wf1 : (Lit.int .i64 n1).wf = true) (wf2 : (Lit.int .i64 n2).wf = true) (hn : 0 ≤ n2) (hsum : ¬ n1 + n2 ≤ 9223372036854775807) :
    Calls Tryz.prog 88 #[.slice a 3 cap] W fun e w' => Gives (fun V => ∃ t : ByteArray, bytesN t 0 = encs (subR n1 n2 0 cs) ∧ V = Rd.tV 3 0 t 0) W e w' := by
  obtain ⟨g, o, rfl, hg, c0, c1, c2⟩ := three_cells h
  have bw0 := below_alloc W (.cells #[.int .i64 0, .int .i64 0, .string ⟨#[]⟩] 29)
  have d0 := (bw0.cell (p := ⟨g, o + 2, none⟩) hg).trans c0
  have d1 := (bw0.cell (p := ⟨g, o + 3 + 1, none⟩) hg).trans c1
  have d2 := (bw0.cell (p := ⟨g, o + 6 + 1, none⟩) hg).trans c2
  have hn' : ¬ n2 < 0 := by omega
  have hw : -9223372036854775808 ≤ n1 ∧ n1 ≤ 9223372036854775807 := bounds_i64 wf1
  have HC : Hid (chars s = some cs) := hcs
  have HAD : Hid (∀ w, _) := fun w => (addInts_big n1 n2 w wf1 wf2 hn hsum)
  clear h c0 c1 c2 hcs
  go_enter Tryz.func88, Tryz.ntmps88
  go_wp2
  go_quiet (fail)
  go_wp2_with (go_at_call 151; refine (HAD.out _).mono ?_; rintro e w' ⟨rfl, rfl⟩)
  go_loopw [9, 11] (fun nv _ wr => SubP s n1 n2 (subR n1 n2 0 cs) (W.alloc (.cells #[.int .i64 0, .int .i64 0, .string ⟨#[]⟩] 29)) (W.heap.size + 1) (W.heap.size + 1) (W.heap.size + 1 + 1) nv wr) (fun _ _ wr => s.size - wr.iterPos (W.heap.size + 1 + 1))
  case atStart =>
    have hsz : ((W.alloc (.cells #[.int .i64 0, .int .i64 0, .string ⟨#[]⟩] 29)).drewN nq).heap.size = W.heap.size + 1 := by simp
    have hb0 : Below (W.heap.size + 1) (W.alloc (.cells #[.int .i64 0, .int .i64 0, .string ⟨#[]⟩] 29)) ((W.alloc (.cells #[.int .i64 0, .int .i64 0, .string ⟨#[]⟩] 29)).drewN nq) := (below_drewNm _ nq).mono (by simp)
    have hB := Lib.IsBuilderF.of (Lib.fresh_isBuilder 128 5 ((W.alloc (.cells #[.int .i64 0, .int .i64 0, .string ⟨#[]⟩] 29)).drewN nq))
    rw [hsz] at hB
    generalize (W.alloc (.cells #[.int .i64 0, .int .i64 0, .string ⟨#[]⟩] 29)).drewN nq = Wq at *
    refine ⟨0, s.size, 0, [], cs, [], rfl, by omega, by omega, by omega, by simp, (⟨HC.out, by simp, rfl⟩ : chF s s.size 0 = some cs ∧ [] ++ subR n1 n2 0 cs = subR n1 n2 0 cs ∧ ([] : List UInt8).map UInt8.toNat = encs []), ⟨?_, hB.alloc _, (hb0.alloc (by omega) _).alloc (by simp; omega) _⟩⟩
    have := World.iter_heap (Wq.alloc (.cells #[.pointer none, .slice none 0 0] 128)) s 0
    simpa [hsz] using this
  case round =>
    obtain ⟨pos, bb, i, out, rest, l, rfl, hp, hb, hip, hll, HH, hBI⟩ := hrel
    have hmu : wr.iterPos (W.heap.size + 1 + 1) = pos := by simp [World.iterPos, hBI.it]
    by_cases hlt : pos < s.size
    · have hnx : ∀ ty, (Instr.next (.pointer (some ⟨W.heap.size + 1 + 1, 0, none⟩)) true ty).run Tryz.prog wr = _ := fun ty => Lib.run_next_any_at wr (W.heap.size + 1 + 1) s pos ty hBI.it hlt
      obtain ⟨h1, h2, h3⟩ := HH.out
      obtain ⟨r, hr, S1, S2, S3⟩ := step_rest hlt hb h1
      have hdv : ¬ Utf8.decode s pos = (65533, 1) := by
        intro e
        obtain ⟨f, rfl⟩ : ∃ f, bb = f + 1 := ⟨bb - 1, by omega⟩
        rw [chF, if_pos hlt, if_pos e] at h1; cases h1
      have HEN : Hid ((Lib.encodeRune ((Utf8.decode s pos).1 : Int)).map UInt8.toNat = encN (Utf8.decode s pos).1) := enc_dec s pos hlt hdv
      have hrl := Lib.rune_le s pos
      rw [hr] at h2
      have HS : Hid (chF s (bb - 1) (pos + (Utf8.decode s pos).2) = some r ∧ out ++ subR n1 n2 i (((Utf8.decode s pos).1 : Int) :: r) = subR n1 n2 0 cs ∧ l.map UInt8.toNat = encs out) := ⟨S1, h2, h3⟩
      have hb2 := hBI.next (by omega) (pos + (Utf8.decode s pos).2)
      clear S1 hBI h1 h2 h3 HH hr hdv
      generalize (Utf8.decode s pos).2 = K at *
      generalize (Utf8.decode s pos).1 = R at *
      obtain ⟨WW, hWW⟩ : ∃ WW, wr.iterAt (W.heap.size + 1 + 1) s (pos + K) = WW := ⟨_, rfl⟩
      rw [hWW] at hnx hb2
      have hz := hb2.bel.size
      simp at hz
      have hi1 : IntKind.i64.wrap ((i : Int) + 1) = (i : Int) + 1 := by simp only [IntKind.wrap_i64, wrap64]; omega
      by_cases g1 : n1 ≤ (i : Int) + 1
      · by_cases g2 : (i : Int) + 1 < 9223372036854775807
        · have HT : Hid (subR n1 n2 i ((R : Int) :: r) = (R : Int) :: subR n1 n2 (i + 1) r) := (by simp only [subR]; rw [if_pos ⟨g1, by omega⟩] : subR n1 n2 i ((R : Int) :: r) = (R : Int) :: subR n1 n2 (i + 1) r)
          go_wp2_with (go_at_call 152; fail)
          refine (write_any (W.heap.size + 1) (W.heap.size + 1) l R (by omega) (by omega) _ hb2.bd (by omega) (by omega)).mono ?_
          rintro e w1 ⟨kk, rfl, hbd, hbel, hok⟩
          have hit : w1.heap[W.heap.size + 1 + 1]? = some (.stringIter s (pos + K)) := hok _ _ hb2.it (by simp) (by intro c fz; simp)
          have hel := Lib.encodeRuneZ_length (R : Int)
          have HL : Hid ((l ++ Lib.encodeRune (R : Int)).length ≤ 4 * (i + 1)) := (by rw [List.length_append]; unfold Lib.encodeRune; rw [List.length_map]; omega : (l ++ Lib.encodeRune (R : Int)).length ≤ 4 * (i + 1))
          have hb3 := hb2.bel.trans (hbel.mono (Nat.le_refl _))
          clear hbel hok
          go_wp2
          go_roundw
          case rel =>
            refine ⟨pos + K, bb - 1, i + 1, out ++ [(R : Int)], r, l ++ Lib.encodeRune (R : Int), by go_num, S2, by omega, by omega, HL.out, ?_, ⟨hit, hbd, hb3⟩⟩
            refine (⟨HS.out.1, ?_, ?_⟩ : chF s (bb - 1) (pos + K) = some r ∧ (out ++ [(R : Int)]) ++ subR n1 n2 (i + 1) r = subR n1 n2 0 cs ∧ (l ++ Lib.encodeRune (R : Int)).map UInt8.toNat = encs (out ++ [(R : Int)]))
            · rw [← HS.out.2.1, HT.out]; simp
            · rw [List.map_append, HS.out.2.2, HEN.out, encs_app, encs_cons, encs_nil, List.append_nil]; rfl
          case measure => rw [hmu, show w1.iterPos (W.heap.size + 1 + 1) = pos + K by simp [World.iterPos, hit]]; omega
        · have HT : Hid (subR n1 n2 i ((R : Int) :: r) = subR n1 n2 (i + 1) r) := (by simp only [subR]; rw [if_neg (by omega)] : subR n1 n2 i ((R : Int) :: r) = subR n1 n2 (i + 1) r)
          have g2b : decide ((i : Int) + 1 < 9223372036854775807) = false := by simpa using g2
          have hit := hb2.it
          go_wp2
          go_roundw
          case rel => exact ⟨pos + K, bb - 1, i + 1, out, r, l, by go_num, S2, by omega, by omega, by omega, (⟨HS.out.1, by rw [← HS.out.2.1, HT.out], HS.out.2.2⟩ : chF s (bb - 1) (pos + K) = some r ∧ out ++ subR n1 n2 (i + 1) r = subR n1 n2 0 cs ∧ l.map UInt8.toNat = encs out), hb2⟩
          case measure => rw [hmu, show WW.iterPos (W.heap.size + 1 + 1) = pos + K by simp [World.iterPos, hit]]; omega
      · have HT : Hid (subR n1 n2 i ((R : Int) :: r) = subR n1 n2 (i + 1) r) := (by simp only [subR]; rw [if_neg (by omega)] : subR n1 n2 i ((R : Int) :: r) = subR n1 n2 (i + 1) r)
        have g1b : decide (n1 ≤ (i : Int) + 1) = false := by simpa using g1
        have hit := hb2.it
        go_wp2
        go_roundw
        case rel => exact ⟨pos + K, bb - 1, i + 1, out, r, l, by go_num, S2, by omega, by omega, by omega, (⟨HS.out.1, by rw [← HS.out.2.1, HT.out], HS.out.2.2⟩ : chF s (bb - 1) (pos + K) = some r ∧ out ++ subR n1 n2 (i + 1) r = subR n1 n2 0 cs ∧ l.map UInt8.toNat = encs out), hb2⟩
        case measure => rw [hmu, show WW.iterPos (W.heap.size + 1 + 1) = pos + K by simp [World.iterPos, hit]]; omega
    · have hnx : ∀ ty, (Instr.next (.pointer (some ⟨W.heap.size + 1 + 1, 0, none⟩)) true ty).run Tryz.prog wr = _ := fun ty => Lib.run_next_end_at wr (W.heap.size + 1 + 1) s pos ty hBI.it hlt
      obtain ⟨h1, h2, h3⟩ := HH.out
      have HE : Hid (l.map UInt8.toNat = encs (subR n1 n2 0 cs)) := (by
        rw [chF_end s bb pos hlt] at h1
        simp only [Option.some.injEq] at h1
        subst h1
        rw [h3, ← h2]; simp [subR] : l.map UInt8.toNat = encs (subR n1 n2 0 cs))
      clear HH h1 h2 h3
      have hz := hBI.bel.size
      simp at hz
      go_wp2_with (go_at_call 153; fail)
      refine (Tryz.Builder_String_any_k (W.heap.size + 1) (W.heap.size + 1) l _ hBI.bd (by omega)).mono ?_
      rintro e w1 ⟨rfl, hbd, hb1, hok⟩
      have b1 := hBI.bel.trans (hb1.mono (Nat.le_refl _))
      have hz1 := b1.size
      simp at hz1
      go_wp2_with (go_at_call 46; fail)
      refine (Rd.textValue_any _ _).mono ?_
      rintro e w2 ⟨rfl, hb2⟩
      have b2 := b1.trans (hb2.mono (by omega))
      have hy2 : W.heap.size < w2.heap.size := by have := hb2.size; omega
      have z0 : w2.cell? ⟨W.heap.size, 0, none⟩ = some (.int .i64 0) := (b2.cell (p := ⟨W.heap.size, 0, none⟩) (by show W.heap.size < _; omega)).trans (by simp [go_sem])
      have z1 : w2.cell? ⟨W.heap.size, 1, none⟩ = some (.int .i64 0) := (b2.cell (p := ⟨W.heap.size, 1, none⟩) (by show W.heap.size < _; omega)).trans (by simp [go_sem])
      have z2 : w2.cell? ⟨W.heap.size, 2, none⟩ = some (.string ⟨#[]⟩) := (b2.cell (p := ⟨W.heap.size, 2, none⟩) (by show W.heap.size < _; omega)).trans (by simp [go_sem])
      have j0 : w2.frozen? ⟨W.heap.size, 0, none⟩ = false := (b2.frozen (p := ⟨W.heap.size, 0, none⟩) (by show W.heap.size < _; omega)).trans (by simp [go_sem])
      have j1 : w2.frozen? ⟨W.heap.size, 1, none⟩ = false := (b2.frozen (p := ⟨W.heap.size, 1, none⟩) (by show W.heap.size < _; omega)).trans (by simp [go_sem])
      have j2 : w2.frozen? ⟨W.heap.size, 2, none⟩ = false := (b2.frozen (p := ⟨W.heap.size, 2, none⟩) (by show W.heap.size < _; omega)).trans (by simp [go_sem])
      have bw2 : Below W.heap.size W w2 := bw0.trans (b2.mono (by omega))
      go_wp2
      refine bodyPost_ret (v := Rd.tV 3 0 ⟨l.toArray⟩ 0) (by simp [results, Tryz.results88, go_sem, Rd.tV, z0, z1, z2, j0, j1, j2, hy2]) rfl (Gives.mk ⟨⟨l.toArray⟩, ?_, rfl⟩ ?_)
      · unfold bytesN; simpa using HE.out
      · exact ((bw2.setCell (Nat.le_refl _) _).setCell (Nat.le_refl _) _).setCell (Nat.le_refl _) _
end Ca
end Go.Proofs.YtdcdoeolaongkaaGreatDoor
namespace Go.Proofs.YtdcdoeolaongkaaGreatDoor
namespace Ca
open Go.ChangeShapes Go.WideShapes Go.ChangeAt Go.RowKit Go.Shelf
open Go.Proofs.YtdcdoeolaongkaaGreatDoor.Lk
set_option linter.unusedVariables false
set_option linter.unusedSimpArgs false
set_option maxRecDepth 100000
theorem subR_mem (f n : Int) : ∀ (l : List Int) (i : Nat) c, c ∈ subR f n i l → c ∈ l
  | [], i, c, h => by simp [subR] at h
  | x :: l, i, c, h => by
    simp only [subR] at h
    split at h
    · rcases List.mem_cons.1 h with rfl | h
      · simp
      · exact List.mem_cons_of_mem _ (subR_mem f n l (i + 1) c h)
    · exact List.mem_cons_of_mem _ (subR_mem f n l (i + 1) c h)
theorem subR_len (f n : Int) : ∀ (l : List Int) (i : Nat), (subR f n i l).length ≤ l.length
  | [], i => by simp [subR]
  | x :: l, i => by
    have := subR_len f n l (i + 1)
    simp only [subR]; split <;> simp <;> omega
theorem drop_getD {l : List Int} {k : Nat} (h : k < l.length) : l.drop k = l.getD k 0 :: l.drop (k + 1) := by
  rw [List.drop_eq_getElem_cons h]
  simp [List.getD, h]
set_option maxHeartbeats 16000000 in
theorem substrS_any (s : ByteArray) (f n : Int) (w : World) (hs : s.size ≤ 1048576) (cs : List Int) (hcs : chars s = some cs) (wf1 : (Lit.int .i64 f).wf = true) (wf2 : (Lit.int .i64 n).wf = true) (hn : 0 ≤ n) :
    Calls Tryz.prog 77 #[.string s, .int .i64 f, .int .i64 n] w fun e w' => ∃ t : ByteArray, bytesN t 0 = encs (subR f n 0 cs) ∧ e = .returned (.string t) ∧ Below w.heap.size w w' := by
  obtain ⟨i0, hi, hz0, hz1, hz2⟩ := info_parts info3
  have hb1 := bounds_i64 wf1
  have hb2 := bounds_i64 wf2
  have HC : Hid (chars s = some cs) := hcs
  have hcl := (count_eq s cs hcs).2.2
  have HSA : Hid (sane cs) := (chars_encs hcs).2
  clear hcs
  go_enter Tryz.func77, Tryz.ntmps77
  go_wp2_with (go_at_call 42; fail)
  refine (chars_any s _ hs).mono ?_
  intro e w1 hP
  obtain ⟨v, rfl, hown, hbw⟩ := hP.get HC.out
  obtain ⟨va, vc, rfl, hcell⟩ := owns_cells hown
  have HCE : Hid _ := hcell
  have hz := hbw.size
  clear hP hown hcell
  go_wp2
  go_loopw [9, 10, 11, 20] (fun ov _ _ iv wr => ∃ (k : Nat) (out : List Int), k ≤ cs.length ∧ iv = .int .i64 k ∧ out.length ≤ k ∧ wr.ownsRow w1.heap.size 3 1 ov out.length (out.map (Value.int .i64)) ∧ Hid (out ++ subR f n k (cs.drop k) = subR f n 0 cs) ∧ Below w1.heap.size w1 wr) (fun _ _ _ iv _ => cs.length - (intOf iv).toNat)
  case atStart => exact ⟨0, [], Nat.zero_le _, rfl, by simp, World.ownsRow_made w1 #[] 0 (Nat.le_refl _) (by unfold maxLen; omega) (by simp), (by simp : [] ++ subR f n 0 (cs.drop 0) = subR f n 0 cs), (Below.refl _ _).alloc (Nat.le_refl _) _⟩
  case round =>
    obtain ⟨k, out, hk, rfl, hol, hown, HO, hbel⟩ := hrel
    have hbs := hbel.size
    by_cases hlt : k < cs.length
    · have hlti : (k : Int) < cs.length := by omega
      obtain ⟨g, rfl, hg1, hg2, hgc⟩ := HCE.out k hlt
      have d0 := (hbel.cell (p := ⟨g, k, none⟩) hg2).trans hgc
      have HD : Hid (cs.drop k = cs.getD k 0 :: cs.drop (k + 1)) := drop_getD hlt
      clear hgc
      generalize cs.getD k 0 = c at *
      have hk1 : IntKind.i64.wrap ((k : Int) + 1) = (k : Int) + 1 := by simp only [IntKind.wrap_i64, wrap64]; omega
      by_cases g1 : f ≤ (k : Int) + 1
      · by_cases g2 : f < 0
        · have hs1 : IntKind.i64.wrap (f + n) = f + n := by simp only [IntKind.wrap_i64, wrap64]; omega
          by_cases g3 : (k : Int) + 1 < f + n
          · have HT : Hid ((out ++ [c]) ++ subR f n (k + 1) (cs.drop (k + 1)) = subR f n 0 cs) := (by rw [← HO.out, HD.out]; simp only [subR]; rw [if_pos ⟨g1, by omega⟩]; simp : (out ++ [c]) ++ subR f n (k + 1) (cs.drop (k + 1)) = subR f n 0 cs)
            clear HO HD
            go_wp2_with (at_builtin; refine wpList_append_own _ rfl (.tmp 53) (.tmp 55) 22 rfl w1.heap.size 3 i0 (.int .i64 0) 1 8 Tryz.underlying22 hi hz0 hz1 hz2 rfl (by decide) _ _ _ rfl (hown.alloc _) ⟨wr.heap.size, 0, none⟩ 1 1 [.int .i64 c] rfl rfl (cell_one_new _ _ _) (by intro u hu; simp at hu; subst hu; rfl) (by unfold maxLen; omega) (by omega) (by simp; omega) ?_; intro v2 w2 hown2 hgrow2 _)
            have hb4 : Below w1.heap.size w1 w2 := (hbel.alloc hbs _).grown hgrow2 (by simp; omega) (fun j hj => (hown.lt j hj).1)
            clear hgrow2 hown
            go_roundw
            case rel => exact ⟨k + 1, out ++ [c], by omega, by go_num, by simp; omega, by simpa using hown2, HT, hb4⟩
            case measure => simp [intOf]; omega
          · have g4 : ¬ 0 ≤ f := by omega
            have g4b : decide (0 ≤ f) = false := by simpa using g4
            have g3b : decide ((k : Int) + 1 < f + n) = false := by simpa using g3
            have HT : Hid (out ++ subR f n (k + 1) (cs.drop (k + 1)) = subR f n 0 cs) := (by rw [← HO.out, HD.out]; simp only [subR]; rw [if_neg (by omega)] : out ++ subR f n (k + 1) (cs.drop (k + 1)) = subR f n 0 cs)
            clear HO HD
            go_wp2
            go_roundw
            case rel => exact ⟨k + 1, out, by omega, by go_num, by omega, hown, HT, hbel⟩
            case measure => simp [intOf]; omega
        · have g4 : 0 ≤ f := by omega
          have g2b : decide (f < 0) = false := by simpa using g2
          have hs1 : IntKind.i64.wrap ((k : Int) + 1 - f) = (k : Int) + 1 - f := by simp only [IntKind.wrap_i64, wrap64]; omega
          by_cases g3 : (k : Int) + 1 - f < n
          · have HT : Hid ((out ++ [c]) ++ subR f n (k + 1) (cs.drop (k + 1)) = subR f n 0 cs) := (by rw [← HO.out, HD.out]; simp only [subR]; rw [if_pos ⟨g1, by omega⟩]; simp : (out ++ [c]) ++ subR f n (k + 1) (cs.drop (k + 1)) = subR f n 0 cs)
            clear HO HD
            go_wp2_with (at_builtin; refine wpList_append_own _ rfl (.tmp 53) (.tmp 55) 22 rfl w1.heap.size 3 i0 (.int .i64 0) 1 8 Tryz.underlying22 hi hz0 hz1 hz2 rfl (by decide) _ _ _ rfl (hown.alloc _) ⟨wr.heap.size, 0, none⟩ 1 1 [.int .i64 c] rfl rfl (cell_one_new _ _ _) (by intro u hu; simp at hu; subst hu; rfl) (by unfold maxLen; omega) (by omega) (by simp; omega) ?_; intro v2 w2 hown2 hgrow2 _)
            have hb4 : Below w1.heap.size w1 w2 := (hbel.alloc hbs _).grown hgrow2 (by simp; omega) (fun j hj => (hown.lt j hj).1)
            clear hgrow2 hown
            go_roundw
            case rel => exact ⟨k + 1, out ++ [c], by omega, by go_num, by simp; omega, by simpa using hown2, HT, hb4⟩
            case measure => simp [intOf]; omega
          · have g3b : decide ((k : Int) + 1 - f < n) = false := by simpa using g3
            have HT : Hid (out ++ subR f n (k + 1) (cs.drop (k + 1)) = subR f n 0 cs) := (by rw [← HO.out, HD.out]; simp only [subR]; rw [if_neg (by omega)] : out ++ subR f n (k + 1) (cs.drop (k + 1)) = subR f n 0 cs)
            clear HO HD
            go_wp2
            go_roundw
            case rel => exact ⟨k + 1, out, by omega, by go_num, by omega, hown, HT, hbel⟩
            case measure => simp [intOf]; omega
      · have g1b : decide (f ≤ (k : Int) + 1) = false := by simpa using g1
        have HT : Hid (out ++ subR f n (k + 1) (cs.drop (k + 1)) = subR f n 0 cs) := (by rw [← HO.out, HD.out]; simp only [subR]; rw [if_neg (by omega)] : out ++ subR f n (k + 1) (cs.drop (k + 1)) = subR f n 0 cs)
        clear HO HD
        go_wp2
        go_roundw
        case rel => exact ⟨k + 1, out, by omega, by go_num, by omega, hown, HT, hbel⟩
        case measure => simp [intOf]; omega
    · have hkn : k = cs.length := by omega
      subst hkn
      have hlti : ¬ (cs.length : Int) < cs.length := by omega
      have HE : Hid (out = subR f n 0 cs) := (by have := HO.out; rw [List.drop_length] at this; simpa [subR] using this : out = subR f n 0 cs)
      obtain ⟨oa, oc, rfl, hrio⟩ := own_rio hown
      have hS : sane out := by rw [HE.out]; intro c hc; exact HSA.out c (subR_mem f n cs 0 c hc)
      go_wp2_with (go_at_call 69; fail)
      refine (text_any out _ _ hrio hS (by omega)).mono ?_
      rintro e w2 ⟨t, ht, rfl, hb3⟩
      have HT : Hid (bytesN t 0 = encs (subR f n 0 cs)) := (by rw [ht, HE.out] : bytesN t 0 = encs (subR f n 0 cs))
      clear ht
      go_wp2
      go_ret
      exact ⟨t, HT.out, rfl, hbw.trans ((hbel.trans (hb3.mono hbs)).mono hz)⟩
end Ca
end Go.Proofs.YtdcdoeolaongkaaGreatDoor

