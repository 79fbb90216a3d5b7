import Derived.Test.YtcgnkcehjcednaaDoorJH1
namespace Go.Proofs.YtcgnkcehjcednaaDoor
namespace Lk
set_option linter.unusedVariables false
/-- A pattern's pieces: many, any, the character; with a sign that is open or not. -/
def pcs : Bool → List Int → List (Bool × Bool × Int)
  | false, [] => []
  | true, [] => [(false, false, 92)]
  | true, c :: cs => (false, false, c) :: pcs false cs
  | false, c :: cs => if c = 92 then pcs true cs else (c == 37, c == 95, c) :: pcs false cs
def part (x : Bool × Bool × Int) : Int := if x.1 then -1 else if x.2.1 then -2 else x.2.2
def prt (e : Bool) (cs : List Int) : List Int := (pcs e cs).map part
theorem prt_nil : prt false [] = [] := rfl
theorem prt_many (cs : List Int) : prt false (37 :: cs) = -1 :: prt false cs := by simp [prt, pcs, part]
theorem prt_any (cs : List Int) : prt false (95 :: cs) = -2 :: prt false cs := by simp [prt, pcs, part]
theorem prt_esc (d : Int) (cs : List Int) : prt false (92 :: d :: cs) = d :: prt false cs := by simp [prt, pcs, part]
theorem prt_end : prt false [92] = [92] := by simp [prt, pcs, part]
theorem prt_else {c : Int} (cs : List Int) (h1 : c ≠ 37) (h2 : c ≠ 95) (h3 : c ≠ 92) : prt false (c :: cs) = c :: prt false cs := by simp [prt, pcs, part, h1, h2, h3]
theorem pcs_len : ∀ (e : Bool) (cs : List Int), (pcs e cs).length ≤ cs.length + 1
  | false, [] => by simp [pcs]
  | true, [] => by simp [pcs]
  | true, c :: cs => by have := pcs_len false cs; simp [pcs]; omega
  | false, c :: cs => by
    have h1 := pcs_len true cs
    have h2 := pcs_len false cs
    unfold pcs
    split
    · simp; omega
    · simp; omega
theorem pcs_nn : ∀ (e : Bool) (cs : List Int), (∀ c ∈ cs, (0 : Int) ≤ c) → ∀ x ∈ pcs e cs, (0 : Int) ≤ x.2.2
  | false, [], _, x, hx => by simp [pcs] at hx
  | true, [], _, x, hx => by simp [pcs] at hx; subst hx; decide
  | true, c :: cs, h, x, hx => by
    simp only [pcs, List.mem_cons] at hx
    rcases hx with rfl | hx
    · exact h c (by simp)
    · exact pcs_nn false cs (fun d hd => h d (by simp [hd])) x hx
  | false, c :: cs, h, x, hx => by
    unfold pcs at hx
    split at hx
    · exact pcs_nn true cs (fun d hd => h d (by simp [hd])) x hx
    · simp only [List.mem_cons] at hx
      rcases hx with rfl | hx
      · exact h c (by simp)
      · exact pcs_nn false cs (fun d hd => h d (by simp [hd])) x hx
theorem part_many {m a : Bool} {c : Int} (h : 0 ≤ c) : part (m, a, c) = -1 ↔ m = true := by
  cases m <;> cases a <;> simp [part] <;> omega
theorem part_one {a : Bool} {c d : Int} (h : 0 ≤ c) (hd : 0 ≤ d) : (part (false, a, c) = -2 ∨ part (false, a, c) = d) ↔ (a = true ∨ c = d) := by
  cases a <;> simp [part] <;> omega
theorem pcs_get {e : Bool} {cs : List Int} {j : Nat} {x : Bool × Bool × Int} (h : (pcs e cs)[j]? = some x) : (prt e cs)[j]? = some (part x) := by
  simp [prt, h]
theorem prt_len (e : Bool) (cs : List Int) : (prt e cs).length = (pcs e cs).length := by simp [prt]
/-- The rows of the spec's table. -/
theorem D_many {t r : List Int} {i : Nat} : D t (-1 :: r) i ↔ D t r i ∨ (0 < i ∧ D t (-1 :: r) (i - 1)) := by
  simp only [D, if_true]
  constructor
  · rintro ⟨j, hj, hd⟩
    by_cases e : j = i
    · subst e; exact .inl hd
    · exact .inr ⟨by omega, j, by omega, hd⟩
  · rintro (hd | ⟨h, j, hj, hd⟩)
    · exact ⟨i, Nat.le_refl _, hd⟩
    · exact ⟨j, by omega, hd⟩
theorem D_one {t r : List Int} {p c : Int} {i : Nat} (hp : p ≠ -1) (hi : 0 < i) (hc : t[i - 1]? = some c) (h : p = -2 ∨ p = c) : D t (p :: r) i ↔ D t r (i - 1) := by
  rw [D, if_neg hp]
  constructor
  · rintro ⟨j, c', rfl, _, _, hd⟩; simpa using hd
  · intro hd; exact ⟨i - 1, c, by omega, hc, h, hd⟩
theorem D_not {t r : List Int} {p c : Int} {i : Nat} (hp : p ≠ -1) (hi : 0 < i) (hc : t[i - 1]? = some c) (h2 : p ≠ -2) (h3 : p ≠ c) : ¬ D t (p :: r) i := by
  rw [D, if_neg hp]
  rintro ⟨j, c', rfl, e, h, _⟩
  rw [Nat.add_sub_cancel, e] at hc
  cases hc
  rcases h with h | h
  · exact h2 h
  · exact h3 h
theorem D_zero {t r : List Int} {p : Int} (hp : p ≠ -1) : ¬ D t (p :: r) 0 := by
  rw [D, if_neg hp]
  rintro ⟨j, c', e, _⟩; omega
end Lk
end Go.Proofs.YtcgnkcehjcednaaDoor
