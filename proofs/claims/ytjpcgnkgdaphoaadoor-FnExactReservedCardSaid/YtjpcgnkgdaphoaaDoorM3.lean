import Derived.Test.YtjpcgnkgdaphoaaDoorM2
import Derived.Lib.Replace
import Derived.Lib.MapLaws
import Derived.Lib.TrimAscii
import Derived.Lib.IndexBytes
namespace Go.Proofs.YtjpcgnkgdaphoaaDoor
set_option linter.unusedVariables false
set_option linter.unusedSimpArgs false
open Go.Lib
/-- Each mark twice. -/
def dbl (q : UInt8) : List UInt8 → List UInt8
  | [] => []
  | c :: t => if c = q then q :: q :: dbl q t else c :: dbl q t
theorem dbl_len (q : UInt8) : ∀ l, l.length ≤ (dbl q l).length ∧ (dbl q l).length = l.length + l.count q
  | [] => by simp [dbl]
  | c :: t => by
    have ih := dbl_len q t
    unfold dbl
    by_cases h : c = q
    · subst h; simp [List.count_cons]; omega
    · simp [h, List.count_cons]; omega
theorem dbl_append (q : UInt8) : ∀ a b, dbl q (a ++ b) = dbl q a ++ dbl q b
  | [], b => rfl
  | c :: t, b => by
    have ih := dbl_append q t b
    rw [List.cons_append, dbl, dbl, ih]
    split <;> rfl
theorem replaceK_ne (q c : UInt8) (new : List UInt8) (h : c ≠ q) : ∀ (k : Nat) (t : List UInt8), replaceK [q] new k (c :: t) = c :: replaceK [q] new k t
  | 0, t => rfl
  | k + 1, t => by
    have hi : index (c :: t) [q] = if index t [q] == -1 then -1 else index t [q] + 1 := by
      rw [index]
      have : ([q] : List UInt8).isPrefixOf (c :: t) = false := by simp [List.isPrefixOf]; exact fun x => h x.symm
      rw [this]; simp
    have hg := index_ge t [q]
    by_cases hm : index t [q] = -1
    · rw [replaceK, replaceK, hi]; simp [hm]
    · obtain ⟨i, hi'⟩ : ∃ i : Nat, index t [q] = i := ⟨(index t [q]).toNat, by omega⟩
      have e : index (c :: t) [q] = ((i + 1 : Nat) : Int) := by rw [hi, hi']; simp
      rw [replaceK_hit [q] new k (c :: t) (i + 1) e, replaceK_hit [q] new k t i hi']
      simp [Nat.add_right_comm]
theorem replaceK_dbl (q : UInt8) : ∀ l : List UInt8, replaceK [q] [q, q] (count l [q]) l = dbl q l
  | [] => by rw [count_one]; rfl
  | c :: t => by
    have ih := replaceK_dbl q t
    by_cases h : c = q
    · subst h
      rw [count_cons_eq, Nat.add_comm, replaceK_hit [c] [c, c] _ (c :: t) 0 (by rw [index]; simp [List.isPrefixOf])]
      simp [dbl, ih]
    · rw [count_cons_ne c q t h, replaceK_ne q c _ h, ih, dbl, if_neg h]
theorem repl_dbl (q : UInt8) (l : List UInt8) : replaceAll l [q] [q, q] = dbl q l := by
  unfold replaceAll replace
  rw [if_neg (by simp)]
  unfold replaceNum
  rw [if_pos (by left; decide)]
  exact replaceK_dbl q l
theorem encodeRune_ascii (n : Nat) (h : n < 128) : encodeRune (n : Int) = [n.toUInt8] := by
  unfold encodeRune
  rw [encodeRuneZ_one (by omega) (by omega)]
  simp
theorem mapD_ascii (f : Int → Int) (g : UInt8 → UInt8) : ∀ l : List UInt8, (∀ c ∈ l, c.toNat < 128 ∧ f (c.toNat : Int) = ((g c).toNat : Int) ∧ (g c).toNat < 128) → mapD f l = l.map g
  | [], _ => rfl
  | c :: t, h => by
    obtain ⟨h1, h2, h3⟩ := h c (by simp)
    have ih := mapD_ascii f g t (fun x hx => h x (by simp [hx]))
    rw [mapD_step f (c :: t) (by simp), decodeL_ascii c t h1]
    simp only [h2]
    rw [if_pos (by omega), encodeRune_ascii _ h3]
    simp [ih]
/-- The value of digits, and their order. -/
def digs (l : List UInt8) : Prop := ∀ c ∈ l, digI (c.toNat : Int) = true
theorem digI_iff (c : UInt8) : digI (c.toNat : Int) = true ↔ 48 ≤ c.toNat ∧ c.toNat ≤ 57 := by unfold digI; simp; omega
theorem val_go (l : List UInt8) : ∀ n, l.foldl (fun n c => 10 * n + (c.toNat - 48)) n = n * 10 ^ l.length + val l := by
  induction l with
  | nil => intro n; simp [val]
  | cons c t ih =>
    intro n
    unfold val
    simp only [List.foldl_cons, List.length_cons]
    rw [ih, ih (10 * 0 + (c.toNat - 48)), Nat.pow_succ]
    simp only [Nat.mul_zero, Nat.zero_add, Nat.add_mul]
    have : 10 * n * 10 ^ t.length = n * (10 ^ t.length * 10) := by rw [Nat.mul_comm 10 n, Nat.mul_assoc, Nat.mul_comm 10]
    omega
theorem val_cons (c : UInt8) (t : List UInt8) : val (c :: t) = (c.toNat - 48) * 10 ^ t.length + val t := by
  have := val_go t (10 * 0 + (c.toNat - 48))
  unfold val
  simp only [List.foldl_cons]
  rw [this]; simp [val]
theorem val_snoc (l : List UInt8) (c : UInt8) : val (l ++ [c]) = 10 * val l + (c.toNat - 48) := by
  unfold val; rw [List.foldl_append]; rfl
theorem val_lt : ∀ l : List UInt8, digs l → val l < 10 ^ l.length
  | [], _ => by simp [val]
  | c :: t, h => by
    have ih := val_lt t (fun x hx => h x (by simp [hx]))
    have hc := (digI_iff c).1 (h c (by simp))
    rw [val_cons, List.length_cons, Nat.pow_succ]
    have : (c.toNat - 48) * 10 ^ t.length ≤ 9 * 10 ^ t.length := Nat.mul_le_mul_right _ (by omega)
    omega
theorem less_val : ∀ (a b : List UInt8), digs a → digs b → a.length = b.length → (Op.bytesLess a b = true ↔ val a < val b)
  | [], [], _, _, _ => by simp [Op.bytesLess, val]
  | [], _ :: _, _, _, h => by simp at h
  | _ :: _, [], _, _, h => by simp at h
  | x :: a, y :: b, ha, hb, h => by
    have ih := less_val a b (fun z hz => ha z (by simp [hz])) (fun z hz => hb z (by simp [hz])) (by simpa using h)
    have hx := (digI_iff x).1 (ha x (by simp))
    have hy := (digI_iff y).1 (hb y (by simp))
    have la := val_lt a (fun z hz => ha z (by simp [hz]))
    have lb := val_lt b (fun z hz => hb z (by simp [hz]))
    have hl : a.length = b.length := by simpa using h
    rw [val_cons, val_cons, hl]
    rw [hl] at la
    unfold Op.bytesLess
    rcases Nat.lt_trichotomy x.toNat y.toNat with g | g | g
    · have e : (x.toNat - 48 + 1) * 10 ^ b.length ≤ (y.toNat - 48) * 10 ^ b.length := Nat.mul_le_mul_right _ (by omega)
      rw [Nat.add_mul] at e
      have : x < y := UInt8.lt_iff_toNat_lt.2 g
      simp [this]; omega
    · have : x = y := UInt8.toNat.inj g
      subst this
      simp [ih]
    · have e : (y.toNat - 48 + 1) * 10 ^ b.length ≤ (x.toNat - 48) * 10 ^ b.length := Nat.mul_le_mul_right _ (by omega)
      rw [Nat.add_mul] at e
      have h1 : ¬ x < y := fun z => by have := UInt8.lt_iff_toNat_lt.1 z; omega
      have h2 : ¬ x = y := fun z => by subst z; omega
      simp only [h1, h2, decide_false, beq_eq_false_iff_ne.2 h2, Bool.false_and, Bool.or_false]
      constructor
      · intro z; cases z
      · intro z; omega
end Go.Proofs.YtjpcgnkgdaphoaaDoor
