import Derived.Test.YtfgjleifhjegkaaDoorIPqr
import Derived.Test.YtfgjleifhjegkaaDoorKVs
namespace Go.Proofs.YtfgjleifhjegkaaDoor
open Go.ChangeShapes Go.WideShapes Go.ChangeAt Go.RowKit
set_option linter.unusedVariables false
set_option linter.unusedSimpArgs false
set_option maxRecDepth 100000
theorem pcL_len (r : List Int) (n : Int) : (pcL r n).2.length ≤ r.length ∧ (pcL r n).1.length ≤ r.length := by
  unfold pcL
  split
  · rw [List.length_drop, List.length_take]; omega
  · simp
theorem pkI_len {l : List Int} (h : l ≠ []) : (pkI l).2.length < l.length := by
  rcases l with _ | ⟨b, r⟩
  · exact absurd rfl h
  have h8 := (pcL_len r 8).1
  have h1 := (pcL_len r 1).1
  have h4 := (pcL_len r 4).1
  have ht := (ktI_len r).2
  simp only [pkI, List.length_cons]
  repeat' split
  all_goals (simp only; omega)
theorem byt_kt {l : List Int} (h : Byt l) : Byt (ktI l).2 := by
  have key : ∀ (n : Nat) (l : List Int), l.length ≤ n → Byt l → Byt (ktI l).2 := by
    intro n
    induction n with
    | zero =>
      intro l hl hb
      have := List.eq_nil_of_length_eq_zero (by omega : l.length = 0)
      subst this
      simpa [ktI] using hb
    | succ n ih =>
      intro l hl hb
      rcases l with _ | ⟨b, r⟩
      · simpa [ktI] using hb
      have hr : Byt r := fun x hx => hb x (List.mem_cons_of_mem _ hx)
      simp only [List.length_cons] at hl
      by_cases hz : b = 0
      · subst hz
        rcases r with _ | ⟨c, r⟩
        · rw [ktI_one]; exact fun x hx => by simp at hx
        · have hr2 : Byt r := fun x hx => hr x (List.mem_cons_of_mem _ hx)
          simp only [List.length_cons] at hl
          by_cases hc : c = 255
          · subst hc; rw [ktI_nought]; exact ih r (by omega) hr2
          · rw [ktI_end hc]; exact hr2
      · rw [ktI_plain hz]; exact ih r (by omega) hr
  exact key l.length l (Nat.le_refl _) h
theorem turn_range {n : Int} (h0 : -9223372036854775808 ≤ n) (h1 : n ≤ 9223372036854775807) : -9223372036854775808 ≤ turnN n ∧ turnN n ≤ 9223372036854775807 := by
  unfold turnN; split <;> omega
theorem pkI_good {l : List Int} (h : Byt l) : (pkI l).1.s.size ≤ l.length ∧ (-9223372036854775808 ≤ (pkI l).1.n ∧ (pkI l).1.n ≤ 9223372036854775807) ∧ Byt (pkI l).2 := by
  rcases l with _ | ⟨b, r⟩
  · exact ⟨by simp [pkI, noS, ByteArray.size], by simp [pkI], h⟩
  have hr : Byt r := fun x hx => h x (List.mem_cons_of_mem _ hx)
  have ht := (ktI_len r).1
  have h4 := nm_small4 hr
  have h8 := turn_range (nmI_range (pcL r 8).1).1 (nmI_range (pcL r 8).1).2
  have h1 := nmI_range (pcL r 1).1
  have hn : noS.size = 0 := rfl
  simp only [pkI, List.length_cons]
  split
  · exact ⟨by simp only [hn]; omega, h8, (byt_pc hr 8).2⟩
  split
  · exact ⟨by simp only [strNums_size]; omega, by simp, byt_kt hr⟩
  split
  · exact ⟨by simp only [hn]; omega, h1, (byt_pc hr 1).2⟩
  split
  · exact ⟨by simp only [hn]; omega, by simp only; omega, (byt_pc hr 4).2⟩
  · exact ⟨by simp only [hn]; omega, by simp, hr⟩
/-- The values of a key. -/
def gkI : Nat → List Int → List VA
  | 0, _ => []
  | f + 1, l => if l = [] then [] else (pkI l).1 :: gkI f (pkI l).2
theorem gkI_nil (f : Nat) : gkI f [] = [] := by cases f <;> simp [gkI]
theorem gkI_cons {f : Nat} {l : List Int} (h : l ≠ []) : gkI (f + 1) l = (pkI l).1 :: gkI f (pkI l).2 := by
  conv => lhs; unfold gkI
  rw [if_neg h]
theorem gkI_good : ∀ (f : Nat) (l : List Int), Byt l → (gkI f l).length ≤ l.length ∧ ∀ t ∈ gkI f l, t.s.size ≤ l.length ∧ (-9223372036854775808 ≤ t.n ∧ t.n ≤ 9223372036854775807)
  | 0, l, _ => by simp [gkI]
  | f + 1, l, hb => by
    by_cases hx : l = []
    · subst hx; simp [gkI]
    · have hg := pkI_good hb
      have hl := pkI_len hx
      have ih := gkI_good f (pkI l).2 hg.2.2
      rw [gkI_cons hx]
      refine ⟨by rw [List.length_cons]; omega, fun t ht => ?_⟩
      rcases List.mem_cons.1 ht with rfl | ht
      · exact ⟨hg.1, hg.2.1⟩
      · have := ih.2 t ht
        exact ⟨by omega, this.2⟩
theorem pc_at (l R : List Int) (n : Nat) (h : l.length = n) : pcL (l ++ R) (n : Int) = (l, R) := by
  unfold pcL
  rw [if_pos ⟨by omega, by rw [List.length_append]; omega⟩]
  have e : ((n : Int)).toNat = n := by omega
  rw [e, ← h, List.take_left, List.drop_left]
theorem turn_nm {n : Int} (h0 : -9223372036854775808 ≤ n) (h1 : n ≤ 9223372036854775807) : turnN (nmI (beL 8 (n + 9223372036854775808).toNat)) = n := by
  have e8 : 256 ^ 8 = 18446744073709551616 := by decide
  have hn := numL_beL 8 (n + 9223372036854775808).toNat (by rw [e8]; omega)
  unfold nmI
  rw [hn]
  have e : (((n + 9223372036854775808).toNat : Nat) : Int) = n + 9223372036854775808 := by omega
  rw [e]
  clear hn e
  unfold turnN
  simp only [wrap64]
  split <;> omega
theorem date_nm {n : Int} (h0 : -719162 ≤ n) (h1 : n ≤ 2932896) : nmI (beL 4 (n + 2147483648).toNat) - 2147483648 = n := by
  have e4 : 256 ^ 4 = 4294967296 := by decide
  have hn := numL_beL 4 (n + 2147483648).toNat (by rw [e4]; omega)
  unfold nmI
  rw [hn]
  have e : (((n + 2147483648).toNat : Nat) : Int) = n + 2147483648 := by omega
  rw [e]
  clear hn e
  simp only [wrap64]
  omega
theorem pkI_key (t : VA) (R : List Int) (hv : vok t.k t.n t.s = true) (h0 : -9223372036854775808 ≤ t.n) (h1 : t.n ≤ 9223372036854775807) : pkI (keyP t.k t.n t.s ++ R) = (t, R) := by
  obtain ⟨k, n, s⟩ := t
  simp only at *
  have hvk := vokK hv
  unfold vok at hv
  rcases hvk with rfl | rfl | rfl | rfl | ⟨rfl, a, b⟩ | ⟨rfl, a, b⟩
  · simp at hv
    obtain ⟨rfl, hs⟩ := hv
    have := empty_of (s := s) (by simpa using hs)
    subst this
    simp [keyP, pkI]
  · have hs := empty_of (s := s) (by simpa using hv)
    subst hs
    have hk : keyP 1 n noS = 16 :: beL 8 (n + 9223372036854775808).toNat := by simp [keyP]
    have hp := pc_at (beL 8 (n + 9223372036854775808).toNat) R 8 (beL_len _ _)
    have ht := turn_nm h0 h1
    rw [hk, List.cons_append]
    simp only [pkI]
    rw [if_pos (by decide), show ((8 : Int)) = ((8 : Nat) : Int) from rfl, hp]
    simp only [ht]
    rfl
  · simp at hv
    have hs := empty_of (s := s) (by simpa using hv.1)
    subst hs
    have hk : keyP 2 n noS = 32 :: beL 8 (n + 9223372036854775808).toNat := by simp [keyP]
    have hp := pc_at (beL 8 (n + 9223372036854775808).toNat) R 8 (beL_len _ _)
    have ht := turn_nm h0 h1
    rw [hk, List.cons_append]
    simp only [pkI]
    rw [if_pos (by decide), show ((8 : Int)) = ((8 : Nat) : Int) from rfl, hp]
    simp only [ht]
    rfl
  · simp at hv
    obtain ⟨rfl, _⟩ := hv
    have hk : keyP 3 0 s = 48 :: (escL (strI s) ++ [0, 1]) := by simp [keyP]
    have := ktI_esc R (strI s)
    rw [hk, List.cons_append, List.append_assoc]
    simp only [pkI]
    rw [if_neg (by decide), if_pos (by decide)]
    show (VA.mk 3 0 (strOfNums (ktI (escL (strI s) ++ 0 :: 1 :: R)).1), (ktI (escL (strI s) ++ 0 :: 1 :: R)).2) = _
    rw [this, strNums_strI]
  · simp at hv
    have hs := empty_of (s := s) (by simpa using hv.1)
    subst hs
    have hk : keyP 4 n noS = [64, n] := by simp [keyP]
    rw [hk]
    show pkI (64 :: n :: R) = _
    simp only [pkI]
    rw [if_neg (by decide), if_neg (by decide), if_pos (by decide), pc_one, nm_one (by omega) (by omega)]
  · simp at hv
    have hs := empty_of (s := s) (by simpa using hv.1)
    subst hs
    have hk : keyP 5 n noS = 80 :: beL 4 (n + 2147483648).toNat := by simp [keyP]
    have hp := pc_at (beL 4 (n + 2147483648).toNat) R 4 (beL_len _ _)
    have ht := date_nm a b
    rw [hk, List.cons_append]
    simp only [pkI]
    rw [if_neg (by decide), if_neg (by decide), if_neg (by decide), if_pos (by decide), show ((4 : Int)) = ((4 : Nat) : Int) from rfl, hp]
    simp only [ht]
/-- What was written is read. -/
theorem gkI_key : ∀ (us : List VA) (f : Nat), (∀ t ∈ us, vok t.k t.n t.s = true) → GoV us → (keyL us).length ≤ f → gkI f (keyL us) = us
  | [], f, _, _, _ => by simp [keyL, gkI_nil]
  | t :: r, f, hv, hg, hf => by
    have hk : keyL (t :: r) = keyP t.k t.n t.s ++ keyL r := by simp [keyL]
    have hp := keyP_pos t.k t.n t.s
    rw [hk] at hf ⊢
    rw [List.length_append] at hf
    cases f with
    | zero => omega
    | succ f =>
      have ht := hv t (List.mem_cons_self ..)
      have hn := hg t (List.mem_cons_self ..)
      rw [gkI_cons (by intro e; have := congrArg List.length e; rw [List.length_append, List.length_nil] at this; omega), pkI_key t (keyL r) ht hn.1 hn.2]
      simp only
      rw [gkI_key r f (fun x hx => hv x (List.mem_cons_of_mem _ hx)) (fun x hx => hg x (List.mem_cons_of_mem _ hx)) (by omega)]
end Go.Proofs.YtfgjleifhjegkaaDoor
