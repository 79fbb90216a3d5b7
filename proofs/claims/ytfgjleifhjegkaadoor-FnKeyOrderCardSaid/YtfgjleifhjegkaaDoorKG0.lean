import Derived.Test.YtfgjleifhjegkaaDoorKT
import Derived.Test.YtfgjleifhjegkaaDoorKK
namespace Go.Proofs.YtfgjleifhjegkaaDoor
open Go.ChangeShapes Go.WideShapes Go.ChangeAt Go.RowKit
set_option linter.unusedVariables false
set_option linter.unusedSimpArgs false
set_option maxRecDepth 100000
def noS : ByteArray := ⟨#[]⟩
/-- The value at the head of a key, and how many bytes it takes. -/
def gst (xs : List Int) : Option (VA × Nat) :=
  let k := xs.headD 0 / 16
  if k = 1 ∨ k = 2 then (if 9 ≤ xs.length then some (⟨k, (numL ((xs.drop 1).take 8) : Int) - 9223372036854775808, noS⟩, 9) else none)
  else if k = 3 then (ktx (xs.drop 1)).map fun p => (⟨3, 0, strOfNums p.1⟩, 1 + p.2)
  else if k = 4 then (if 2 ≤ xs.length then some (⟨4, (xs.drop 1).headD 0, noS⟩, 2) else none)
  else if k = 5 then (if 5 ≤ xs.length then some (⟨5, (numL ((xs.drop 1).take 4) : Int) - 2147483648, noS⟩, 5) else none)
  else some (⟨k, 0, noS⟩, 1)
def gus : Nat → List Int → List VA
  | 0, _ => []
  | f + 1, xs => if xs = [] then [] else match gst xs with
    | none => []
    | some (v, n) => v :: gus f (xs.drop n)
theorem gus_nil (f : Nat) : gus f [] = [] := by cases f <;> simp [gus]
theorem gus_some {f : Nat} {xs : List Int} {v : VA} {n : Nat} (hx : xs ≠ []) (h : gst xs = some (v, n)) : gus (f + 1) xs = v :: gus f (xs.drop n) := by
  conv => lhs; unfold gus
  rw [if_neg hx, h]
theorem gus_none {f : Nat} {xs : List Int} (h : gst xs = none) : gus (f + 1) xs = [] := by
  unfold gus
  rw [h]
  split <;> rfl
theorem empty_of {s : ByteArray} (h : s.toList.isEmpty = true) : s = noS := by
  rw [ByteArray.toList_eq] at h
  apply Go.WideShapes.bytes_inj
  simpa [noS] using h
theorem ktx_len : ∀ (xs : List Int) (l : List Int) (n : Nat), ktx xs = some (l, n) → n ≤ xs.length ∧ 2 ≤ n
  | [], l, n, h => by simp [ktx] at h
  | [_], l, n, h => by simp [ktx] at h
  | b :: c :: r, l, n, h => by
    by_cases hb : b = 0
    · subst hb
      by_cases hc : c = 1
      · subst hc
        rw [ktx_end] at h
        simp at h
        obtain ⟨_, rfl⟩ := h
        simp
      · rw [ktx_nought hc] at h
        obtain ⟨⟨l', n'⟩, h1, h2⟩ := Option.map_eq_some_iff.1 h
        have := ktx_len r l' n' h1
        simp at h2
        obtain ⟨_, rfl⟩ := h2
        simp; omega
    · rw [ktx_plain hb] at h
      obtain ⟨⟨l', n'⟩, h1, h2⟩ := Option.map_eq_some_iff.1 h
      have := ktx_len (c :: r) l' n' h1
      simp at h2 this
      obtain ⟨_, rfl⟩ := h2
      simp; omega
theorem ktx_esc : ∀ (l R : List Int), ktx (escL l ++ 0 :: 1 :: R) = some (l, (escL l).length + 2)
  | [], R => by simp [escL, ktx_end]
  | b :: r, R => by
    have ih := ktx_esc r R
    have he : escL (b :: r) = esc1 b ++ escL r := by simp [escL]
    rw [he]
    by_cases hb : b = 0
    · subst hb
      have : esc1 0 = [0, 255] := by simp [esc1]
      rw [this]
      show ktx (0 :: 255 :: (escL r ++ 0 :: 1 :: R)) = _
      rw [ktx_nought (by decide), ih]
      simp
    · have : esc1 b = [b] := by simp [esc1, hb]
      rw [this]
      obtain ⟨c, q, hq⟩ : ∃ c q, escL r ++ 0 :: 1 :: R = c :: q := by
        cases h : escL r with
        | nil => exact ⟨0, 1 :: R, rfl⟩
        | cons c q => exact ⟨c, q ++ 0 :: 1 :: R, rfl⟩
      show ktx (b :: (escL r ++ 0 :: 1 :: R)) = _
      rw [hq, ktx_plain hb, ← hq, ih]
      simp
theorem strNums_strI (s : ByteArray) : strOfNums (strI s) = s := by
  apply Go.WideShapes.bytes_inj
  unfold strOfNums strI
  simp only [List.map_map]
  rw [show ((fun n : Int => UInt8.ofNat n.toNat) ∘ fun b : UInt8 => (b.toNat : Int)) = id from funext fun b => by simp]
  simp
theorem gst_key (t : VA) (R : List Int) (hv : vok t.k t.n t.s = true) (h0 : -9223372036854775808 ≤ t.n) (h1 : t.n ≤ 9223372036854775807) : gst (keyP t.k t.n t.s ++ R) = some (t, (keyP t.k t.n t.s).length) := by
  obtain ⟨k, n, s⟩ := t
  simp only at *
  have hvk := vokK hv
  unfold vok at hv
  rcases hvk with rfl | rfl | rfl | rfl | ⟨rfl, a, b⟩ | ⟨rfl, a, b⟩
  · simp at hv
    obtain ⟨rfl, hs⟩ := hv
    have := empty_of (s := s) (by simpa using hs)
    subst this
    simp [keyP, gst]
  · have hs := empty_of (s := s) (by simpa using hv)
    subst hs
    have hk : keyP 1 n noS = 16 :: beL 8 (n + 9223372036854775808).toNat := by simp [keyP]
    have hl := beL_len 8 (n + 9223372036854775808).toNat
    have hn := numL_beL 8 (n + 9223372036854775808).toNat (by have : 256 ^ 8 = 18446744073709551616 := by decide
                                                              omega)
    rw [hk]
    generalize beL 8 (n + 9223372036854775808).toNat = l at *
    have ht : (l ++ R).take 8 = l := by rw [List.take_append_of_le_length (by omega), List.take_of_length_le (by omega)]
    simp [gst, ht, hn, hl]
    omega
  · simp at hv
    have hs := empty_of (s := s) (by simpa using hv.1)
    subst hs
    have hk : keyP 2 n noS = 32 :: beL 8 (n + 9223372036854775808).toNat := by simp [keyP]
    have hl := beL_len 8 (n + 9223372036854775808).toNat
    have hn := numL_beL 8 (n + 9223372036854775808).toNat (by have : 256 ^ 8 = 18446744073709551616 := by decide
                                                              omega)
    rw [hk]
    generalize beL 8 (n + 9223372036854775808).toNat = l at *
    have ht : (l ++ R).take 8 = l := by rw [List.take_append_of_le_length (by omega), List.take_of_length_le (by omega)]
    simp [gst, ht, hn, hl]
    omega
  · simp at hv
    obtain ⟨rfl, _⟩ := hv
    have hk : keyP 3 0 s = 48 :: (escL (strI s) ++ [0, 1]) := by simp [keyP]
    rw [hk]
    have := ktx_esc (strI s) R
    simp [gst, this, strNums_strI]
    omega
  · simp at hv
    have hs := empty_of (s := s) (by simpa using hv.1)
    subst hs
    simp [keyP, gst]
  · simp at hv
    have hs := empty_of (s := s) (by simpa using hv.1)
    subst hs
    have hk : keyP 5 n noS = 80 :: beL 4 (n + 2147483648).toNat := by simp [keyP]
    have hl := beL_len 4 (n + 2147483648).toNat
    have hn := numL_beL 4 (n + 2147483648).toNat (by have : 256 ^ 4 = 4294967296 := by decide
                                                     omega)
    rw [hk]
    generalize beL 4 (n + 2147483648).toNat = l at *
    have ht : (l ++ R).take 4 = l := by rw [List.take_append_of_le_length (by omega), List.take_of_length_le (by omega)]
    simp [gst, ht, hn, hl]
    omega
theorem keyP_pos (k n : Int) (s : ByteArray) : 0 < (keyP k n s).length := by
  unfold keyP
  repeat' split
  all_goals simp
/-- What was written is read. -/
theorem gus_key : ∀ (us : List VA) (f : Nat), (∀ t ∈ us, vok t.k t.n t.s = true) → GoV us → (keyL us).length ≤ f → gus f (keyL us) = us
  | [], f, _, _, _ => by simp [keyL, gus_nil]
  | t :: r, f, hv, hg, hf => by
    have hk : keyL (t :: r) = keyP t.k t.n t.s ++ keyL r := by simp [keyL]
    have hp := keyP_pos t.k t.n t.s
    rw [hk] at hf ⊢
    rw [List.length_append] at hf
    cases f with
    | zero => omega
    | succ f =>
      have ht := hv t (List.mem_cons_self ..)
      have hn := hg t (List.mem_cons_self ..)
      rw [gus_some (by intro e; have := congrArg List.length e; rw [List.length_append, List.length_nil] at this; omega) (gst_key t (keyL r) ht hn.1 hn.2), List.drop_left]
      rw [gus_key r f (fun x hx => hv x (List.mem_cons_of_mem _ hx)) (fun x hx => hg x (List.mem_cons_of_mem _ hx)) (by omega)]
end Go.Proofs.YtfgjleifhjegkaaDoor
