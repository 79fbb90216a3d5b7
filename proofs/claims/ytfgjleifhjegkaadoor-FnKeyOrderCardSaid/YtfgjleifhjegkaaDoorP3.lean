import Derived.Test.YtfgjleifhjegkaaDoorP2
import Derived.Lib.Bytealg
namespace Go.Proofs.YtfgjleifhjegkaaDoor
set_option linter.unusedVariables false
open Go.Lib
/-- The bytes of a character. -/
def encN (r : Nat) : List Nat :=
  if r < 128 then [r] else if r < 2048 then [192 + r / 64, 128 + r % 64]
  else if r < 65536 then [224 + r / 4096, 128 + r / 64 % 64, 128 + r % 64]
  else [240 + r / 262144, 128 + r / 4096 % 64, 128 + r / 64 % 64, 128 + r % 64]
def cmpN : List Nat → List Nat → Int
  | [], [] => 0
  | [], _ :: _ => -1
  | _ :: _, [] => 1
  | a :: as, b :: bs => if a < b then -1 else if b < a then 1 else cmpN as bs
def cmpL : List Int → List Int → Int
  | [], [] => 0
  | [], _ :: _ => -1
  | _ :: _, [] => 1
  | a :: as, b :: bs => if a < b then -1 else if b < a then 1 else cmpL as bs
def bytesN (s : ByteArray) (pos : Nat) : List Nat := (s.data.toList.drop pos).map UInt8.toNat
theorem cmp_bytes : ∀ (a b : List UInt8), compareBytes a b = cmpN (a.map UInt8.toNat) (b.map UInt8.toNat)
  | [], [] => rfl
  | [], _ :: _ => rfl
  | _ :: _, [] => rfl
  | a :: as, b :: bs => by
    simp only [compareBytes, List.map_cons, cmpN, UInt8.lt_iff_toNat_lt, cmp_bytes as bs]
theorem bytes_cons (s : ByteArray) (pos : Nat) (h : pos < s.size) : bytesN s pos = (s.get! pos).toNat :: bytesN s (pos + 1) := by
  unfold bytesN
  rw [get_eq s pos h]
  have hl : pos < s.data.toList.length := by rw [← size_eq]; exact h
  rw [List.drop_eq_getElem_cons hl]
  rfl
theorem bytes_end (s : ByteArray) (pos : Nat) (h : ¬ pos < s.size) : bytesN s pos = [] := by
  unfold bytesN
  rw [List.drop_eq_nil_of_le (by rw [← size_eq]; omega)]; rfl
theorem cons_congr {a b : Nat} {l m : List Nat} (h : a = b) (g : l = m) : a :: l = b :: m := by rw [h, g]
theorem enc3 (x y z : Nat) (hx : x < 16) (hy : y < 64) (hz : z < 64) (h : 2048 ≤ x * 4096 + y * 64 + z) : encN (x * 4096 + y * 64 + z) = [224 + x, 128 + y, 128 + z] := by
  unfold encN
  rw [if_neg (by omega), if_neg (by omega), if_pos (by omega)]
  exact cons_congr (by omega) (cons_congr (by omega) (cons_congr (by omega) rfl))
theorem enc4 (u x y z : Nat) (hu : u < 8) (hx : x < 64) (hy : y < 64) (hz : z < 64) (h : 65536 ≤ u * 262144 + x * 4096 + y * 64 + z) : encN (u * 262144 + x * 4096 + y * 64 + z) = [240 + u, 128 + x, 128 + y, 128 + z] := by
  have e1 : (u * 262144 + x * 4096 + y * 64 + z) / 64 = u * 4096 + x * 64 + y := by omega
  have e2 : (u * 262144 + x * 4096 + y * 64 + z) / 4096 = u * 64 + x := by omega
  have e3 : (u * 262144 + x * 4096 + y * 64 + z) / 262144 = u := by omega
  have e4 : (u * 262144 + x * 4096 + y * 64 + z) % 64 = z := by omega
  unfold encN
  rw [if_neg (by omega), if_neg (by omega), if_neg (by omega), e1, e2, e3, e4]
  exact cons_congr rfl (cons_congr (by omega) (cons_congr (by omega) rfl))
set_option maxHeartbeats 4000000 in
theorem dec_bytes (s : ByteArray) (pos : Nat) (h : pos < s.size) (hv : ¬ Utf8.decode s pos = (65533, 1)) :
    bytesN s pos = encN (Utf8.decode s pos).1 ++ bytesN s (pos + (Utf8.decode s pos).2) := by
  have h0 := (s.get! pos).toNat_lt
  have h1 := (s.get! (pos + 1)).toNat_lt
  have h2 := (s.get! (pos + 2)).toNat_lt
  have h3 := (s.get! (pos + 3)).toNat_lt
  revert hv
  rw [decode_at]
  unfold decodeN
  split
  · intro _
    simp only [encN]
    rw [if_pos (by omega), bytes_cons s pos h]; rfl
  split
  · split
    · intro _
      simp only [encN]
      rw [if_neg (by omega), if_pos (by omega), bytes_cons s pos h, bytes_cons s (pos + 1) (by omega)]
      exact cons_congr (by omega) (cons_congr (by omega) rfl)
    · intro hv; exact absurd rfl hv
  split
  · split
    · intro _
      simp only []
      rw [enc3 _ _ _ (by omega) (by omega) (by omega) (by omega), bytes_cons s pos h, bytes_cons s (pos + 1) (by omega), show pos + 1 + 1 = pos + 2 from rfl, bytes_cons s (pos + 2) (by omega)]
      exact cons_congr (by omega) (cons_congr (by omega) (cons_congr (by omega) rfl))
    · intro hv; exact absurd rfl hv
  split
  · split
    · intro _
      simp only []
      rw [enc4 _ _ _ _ (by omega) (by omega) (by omega) (by omega) (by omega), bytes_cons s pos h, bytes_cons s (pos + 1) (by omega), show pos + 1 + 1 = pos + 2 from rfl, bytes_cons s (pos + 2) (by omega), show pos + 2 + 1 = pos + 3 from rfl, bytes_cons s (pos + 3) (by omega)]
      exact cons_congr (by omega) (cons_congr (by omega) (cons_congr (by omega) (cons_congr (by omega) rfl)))
    · intro hv; exact absurd rfl hv
  · intro hv; exact absurd rfl hv
theorem cmpN_same : ∀ (p a b : List Nat), cmpN (p ++ a) (p ++ b) = cmpN a b
  | [], _, _ => rfl
  | x :: p, a, b => by simp only [List.cons_append, cmpN]; rw [if_neg (by omega), if_neg (by omega)]; exact cmpN_same p a b
set_option maxHeartbeats 4000000 in
theorem cmp_enc (r q : Nat) (a b : List Nat) (h : r < q) (hq : q ≤ 1114111) : cmpN (encN r ++ a) (encN q ++ b) = -1 ∧ cmpN (encN q ++ b) (encN r ++ a) = 1 := by
  unfold encN
  refine ⟨?_, ?_⟩
  all_goals
    repeat' split
    all_goals first | (exfalso; omega) | skip
    all_goals simp only [List.cons_append, List.nil_append, cmpN]
    all_goals
      repeat' split
    all_goals first | rfl | (exfalso; omega)
theorem cmp_F (s t : ByteArray) : ∀ f g i j xs ys, s.size ≤ i + f → t.size ≤ j + g → chF s f i = some xs → chF t g j = some ys → cmpN (bytesN s i) (bytesN t j) = cmpL xs ys := by
  intro f
  induction f with
  | zero =>
    intro g i j xs ys hi hj e1 e2
    rw [chF_end s 0 i (by omega)] at e1; simp at e1; subst e1
    rw [bytes_end s i (by omega)]
    by_cases hp : j < t.size
    · obtain ⟨k, rfl⟩ : ∃ k, g = k + 1 := ⟨g - 1, by omega⟩
      rw [chF, if_pos hp] at e2
      by_cases hb : Utf8.decode t j = (65533, 1)
      · rw [if_pos hb] at e2; cases e2
      · rw [if_neg hb] at e2
        obtain ⟨l, _, e4⟩ := Option.map_eq_some_iff.1 e2
        subst e4
        rw [bytes_cons t j hp]; rfl
    · rw [chF_end t g j hp] at e2; simp at e2; subst e2; rw [bytes_end t j hp]; rfl
  | succ f ih =>
    intro g i j xs ys hi hj e1 e2
    by_cases hs : i < s.size
    · rw [chF, if_pos hs] at e1
      by_cases hbs : Utf8.decode s i = (65533, 1)
      · rw [if_pos hbs] at e1; cases e1
      rw [if_neg hbs] at e1
      obtain ⟨l, e3, e4⟩ := Option.map_eq_some_iff.1 e1
      subst e4
      by_cases hp : j < t.size
      · obtain ⟨k, rfl⟩ : ∃ k, g = k + 1 := ⟨g - 1, by omega⟩
        rw [chF, if_pos hp] at e2
        by_cases hbt : Utf8.decode t j = (65533, 1)
        · rw [if_pos hbt] at e2; cases e2
        rw [if_neg hbt] at e2
        obtain ⟨m, e5, e6⟩ := Option.map_eq_some_iff.1 e2
        subst e6
        have w1 := decode_width_pos s i hs
        have w2 := decode_width_pos t j hp
        have ihx := ih k (i + (Utf8.decode s i).2) (j + (Utf8.decode t j).2) l m (by omega) (by omega) e3 e5
        rw [dec_bytes s i hs hbs, dec_bytes t j hp hbt]
        simp only [cmpL]
        by_cases h1 : (Utf8.decode s i).1 < (Utf8.decode t j).1
        · rw [(cmp_enc _ _ _ _ h1 (rune_le t j)).1, if_pos (by omega)]
        · by_cases h2 : (Utf8.decode t j).1 < (Utf8.decode s i).1
          · rw [(cmp_enc _ _ _ _ h2 (rune_le s i)).2, if_neg (by omega), if_pos (by omega)]
          · have e : (Utf8.decode s i).1 = (Utf8.decode t j).1 := by omega
            rw [if_neg (by omega), if_neg (by omega), e, cmpN_same, ihx]
      · rw [chF_end t g j hp] at e2; simp at e2; subst e2
        rw [bytes_end t j hp, bytes_cons s i hs]; rfl
    · rw [chF_end s _ i hs] at e1; simp at e1; subst e1
      rw [bytes_end s i hs]
      by_cases hp : j < t.size
      · obtain ⟨k, rfl⟩ : ∃ k, g = k + 1 := ⟨g - 1, by omega⟩
        rw [chF, if_pos hp] at e2
        by_cases hb : Utf8.decode t j = (65533, 1)
        · rw [if_pos hb] at e2; cases e2
        · rw [if_neg hb] at e2
          obtain ⟨l, _, e4⟩ := Option.map_eq_some_iff.1 e2
          subst e4
          rw [bytes_cons t j hp]; rfl
      · rw [chF_end t g j hp] at e2; simp at e2; subst e2; rw [bytes_end t j hp]; rfl
/-- UTF-8 keeps the order of code points in the order of its bytes. -/
theorem cmp_text (s t : ByteArray) (xs ys : List Int) (h1 : chars s = some xs) (h2 : chars t = some ys) : compareBytes s.data.toList t.data.toList = cmpL xs ys := by
  rw [cmp_bytes]
  exact cmp_F s t s.size t.size 0 0 xs ys (by omega) (by omega) h1 h2
end Go.Proofs.YtfgjleifhjegkaaDoor
