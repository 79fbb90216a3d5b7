import Derived.Lib.RuneCountTail
import Derived.Lib.ValidLaws
import Derived.Lib.RuneCount
namespace Go.Proofs.YtfgjleifhjegkaaDoor
set_option linter.unusedVariables false
/-- The characters of a text from a place on, by at most so many steps; none: it is not well formed. -/
def chF (s : ByteArray) : Nat → Nat → Option (List Int)
  | 0, pos => if pos < s.size then none else some []
  | f + 1, pos => if pos < s.size then (if Utf8.decode s pos = (65533, 1) then none else (chF s f (pos + (Utf8.decode s pos).2)).map (fun l => ((Utf8.decode s pos).1 : Int) :: l)) else some []
def chars (s : ByteArray) : Option (List Int) := chF s s.size 0
theorem chF_end (s : ByteArray) (f pos : Nat) (h : ¬ pos < s.size) : chF s f pos = some [] := by cases f <;> simp [chF, h]
theorem chF_step (s : ByteArray) (b pos : Nat) (acc : List Int) (c : Int) (n : Nat) (h : pos < s.size) (hb : s.size ≤ pos + b) (hd : Utf8.decode s pos = (c.toNat, n)) (hc : 0 ≤ c) (hn : ¬ (c = 65533 ∧ n = 1)) (hn1 : 1 ≤ n)
    (hi : (chF s b pos).map (acc ++ ·) = chars s) : (chF s (b - 1) (pos + n)).map ((acc ++ [c]) ++ ·) = chars s := by
  obtain ⟨f, rfl⟩ : ∃ f, b = f + 1 := ⟨b - 1, by omega⟩
  rw [← hi, chF, if_pos h, hd, if_neg (by intro e; simp at e; omega)]
  simp only [Nat.add_sub_cancel, Option.map_map]
  congr 1
  funext l
  simp; omega
theorem chF_bad (s : ByteArray) (b pos : Nat) (acc : List Int) (h : pos < s.size) (hb : s.size ≤ pos + b) (hd : Utf8.decode s pos = (65533, 1)) (hi : (chF s b pos).map (acc ++ ·) = chars s) : chars s = none := by
  obtain ⟨f, rfl⟩ : ∃ f, b = f + 1 := ⟨b - 1, by omega⟩
  rw [← hi, chF, if_pos h, hd, if_pos rfl]; rfl
theorem chF_fin (s : ByteArray) (b pos : Nat) (acc : List Int) (h : ¬ pos < s.size) (hi : (chF s b pos).map (acc ++ ·) = chars s) : chars s = some acc := by
  rw [← hi, chF_end s b pos h]; simp
theorem get_eq (s : ByteArray) (i : Nat) (h : i < s.size) : s.get! i = s[i]'h := by
  simp [ByteArray.get!, getElem!_pos, h]
  rfl
/-- A byte below 128. -/
theorem dec_A (s : ByteArray) (pos : Nat) (h : pos < s.size) (h0 : ((s[pos]'h).toNat : Int) < 128) : Utf8.decode s pos = (((s[pos]'h).toNat : Int).toNat, 1) := by
  rw [Lib.decode_at, get_eq s pos h]; unfold Lib.decodeN; rw [if_pos (by omega)]; simp
theorem dec_E (s : ByteArray) (pos : Nat) (h : pos < s.size) (h0 : (128 ≤ ((s[pos]'h).toNat : Int) ∧ ((s[pos]'h).toNat : Int) < 194) ∨ 245 ≤ ((s[pos]'h).toNat : Int)) : Utf8.decode s pos = (65533, 1) := by
  rw [Lib.decode_at, get_eq s pos h]; unfold Lib.decodeN
  have := (s[pos]'h).toNat_lt
  have := (s.get! (pos + 1)).toNat_lt
  have := (s.get! (pos + 2)).toNat_lt
  have := (s.get! (pos + 3)).toNat_lt
  rw [if_neg (by omega)]
  repeat' split
  all_goals first | rfl | (exfalso; omega)
/-- Cut off at the text's end. -/
theorem dec_short (s : ByteArray) (pos n : Nat) (h : pos < s.size) (h0 : (194 ≤ ((s[pos]'h).toNat : Int) ∧ ((s[pos]'h).toNat : Int) < 224 ∧ n = 1) ∨ (224 ≤ ((s[pos]'h).toNat : Int) ∧ ((s[pos]'h).toNat : Int) < 240 ∧ n = 2) ∨ (240 ≤ ((s[pos]'h).toNat : Int) ∧ ((s[pos]'h).toNat : Int) < 245 ∧ n = 3)) (hs : s.size ≤ pos + n) : Utf8.decode s pos = (65533, 1) := by
  rw [Lib.decode_at, get_eq s pos h]; unfold Lib.decodeN
  rw [if_neg (by omega)]
  repeat' split
  all_goals first | rfl | (exfalso; omega)
theorem dec_cont (s : ByteArray) (pos n j : Nat) (h : pos < s.size) (h0 : (194 ≤ ((s[pos]'h).toNat : Int) ∧ ((s[pos]'h).toNat : Int) < 224 ∧ n = 1) ∨ (224 ≤ ((s[pos]'h).toNat : Int) ∧ ((s[pos]'h).toNat : Int) < 240 ∧ n = 2) ∨ (240 ≤ ((s[pos]'h).toNat : Int) ∧ ((s[pos]'h).toNat : Int) < 245 ∧ n = 3)) (hj1 : 1 ≤ j) (hj2 : j ≤ n) (hj : pos + j < s.size) (hb : ((s[pos + j]'hj).toNat : Int) < 128 ∨ 191 < ((s[pos + j]'hj).toNat : Int)) : Utf8.decode s pos = (65533, 1) := by
  have ej := get_eq s (pos + j) hj
  have := (s.get! (pos + 1)).toNat_lt
  have := (s.get! (pos + 2)).toNat_lt
  have := (s.get! (pos + 3)).toNat_lt
  rw [← ej] at hb
  rw [Lib.decode_at, get_eq s pos h]; unfold Lib.decodeN
  have e : j = 1 ∨ j = 2 ∨ j = 3 := by omega
  rw [if_neg (by omega)]
  rcases e with rfl | rfl | rfl
  all_goals
    repeat' split
    all_goals first | rfl | (exfalso; omega)
theorem dec_B (s : ByteArray) (pos : Nat) (h : pos < s.size) (h1 : pos + 1 < s.size) (h0 : 194 ≤ ((s[pos]'h).toNat : Int) ∧ ((s[pos]'h).toNat : Int) < 224) (b1 : 128 ≤ ((s[pos + 1]'h1).toNat : Int) ∧ ((s[pos + 1]'h1).toNat : Int) ≤ 191) (c : Int) (hc : c = (((s[pos]'h).toNat : Int) - 192) * 64 + ((s[pos + 1]'h1).toNat : Int) - 128) : Utf8.decode s pos = (c.toNat, 2) := by
  rw [Lib.decode_at, get_eq s pos h, get_eq s (pos + 1) h1]; unfold Lib.decodeN
  rw [if_neg (by omega)]
  repeat' split
  all_goals first | (exfalso; omega) | (apply Prod.ext <;> simp only <;> omega)
theorem dec_C (s : ByteArray) (pos : Nat) (h : pos < s.size) (h1 : pos + 1 < s.size) (h2 : pos + 2 < s.size) (h0 : 224 ≤ ((s[pos]'h).toNat : Int) ∧ ((s[pos]'h).toNat : Int) < 240) (b1 : 128 ≤ ((s[pos + 1]'h1).toNat : Int) ∧ ((s[pos + 1]'h1).toNat : Int) ≤ 191) (b2 : 128 ≤ ((s[pos + 2]'h2).toNat : Int) ∧ ((s[pos + 2]'h2).toNat : Int) ≤ 191) (c : Int) (hc : c = ((((s[pos]'h).toNat : Int) - 224) * 64 + ((s[pos + 1]'h1).toNat : Int) - 128) * 64 + ((s[pos + 2]'h2).toNat : Int) - 128) :
    Utf8.decode s pos = if c < 2048 ∨ 1114111 < c ∨ (55296 ≤ c ∧ c ≤ 57343) then (65533, 1) else (c.toNat, 3) := by
  rw [Lib.decode_at, get_eq s pos h, get_eq s (pos + 1) h1, get_eq s (pos + 2) h2]; unfold Lib.decodeN
  rw [if_neg (by omega)]
  repeat' split
  all_goals first | rfl | (exfalso; omega) | (apply Prod.ext <;> simp only <;> omega)
theorem dec_D (s : ByteArray) (pos : Nat) (h : pos < s.size) (h1 : pos + 1 < s.size) (h2 : pos + 2 < s.size) (h3 : pos + 3 < s.size) (h0 : 240 ≤ ((s[pos]'h).toNat : Int) ∧ ((s[pos]'h).toNat : Int) < 245) (b1 : 128 ≤ ((s[pos + 1]'h1).toNat : Int) ∧ ((s[pos + 1]'h1).toNat : Int) ≤ 191) (b2 : 128 ≤ ((s[pos + 2]'h2).toNat : Int) ∧ ((s[pos + 2]'h2).toNat : Int) ≤ 191) (b3 : 128 ≤ ((s[pos + 3]'h3).toNat : Int) ∧ ((s[pos + 3]'h3).toNat : Int) ≤ 191) (c : Int) (hc : c = (((((s[pos]'h).toNat : Int) - 240) * 64 + ((s[pos + 1]'h1).toNat : Int) - 128) * 64 + ((s[pos + 2]'h2).toNat : Int) - 128) * 64 + ((s[pos + 3]'h3).toNat : Int) - 128) :
    Utf8.decode s pos = if c < 65536 ∨ 1114111 < c ∨ (55296 ≤ c ∧ c ≤ 57343) then (65533, 1) else (c.toNat, 4) := by
  rw [Lib.decode_at, get_eq s pos h, get_eq s (pos + 1) h1, get_eq s (pos + 2) h2, get_eq s (pos + 3) h3]; unfold Lib.decodeN
  rw [if_neg (by omega)]
  repeat' split
  all_goals first | rfl | (exfalso; omega) | (apply Prod.ext <;> simp only <;> omega)
def ext (s : ByteArray) (pos : Nat) (c0 : Int) : Nat → Int
  | 0 => c0
  | j + 1 => ext s pos c0 j * 64 + ((s.get! (pos + (j + 1))).toNat : Int) - 128
def contTo (s : ByteArray) (pos j : Nat) : Prop := ∀ i : Nat, 1 ≤ i → i ≤ j → 128 ≤ ((s.get! (pos + i)).toNat : Int) ∧ ((s.get! (pos + i)).toNat : Int) ≤ 191
theorem ext_bd (s : ByteArray) (pos : Nat) (c0 : Int) (j : Nat) (h : contTo s pos j) (h0 : 0 ≤ c0) (h1 : c0 ≤ 31) (hj : j ≤ 3) : 0 ≤ ext s pos c0 j ∧ ext s pos c0 j ≤ 8388607 := by
  have e : j = 0 ∨ j = 1 ∨ j = 2 ∨ j = 3 := by omega
  rcases e with rfl | rfl | rfl | rfl
  · simp only [ext]; omega
  · have k1 := h (0 + 1) (by omega) (by omega)
    simp only [ext]; omega
  · have k1 := h (0 + 1) (by omega) (by omega)
    have k2 := h (1 + 1) (by omega) (by omega)
    simp only [ext]; omega
  · have k1 := h (0 + 1) (by omega) (by omega)
    have k2 := h (1 + 1) (by omega) (by omega)
    have k3 := h (2 + 1) (by omega) (by omega)
    simp only [ext]; omega
theorem contTo_zero (s : ByteArray) (pos : Nat) : contTo s pos 0 := fun i h1 h2 => by omega
theorem contTo_succ {s : ByteArray} {pos j : Nat} (h : contTo s pos j) (hb : pos + (j + 1) < s.size) (h1 : 128 ≤ ((s[pos + (j + 1)]'hb).toNat : Int)) (h2 : ((s[pos + (j + 1)]'hb).toNat : Int) ≤ 191) : contTo s pos (j + 1) := by
  intro i hi1 hi2
  by_cases e : i = j + 1
  · subst e; rw [get_eq s _ hb]; exact ⟨h1, h2⟩
  · exact h i hi1 (by omega)
theorem ext_succ (s : ByteArray) (pos : Nat) (c0 : Int) (j : Nat) (hb : pos + (j + 1) < s.size) : ext s pos c0 (j + 1) = ext s pos c0 j * 64 + ((s[pos + (j + 1)]'hb).toNat : Int) - 128 := by
  rw [ext, get_eq s _ hb]
def cls (b0 : Int) (n : Nat) (least base : Int) : Prop := (194 ≤ b0 ∧ b0 < 224 ∧ n = 1 ∧ least = 128 ∧ base = 192) ∨ (224 ≤ b0 ∧ b0 < 240 ∧ n = 2 ∧ least = 2048 ∧ base = 224) ∨ (240 ≤ b0 ∧ b0 < 245 ∧ n = 3 ∧ least = 65536 ∧ base = 240)
theorem dec_cls (s : ByteArray) (pos n : Nat) (least base : Int) (h : pos < s.size) (hc : cls ((s[pos]'h).toNat : Int) n least base) (hs : pos + n < s.size) (hk : contTo s pos n) (c : Int) (e : c = ext s pos (((s[pos]'h).toNat : Int) - base) n) :
    Utf8.decode s pos = if c < least ∨ 1114111 < c ∨ (55296 ≤ c ∧ c ≤ 57343) then (65533, 1) else (c.toNat, n + 1) := by
  rcases hc with ⟨h1, h2, rfl, rfl, rfl⟩ | ⟨h1, h2, rfl, rfl, rfl⟩ | ⟨h1, h2, rfl, rfl, rfl⟩
  · have k1 := hk 1 (by omega) (by omega)
    rw [get_eq s (pos + 1) (by omega)] at k1
    rw [dec_B s pos h (by omega) ⟨h1, h2⟩ k1 c (by rw [e]; simp only [ext]; rw [get_eq s (pos + (0 + 1)) (by omega)]), if_neg]
    simp only [ext] at e; rw [get_eq s (pos + (0 + 1)) (by omega)] at e; simp only [Nat.zero_add] at e
    omega
  · have k1 := hk 1 (by omega) (by omega)
    have k2 := hk 2 (by omega) (by omega)
    rw [get_eq s (pos + 1) (by omega)] at k1
    rw [get_eq s (pos + 2) (by omega)] at k2
    rw [dec_C s pos h (by omega) (by omega) ⟨h1, h2⟩ k1 k2 c (by rw [e]; simp only [ext]; rw [get_eq s (pos + (0 + 1)) (by omega), get_eq s (pos + (1 + 1)) (by omega)])]
  · have k1 := hk 1 (by omega) (by omega)
    have k2 := hk 2 (by omega) (by omega)
    have k3 := hk 3 (by omega) (by omega)
    rw [get_eq s (pos + 1) (by omega)] at k1
    rw [get_eq s (pos + 2) (by omega)] at k2
    rw [get_eq s (pos + 3) (by omega)] at k3
    rw [dec_D s pos h (by omega) (by omega) (by omega) ⟨h1, h2⟩ k1 k2 k3 c (by rw [e]; simp only [ext]; rw [get_eq s (pos + (0 + 1)) (by omega), get_eq s (pos + (1 + 1)) (by omega), get_eq s (pos + (2 + 1)) (by omega)])]
theorem cls_short {b0 : Int} {n : Nat} {least base : Int} (h : cls b0 n least base) : (194 ≤ b0 ∧ b0 < 224 ∧ n = 1) ∨ (224 ≤ b0 ∧ b0 < 240 ∧ n = 2) ∨ (240 ≤ b0 ∧ b0 < 245 ∧ n = 3) := by
  unfold cls at h; omega
end Go.Proofs.YtfgjleifhjegkaaDoor
