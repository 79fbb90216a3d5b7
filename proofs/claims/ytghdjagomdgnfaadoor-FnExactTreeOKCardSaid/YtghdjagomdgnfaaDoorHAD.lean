import Derived.Lib.RuneCountTail
import Derived.Lib.ValidLaws
import Derived.Lib.RuneCount
import Derived.Shelf.Small.Utf8
import Derived.Shelf.Strings.Search1
import Derived.Shelf.Strings.Search2
import Derived.Shelf.Strings.Search3
import Derived.Shelf.Strings.Count
import Derived.Shelf.LaysM
import Derived.Shelf.Strings.Shaped
import Derived.Shelf.Unicode.DecodeSlow
import Derived.Shelf.Unicode.DecodeAny
import Derived.Shelf.Slices.Equal
import Derived.Shelf.Unicode.ValidAny
import Derived.Test.YtghdjagomdgnfaaDoorProg
namespace Go.Proofs.YtghdjagomdgnfaaDoor
set_option linter.unusedVariables false
/-- The characters of a text from a place on, by at most so many steps; none: it is not well formed. -/
def chF (s : ByteArray) : Nat → Nat → Option (List Int)
  | 0, pos => if pos < s.size then none else some []
  | f + 1, pos => if pos < s.size then (if Utf8.decode s pos = (65533, 1) then none else (chF s f (pos + (Utf8.decode s pos).2)).map (fun l => ((Utf8.decode s pos).1 : Int) :: l)) else some []
def chars (s : ByteArray) : Option (List Int) := chF s s.size 0
theorem chF_end (s : ByteArray) (f pos : Nat) (h : ¬ pos < s.size) : chF s f pos = some [] := by cases f <;> simp [chF, h]
theorem chF_step (s : ByteArray) (b pos : Nat) (acc : List Int) (c : Int) (n : Nat) (h : pos < s.size) (hb : s.size ≤ pos + b) (hd : Utf8.decode s pos = (c.toNat, n)) (hc : 0 ≤ c) (hn : ¬ (c = 65533 ∧ n = 1)) (hn1 : 1 ≤ n)
    (hi : (chF s b pos).map (acc ++ ·) = chars s) : (chF s (b - 1) (pos + n)).map ((acc ++ [c]) ++ ·) = chars s := by
  obtain ⟨f, rfl⟩ : ∃ f, b = f + 1 := ⟨b - 1, by omega⟩
  rw [← hi, chF, if_pos h, hd, if_neg (by intro e; simp at e; omega)]
  simp only [Nat.add_sub_cancel, Option.map_map]
  congr 1
  funext l
  simp; omega
theorem chF_bad (s : ByteArray) (b pos : Nat) (acc : List Int) (h : pos < s.size) (hb : s.size ≤ pos + b) (hd : Utf8.decode s pos = (65533, 1)) (hi : (chF s b pos).map (acc ++ ·) = chars s) : chars s = none := by
  obtain ⟨f, rfl⟩ : ∃ f, b = f + 1 := ⟨b - 1, by omega⟩
  rw [← hi, chF, if_pos h, hd, if_pos rfl]; rfl
theorem chF_fin (s : ByteArray) (b pos : Nat) (acc : List Int) (h : ¬ pos < s.size) (hi : (chF s b pos).map (acc ++ ·) = chars s) : chars s = some acc := by
  rw [← hi, chF_end s b pos h]; simp
theorem get_eq (s : ByteArray) (i : Nat) (h : i < s.size) : s.get! i = s[i]'h := by
  simp [ByteArray.get!, getElem!_pos, h]
  rfl
/-- A byte below 128. -/
theorem dec_A (s : ByteArray) (pos : Nat) (h : pos < s.size) (h0 : ((s[pos]'h).toNat : Int) < 128) : Utf8.decode s pos = (((s[pos]'h).toNat : Int).toNat, 1) := by
  rw [Lib.decode_at, get_eq s pos h]; unfold Lib.decodeN; rw [if_pos (by omega)]; simp
theorem dec_E (s : ByteArray) (pos : Nat) (h : pos < s.size) (h0 : (128 ≤ ((s[pos]'h).toNat : Int) ∧ ((s[pos]'h).toNat : Int) < 194) ∨ 245 ≤ ((s[pos]'h).toNat : Int)) : Utf8.decode s pos = (65533, 1) := by
  rw [Lib.decode_at, get_eq s pos h]; unfold Lib.decodeN
  have := (s[pos]'h).toNat_lt
  have := (s.get! (pos + 1)).toNat_lt
  have := (s.get! (pos + 2)).toNat_lt
  have := (s.get! (pos + 3)).toNat_lt
  rw [if_neg (by omega)]
  repeat' split
  all_goals first | rfl | (exfalso; omega)
/-- Cut off at the text's end. -/
theorem dec_short (s : ByteArray) (pos n : Nat) (h : pos < s.size) (h0 : (194 ≤ ((s[pos]'h).toNat : Int) ∧ ((s[pos]'h).toNat : Int) < 224 ∧ n = 1) ∨ (224 ≤ ((s[pos]'h).toNat : Int) ∧ ((s[pos]'h).toNat : Int) < 240 ∧ n = 2) ∨ (240 ≤ ((s[pos]'h).toNat : Int) ∧ ((s[pos]'h).toNat : Int) < 245 ∧ n = 3)) (hs : s.size ≤ pos + n) : Utf8.decode s pos = (65533, 1) := by
  rw [Lib.decode_at, get_eq s pos h]; unfold Lib.decodeN
  rw [if_neg (by omega)]
  repeat' split
  all_goals first | rfl | (exfalso; omega)
theorem dec_cont (s : ByteArray) (pos n j : Nat) (h : pos < s.size) (h0 : (194 ≤ ((s[pos]'h).toNat : Int) ∧ ((s[pos]'h).toNat : Int) < 224 ∧ n = 1) ∨ (224 ≤ ((s[pos]'h).toNat : Int) ∧ ((s[pos]'h).toNat : Int) < 240 ∧ n = 2) ∨ (240 ≤ ((s[pos]'h).toNat : Int) ∧ ((s[pos]'h).toNat : Int) < 245 ∧ n = 3)) (hj1 : 1 ≤ j) (hj2 : j ≤ n) (hj : pos + j < s.size) (hb : ((s[pos + j]'hj).toNat : Int) < 128 ∨ 191 < ((s[pos + j]'hj).toNat : Int)) : Utf8.decode s pos = (65533, 1) := by
  have ej := get_eq s (pos + j) hj
  have := (s.get! (pos + 1)).toNat_lt
  have := (s.get! (pos + 2)).toNat_lt
  have := (s.get! (pos + 3)).toNat_lt
  rw [← ej] at hb
  rw [Lib.decode_at, get_eq s pos h]; unfold Lib.decodeN
  have e : j = 1 ∨ j = 2 ∨ j = 3 := by omega
  rw [if_neg (by omega)]
  rcases e with rfl | rfl | rfl
  all_goals
    repeat' split
    all_goals first | rfl | (exfalso; omega)
theorem dec_B (s : ByteArray) (pos : Nat) (h : pos < s.size) (h1 : pos + 1 < s.size) (h0 : 194 ≤ ((s[pos]'h).toNat : Int) ∧ ((s[pos]'h).toNat : Int) < 224) (b1 : 128 ≤ ((s[pos + 1]'h1).toNat : Int) ∧ ((s[pos + 1]'h1).toNat : Int) ≤ 191) (c : Int) (hc : c = (((s[pos]'h).toNat : Int) - 192) * 64 + ((s[pos + 1]'h1).toNat : Int) - 128) : Utf8.decode s pos = (c.toNat, 2) := by
  rw [Lib.decode_at, get_eq s pos h, get_eq s (pos + 1) h1]; unfold Lib.decodeN
  rw [if_neg (by omega)]
  repeat' split
  all_goals first | (exfalso; omega) | (apply Prod.ext <;> simp only <;> omega)
theorem dec_C (s : ByteArray) (pos : Nat) (h : pos < s.size) (h1 : pos + 1 < s.size) (h2 : pos + 2 < s.size) (h0 : 224 ≤ ((s[pos]'h).toNat : Int) ∧ ((s[pos]'h).toNat : Int) < 240) (b1 : 128 ≤ ((s[pos + 1]'h1).toNat : Int) ∧ ((s[pos + 1]'h1).toNat : Int) ≤ 191) (b2 : 128 ≤ ((s[pos + 2]'h2).toNat : Int) ∧ ((s[pos + 2]'h2).toNat : Int) ≤ 191) (c : Int) (hc : c = ((((s[pos]'h).toNat : Int) - 224) * 64 + ((s[pos + 1]'h1).toNat : Int) - 128) * 64 + ((s[pos + 2]'h2).toNat : Int) - 128) :
    Utf8.decode s pos = if c < 2048 ∨ 1114111 < c ∨ (55296 ≤ c ∧ c ≤ 57343) then (65533, 1) else (c.toNat, 3) := by
  rw [Lib.decode_at, get_eq s pos h, get_eq s (pos + 1) h1, get_eq s (pos + 2) h2]; unfold Lib.decodeN
  rw [if_neg (by omega)]
  repeat' split
  all_goals first | rfl | (exfalso; omega) | (apply Prod.ext <;> simp only <;> omega)
theorem dec_D (s : ByteArray) (pos : Nat) (h : pos < s.size) (h1 : pos + 1 < s.size) (h2 : pos + 2 < s.size) (h3 : pos + 3 < s.size) (h0 : 240 ≤ ((s[pos]'h).toNat : Int) ∧ ((s[pos]'h).toNat : Int) < 245) (b1 : 128 ≤ ((s[pos + 1]'h1).toNat : Int) ∧ ((s[pos + 1]'h1).toNat : Int) ≤ 191) (b2 : 128 ≤ ((s[pos + 2]'h2).toNat : Int) ∧ ((s[pos + 2]'h2).toNat : Int) ≤ 191) (b3 : 128 ≤ ((s[pos + 3]'h3).toNat : Int) ∧ ((s[pos + 3]'h3).toNat : Int) ≤ 191) (c : Int) (hc : c = (((((s[pos]'h).toNat : Int) - 240) * 64 + ((s[pos + 1]'h1).toNat : Int) - 128) * 64 + ((s[pos + 2]'h2).toNat : Int) - 128) * 64 + ((s[pos + 3]'h3).toNat : Int) - 128) :
    Utf8.decode s pos = if c < 65536 ∨ 1114111 < c ∨ (55296 ≤ c ∧ c ≤ 57343) then (65533, 1) else (c.toNat, 4) := by
  rw [Lib.decode_at, get_eq s pos h, get_eq s (pos + 1) h1, get_eq s (pos + 2) h2, get_eq s (pos + 3) h3]; unfold Lib.decodeN
  rw [if_neg (by omega)]
  repeat' split
  all_goals first | rfl | (exfalso; omega) | (apply Prod.ext <;> simp only <;> omega)
def ext (s : ByteArray) (pos : Nat) (c0 : Int) : Nat → Int
  | 0 => c0
  | j + 1 => ext s pos c0 j * 64 + ((s.get! (pos + (j + 1))).toNat : Int) - 128
def contTo (s : ByteArray) (pos j : Nat) : Prop := ∀ i : Nat, 1 ≤ i → i ≤ j → 128 ≤ ((s.get! (pos + i)).toNat : Int) ∧ ((s.get! (pos + i)).toNat : Int) ≤ 191
theorem ext_bd (s : ByteArray) (pos : Nat) (c0 : Int) (j : Nat) (h : contTo s pos j) (h0 : 0 ≤ c0) (h1 : c0 ≤ 31) (hj : j ≤ 3) : 0 ≤ ext s pos c0 j ∧ ext s pos c0 j ≤ 8388607 := by
  have e : j = 0 ∨ j = 1 ∨ j = 2 ∨ j = 3 := by omega
  rcases e with rfl | rfl | rfl | rfl
  · simp only [ext]; omega
  · have k1 := h (0 + 1) (by omega) (by omega)
    simp only [ext]; omega
  · have k1 := h (0 + 1) (by omega) (by omega)
    have k2 := h (1 + 1) (by omega) (by omega)
    simp only [ext]; omega
  · have k1 := h (0 + 1) (by omega) (by omega)
    have k2 := h (1 + 1) (by omega) (by omega)
    have k3 := h (2 + 1) (by omega) (by omega)
    simp only [ext]; omega
theorem contTo_zero (s : ByteArray) (pos : Nat) : contTo s pos 0 := fun i h1 h2 => by omega
theorem contTo_succ {s : ByteArray} {pos j : Nat} (h : contTo s pos j) (hb : pos + (j + 1) < s.size) (h1 : 128 ≤ ((s[pos + (j + 1)]'hb).toNat : Int)) (h2 : ((s[pos + (j + 1)]'hb).toNat : Int) ≤ 191) : contTo s pos (j + 1) := by
  intro i hi1 hi2
  by_cases e : i = j + 1
  · subst e; rw [get_eq s _ hb]; exact ⟨h1, h2⟩
  · exact h i hi1 (by omega)
theorem ext_succ (s : ByteArray) (pos : Nat) (c0 : Int) (j : Nat) (hb : pos + (j + 1) < s.size) : ext s pos c0 (j + 1) = ext s pos c0 j * 64 + ((s[pos + (j + 1)]'hb).toNat : Int) - 128 := by
  rw [ext, get_eq s _ hb]
def cls (b0 : Int) (n : Nat) (least base : Int) : Prop := (194 ≤ b0 ∧ b0 < 224 ∧ n = 1 ∧ least = 128 ∧ base = 192) ∨ (224 ≤ b0 ∧ b0 < 240 ∧ n = 2 ∧ least = 2048 ∧ base = 224) ∨ (240 ≤ b0 ∧ b0 < 245 ∧ n = 3 ∧ least = 65536 ∧ base = 240)
theorem dec_cls (s : ByteArray) (pos n : Nat) (least base : Int) (h : pos < s.size) (hc : cls ((s[pos]'h).toNat : Int) n least base) (hs : pos + n < s.size) (hk : contTo s pos n) (c : Int) (e : c = ext s pos (((s[pos]'h).toNat : Int) - base) n) :
    Utf8.decode s pos = if c < least ∨ 1114111 < c ∨ (55296 ≤ c ∧ c ≤ 57343) then (65533, 1) else (c.toNat, n + 1) := by
  rcases hc with ⟨h1, h2, rfl, rfl, rfl⟩ | ⟨h1, h2, rfl, rfl, rfl⟩ | ⟨h1, h2, rfl, rfl, rfl⟩
  · have k1 := hk 1 (by omega) (by omega)
    rw [get_eq s (pos + 1) (by omega)] at k1
    rw [dec_B s pos h (by omega) ⟨h1, h2⟩ k1 c (by rw [e]; simp only [ext]; rw [get_eq s (pos + (0 + 1)) (by omega)]), if_neg]
    simp only [ext] at e; rw [get_eq s (pos + (0 + 1)) (by omega)] at e; simp only [Nat.zero_add] at e
    omega
  · have k1 := hk 1 (by omega) (by omega)
    have k2 := hk 2 (by omega) (by omega)
    rw [get_eq s (pos + 1) (by omega)] at k1
    rw [get_eq s (pos + 2) (by omega)] at k2
    rw [dec_C s pos h (by omega) (by omega) ⟨h1, h2⟩ k1 k2 c (by rw [e]; simp only [ext]; rw [get_eq s (pos + (0 + 1)) (by omega), get_eq s (pos + (1 + 1)) (by omega)])]
  · have k1 := hk 1 (by omega) (by omega)
    have k2 := hk 2 (by omega) (by omega)
    have k3 := hk 3 (by omega) (by omega)
    rw [get_eq s (pos + 1) (by omega)] at k1
    rw [get_eq s (pos + 2) (by omega)] at k2
    rw [get_eq s (pos + 3) (by omega)] at k3
    rw [dec_D s pos h (by omega) (by omega) (by omega) ⟨h1, h2⟩ k1 k2 k3 c (by rw [e]; simp only [ext]; rw [get_eq s (pos + (0 + 1)) (by omega), get_eq s (pos + (1 + 1)) (by omega), get_eq s (pos + (2 + 1)) (by omega)])]
theorem cls_short {b0 : Int} {n : Nat} {least base : Int} (h : cls b0 n least base) : (194 ≤ b0 ∧ b0 < 224 ∧ n = 1) ∨ (224 ≤ b0 ∧ b0 < 240 ∧ n = 2) ∨ (240 ≤ b0 ∧ b0 < 245 ∧ n = 3) := by
  unfold cls at h; omega
end Go.Proofs.YtghdjagomdgnfaaDoor
/-
  DERIVED: THE SHELF's CONTRACTS AT THIS DUMP, IN PLAIN WORDS (tools/lay-plain.mjs out of 'TrydS1.lean', which tools/lay-shelf.mjs wrote): THE SAME DECLARATIONS UNDER THE SAME NAMES: 'import', 'namespace', 'open', 'def', 'theorem' AND NOTHING ELSE: no command of the shelf's: FOR A HAND-IN. Each laying: the table of numbers ('.._ren') and one theorem, a field a fact of the dump's own or the kernel's comparison; each contract: ONE APPLICATION.
-/
namespace Go.Proofs
open Go.Shelf
def Tryd.lays111_ren : Go.Shelf.Ren := ⟨fun | 111 => 54 | n => n, fun | 28 => 42 | 3 => 3 | 4 => 4 | 0 => 0 | n => n, fun | n => n⟩
theorem Tryd.lays111 : Go.Proofs.Lays.n111 Tryd.prog Tryd.lays111_ren := {
  mixed := by kernel_rfl
  f111 := Tryd.func54.trans (congrArg some (by kernel_rfl))
  t0 := Tryd.underlying0
  a0 := Tryd.isAgg0
  z0 := Tryd.sizeOf0
  v0 := Tryd.zeroValue0
  t3 := Tryd.underlying3
  a3 := Tryd.isAgg3
  z3 := Tryd.sizeOf3
  v3 := Tryd.zeroValue3
  t4 := Tryd.underlying4
  a4 := Tryd.isAgg4
  z4 := Tryd.sizeOf4
  v4 := Tryd.zeroValue4
  t28 := Tryd.underlying42
  a28 := Tryd.isAgg42
  z28 := Tryd.sizeOf42
  v28 := Tryd.zeroValue42 }
open Go.RowKit Go.Lib in
/-- slices.Equal at []int: "Equal reports whether two slices are equal: the same length and all elements equal. If the lengths are different, Equal returns false. Otherwise, the elements are compared in increasing index order, and the comparison stops at the first unequal pair. Empty and nil slices are considered equal.": IT RETURNS WHETHER THE TWO LISTS OF ELEMENTS ARE ONE; the world is as it was but for the count of draws (the test 's1[i] != s2[i]' has two reads, whose order the model draws, once a round). 'xs', 'ys': what the cells behind the two addresses hold (the spare capacity too, if you have it); 'xs.take n', 'ys.take m': the elements. THE TWO SLICES MAY OVERLAP. (LAID: no walk: one application.) -/
theorem Tryd.slices_Equal_int (b1 o1 n c b2 o2 m d : Nat) (xs ys : List Int) (w : World) (hx : n ≤ xs.length) (hy : m ≤ ys.length) (hbig : n ≤ 9223372036854775807) (hbig2 : m ≤ 9223372036854775807) (hc1 : ∀ j, j < xs.length → w.cell? ⟨b1, o1 + j, none⟩ = some (.int .i64 (xs.getD j 0))) (hc2 : ∀ j, j < ys.length → w.cell? ⟨b2, o2 + j, none⟩ = some (.int .i64 (ys.getD j 0))) :
    Calls Tryd.prog 54 #[.slice (some ⟨b1, o1, none⟩) n c, .slice (some ⟨b2, o2, none⟩) m d] w fun e w' => e = .returned (.bool (xs.take n == ys.take m)) ∧ ∃ q, w' = w.drewN q := Any.slices_Equal_int Tryd.lays111 b1 o1 n c b2 o2 m d xs ys w hx hy hbig hbig2 hc1 hc2
open Go.RowKit Go.Lib in
/-- The same where the first is of length 0 (a nil one too): no cell is asked for. (LAID: no walk: one application.) -/
theorem Tryd.slices_Equal_int_empty (a1 a2 : Option Addr) (c m d : Nat) (w : World) (hbig2 : m ≤ 9223372036854775807) :
    Calls Tryd.prog 54 #[.slice a1 0 c, .slice a2 m d] w fun e w' => e = .returned (.bool (decide (m = 0))) ∧ w' = w := Any.slices_Equal_int_empty Tryd.lays111 a1 a2 c m d w hbig2
def Tryd.laysValid_ren : Go.Shelf.Ren := ⟨fun | 196 => 97 | 259 => 109 | n => n, fun | 9 => 9 | 4 => 4 | 3 => 3 | 5 => 5 | 12 => 12 | 119 => 125 | 0 => 0 | 46 => 129 | 139 => 128 | 138 => 127 | 53 => 99 | n => n, fun | 3 => 0 | 4 => 1 | n => n⟩
theorem Tryd.laysValid : Go.Proofs.Lays.n196 Tryd.prog Tryd.laysValid_ren := {
  mixed := by kernel_rfl
  f196 := Tryd.func97.trans (congrArg some (by kernel_rfl))
  f259 := Tryd.func109.trans (congrArg some (by kernel_rfl))
  t0 := Tryd.underlying0
  a0 := Tryd.isAgg0
  z0 := Tryd.sizeOf0
  v0 := Tryd.zeroValue0
  t3 := Tryd.underlying3
  a3 := Tryd.isAgg3
  z3 := Tryd.sizeOf3
  v3 := Tryd.zeroValue3
  t4 := Tryd.underlying4
  a4 := Tryd.isAgg4
  z4 := Tryd.sizeOf4
  v4 := Tryd.zeroValue4
  t5 := Tryd.underlying5
  a5 := Tryd.isAgg5
  z5 := Tryd.sizeOf5
  v5 := Tryd.zeroValue5
  t9 := Tryd.underlying9
  a9 := Tryd.isAgg9
  z9 := Tryd.sizeOf9
  v9 := Tryd.zeroValue9
  t12 := Tryd.underlying12
  a12 := Tryd.isAgg12
  z12 := Tryd.sizeOf12
  v12 := Tryd.zeroValue12
  t46 := Tryd.underlying129
  a46 := Tryd.isAgg129
  z46 := Tryd.sizeOf129
  v46 := Tryd.zeroValue129
  t53 := Tryd.underlying99
  a53 := Tryd.isAgg99
  z53 := Tryd.sizeOf99
  v53 := Tryd.zeroValue99
  t119 := Tryd.underlying125
  a119 := Tryd.isAgg125
  z119 := Tryd.sizeOf125
  t138 := Tryd.underlying127
  a138 := Tryd.isAgg127
  z138 := Tryd.sizeOf127
  v138 := Tryd.zeroValue127
  t139 := Tryd.underlying128
  a139 := Tryd.isAgg128
  z139 := Tryd.sizeOf128
  v139 := Tryd.zeroValue128
  g3 := by kernel_rfl
  g4 := by kernel_rfl }
end Go.Proofs
namespace Go.Proofs.YtghdjagomdgnfaaDoor
set_option linter.unusedVariables false
open Go.Lib
theorem decodeL_drop (s : ByteArray) (pos : Nat) : decodeL (s.data.toList.drop pos) = Utf8.decode s pos := by
  have h := tail_decode s pos 0
  rw [Nat.add_zero] at h
  rw [← h]
  have e : (s.extract pos s.size) = ⟨(s.data.toList.drop pos).toArray⟩ := by
    have := extract_data s pos s.size
    have e2 : (s.extract pos s.size).data.toList = s.data.toList.drop pos := by
      rw [this]; apply List.take_of_length_le; rw [List.length_drop, ← size_eq]; omega
    cases hx : s.extract pos s.size with
    | mk d => rw [hx] at e2; simp only at e2; rw [← e2]
  rw [e]; rfl
theorem width_le (s : ByteArray) (pos : Nat) (h : pos < s.size) : pos + (Utf8.decode s pos).2 ≤ s.size ∧ (Utf8.decode s pos).2 ≤ 4 := by
  rw [decode_at]; unfold decodeN
  repeat' split
  all_goals (simp only; omega)
theorem valid_F (s : ByteArray) : ∀ f pos, s.size ≤ pos + f → (chF s f pos).isSome = validD (s.data.toList.drop pos)
  | 0, pos, h => by
    have e : s.data.toList.drop pos = [] := List.drop_eq_nil_of_le (by rw [← size_eq]; omega)
    rw [e, chF_end s 0 pos (by omega), validD_nil]; rfl
  | f + 1, pos, h => by
    by_cases hp : pos < s.size
    · have hne : s.data.toList.drop pos ≠ [] := by
        intro e; have := congrArg List.length e; rw [List.length_drop, ← size_eq] at this; simp at this; omega
      rw [validD_step _ hne, decodeL_drop, chF, if_pos hp]
      by_cases hb : Utf8.decode s pos = (65533, 1)
      · rw [if_pos hb, if_pos (by rw [hb]; exact ⟨rfl, rfl⟩)]; rfl
      · have hw := decode_width_pos s pos hp
        rw [if_neg hb, if_neg (fun e => hb (Prod.ext e.1 e.2)), List.drop_drop]
        have ih := valid_F s f (pos + (Utf8.decode s pos).2) (by omega)
        rw [← ih]; simp
    · have e : s.data.toList.drop pos = [] := List.drop_eq_nil_of_le (by rw [← size_eq]; omega)
      rw [e, chF_end s _ pos hp, validD_nil]; rfl
theorem count_F (s : ByteArray) : ∀ f pos cs, s.size ≤ pos + f → chF s f pos = some cs → runeCountFrom s f pos = cs.length ∧ s.size - pos ≤ 4 * cs.length ∧ cs.length ≤ s.size - pos
  | 0, pos, cs, h, e => by
    rw [chF_end s 0 pos (by omega)] at e; simp at e; subst e; simp [runeCountFrom]; omega
  | f + 1, pos, cs, h, e => by
    by_cases hp : pos < s.size
    · have hw := decode_width_pos s pos hp
      have hl := width_le s pos hp
      rw [chF, if_pos hp] at e
      by_cases hb : Utf8.decode s pos = (65533, 1)
      · rw [if_pos hb] at e; cases e
      · rw [if_neg hb] at e
        obtain ⟨l, e1, e2⟩ := Option.map_eq_some_iff.1 e
        have ih := count_F s f (pos + (Utf8.decode s pos).2) l (by omega) e1
        subst e2
        unfold runeCountFrom
        rw [if_pos hp]
        simp only [List.length_cons]
        omega
    · rw [chF_end s _ pos hp] at e; simp at e; subst e; rw [runeCountFrom_end s _ pos hp]; simp; omega
theorem valid_iff (s : ByteArray) : validD s.data.toList = (chars s).isSome := by
  have := valid_F s s.size 0 (by omega)
  rw [List.drop_zero] at this; exact this.symm
theorem count_eq (s : ByteArray) (cs : List Int) (h : chars s = some cs) : runeCount s = cs.length ∧ s.size ≤ 4 * cs.length ∧ cs.length ≤ s.size := by
  have := count_F s s.size 0 cs (by omega) h
  simpa [runeCount] using this
/-- A Text's S is valid: it is well formed, of at most 255 characters. -/
def textOK (s : ByteArray) : Bool := match chars s with
  | some cs => decide (cs.length ≤ 255)
  | none => false
theorem textOK_impl (s : ByteArray) : (validD s.data.toList && decide ((runeCount s : Int) ≤ 255)) = textOK s := by
  rw [valid_iff]; unfold textOK
  cases h : chars s with
  | none => simp
  | some cs => rw [(count_eq s cs h).1]; simp; omega
theorem textOK_long (s : ByteArray) (h : 1020 < s.size) : textOK s = false := by
  unfold textOK
  cases e : chars s with
  | none => rfl
  | some cs => have := count_eq s cs e; simp; omega
end Go.Proofs.YtghdjagomdgnfaaDoor
