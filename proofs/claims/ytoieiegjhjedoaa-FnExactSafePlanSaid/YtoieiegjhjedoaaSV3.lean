import Derived.Test.YtoieiegjhjedoaaSV2
namespace Go.Proofs.Ytoieiegjhjedoaa
open Go.ChangeShapes Go.WideShapes Go.ChangeAt Go.RowKit
set_option linter.unusedVariables false
set_option linter.unusedSimpArgs false
set_option maxRecDepth 100000
theorem m_1 (a : Int) (n : Nat) (hn : n ≤ 400) (h1 : -9223372036854775808 ≤ a) (h2 : a ≤ 9223372036854775807) : (cbt false 0 0 0 0 1 a n && !((1 : Int) == 9 && a == 0)) = toldF 1 a n := by
  rw [Bool.eq_iff_iff]
  simp [cbt, toldF, flg]
  try omega
theorem m_2 (a : Int) (n : Nat) (hn : n ≤ 400) (h1 : -9223372036854775808 ≤ a) (h2 : a ≤ 9223372036854775807) : (cbt true (-9223372036854775808) 9223372036854775807 0 0 2 a n && !((2 : Int) == 9 && a == 0)) = toldF 2 a n := by
  rw [Bool.eq_iff_iff]
  simp [cbt, toldF, flg]
  try omega
theorem m_3 (a : Int) (n : Nat) (hn : n ≤ 400) (h1 : -9223372036854775808 ≤ a) (h2 : a ≤ 9223372036854775807) : (cbt true 1 15 2 2 3 a n && !((3 : Int) == 9 && a == 0)) = toldF 3 a n := by
  rw [Bool.eq_iff_iff]
  simp [cbt, toldF, flg]
  try omega
theorem m_4 (a : Int) (n : Nat) (hn : n ≤ 400) (h1 : -9223372036854775808 ≤ a) (h2 : a ≤ 9223372036854775807) : (cbt true 16 18 1 1 4 a n && !((4 : Int) == 9 && a == 0)) = toldF 4 a n := by
  rw [Bool.eq_iff_iff]
  simp [cbt, toldF, flg]
  try omega
theorem m_5 (a : Int) (n : Nat) (hn : n ≤ 400) (h1 : -9223372036854775808 ≤ a) (h2 : a ≤ 9223372036854775807) : (cbt true 0 1 2 400 5 a n && !((5 : Int) == 9 && a == 0)) = toldF 5 a n := by
  rw [Bool.eq_iff_iff]
  simp [cbt, toldF, flg]
  try omega
theorem m_6 (a : Int) (n : Nat) (hn : n ≤ 400) (h1 : -9223372036854775808 ≤ a) (h2 : a ≤ 9223372036854775807) : (cbt true 0 1 2 2 6 a n && !((6 : Int) == 9 && a == 0)) = toldF 6 a n := by
  rw [Bool.eq_iff_iff]
  simp [cbt, toldF, flg]
  try omega
theorem m_7 (a : Int) (n : Nat) (hn : n ≤ 400) (h1 : -9223372036854775808 ≤ a) (h2 : a ≤ 9223372036854775807) : (cbt true 0 1 3 3 7 a n && !((7 : Int) == 9 && a == 0)) = toldF 7 a n := by
  rw [Bool.eq_iff_iff]
  simp [cbt, toldF, flg]
  try omega
theorem m_8 (a : Int) (n : Nat) (hn : n ≤ 400) (h1 : -9223372036854775808 ≤ a) (h2 : a ≤ 9223372036854775807) : (cbt true 0 1 2 400 8 a n && !((8 : Int) == 9 && a == 0)) = toldF 8 a n := by
  rw [Bool.eq_iff_iff]
  simp [cbt, toldF, flg]
  try omega
theorem m_9 (a : Int) (n : Nat) (hn : n ≤ 400) (h1 : -9223372036854775808 ≤ a) (h2 : a ≤ 9223372036854775807) : (cbt true 0 5 1 1 9 a n && !((9 : Int) == 9 && a == 0)) = toldF 9 a n := by
  rw [Bool.eq_iff_iff]
  simp [cbt, toldF, flg]
  try omega
theorem m_10 (a : Int) (n : Nat) (hn : n ≤ 400) (h1 : -9223372036854775808 ≤ a) (h2 : a ≤ 9223372036854775807) : (cbt true 1 13 0 400 10 a n && !((10 : Int) == 9 && a == 0)) = toldF 10 a n := by
  rw [Bool.eq_iff_iff]
  simp [cbt, toldF, flg]
  try omega
theorem m_11 (a : Int) (n : Nat) (hn : n ≤ 400) (h1 : -9223372036854775808 ≤ a) (h2 : a ≤ 9223372036854775807) : (cbt false 0 0 1 400 11 a n && !((11 : Int) == 9 && a == 0)) = toldF 11 a n := by
  rw [Bool.eq_iff_iff]
  simp [cbt, toldF, flg]
  try omega
theorem m_12 (a : Int) (n : Nat) (hn : n ≤ 400) (h1 : -9223372036854775808 ≤ a) (h2 : a ≤ 9223372036854775807) : (cbt false 0 0 0 0 12 a n && !((12 : Int) == 9 && a == 0)) = toldF 12 a n := by
  rw [Bool.eq_iff_iff]
  simp [cbt, toldF, flg]
  try omega
theorem m_13 (a : Int) (n : Nat) (hn : n ≤ 400) (h1 : -9223372036854775808 ≤ a) (h2 : a ≤ 9223372036854775807) : (cbt false 0 0 0 0 13 a n && !((13 : Int) == 9 && a == 0)) = toldF 13 a n := by
  rw [Bool.eq_iff_iff]
  simp [cbt, toldF, flg]
  try omega
theorem m_14 (a : Int) (n : Nat) (hn : n ≤ 400) (h1 : -9223372036854775808 ≤ a) (h2 : a ≤ 9223372036854775807) : (cbt true 0 1 1 1 14 a n && !((14 : Int) == 9 && a == 0)) = toldF 14 a n := by
  rw [Bool.eq_iff_iff]
  simp [cbt, toldF, flg]
  try omega
theorem hasText1_any (t : XN) (cs : List Value) (kv : Value) (w : World) (hn : t.kids.length ≤ 400) (hR : -9223372036854775808 ≤ t.a ∧ t.a ≤ 9223372036854775807) (hC : CX 0 w cs t) :
    Calls Try.prog 40 #[.agg cs.toArray, kv] w fun e w' => e = .returned (.bool (toldF t.op t.a t.kids.length)) ∧ Below w.heap.size w w' := by
  obtain ⟨v, rfl, ka, kc, rfl, _⟩ := hC
  by_cases h : 1 ≤ t.op ∧ t.op ≤ 14
  · have hd : t.op = 1 ∨ t.op = 2 ∨ t.op = 3 ∨ t.op = 4 ∨ t.op = 5 ∨ t.op = 6 ∨ t.op = 7 ∨ t.op = 8 ∨ t.op = 9 ∨ t.op = 10 ∨ t.op = 11 ∨ t.op = 12 ∨ t.op = 13 ∨ t.op = 14 := by omega
    rcases hd with h | h | h | h | h | h | h | h | h | h | h | h | h | h
    · have := ht_yes false 0 0 0 0 t t.kids.length ka kc kv w (fun W => by rw [h]; exact shape_1 W) (fun h8 => by omega) (by omega)
      rw [h, m_1 t.a t.kids.length hn hR.1 hR.2] at this
      rw [h]
      unfold xnV at this
      rw [h] at this
      exact this
    · have := ht_yes true (-9223372036854775808) 9223372036854775807 0 0 t t.kids.length ka kc kv w (fun W => by rw [h]; exact shape_2 W) (fun h8 => by omega) (by omega)
      rw [h, m_2 t.a t.kids.length hn hR.1 hR.2] at this
      rw [h]
      unfold xnV at this
      rw [h] at this
      exact this
    · have := ht_yes true 1 15 2 2 t t.kids.length ka kc kv w (fun W => by rw [h]; exact shape_3 W) (fun h8 => by omega) (by omega)
      rw [h, m_3 t.a t.kids.length hn hR.1 hR.2] at this
      rw [h]
      unfold xnV at this
      rw [h] at this
      exact this
    · have := ht_yes true 16 18 1 1 t t.kids.length ka kc kv w (fun W => by rw [h]; exact shape_4 W) (fun h8 => by omega) (by omega)
      rw [h, m_4 t.a t.kids.length hn hR.1 hR.2] at this
      rw [h]
      unfold xnV at this
      rw [h] at this
      exact this
    · have := ht_yes true 0 1 2 400 t t.kids.length ka kc kv w (fun W => by rw [h]; exact shape_5 W) (fun h8 => by omega) (by omega)
      rw [h, m_5 t.a t.kids.length hn hR.1 hR.2] at this
      rw [h]
      unfold xnV at this
      rw [h] at this
      exact this
    · have := ht_yes true 0 1 2 2 t t.kids.length ka kc kv w (fun W => by rw [h]; exact shape_6 W) (fun h8 => by omega) (by omega)
      rw [h, m_6 t.a t.kids.length hn hR.1 hR.2] at this
      rw [h]
      unfold xnV at this
      rw [h] at this
      exact this
    · have := ht_yes true 0 1 3 3 t t.kids.length ka kc kv w (fun W => by rw [h]; exact shape_7 W) (fun h8 => by omega) (by omega)
      rw [h, m_7 t.a t.kids.length hn hR.1 hR.2] at this
      rw [h]
      unfold xnV at this
      rw [h] at this
      exact this
    · have := ht_yes true 0 1 2 400 t t.kids.length ka kc kv w (fun W => by rw [h]; exact shape_8 W) (fun h8 => by exact ⟨rfl, rfl, rfl, rfl⟩) (by omega)
      rw [h, m_8 t.a t.kids.length hn hR.1 hR.2] at this
      rw [h]
      unfold xnV at this
      rw [h] at this
      exact this
    · have := ht_yes true 0 5 1 1 t t.kids.length ka kc kv w (fun W => by rw [h]; exact shape_9 W) (fun h8 => by omega) (by omega)
      rw [h, m_9 t.a t.kids.length hn hR.1 hR.2] at this
      rw [h]
      unfold xnV at this
      rw [h] at this
      exact this
    · have := ht_yes true 1 13 0 400 t t.kids.length ka kc kv w (fun W => by rw [h]; exact shape_10 W) (fun h8 => by omega) (by omega)
      rw [h, m_10 t.a t.kids.length hn hR.1 hR.2] at this
      rw [h]
      unfold xnV at this
      rw [h] at this
      exact this
    · have := ht_yes false 0 0 1 400 t t.kids.length ka kc kv w (fun W => by rw [h]; exact shape_11 W) (fun h8 => by omega) (by omega)
      rw [h, m_11 t.a t.kids.length hn hR.1 hR.2] at this
      rw [h]
      unfold xnV at this
      rw [h] at this
      exact this
    · have := ht_yes false 0 0 0 0 t t.kids.length ka kc kv w (fun W => by rw [h]; exact shape_12 W) (fun h8 => by omega) (by omega)
      rw [h, m_12 t.a t.kids.length hn hR.1 hR.2] at this
      rw [h]
      unfold xnV at this
      rw [h] at this
      exact this
    · have := ht_yes false 0 0 0 0 t t.kids.length ka kc kv w (fun W => by rw [h]; exact shape_13 W) (fun h8 => by omega) (by omega)
      rw [h, m_13 t.a t.kids.length hn hR.1 hR.2] at this
      rw [h]
      unfold xnV at this
      rw [h] at this
      exact this
    · have := ht_yes true 0 1 1 1 t t.kids.length ka kc kv w (fun W => by rw [h]; exact shape_14 W) (fun h8 => by omega) (by omega)
      rw [h, m_14 t.a t.kids.length hn hR.1 hR.2] at this
      rw [h]
      unfold xnV at this
      rw [h] at this
      exact this
  · have q : ∀ k : Int, 1 ≤ k ∧ k ≤ 14 → (t.op == k) = false := fun k hk => by simp; omega
    have := ht_no false 0 0 0 0 t t.kids.length ka kc kv w (fun W => shape_no t.op W q) (fun h8 => by omega) (by omega)
    have hf : toldF t.op t.a t.kids.length = false := by
      unfold toldF
      split <;> first | rfl | omega
    rw [hf]
    exact this
end Go.Proofs.Ytoieiegjhjedoaa
