import Derived.Test.YtcgnkcehjcednaaDoorJA8
import Derived.Deep.CutRange
import Derived.Deep.DeepCutAuto
namespace Go.Proofs.YtcgnkcehjcednaaDoor
open Go.ChangeShapes Go.WideShapes Go.ChangeAt Go.RowKit Go.Shelf
set_option linter.unusedVariables false
set_option linter.unusedSimpArgs false
set_option maxRecDepth 100000
namespace Ar
theorem nums_int {a b : Int} (op : Int) (h1 : 1 ≤ op) (h5 : op ≤ 5) (ha : inI a) (hb : inI b) : Nums 1 op a b := .inl ⟨rfl, h1, h5, ha, hb⟩
end Ar
namespace Wh
open Ar Dr
/-- A block that holds a number. -/
structure HV (w : World) (b : Nat) (k n : Int) : Prop where
  c0 : w.cell? ⟨b, 0, none⟩ = some (.int .i64 k)
  c1 : w.cell? ⟨b, 1, none⟩ = some (.int .i64 n)
  c2 : w.cell? ⟨b, 2, none⟩ = some (.string ⟨#[]⟩)
  lt : b < w.heap.size
theorem HV.below {B : Nat} {w w' : World} {b : Nat} {k n : Int} (h : HV w b k n) (u : Below B w w') (hb : b < B) : HV w' b k n :=
  ⟨(u.cell (p := ⟨b, 0, none⟩) hb).trans h.c0, (u.cell (p := ⟨b, 1, none⟩) hb).trans h.c1, (u.cell (p := ⟨b, 2, none⟩) hb).trans h.c2, Nat.lt_of_lt_of_le h.lt u.size⟩
theorem HV.go {w w' : World} {b : Nat} {k n : Int} (h : HV w b k n) (u : Below w.heap.size w w') : HV w' b k n := h.below u h.lt
theorem HV.from {W w' : World} {b : Nat} {k n : Int} (hb : Below W.heap.size W w') (c0 : W.cell? ⟨b, 0, none⟩ = some (.int .i64 k)) (c1 : W.cell? ⟨b, 1, none⟩ = some (.int .i64 n)) (c2 : W.cell? ⟨b, 2, none⟩ = some (.string ⟨#[]⟩)) (hl : b < W.heap.size) : HV w' b k n :=
  HV.go ⟨c0, c1, c2, hl⟩ hb
theorem meet4 {w W wx : World} {p q r : Nat} {k a b m : Int} (hA : HV W p k a) (hB : HV W q k b) (hG : HV W r k m) (hw : Below w.heap.size w W) (bz : Below W.heap.size W wx) : HV wx p k a ∧ HV wx q k b ∧ HV wx r k m ∧ Below w.heap.size w wx :=
  ⟨hA.go bz, hB.go bz, hG.go bz, chain hw bz⟩
theorem mod_facts (a b : Int) (hb : b ≠ 0) : (a.tmod b).natAbs < b.natAbs ∧ (a.tmod b).natAbs ≤ a.natAbs ∧ (0 ≤ a → 0 ≤ a.tmod b) ∧ (a ≤ 0 → a.tmod b ≤ 0) ∧ b * a.tdiv b + a.tmod b = a := by
  have e : (a.tmod b).natAbs = a.natAbs % b.natAbs := Int.natAbs_tmod a b
  refine ⟨by rw [e]; exact Nat.mod_lt _ (by omega), by rw [e]; exact Nat.mod_le _ _, fun h => Int.tmod_nonneg b h, fun h => ?_, Int.mul_tdiv_add_tmod a b⟩
  have e2 := Int.neg_tmod (-a) b
  rw [Int.neg_neg] at e2
  have := Int.tmod_nonneg b (show 0 ≤ -a by omega)
  omega
theorem inK_num {k a b : Int} (op : Int) (ha : inK k a) (hb : inK k b) (ho : op = 1 ∨ op = 2 ∨ op = 5) : Nums k op a b := by
  rcases ha with ⟨rfl, ha⟩ | ⟨rfl, ha⟩
  · rcases hb with ⟨_, hb⟩ | ⟨h, _⟩
    · exact .inl ⟨rfl, by omega, by omega, ha, hb⟩
    · omega
  · rcases hb with ⟨h, _⟩ | ⟨_, hb⟩
    · omega
    · exact .inr ⟨rfl, ho, ha, hb⟩
/-- How remainder and divisor lie. -/
def Lie (a b m : Int) : Prop :=
  (0 < b ∧ m < b ∧ -b < m ∧ ((0 < m ∧ 0 < a) ∨ (m ≤ 0 ∧ 0 ≤ m) ∨ (m < 0 ∧ a < 0))) ∨
  (b < 0 ∧ b ≠ -9223372036854775808 ∧ b < m ∧ m < -b ∧ ((0 < m ∧ 0 < a) ∨ (m ≤ 0 ∧ 0 ≤ m) ∨ (m < 0 ∧ a < 0))) ∨
  (b ≤ -9223372036854775808 ∧ b < m ∧ ((0 < m ∧ 0 < a) ∨ (m ≤ 0 ∧ 0 ≤ m) ∨ (m < 0 ∧ a < 0)))
theorem lie_of {a b : Int} (hb : b ≠ 0) (ba : inI a) (bb : inI b) : Lie a b (a.tmod b) := by
  obtain ⟨h1, h2, h3, h4, _⟩ := mod_facts a b hb
  unfold inI at ba bb
  generalize a.tmod b = m at *
  unfold Lie
  have s : (0 < m ∧ 0 < a) ∨ (m ≤ 0 ∧ 0 ≤ m) ∨ (m < 0 ∧ a < 0) := by omega
  by_cases p : 0 < b
  · exact .inl ⟨p, by omega, by omega, s⟩
  · by_cases q : b = -9223372036854775808
    · exact .inr (.inr ⟨by omega, by omega, s⟩)
    · exact .inr (.inl ⟨by omega, q, by omega, by omega, s⟩)
theorem inK_in {k a : Int} (h : inK k a) : inI a := by
  rcases h with ⟨_, h⟩ | ⟨_, h⟩
  · exact h
  · unfold inD at h; unfold inI; omega
theorem r_mod0 {k a : Int} (h : k = 1 ∨ k = 2) : binR k 5 a 0 = (0, 0, 14) := by
  rcases h with rfl | rfl <;> simp [binR, iR, dR, nR]
theorem r_mod {k a b : Int} (h : k = 1 ∨ k = 2) (hb : b ≠ 0) : binR k 5 a b = (k, a.tmod b, 0) := by
  rcases h with rfl | rfl <;> simp [binR, iR, dR, nR, hb]
/-- The sum of two numbers is of their kind. -/
def Fits (k a b : Int) : Prop := inK k (a + b)
theorem r_add {k a b : Int} (hk : k = 1 ∨ k = 2) (h : inK k (a + b)) : binR k 1 a b = (k, a + b, 0) := by
  rcases hk with rfl | rfl
  · rcases h with ⟨_, h⟩ | ⟨h, _⟩
    · unfold inI at h; simp [binR, iR, nR, add64, h]
    · omega
  · rcases h with ⟨h, _⟩ | ⟨_, h⟩
    · omega
    · unfold inD at h; simp [binR, dR, nR, bd, h]
theorem r_over {k a b : Int} (hk : k = 1 ∨ k = 2) (h : ¬ inK k (a + b)) : binR k 1 a b = (0, 0, 13) := by
  rcases hk with rfl | rfl
  · have : ¬ inI (a + b) := fun e => h (.inl ⟨rfl, e⟩)
    unfold inI at this; simp [binR, iR, nR, add64, this]
  · have : ¬ inD (a + b) := fun e => h (.inr ⟨rfl, e⟩)
    unfold inD at this; simp [binR, dR, nR, bd, this]
theorem r_sub {k a b : Int} (hk : k = 1 ∨ k = 2) (h : inK k a) : binR k 2 (a + b) b = (k, a, 0) := by
  have e : a + b - b = a := by omega
  rcases hk with rfl | rfl
  · rcases h with ⟨_, h⟩ | ⟨h, _⟩
    · unfold inI at h; simp [binR, iR, nR, sub64, e, h]
    · omega
  · rcases h with ⟨h, _⟩ | ⟨_, h⟩
    · omega
    · unfold inD at h; simp [binR, dR, nR, bd, e, h]
theorem r_div {a b : Int} (hb : b ≠ 0) (h1 : b ≠ -1) : binR 1 4 a b = (1, a.tdiv b, 0) := by simp [binR, iR, nR, hb, h1]
theorem r_div1 {a : Int} (ha : inI a) (h : a ≠ -9223372036854775808) : binR 1 4 a (-1) = (1, a.tdiv (-1), 0) := by
  have e : a.tdiv (-1) = -a := by rw [Int.tdiv_neg, Int.tdiv_one]
  rw [e]
  unfold inI at ha
  have es : sub64 0 a = (-a, 0) := by unfold sub64; rw [if_pos (by omega)]; simp
  simp [binR, iR, nR, es]
theorem r_divx : binR 1 4 (-9223372036854775808) (-1) = (0, 0, 13) := by decide
theorem r_mul {a b m q : Int} (h : b * q + m = a) (hi : inI (a - m)) : binR 1 3 q b = (1, a - m, 0) := by
  have e : q * b = a - m := by rw [Int.mul_comm]; omega
  unfold inI at hi
  simp [binR, iR, nR, mul64, e, hi]
theorem div_facts {a b : Int} (hb : b ≠ 0) (ba : inI a) (bb : inI b) (hx : ¬ (a = -9223372036854775808 ∧ b = -1)) : ∃ q, Hid (binR 1 4 a b = (1, q, 0)) ∧ Hid (binR 1 3 q b = (1, a - a.tmod b, 0)) ∧ Hid (inI q) ∧ Hid (inI (a - a.tmod b)) := by
  obtain ⟨h1, h2, h3, h4, h5⟩ := mod_facts a b hb
  have hi : inI (a - a.tmod b) := by unfold inI at *; omega
  by_cases e : b = -1
  · subst e
    have ea : a ≠ -9223372036854775808 := fun e => hx ⟨e, rfl⟩
    have hq : a.tdiv (-1) = -a := by rw [Int.tdiv_neg, Int.tdiv_one]
    exact ⟨_, r_div1 ba ea, r_mul h5 hi, (by rw [hq]; unfold inI at *; omega : inI (a.tdiv (-1))), hi⟩
  · exact ⟨_, r_div hb e, r_mul h5 hi, tdiv_bd ba hb e, hi⟩
theorem r_back {a m : Int} (ha : inI a) : binR 1 1 (a - m) m = (1, a, 0) := by
  have e : a - m + m = a := by omega
  unfold inI at ha
  simp [binR, iR, nR, add64, e, ha]
end Wh
end Go.Proofs.YtcgnkcehjcednaaDoor
