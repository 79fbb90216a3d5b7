import Derived.Test.YtghdjagomdgnfaaDoorHAS
namespace Go.Proofs.YtghdjagomdgnfaaDoor
open Go.ChangeShapes Go.WideShapes Go.ChangeAt Go.RowKit
set_option linter.unusedVariables false
set_option linter.unusedSimpArgs false
set_option maxRecDepth 100000
open K
theorem has_lift {S : Int} {p : Int → Bool} (h : ∀ x : Fin 65, hasOp S (x.val : Int) = p (x.val : Int)) (y : Int) (h0 : 0 ≤ y) (h1 : y ≤ 64) : hasOp S y = p y := by
  have := h ⟨y.toNat, by omega⟩
  simp only at this
  rwa [show ((y.toNat : Nat) : Int) = y by omega] at this
theorem hasE (y : Int) (h0 : 0 ≤ y) (h1 : y ≤ 64) : hasOp 262142 y = isE y := has_lift (p := isE) (by decide) y h0 h1
theorem hasV (y : Int) (h0 : 0 ≤ y) (h1 : y ≤ 64) : hasOp (bits .or .u64 262142 (setI [45])) y = isV y := has_lift (p := isV) (by decide) y h0 h1
theorem has_27 (y : Int) (h0 : 0 ≤ y) (h1 : y ≤ 64) : hasOp (setI [27]) y = (y == 27) := has_lift (p := fun y => y == 27) (by decide) y h0 h1
theorem has_18_19 (y : Int) (h0 : 0 ≤ y) (h1 : y ≤ 64) : hasOp (setI [18, 19]) y = (y == 18 || y == 19) := has_lift (p := fun y => y == 18 || y == 19) (by decide) y h0 h1
theorem has_31_32_33 (y : Int) (h0 : 0 ≤ y) (h1 : y ≤ 64) : hasOp (setI [31, 32, 33]) y = (y == 31 || y == 32 || y == 33) := has_lift (p := fun y => y == 31 || y == 32 || y == 33) (by decide) y h0 h1
theorem has_20 (y : Int) (h0 : 0 ≤ y) (h1 : y ≤ 64) : hasOp (setI [20]) y = (y == 20) := has_lift (p := fun y => y == 20) (by decide) y h0 h1
theorem has_21 (y : Int) (h0 : 0 ≤ y) (h1 : y ≤ 64) : hasOp (setI [21]) y = (y == 21) := has_lift (p := fun y => y == 21) (by decide) y h0 h1
theorem has_22 (y : Int) (h0 : 0 ≤ y) (h1 : y ≤ 64) : hasOp (setI [22]) y = (y == 22) := has_lift (p := fun y => y == 22) (by decide) y h0 h1
theorem has_23 (y : Int) (h0 : 0 ≤ y) (h1 : y ≤ 64) : hasOp (setI [23]) y = (y == 23) := has_lift (p := fun y => y == 23) (by decide) y h0 h1
theorem has_24 (y : Int) (h0 : 0 ≤ y) (h1 : y ≤ 64) : hasOp (setI [24]) y = (y == 24) := has_lift (p := fun y => y == 24) (by decide) y h0 h1
theorem has_25_26_27 (y : Int) (h0 : 0 ≤ y) (h1 : y ≤ 64) : hasOp (setI [25, 26, 27]) y = (y == 25 || y == 26 || y == 27) := has_lift (p := fun y => y == 25 || y == 26 || y == 27) (by decide) y h0 h1
theorem has_25_27 (y : Int) (h0 : 0 ≤ y) (h1 : y ≤ 64) : hasOp (setI [25, 27]) y = (y == 25 || y == 27) := has_lift (p := fun y => y == 25 || y == 27) (by decide) y h0 h1
theorem has_28 (y : Int) (h0 : 0 ≤ y) (h1 : y ≤ 64) : hasOp (setI [28]) y = (y == 28) := has_lift (p := fun y => y == 28) (by decide) y h0 h1
theorem has_30 (y : Int) (h0 : 0 ≤ y) (h1 : y ≤ 64) : hasOp (setI [30]) y = (y == 30) := has_lift (p := fun y => y == 30) (by decide) y h0 h1
theorem has_29 (y : Int) (h0 : 0 ≤ y) (h1 : y ≤ 64) : hasOp (setI [29]) y = (y == 29) := has_lift (p := fun y => y == 29) (by decide) y h0 h1
theorem has_31_32 (y : Int) (h0 : 0 ≤ y) (h1 : y ≤ 64) : hasOp (setI [31, 32]) y = (y == 31 || y == 32) := has_lift (p := fun y => y == 31 || y == 32) (by decide) y h0 h1
theorem has_41 (y : Int) (h0 : 0 ≤ y) (h1 : y ≤ 64) : hasOp (setI [41]) y = (y == 41) := has_lift (p := fun y => y == 41) (by decide) y h0 h1
theorem has_43_27 (y : Int) (h0 : 0 ≤ y) (h1 : y ≤ 64) : hasOp (setI [43, 27]) y = (y == 43 || y == 27) := has_lift (p := fun y => y == 43 || y == 27) (by decide) y h0 h1
theorem has_42 (y : Int) (h0 : 0 ≤ y) (h1 : y ≤ 64) : hasOp (setI [42]) y = (y == 42) := has_lift (p := fun y => y == 42) (by decide) y h0 h1
theorem has_44 (y : Int) (h0 : 0 ≤ y) (h1 : y ≤ 64) : hasOp (setI [44]) y = (y == 44) := has_lift (p := fun y => y == 44) (by decide) y h0 h1
theorem has_47 (y : Int) (h0 : 0 ≤ y) (h1 : y ≤ 64) : hasOp (setI [47]) y = (y == 47) := has_lift (p := fun y => y == 47) (by decide) y h0 h1
theorem has_50_52_53_54 (y : Int) (h0 : 0 ≤ y) (h1 : y ≤ 64) : hasOp (setI [50, 52, 53, 54]) y = (y == 50 || y == 52 || y == 53 || y == 54) := has_lift (p := fun y => y == 50 || y == 52 || y == 53 || y == 54) (by decide) y h0 h1
theorem has_51_52 (y : Int) (h0 : 0 ≤ y) (h1 : y ≤ 64) : hasOp (setI [51, 52]) y = (y == 51 || y == 52) := has_lift (p := fun y => y == 51 || y == 52) (by decide) y h0 h1
theorem lead_all {S : Int} : ∀ {ops : List Int} {n : Nat}, ops.length ≤ n → ops.all (hasOp S) = true → lead S ops n = ops.length
  | [], 0, _, _ => rfl
  | [], _ + 1, _, _ => rfl
  | x :: xs, 0, h, _ => by simp at h
  | x :: xs, n + 1, h, ha => by
    simp only [List.all_cons, Bool.and_eq_true] at ha
    unfold lead
    rw [ha.1]
    simp only [if_true, List.length_cons]
    rw [lead_all (by simpa using h) ha.2]
theorem lead_not {S : Int} : ∀ {ops : List Int} {n : Nat}, ops.all (hasOp S) = false → lead S ops n < ops.length
  | [], _, h => by simp at h
  | x :: xs, 0, _ => by simp [lead]
  | x :: xs, n + 1, h => by
    unfold lead
    cases hx : hasOp S x
    · simp
    · have : xs.all (hasOp S) = false := by simpa [hx] using h
      have := lead_not (n := n) this
      simp; omega
theorem lead_n (S : Int) : ∀ (ops : List Int) (n : Nat), lead S ops n ≤ n
  | ops, 0 => by cases ops <;> simp [lead]
  | [], n + 1 => by simp [lead]
  | x :: xs, n + 1 => by
    unfold lead
    split
    · have := lead_n S xs n; omega
    · omega
/-- One part alone. -/
theorem fit_part (S l m : Int) (ops : List Int) (hm : 0 ≤ m) : fit ops [(S, l, m)] = (ops.all (hasOp S) && decide ((ops.length : Int) ≤ m) && decide (l ≤ (ops.length : Int))) := by
  unfold fit
  unfold fit
  have h1 := lead_le S ops m.toNat
  have h2 := lead_n S ops m.toNat
  cases ha : ops.all (hasOp S)
  · have h3 := lead_not (n := m.toNat) ha
    split
    · simp
    · have : ops.drop (lead S ops m.toNat) ≠ [] := by simp; omega
      cases hd : ops.drop (lead S ops m.toNat) with
      | nil => exact absurd hd this
      | cons _ _ => simp
  · by_cases hb : (ops.length : Int) ≤ m
    · have h3 := lead_all (n := m.toNat) (by omega) ha
      rw [h3]
      by_cases hl : (ops.length : Int) < l
      · rw [if_pos hl]; simp; omega
      · rw [if_neg hl]; simp; omega
    · have h3 : lead S ops m.toNat < ops.length := by omega
      split
      · simp; omega
      · have : ops.drop (lead S ops m.toNat) ≠ [] := by simp; omega
        cases hd : ops.drop (lead S ops m.toNat) with
        | nil => exact absurd hd this
        | cons _ _ => simp; omega
end Go.Proofs.YtghdjagomdgnfaaDoor
namespace Go.Proofs.YtghdjagomdgnfaaDoor
open Go.ChangeShapes Go.WideShapes Go.ChangeAt Go.RowKit
set_option linter.unusedVariables false
set_option linter.unusedSimpArgs false
set_option maxRecDepth 100000
open K
theorem noS_size (s : ByteArray) : noS s = decide (s.size = 0) := by
  unfold noS
  cases h : decide (s.size = 0)
  · have hn : ¬ s.size = 0 := by simpa using h
    have : s.toList ≠ [] := by
      intro he
      have hl : s.toList.length = s.size := by simp [ByteArray.toList_eq]
      rw [he] at hl
      simp at hl
      omega
    simpa using this
  · have hn : s.size = 0 := by simpa using h
    have hl : s.toList.length = s.size := by simp [ByteArray.toList_eq]
    rw [hn] at hl
    simpa using hl
theorem alw0 (s : ByteArray) : alw 0 s = noS s := by
  unfold alw
  cases h : noS s <;> simp
theorem alw2 (s : ByteArray) : alw 2 s = isNm s := by
  unfold alw isNm
  have h0 := noS_size s
  cases h : noS s
  · rw [h] at h0
    have : ¬ s.size = 0 := by simpa using h0.symm
    have h1 : decide (1 ≤ (s.size : Int)) = true := by simp; omega
    rw [h1]
    simp
  · rw [h] at h0
    have : s.size = 0 := by simpa using h0.symm
    have h1 : decide (1 ≤ (s.size : Int)) = false := by simp; omega
    rw [h1]
    simp
theorem alw1 (s : ByteArray) : alw 1 s = mayN s := by
  have h2 := alw2 s
  unfold mayN
  rw [← h2]
  unfold alw
  cases h : noS s <;> simp
end Go.Proofs.YtghdjagomdgnfaaDoor
namespace Go.Proofs.YtghdjagomdgnfaaDoor
open Go.ChangeShapes Go.WideShapes Go.ChangeAt Go.RowKit
set_option linter.unusedVariables false
set_option linter.unusedSimpArgs false
set_option maxRecDepth 100000
open K
/-- What hangs on more than one field, but for the first token of a query. -/
def choG (t : Nd) (k : Int) : Bool :=
  if t.op = 1 then vok t.vk t.vn t.vs && !((t.vk == 1 || t.vk == 2) && decide (t.vn < 0))
  else if t.op = 5 then t.n != 13
  else if t.op = 12 then decide (2 ≤ k - t.m - t.n) && (k - t.m - t.n) % 2 == 0
  else if t.op = 30 then t.n != -1 || t.m != -1
  else true
/-- The verdict of a node, but for the first token of a query. -/
def nodG (t : Nd) (ops : List Int) : Bool := match formD t.op t.n with
  | none => false
  | some f => fldB f t && (fit ops f.kids && choG t ops.length)
theorem all_hasE {ops : List Int} (h : ∀ x ∈ ops, 0 ≤ x ∧ x ≤ 64) : ops.all (hasOp 262142) = ops.all isE := by
  rw [Bool.eq_iff_iff, List.all_eq_true, List.all_eq_true]
  constructor
  · intro a x hx
    rw [← hasE x (h x hx).1 (h x hx).2]; exact a x hx
  · intro a x hx
    rw [hasE x (h x hx).1 (h x hx).2]; exact a x hx
theorem g_3 (t : Nd) (ops : List Int) (hop : t.op = 3) (hr : ∀ x ∈ ops, 0 ≤ x ∧ x ≤ 64) (hl : ops.length ≤ 6000) :
    (((ops.length : Int) == 1) && ops.all isE && only t false false false false false) = nodG t ops := by
  unfold nodG
  rw [hop]
  simp only [formD, fldB, choG, hop, alw0, fit_part _ _ _ _ (by decide : (0 : Int) ≤ 1), all_hasE hr, only]
  generalize ops.all isE = al
  generalize noS t.name = a
  generalize noS t.qual = b
  generalize noV t = c
  rw [Bool.eq_iff_iff]
  simp
  grind
theorem g_13 (t : Nd) (ops : List Int) (hop : t.op = 13) (hr : ∀ x ∈ ops, 0 ≤ x ∧ x ≤ 64) (hl : ops.length ≤ 6000) :
    (((ops.length : Int) == 1) && ops.all isE && decide (1 ≤ t.n) && decide (t.n ≤ 5) && only t false false true false false) = nodG t ops := by
  unfold nodG
  rw [hop]
  simp only [formD, fldB, choG, hop, alw0, fit_part _ _ _ _ (by decide : (0 : Int) ≤ 1), all_hasE hr, only]
  generalize ops.all isE = al
  generalize noS t.name = a
  generalize noS t.qual = b
  generalize noV t = c
  rw [Bool.eq_iff_iff]
  simp
  grind
end Go.Proofs.YtghdjagomdgnfaaDoor
namespace Go.Proofs.YtghdjagomdgnfaaDoor
open Go.ChangeShapes Go.WideShapes Go.ChangeAt Go.RowKit
set_option linter.unusedVariables false
set_option linter.unusedSimpArgs false
set_option maxRecDepth 100000
open K
theorem all_has {S : Int} {p : Int → Bool} {ops : List Int} (hh : ∀ y, 0 ≤ y → y ≤ 64 → hasOp S y = p y) (h : ∀ x ∈ ops, 0 ≤ x ∧ x ≤ 64) : ops.all (hasOp S) = ops.all p := by
  rw [Bool.eq_iff_iff, List.all_eq_true, List.all_eq_true]
  constructor
  · intro a x hx
    rw [← hh x (h x hx).1 (h x hx).2]; exact a x hx
  · intro a x hx
    rw [hh x (h x hx).1 (h x hx).2]; exact a x hx
theorem fit_none (ops : List Int) : fit ops [] = decide ((ops.length : Int) = 0) := by
  unfold fit
  cases ops <;> simp <;> omega
end Go.Proofs.YtghdjagomdgnfaaDoor
namespace Go.Proofs.YtghdjagomdgnfaaDoor
open Go.ChangeShapes Go.WideShapes Go.ChangeAt Go.RowKit
set_option linter.unusedVariables false
set_option linter.unusedSimpArgs false
set_option maxRecDepth 100000
open K
theorem fit11n (S : Int) (ps : List (Int × Int × Int)) : fit [] ((S, 1, 1) :: ps) = false := by
  unfold fit; simp [lead]
theorem fit11c (S a : Int) (r : List Int) (ps : List (Int × Int × Int)) : fit (a :: r) ((S, 1, 1) :: ps) = (hasOp S a && fit r ps) := by
  cases h : hasOp S a
  · conv => lhs; unfold fit
    simp [lead, h]
  · have hl : lead S (a :: r) 1 = 1 := by
      unfold lead
      rw [h]
      cases r <;> simp [lead]
    conv => lhs; unfold fit
    rw [show ((1 : Int)).toNat = 1 from rfl, hl]
    simp
theorem fit01n (S : Int) (ps : List (Int × Int × Int)) : fit [] ((S, 0, 1) :: ps) = fit [] ps := by
  conv => lhs; unfold fit
  simp [lead]
theorem fit01c (S a : Int) (r : List Int) (ps : List (Int × Int × Int)) : fit (a :: r) ((S, 0, 1) :: ps) = if hasOp S a then fit r ps else fit (a :: r) ps := by
  cases h : hasOp S a
  · conv => lhs; unfold fit
    simp [lead, h]
  · have hl : lead S (a :: r) 1 = 1 := by
      unfold lead
      rw [h]
      cases r <;> simp [lead]
    conv => lhs; unfold fit
    rw [show ((1 : Int)).toNat = 1 from rfl, hl]
    simp
theorem fit0n : fit [] [] = true := rfl
theorem fit0c (a : Int) (r : List Int) : fit (a :: r) [] = false := rfl
end Go.Proofs.YtghdjagomdgnfaaDoor
namespace Go.Proofs.YtghdjagomdgnfaaDoor
open Go.ChangeShapes Go.WideShapes Go.ChangeAt Go.RowKit
set_option linter.unusedVariables false
set_option linter.unusedSimpArgs false
set_option maxRecDepth 100000
open K
/-- Some of a list, each once at most, in its order. -/
def someR : List Int → List Int → Bool
  | [], ops => ops.isEmpty
  | _ :: _, [] => true
  | p :: l, o :: os => if p == o then someR l os else someR l (o :: os)
theorem someR_nil (l : List Int) : someR l [] = true := by cases l <;> rfl
theorem someR_find (o : Int) (os : List Int) : ∀ d : List Int, someR d (o :: os) = match d.findIdx? (· == o) with
    | none => false
    | some j => someR (d.drop (j + 1)) os
  | [] => rfl
  | p :: l => by
    conv => lhs; unfold someR
    rw [List.findIdx?_cons]
    cases h : (p == o)
    · simp only [Bool.false_eq_true, if_false]
      rw [someR_find o os l]
      cases l.findIdx? (· == o) <;> simp
    · simp
theorem someL_R (l : List Int) : ∀ (ops : List Int) (k : Nat), someL l ops k = someR (l.drop k) ops
  | [], k => by rw [someR_nil]; rfl
  | o :: os, k => by
    unfold someL
    rw [someR_find]
    cases (l.drop k).findIdx? (· == o) with
    | none => rfl
    | some j =>
      simp only
      rw [someL_R l os (k + j + 1), List.drop_drop]
      congr 2
theorem fit_some (l : List Int) (hh : ∀ p ∈ l, ∀ y, 0 ≤ y → y ≤ 64 → hasOp (setI [p]) y = (y == p)) : ∀ (r : List Int), (∀ x ∈ r, 0 ≤ x ∧ x ≤ 64) → fit r (l.map fun p => (setI [p], 0, 1)) = someR l r := by
  induction l with
  | nil => intro r _; cases r <;> rfl
  | cons p l ih =>
    intro r hr
    have ih' := ih (fun q hq => hh q (by simp [hq]))
    cases r with
    | nil =>
      rw [List.map_cons, fit01n, ih' [] (by simp), someR_nil, someR_nil]
    | cons o os =>
      obtain ⟨o0, o1⟩ := hr o (by simp)
      rw [List.map_cons, fit01c, hh p (by simp) o o0 o1, ih' os (fun x hx => hr x (by simp [hx])), ih' (o :: os) hr]
      conv => rhs; unfold someR
      have : (o == p) = (p == o) := by
        rw [Bool.eq_iff_iff]; simp; exact eq_comm
      rw [this]
theorem some_25 (r : List Int) (hr : ∀ x ∈ r, 0 ≤ x ∧ x ≤ 64) : fit r [(setI [21], 0, 1), (setI [22], 0, 1), (setI [23], 0, 1), (setI [24], 0, 1)] = someL [21, 22, 23, 24] r 0 := by
  rw [someL_R]
  refine fit_some [21, 22, 23, 24] (fun p hp => ?_) r hr
  simp only [List.mem_cons, List.mem_nil_iff, or_false] at hp
  rcases hp with rfl | rfl | rfl | rfl
  · exact has_21
  · exact has_22
  · exact has_23
  · exact has_24
theorem some_27 (r : List Int) (hr : ∀ x ∈ r, 0 ≤ x ∧ x ≤ 64) : fit r [(setI [28], 0, 1), (setI [30], 0, 1)] = someL [28, 30] r 0 := by
  rw [someL_R]
  refine fit_some [28, 30] (fun p hp => ?_) r hr
  simp only [List.mem_cons, List.mem_nil_iff, or_false] at hp
  rcases hp with rfl | rfl
  · exact has_28
  · exact has_30
theorem g_25 (t : Nd) (x : Int) (r : List Int) (hop : t.op = 25) (hr : ∀ y ∈ x :: r, 0 ≤ y ∧ y ≤ 64) :
    (x == 20 && someL [21, 22, 23, 24] r 0 && flg t.n && only t false false true false false) = nodG t (x :: r) := by
  obtain ⟨a0, b0⟩ := hr x (by simp)
  unfold nodG
  rw [hop]
  simp only [formD, fldB, choG, hop, alw0, fit11c, some_25 r (fun y hy => hr y (by simp [hy])), has_20 x a0 b0, only, flg]
  generalize someL [21, 22, 23, 24] r 0 = sm
  generalize noS t.name = z1
  generalize noS t.qual = z2
  generalize noV t = z3
  rw [Bool.eq_iff_iff]
  simp
  grind
theorem g_27 (t : Nd) (x : Int) (r : List Int) (hop : t.op = 27) (hr : ∀ y ∈ x :: r, 0 ≤ y ∧ y ≤ 64) :
    ((isTrm x || x == 26) && someL [28, 30] r 0 && only t false false false false false) = nodG t (x :: r) := by
  obtain ⟨a0, b0⟩ := hr x (by simp)
  unfold nodG
  rw [hop]
  simp only [formD, fldB, choG, hop, alw0, fit11c, some_27 r (fun y hy => hr y (by simp [hy])), has_25_26_27 x a0 b0, only, isTrm]
  generalize someL [28, 30] r 0 = sm
  generalize noS t.name = z1
  generalize noS t.qual = z2
  generalize noV t = z3
  rw [Bool.eq_iff_iff]
  simp
  grind
theorem g_25o (t : Nd) (hop : t.op = 25) : false = nodG t [] := by
  unfold nodG
  rw [hop]
  simp [formD, fit11n]
theorem g_27o (t : Nd) (hop : t.op = 27) : false = nodG t [] := by
  unfold nodG
  rw [hop]
  simp [formD, fit11n]
end Go.Proofs.YtghdjagomdgnfaaDoor
namespace Go.Proofs.YtghdjagomdgnfaaDoor
open Go.ChangeShapes Go.WideShapes Go.ChangeAt Go.RowKit
set_option linter.unusedVariables false
set_option linter.unusedSimpArgs false
set_option maxRecDepth 100000
open K
theorem lead_tw (S : Int) : ∀ (ops : List Int) (n : Nat), ops.length ≤ n → lead S ops n = (ops.takeWhile (hasOp S)).length
  | [], n, _ => by cases n <;> rfl
  | x :: xs, 0, h => by simp at h
  | x :: xs, n + 1, h => by
    unfold lead
    rw [List.takeWhile_cons]
    cases hh : hasOp S x
    · simp
    · have := lead_tw S xs n (by simpa using h)
      simp [this]
theorem drop_tw (p : Int → Bool) : ∀ ops : List Int, ops.drop (ops.takeWhile p).length = ops.dropWhile p
  | [] => rfl
  | x :: xs => by
    rw [List.takeWhile_cons, List.dropWhile_cons]
    cases hh : p x
    · simp
    · have := drop_tw p xs
      simp [this]
/-- What may stand behind the columns. -/
def tailOK : List Int → Bool
  | [] => true
  | [a] => a == 22
  | _ :: _ :: _ => false
theorem fit_46 (ops : List Int) (hr : ∀ x ∈ ops, 0 ≤ x ∧ x ≤ 64) (hl : ops.length ≤ 6000) :
    fit ops [(setI [47], 1, 6000), (setI [22], 0, 1)] = (decide (0 < (ops.takeWhile (hasOp (setI [47]))).length) && tailOK (ops.dropWhile (hasOp (setI [47])))) := by
  have h0 : fit ops [(setI [47], 1, 6000), (setI [22], 0, 1)] = if ((lead (setI [47]) ops ((6000 : Int)).toNat : Nat) : Int) < 1 then false else fit (ops.drop (lead (setI [47]) ops ((6000 : Int)).toNat)) [(setI [22], 0, 1)] := by
    conv => lhs; unfold fit
  rw [h0, show ((6000 : Int)).toNat = 6000 from rfl, lead_tw _ ops 6000 hl, drop_tw]
  have h1 : fit (ops.dropWhile (hasOp (setI [47]))) [(setI [22], 0, 1)] = tailOK (ops.dropWhile (hasOp (setI [47]))) := by
    have hs : ∀ x ∈ ops.dropWhile (hasOp (setI [47])), 0 ≤ x ∧ x ≤ 64 := fun x hx => hr x ((List.dropWhile_sublist _).subset hx)
    generalize ops.dropWhile (hasOp (setI [47])) = d at *
    match d, hs with
    | [], _ => rw [fit01n]; rfl
    | [a], hs =>
      obtain ⟨a0, a1⟩ := hs a (by simp)
      rw [fit01c, has_22 a a0 a1, fit0n, fit0c]
      simp only [tailOK]
      cases (a == 22) <;> rfl
    | a :: b :: r, hs =>
      obtain ⟨a0, a1⟩ := hs a (by simp)
      rw [fit01c, has_22 a a0 a1, fit0c, fit0c]
      simp [tailOK]
  rw [h1]
  by_cases h : 0 < (ops.takeWhile (hasOp (setI [47]))).length
  · rw [if_neg (by omega), decide_eq_true h]; rfl
  · rw [if_pos (by omega), decide_eq_false h]; rfl
theorem tail_22 (p : Int → Bool) (hp : p 22 = false) : ∀ l : List Int, tailOK ((l ++ [22]).dropWhile p) = l.all p
  | [] => by simp [hp, tailOK]
  | a :: l => by
    rw [List.cons_append, List.dropWhile_cons, List.all_cons]
    cases hh : p a
    · cases l <;> simp [tailOK]
    · simp [tail_22 p hp l]
theorem tail_x (p : Int → Bool) (x : Int) (hx : (x == 22) = false) : ∀ l : List Int, tailOK ((l ++ [x]).dropWhile p) = (l ++ [x]).all p
  | [] => by
    rw [List.nil_append, List.dropWhile_cons]
    cases hh : p x
    · simp [tailOK, hh]; simpa using hx
    · simp [tailOK, hh]
  | a :: l => by
    rw [List.cons_append, List.dropWhile_cons, List.all_cons]
    cases hh : p a
    · cases l <;> simp [tailOK]
    · simp only [if_true, Bool.true_and]; exact tail_x p x hx l
theorem tw_pos (p : Int → Bool) (l : List Int) (h : l.all p = true) (x : Int) (hl : l ≠ []) : 0 < ((l ++ [x]).takeWhile p).length := by
  cases l with
  | nil => exact absurd rfl hl
  | cons a l =>
    have : p a = true := by simp at h; exact h.1
    rw [List.cons_append, List.takeWhile_cons, this]; simp
theorem has47_all {ops : List Int} (hr : ∀ x ∈ ops, 0 ≤ x ∧ x ≤ 64) : ops.all (hasOp (setI [47])) = ops.all (· == 47) := all_has has_47 hr
theorem g_46g (t : Nd) (ops : List Int) (hop : t.op = 46) : nodG t ops = ((isNm t.name && only t true false false false false) && fit ops [(setI [47], 1, 6000), (setI [22], 0, 1)]) := by
  unfold nodG
  rw [hop]
  simp only [formD, fldB, choG, hop, alw0, alw2, only]
  generalize fit ops [(setI [47], 1, 6000), (setI [22], 0, 1)] = ft
  generalize isNm t.name = z0
  generalize noS t.qual = z1
  generalize noV t = z2
  rw [Bool.eq_iff_iff]
  simp
  grind
theorem g_46y (t : Nd) (ops l : List Int) (hop : t.op = 46) (hr : ∀ x ∈ ops, 0 ≤ x ∧ x ≤ 64) (hl : ops.length ≤ 6000) (hl0 : l ≠ []) (he : ops = l ++ [22]) :
    ((isNm t.name && only t true false false false false) && (l.all (· == 47) && decide ((0 : Int) < l.length))) = nodG t ops := by
  have hr2 : ∀ x ∈ l, 0 ≤ x ∧ x ≤ 64 := fun x hx => hr x (by rw [he]; simp [hx])
  have h22 : hasOp (setI [47]) 22 = false := by rw [has_47 22 (by decide) (by decide)]; rfl
  have hll : (0 : Int) < l.length := by cases l with | nil => exact absurd rfl hl0 | cons _ _ => simp
  rw [g_46g t ops hop, fit_46 ops hr hl, he, tail_22 _ h22, has47_all hr2, decide_eq_true hll, Bool.and_true]
  cases ha : l.all (· == 47)
  · simp
  · have := tw_pos (hasOp (setI [47])) l (by rw [has47_all hr2]; exact ha) 22 hl0
    rw [decide_eq_true this]; simp
theorem g_46x (t : Nd) (ops l : List Int) (x : Int) (hop : t.op = 46) (hr : ∀ x ∈ ops, 0 ≤ x ∧ x ≤ 64) (hl : ops.length ≤ 6000) (he : ops = l ++ [x]) (hx : (x == 22) = false) :
    ((isNm t.name && only t true false false false false) && (ops.all (· == 47) && decide ((0 : Int) < ops.length))) = nodG t ops := by
  have hll : (0 : Int) < ops.length := by rw [he]; simp
  rw [g_46g t ops hop, fit_46 ops hr hl, he, tail_x _ x hx, ← he, has47_all hr, decide_eq_true hll, Bool.and_true]
  cases ha : ops.all (· == 47)
  · simp
  · have hp := has47_all hr
    rw [ha] at hp
    have : 0 < (ops.takeWhile (hasOp (setI [47]))).length := by
      cases ops with
      | nil => simp at hll
      | cons a r =>
        have ha2 : hasOp (setI [47]) a = true := by rw [List.all_cons, Bool.and_eq_true] at hp; exact hp.1
        rw [List.takeWhile_cons, ha2]; simp
    rw [decide_eq_true this]; simp
theorem g_46_1 (t : Nd) (ops : List Int) (hop : t.op = 46) (hr : ∀ x ∈ ops, 0 ≤ x ∧ x ≤ 64) (h1 : (ops.length : Int) ≤ 1) :
    ((isNm t.name && only t true false false false false) && (ops.all (· == 47) && decide ((0 : Int) < ops.length))) = nodG t ops := by
  match ops, hr, h1 with
  | [], hr, h1 => rw [g_46g t _ hop, fit_46 _ hr (by simp)]; simp
  | [x], hr, h1 =>
    by_cases hx : (x == 22) = false
    · exact g_46x t [x] [] x hop hr (by simp) rfl hx
    · have e : x = 22 := by simpa using hx
      subst e
      have h22 : hasOp (setI [47]) 22 = false := by rw [has_47 22 (by decide) (by decide)]; rfl
      rw [g_46g t _ hop, fit_46 _ hr (by simp)]
      simp [h22]
  | a :: b :: r, hr, h1 => simp at h1; omega
end Go.Proofs.YtghdjagomdgnfaaDoor
