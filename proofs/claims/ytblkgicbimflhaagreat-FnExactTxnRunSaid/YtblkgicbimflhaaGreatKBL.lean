import Derived.Test.YtblkgicbimflhaaGreatKAG
import Derived.Laws.Bits64
import Derived.Test.YtblkgicbimflhaaGreatKAJ
import Derived.Test.YtblkgicbimflhaaGreatKAC
import Derived.Test.YtblkgicbimflhaaGreatKAH
import Derived.Lib.AppendZerosOnto
namespace Go.Proofs.YtblkgicbimflhaaGreat
open Go.ChangeShapes Go.WideShapes Go.ChangeAt Go.RowKit
set_option linter.unusedVariables false
set_option linter.unusedSimpArgs false
set_option maxRecDepth 100000
open List (setIfInBounds_toArray set_cons_zero set_cons_succ)
theorem toNat_u64 (a : Nat) (ha : a < 18446744073709551616) : (BitVec.ofInt 64 (a : Int)).toNat = a := by
 rw [BitVec.ofInt_natCast, BitVec.toNat_ofNat]; exact Nat.mod_eq_of_lt (by omega)
theorem bits_or_nat (a b : Nat) (ha : a < 18446744073709551616) (hb : b < 18446744073709551616) : bits .or .u64 (a : Int) (b : Int) = ((a ||| b : Nat) : Int) := by
 have hx : a ||| b < 2 ^ 64 := Nat.or_lt_two_pow (by omega) (by omega)
 show IntKind.u64.wrap ((BitVec.ofInt 64 (a : Int) ||| BitVec.ofInt 64 (b : Int)).toNat : Int) = _
 rw [BitVec.toNat_or, toNat_u64 a ha, toNat_u64 b hb, IntKind.wrap_u64]
 omega
theorem bits_and_nat (a b : Nat) (ha : a < 18446744073709551616) (hb : b < 18446744073709551616) : bits .and .u64 (a : Int) (b : Int) = ((a &&& b : Nat) : Int) := by
 have hx : a &&& b < 2 ^ 64 := Nat.and_lt_two_pow _ (by omega)
 show IntKind.u64.wrap ((BitVec.ofInt 64 (a : Int) &&& BitVec.ofInt 64 (b : Int)).toNat : Int) = _
 rw [BitVec.toNat_and, toNat_u64 a ha, toNat_u64 b hb, IntKind.wrap_u64]
 omega
def bitsOf (xs : List Int) : Nat := xs.foldl (fun b t => b ||| 2 ^ t.toNat) 0
theorem bitsOf_step {xs : List Int} {k : Nat} (h : k < xs.length) : bitsOf (xs.take (k + 1)) = bitsOf (xs.take k) ||| 2 ^ xs[k].toNat := by
 unfold bitsOf
 rw [show xs.take (k + 1) = xs.take k ++ [xs[k]] by rw [List.take_add_one, List.getElem?_eq_getElem h]; rfl, List.foldl_append]
 rfl
theorem fold_bit (i : Nat) : ∀ (xs : List Int) (b : Nat), ((xs.foldl (fun b t => b ||| 2 ^ t.toNat) b).testBit i = true ↔ b.testBit i = true ∨ ∃ x ∈ xs, x.toNat = i)
 | [], b => by simp
 | x :: r, b => by
   rw [List.foldl_cons, fold_bit i r, Nat.testBit_or, Nat.testBit_two_pow]
   simp only [Bool.or_eq_true, decide_eq_true_eq, List.mem_cons, exists_eq_or_imp]
   exact or_assoc
theorem bitsOf_bit (xs : List Int) (i : Nat) : (bitsOf xs).testBit i = true ↔ ∃ x ∈ xs, x.toNat = i := by
 unfold bitsOf
 rw [fold_bit]
 simp
theorem fold_lt : ∀ (xs : List Int) (b : Nat), (∀ x ∈ xs, x < 32) → b < 2 ^ 32 → xs.foldl (fun b t => b ||| 2 ^ t.toNat) b < 2 ^ 32
 | [], b, _, h => h
 | x :: r, b, hx, h => by
   rw [List.foldl_cons]
   refine fold_lt r _ (fun y hy => hx y (List.mem_cons_of_mem _ hy)) (Nat.or_lt_two_pow h ?_)
   have := hx x List.mem_cons_self
   exact Nat.pow_lt_pow_right (by decide) (by omega)
theorem tab_of {xs : List Int} (h : ∀ j, j < xs.length → tabAt xs j) : ∀ x ∈ xs, 0 ≤ x ∧ x < 32 := fun x hx => by
 obtain ⟨i, hi, rfl⟩ := List.getElem_of_mem hx
 have := h i hi
 unfold tabAt at this
 rw [getD_at hi] at this
 exact ⟨this.1, this.2.1⟩
theorem bitsOf_lt {xs : List Int} (h : ∀ x ∈ xs, 0 ≤ x ∧ x < 32) : bitsOf xs < 2 ^ 32 := fold_lt xs 0 (fun x hx => (h x hx).2) (by decide)
theorem tab_rise {xs : List Int} (h : ∀ j, j < xs.length → tabAt xs j) : ∀ i, i < xs.length → (i : Int) ≤ xs.getD i 0
 | 0, hi => (h 0 hi).1
 | i + 1, hi => by
   have h1 := tab_rise h i (by omega)
   have h2 := (h (i + 1) hi).2.2 (by omega)
   rw [show i + 1 - 1 = i from rfl] at h2
   omega
theorem tab_all {xs : List Int} (h : ∀ j, j < xs.length → tabAt xs j) : tabP xs := ⟨by
 rcases Nat.eq_zero_or_pos xs.length with h0 | h0
 ·omega
 ·have h1 := tab_rise h (xs.length - 1) (by omega)
  have h2 := (h (xs.length - 1) (by omega)).2.1
  omega, h⟩
theorem bits_meet {xs ys : List Int} (hx : ∀ x ∈ xs, 0 ≤ x ∧ x < 32) (hy : ∀ x ∈ ys, 0 ≤ x ∧ x < 32) : bitsOf xs &&& bitsOf ys ≠ 0 ↔ meetP xs ys := by
 constructor
 ·intro h
  apply Classical.byContradiction
  intro hn
  apply h
  apply Nat.eq_of_testBit_eq
  intro i
  rw [Nat.testBit_and, Nat.zero_testBit]
  apply Bool.eq_false_iff.2
  intro hb
  rw [Bool.and_eq_true, bitsOf_bit, bitsOf_bit] at hb
  obtain ⟨⟨x, x1, x2⟩, y, y1, y2⟩ := hb
  have := hx x x1
  have := hy y y1
  exact hn ⟨x, x1, by rw [show x = y by omega]; exact y1⟩
 ·rintro ⟨x, h1, h2⟩ h0
  have h3 : (bitsOf xs &&& bitsOf ys).testBit x.toNat = true := by
   rw [Nat.testBit_and, Bool.and_eq_true, bitsOf_bit, bitsOf_bit]
   exact ⟨⟨x, h1, rfl⟩, x, h2, rfl⟩
  rw [h0, Nat.zero_testBit] at h3
  cases h3
theorem within_any (x a b : Int) (w : World) :
 Calls Tryz.prog 63 #[.int .i64 x, .int .i64 a, .int .i64 b] w fun e w' => e = .returned (.bool (decide (a ≤ x) && decide (x ≤ b))) ∧ w' = w := by
 by_cases h1 : a ≤ x
 ·by_cases h2 : x ≤ b
  ·have HE : (decide (a ≤ x) && decide (x ≤ b)) = true := by simp [h1, h2]
   rw [HE]
   clear HE
   go_enter Tryz.func63, Tryz.ntmps63
   go_wp2
   go_ret
   exact ⟨rfl, rfl⟩
  ·have HE : (decide (a ≤ x) && decide (x ≤ b)) = false := by simp [h2]
   rw [HE]
   clear HE
   go_enter Tryz.func63, Tryz.ntmps63
   go_wp2
   go_ret
   exact ⟨rfl, rfl⟩
 ·have HE : (decide (a ≤ x) && decide (x ≤ b)) = false := by simp [h1]
  rw [HE]
  clear HE
  go_enter Tryz.func63, Tryz.ntmps63
  go_wp2
  go_ret
  exact ⟨rfl, rfl⟩
def BitsR (xs : List Int) (e : Ending) : Prop := (tabP xs ∧ e = .returned (.tuple #[.int .u64 (bitsOf xs : Nat), .bool true])) ∨ (¬ tabP xs ∧ e = .returned (.tuple #[.int .u64 0, .bool false]))
set_option maxHeartbeats 4000000 in
theorem tableBits_impl (a : Option Addr) (ca : Nat) (xs : List Int) (w : World) (hn : xs.length ≤ 1048576) (ha : RS 1 CI 0 w (.slice a xs.length ca) xs) :
 Calls Tryz.prog 52 #[.slice a xs.length ca] w fun e w' => BitsR xs e ∧ w' = w := by
 obtain ⟨a', ca', he, hva⟩ := ha
 simp only [Value.slice.injEq] at he
 obtain ⟨rfl, _, rfl⟩ := he
 go_enter Tryz.func52, Tryz.ntmps52
 go_wp2
 go_loopw [4, 9] (fun bv i wr => ∃ k : Nat, k ≤ xs.length ∧ bv = .int .u64 ((bitsOf (xs.take k) : Nat) : Int) ∧ i = .int .i64 k ∧ Hid (∀ j, j < k → tabAt xs j) ∧ wr = w) (fun _ i _ => xs.length - (intOf i).toNat)
 case atStart => exact ⟨0, Nat.zero_le _, rfl, rfl, (fun x h => absurd h (Nat.not_lt_zero _) : ∀ j, j < 0 → tabAt xs j), rfl⟩
 case round =>
  obtain ⟨k, hk, rfl, rfl, HO, hww⟩ := hrel
  replace hww := hww.symm
  subst hww
  by_cases hlt : k < xs.length
  ·have hlti : (k : Int) < xs.length := by omega
   obtain ⟨g, o, rfl, _, hg, hgc⟩ := hva (by omega)
   obtain ⟨cs, hC, hcell⟩ := hgc k hlt
   unfold CI at hC
   subst hC
   have c0 : w.cell? ⟨g, o + k, none⟩ = some (.int .i64 xs[k]) := ((Below.refl _ w).cell (p := ⟨g, o + k, none⟩) hg).trans (by have := hcell 0 (by omega); rw [Nat.mul_one, Nat.add_zero] at this; exact this)
   have HST : Hid (tabAt xs k → ∀ j, j < k + 1 → tabAt xs j) := hid (fun z j hj => by
    by_cases e : j = k
    ·subst e; exact z
    ·exact HO.out j (by omega))
   have HNo : Hid (¬ tabAt xs k → ¬ tabP xs) := hid (fun z h => z (h.2 k hlt))
   have HD := hid (getD_at hlt)
   have HBS := hid (bitsOf_step hlt)
   have hBL : bitsOf (xs.take k) < 2 ^ 32 := bitsOf_lt (fun x hx => by
    obtain ⟨i, hi, rfl⟩ := List.getElem_of_mem hx
    have hi' : i < k := by rw [List.length_take] at hi; omega
    have := HO.out i hi'
    unfold tabAt at this
    rw [getD_at (show i < xs.length by omega)] at this
    rw [List.getElem_take]
    exact ⟨this.1, this.2.1⟩)
   clear hcell HO
   generalize hx : xs[k] = x at c0 HD HBS
   clear hx
   generalize hBk : bitsOf (xs.take k) = bk at hBL HBS ⊢
   clear hBk
   by_cases h0 : 0 ≤ x ∧ x ≤ 31
   ·have hin : (decide (0 ≤ x) && decide (x ≤ 31)) = true := by simp [h0.1, h0.2]
    have hsh : min x.toNat 64 = x.toNat := by omega
    have hp : 2 ^ x.toNat < 2 ^ 32 := Nat.pow_lt_pow_right (by decide) (by omega)
    have HOR : Hid (bits .or .u64 (bk : Int) ((2 : Int) ^ x.toNat) = ((bk ||| 2 ^ x.toNat : Nat) : Int)) := hid (by
     have h := bits_or_nat bk (2 ^ x.toNat) (by omega) (by omega)
     rw [← h]
     simp)
    have hx0 : ¬ x < 0 := by omega
    have hwr : IntKind.u64.wrap (2 ^ x.toNat) = ((2 ^ x.toNat : Nat) : Int) := by
     rw [IntKind.wrap_u64]
     have e2 : (2 : Int) ^ x.toNat = ((2 ^ x.toNat : Nat) : Int) := by simp
     rw [e2]
     generalize 2 ^ x.toNat = z at hp ⊢
     omega
    have hshl : ∀ W, (binOp .shl 87 (.int .u64 1) (.int .i64 x)).run Tryz.prog W = .ok (.int .u64 ((2 ^ x.toNat : Nat) : Int)) W := fun W => by
     simp [binOp, Op.shift, hx0, IntKind.bits, hsh, hwr]
    by_cases hk0 : (0 : Int) < k
    ·obtain ⟨ds, hE, hcell2⟩ := hgc (k - 1) (by omega)
     unfold CI at hE
     subst hE
     have d0 : w.cell? ⟨g, o + (k - 1), none⟩ = some (.int .i64 xs[k - 1]) := ((Below.refl _ w).cell (p := ⟨g, o + (k - 1), none⟩) hg).trans (by have := hcell2 0 (by omega); rw [Nat.mul_one, Nat.add_zero] at this; exact this)
     have HE := hid (getD_at (show k - 1 < xs.length by omega))
     have hw : IntKind.i64.wrap ((k : Int) - 1) = ((k - 1 : Nat) : Int) := by simp only [IntKind.wrap_i64, wrap64]; omega
     have hk1 : ((k - 1 : Nat) : Int) < xs.length := by omega
     clear hgc hva hcell2
     generalize hy : xs[k - 1] = y at d0 HE
     clear hy
     generalize hkp : k - 1 = kp at d0 HE hw hk1
     by_cases h2 : x ≤ y
     ·have HF := hid (HNo.out (fun h => by have := h.2.2 (by omega); rw [HD.out, hkp, HE.out] at this; omega))
      clear HST HNo HD HE hkp HBS HOR hwr hsh
      go_wp2_with (go_at_call 63; refine (within_any _ _ _ _).mono ?_; rintro e w' ⟨rfl, rfl⟩; rw [hin])
      refine bodyPost_ret (v := .tuple #[.int .u64 0, .bool false]) (by simp [results, Tryz.results52, go_sem]) rfl ⟨.inr ⟨HF.out, rfl⟩, rfl⟩
     ·have HV := hid (HST.out ⟨by rw [HD.out]; omega, by rw [HD.out]; omega, fun _ => by rw [HD.out, hkp, HE.out]; omega⟩)
      clear HST HNo HD HE hkp
      go_wp2_with (go_at_call 63; refine (within_any _ _ _ _).mono ?_; rintro e w' ⟨rfl, rfl⟩; rw [hin])
      go_roundw
      case rel => exact ⟨k + 1, by omega, by rw [HBS.out, ← HOR.out], by go_num, HV, by first | exact rfl | trivial⟩
      case measure => simp [intOf]; omega
    ·have HV := hid (HST.out ⟨by rw [HD.out]; omega, by rw [HD.out]; omega, fun z => by omega⟩)
     clear HST HNo HD hgc hva
     go_wp2_with (go_at_call 63; refine (within_any _ _ _ _).mono ?_; rintro e w' ⟨rfl, rfl⟩; rw [hin])
     go_roundw
     case rel => exact ⟨k + 1, by omega, by rw [HBS.out, ← HOR.out], by go_num, HV, by first | exact rfl | trivial⟩
     case measure => simp [intOf]; omega
   ·have hin : (decide (0 ≤ x) && decide (x ≤ 31)) = false := by simp; omega
    have HF := hid (HNo.out (fun h => by have h1 := h.1; have h2 := h.2.1; rw [HD.out] at h1 h2; omega))
    clear hgc hva HST HNo HD HBS
    go_wp2_with (go_at_call 63; refine (within_any _ _ _ _).mono ?_; rintro e w' ⟨rfl, rfl⟩; rw [hin])
    refine bodyPost_ret (v := .tuple #[.int .u64 0, .bool false]) (by simp [results, Tryz.results52, go_sem]) rfl ⟨.inr ⟨HF.out, rfl⟩, rfl⟩
  ·have hkn : k = xs.length := by omega
   subst hkn
   have hlti : ¬ (xs.length : Int) < xs.length := by omega
   have HT := hid (tab_all HO.out)
   clear HO
   go_wp2
   refine bodyPost_ret (v := .tuple #[.int .u64 ((bitsOf (xs.take xs.length) : Nat) : Int), .bool true]) (by simp [results, Tryz.results52, go_sem]) rfl ⟨.inl ⟨HT.out, by rw [List.take_length]⟩, rfl⟩
theorem concurrent_impl (b c d e : Int) (r s x y : Value) (w : World) :
 Calls Tryz.prog 77 #[.agg #[.int .i64 b, .int .i64 c, r, s], .agg #[.int .i64 d, .int .i64 e, x, y]] w fun en w' => en = .returned (.bool (decide (b < e) && decide (d < c))) ∧ Below w.heap.size w w' := by
 have bw : Below w.heap.size w ((w.alloc (.cells #[.int .i64 b, .int .i64 c, r, s] 89)).alloc (.cells #[.int .i64 d, .int .i64 e, x, y] 89)) := (below_alloc w _).alloc (by simp) _
 by_cases h1 : b < e
 ·by_cases h2 : d < c
  ·have HE : (decide (b < e) && decide (d < c)) = true := by simp [h1, h2]
   rw [HE]
   clear HE
   go_enter Tryz.func77, Tryz.ntmps77
   go_wp2
   go_ret
   exact ⟨rfl, bw⟩
  ·have HE : (decide (b < e) && decide (d < c)) = false := by simp [h2]
   rw [HE]
   clear HE
   go_enter Tryz.func77, Tryz.ntmps77
   go_wp2
   go_ret
   exact ⟨rfl, bw⟩
 ·have HE : (decide (b < e) && decide (d < c)) = false := by simp [h1]
  rw [HE]
  clear HE
  go_enter Tryz.func77, Tryz.ntmps77
  go_wp2
  go_ret
  exact ⟨rfl, bw⟩
set_option maxHeartbeats 4000000 in
theorem leadsTo_impl (b c d e : Int) (r s x y : Nat) (w : World) (hr : r < 4294967296) (hy : y < 4294967296) :
 Calls Tryz.prog 53 #[.agg #[.int .i64 b, .int .i64 c, .int .u64 (r : Int), .int .u64 (s : Int)], .agg #[.int .i64 d, .int .i64 e, .int .u64 (x : Int), .int .u64 (y : Int)]] w fun en w' => RB (c ≠ e ∧ b < e ∧ d < c ∧ r &&& y ≠ 0) en ∧ Below w.heap.size w w' := by
 have bw : Below w.heap.size w ((w.alloc (.cells #[.int .i64 b, .int .i64 c, .int .u64 (r : Int), .int .u64 (s : Int)] 89)).alloc (.cells #[.int .i64 d, .int .i64 e, .int .u64 (x : Int), .int .u64 (y : Int)] 89)) := (below_alloc w _).alloc (by simp) _
 have KA := hid (blkA2 w [.int .i64 b, .int .i64 c, .int .u64 (r : Int), .int .u64 (s : Int)] [.int .i64 d, .int .i64 e, .int .u64 (x : Int), .int .u64 (y : Int)] 89 89)
 have KB := hid (blkD w [.int .i64 b, .int .i64 c, .int .u64 (r : Int), .int .u64 (s : Int)] [.int .i64 d, .int .i64 e, .int .u64 (x : Int), .int .u64 (y : Int)] 89 89)
 by_cases h1 : c = e
 ·have hd : (c != e) = false := by simpa using h1
  have HF : Hid (¬ (c ≠ e ∧ b < e ∧ d < c ∧ r &&& y ≠ 0)) := hid (fun h => h.1 h1)
  clear h1 KA KB
  go_enter Tryz.func53, Tryz.ntmps53
  go_wp2
  go_ret
  exact ⟨rb_f HF.out, bw⟩
 ·have hd : (c != e) = true := by simpa using h1
  cases hA : (decide (b < e) && decide (d < c)) with
  | false =>
    have HF : Hid (¬ (c ≠ e ∧ b < e ∧ d < c ∧ r &&& y ≠ 0)) := hid (fun h => by simp [h.2.1, h.2.2.1] at hA)
    clear h1 KA KB
    go_enter Tryz.func53, Tryz.ntmps53
    go_wp2_with (go_at_call 77; fail)
    refine (concurrent_impl _ _ _ _ _ _ _ _ _).mono ?_
    rintro en w1 ⟨rfl, hb1⟩
    rw [hA]
    have bw1 := bw.trans (hb1.mono bw.size)
    clear hb1
    go_wp2
    go_ret
    exact ⟨rb_f HF.out, bw1⟩
  | true =>
    have hbits := bits_and_nat r y (by omega) (by omega)
    have HP : Hid ((c ≠ e ∧ b < e ∧ d < c ∧ r &&& y ≠ 0) ↔ r &&& y ≠ 0) := hid (by simp at hA; exact ⟨fun h => h.2.2.2, fun h => ⟨h1, hA.1, hA.2, h⟩⟩)
    generalize hz : r &&& y = z at hbits HP
    clear h1 hz
    go_enter Tryz.func53, Tryz.ntmps53
    go_wp2_with (go_at_call 77; fail)
    refine (concurrent_impl _ _ _ _ _ _ _ _ _).mono ?_
    rintro en w1 ⟨rfl, hb1⟩
    rw [hA]
    have bw1 := bw.trans (hb1.mono bw.size)
    have k2 : w1.cell? ⟨w.heap.size, 2, none⟩ = some (.int .u64 (r : Int)) := ((KA.out.below hb1 (by simp; omega)) 2 (by simp)).1
    have k3 : w1.cell? ⟨w.heap.size + 1, 3, none⟩ = some (.int .u64 (y : Int)) := ((KB.out.below hb1 (by simp)) 3 (by simp)).1
    clear hb1 KA KB
    by_cases hz : z = 0
    ·subst hz
     go_wp2
     go_ret
     refine ⟨?_, bw1⟩
     first | (rw [hbits]; exact rb_f (fun h => (HP.out.1 h) rfl)) | exact rb_f (fun h => (HP.out.1 h) rfl)
    ·have hzb : ((z : Int) != 0) = true := by simp; omega
     go_wp2
     go_ret
     refine ⟨?_, bw1⟩
     first | exact rb_t (HP.out.2 hz) | (rw [hbits]; simp [hz]; exact rb_t (HP.out.2 hz))
def dealV (t : TI) : List Value := [.int .i64 t.bgn, .int .i64 t.com, .int .u64 (bitsOf t.reads : Nat), .int .u64 (bitsOf t.writes : Nat)]
def CDl (B : Nat) (w : World) (cs : List Value) (t : TI) : Prop := cs = dealV t ∧ tabP t.reads ∧ tabP t.writes
theorem liesD : Lies 4 CDl := ⟨fun h => by rw [h.1]; rfl, fun h _ => h, fun h _ => h, fun h _ => h⟩
theorem tab_bits {xs : List Int} (h : tabP xs) : bitsOf xs < 4294967296 := bitsOf_lt (tab_of h.2)
theorem tab_meet {xs ys : List Int} (h : tabP xs) (g : tabP ys) : bitsOf xs &&& bitsOf ys ≠ 0 ↔ meetP xs ys := bits_meet (tab_of h.2) (tab_of g.2)
set_option maxHeartbeats 4000000 in
theorem grow_impl (n : Nat) (w : World) (h1 : 1 ≤ n) (hn : n ≤ 1048577) :
 Calls Tryz.prog 110 #[.slice none 0 0, .int .i64 (n : Int)] w fun e w' => ∃ v, e = .returned v ∧ w'.ownsRow w.heap.size 131 4 v 0 [] ∧ Below w.heap.size w w' := by
 obtain ⟨i0, hi, hz0, hz1, hz2⟩ := info_parts infoTI
 have hrz : ∀ ty, (Builtin.append_ #[25, 3] ty #[.slice none 0 0, .int .i64 (n : Int)]).run Tryz.prog w =
  .ok (.slice (some ⟨w.heap.size, 0, none⟩) n (grownCap w n 0 131)) (w.drew.alloc (.cells (([] : List Value).toArray ++ Builtin.zeroCells (Value.agg #[.int .i64 0, .int .i64 0, .slice none 0 0, .slice none 0 0]).cells n ++ Builtin.zeroCells (Value.agg #[.int .i64 0, .int .i64 0, .slice none 0 0, .slice none 0 0]).cells (grownCap w n 0 131 - n)) 131)) := fun ty => by
  have h := Lib.run_append_grow_zeros (P := Tryz.prog) w 25 3 ty 131 i0 _ .i64 .i64 Tryz.underlying25 Tryz.underlying3 hi hz0 none 0 0 [] (run_firstCells_none (w := w.drew) _ 0 0 0) n (by omega) (by rw [hz1]; decide) (by omega) (by omega) (by rw [hz2]; omega)
   (growslice_fits (by omega) (by rw [hz2]; omega))
  simp only [Nat.zero_add] at h
  exact h
 have hGn : n ≤ grownCap w n 0 131 := grownCap_ge w _ _ _
 have hGm := grownCap_le_maxLen w n 0 131 (by unfold maxLen; omega)
 obtain ⟨G, hG⟩ : ∃ G, G = grownCap w n 0 131 := ⟨_, rfl⟩
 rw [← hG] at hrz hGn hGm
 have HGM := hid hGm
 unfold maxLen at hGm
 obtain ⟨cur, hcur⟩ : ∃ cur, cur = (([] : List Value).toArray ++ Builtin.zeroCells (Value.agg #[.int .i64 0, .int .i64 0, .slice none 0 0, .slice none 0 0]).cells n ++ Builtin.zeroCells (Value.agg #[.int .i64 0, .int .i64 0, .slice none 0 0, .slice none 0 0]).cells (G - n)) := ⟨_, rfl⟩
 have hsz : cur.size = G * 4 := by
  rw [hcur, Array.size_append, Array.size_append, size_zeroCells, size_zeroCells]
  have : ((Value.agg #[.int .i64 0, .int .i64 0, .slice none 0 0, .slice none 0 0]).cells).size = 4 := rfl
  rw [this]
  simp
  omega
 rw [← hcur] at hrz
 clear hcur hG
 have HOW : Hid ((w.drew.alloc (.cells cur 131)).ownsRow w.heap.size 131 4 (.slice (some ⟨w.heap.size, 0, none⟩) 0 G) 0 []) := hid (World.ownsRow_made (base := w.heap.size) (e := 131) (size := 4) w.drew cur G (Nat.le_refl _) HGM.out hsz)
 have HBW : Hid (Below w.heap.size w (w.drew.alloc (.cells cur 131))) := hid ((Below.refl _ w).drew.alloc (Nat.le_refl _) _)
 have e0 : ¬ ((n : Int) < 0) := by omega
 have e2 : wrap64 ((n : Int)) = (n : Int) := by unfold wrap64; omega
 have e4 : (n : Int) > 0 := by omega
 clear hsz HGM
 go_enter Tryz.func110, Tryz.ntmps110
 go_wp2_with (at_builtin; refine Lib.wpList_append_run _ rfl _ _ _ _ rfl _ _ rfl rfl _ _ (hrz _) ?_)
 all_goals
  go_ret
  exact ⟨_, rfl, HOW.out, HBW.out⟩
set_option maxHeartbeats 8000000 in
theorem concat_impl (g ca g2 gt : Nat) (us : List TI) (t : TI) (w : World) (hn : us.length ≤ 1048576) (hg2 : g2 < w.heap.size) (h0 : w.cell? ⟨g2, 0, none⟩ = some (.slice (some ⟨g, 0, none⟩) us.length ca)) (h1 : w.cell? ⟨g2, 1, none⟩ = some (.slice (some ⟨gt, 0, none⟩) 1 1))
 (ha : RS 4 CT 0 w (.slice (some ⟨g, 0, none⟩) us.length ca) us) (ht : RS 4 CT 0 w (.slice (some ⟨gt, 0, none⟩) [t].length 1) [t]) :
 Calls Tryz.prog 100 #[.slice (some ⟨g2, 0, none⟩) 2 2] w fun e w' => ∃ v, e = .returned v ∧ RS 4 CT 0 w' v (us ++ [t]) ∧ Below w.heap.size w w' := by
 obtain ⟨i0, hi, hz0, hz1, hz2⟩ := info_parts infoTI
 obtain ⟨news, hfill, hcells⟩ := RS.flat liesT ha
 obtain ⟨cs, cfill, ccells⟩ := RS.flat liesT ht
 have HG : Hid (0 < us.length → g < w.heap.size) := hid (fun h => by obtain ⟨_, _, he, hh⟩ := ha; obtain ⟨g', o', e2, _, h3, _⟩ := hh h; simp only [Value.slice.injEq] at he; rw [← he.1] at e2; cases e2; exact h3)
 have HT : Hid (gt < w.heap.size) := hid (by obtain ⟨_, _, he, hh⟩ := ht; obtain ⟨g', o', e2, _, h3, _⟩ := hh (by simp); simp only [Value.slice.injEq] at he; rw [← he.1] at e2; cases e2; exact h3)
 have HNL : Hid (news.length = us.length * 4) := hfill.1
 have HCL : Hid (cs.length = 1 * 4) := cfill.1
 have HON : Hid (∀ u ∈ news, u.oneCell' = true) := hfill.one oneT liesT
 have HOC : Hid (∀ u ∈ cs, u.oneCell' = true) := cfill.one oneT liesT
 have HCW : Hid (∀ W, Below w.heap.size w W → ∀ j u, news[j]? = some u → W.cell? ((⟨g, 0, none⟩ : Addr).add j) = some u) := hid (fun W hW j u hj => by
  have hp : 0 < us.length := by
   have h1 := (List.getElem?_eq_some_iff.1 hj).1
   rw [hfill.1] at h1; omega
  rw [Addr.add_lit]
  exact (hW.cell (p := ⟨g, 0 + j, none⟩) (HG.out hp)).trans (hcells j u hj))
 have HCT : Hid (∀ W, Below w.heap.size w W → ∀ j u, cs[j]? = some u → W.cell? ((⟨gt, 0, none⟩ : Addr).add j) = some u) := hid (fun W hW j u hj => by
  rw [Addr.add_lit]
  exact (hW.cell (p := ⟨gt, 0 + j, none⟩) HT.out).trans (ccells j u hj))
 have HRS : Hid (∀ W v, Below w.heap.size w W → W.ownsRow w.heap.size 131 4 v (us.length + 1) (news ++ cs) → RS 4 CT 0 W v (us ++ [t])) := hid (fun W v hW ho => by
  have F := (hfill.below liesT hW).append (cfill.below liesT hW)
  exact F.own liesT (own_bs (by simpa using ho) (Nat.zero_le _)) (Nat.le_refl _))
 have e1 : wrap64 ((0 : Int) + (us.length : Int)) = (us.length : Int) := by unfold wrap64; omega
 have e2 : wrap64 ((us.length : Int) + 1) = (us.length : Int) + 1 := by unfold wrap64; omega
 have e3 : ¬ (us.length : Int) < 0 := by omega
 have e4 : ¬ (us.length : Int) + 1 < 0 := by omega
 clear ha ht hfill cfill hcells ccells HG HT
 go_enter Tryz.func100, Tryz.ntmps100
 go_wp2
 go_loopw [3, 11] (fun sv iv wr => ((iv = .int .i64 0 ∧ sv = .int .i64 0) ∨ (iv = .int .i64 1 ∧ sv = .int .i64 us.length) ∨ (iv = .int .i64 2 ∧ sv = .int .i64 ((us.length : Int) + 1))) ∧ wr = w) (fun _ iv _ => 2 - (intOf iv).toNat)
 case atStart => exact ⟨.inl ⟨rfl, rfl⟩, rfl⟩
 case round =>
  obtain ⟨hcs, hww⟩ := hrel
  replace hww := hww.symm
  subst hww
  rcases hcs with ⟨rfl, rfl⟩ | ⟨rfl, rfl⟩ | ⟨rfl, rfl⟩
  ·go_wp2
   go_roundw
   case rel => exact ⟨.inr (.inl ⟨rfl, by first | rfl | go_num⟩), by first | exact rfl | trivial⟩
   case measure => simp [intOf]
  ·go_wp2
   go_roundw
   case rel => exact ⟨.inr (.inr ⟨rfl, by first | rfl | go_num⟩), by first | exact rfl | trivial⟩
   case measure => simp [intOf]
  ·go_wp2_with (go_at_call 110; fail)
   have hgr := grow_impl (us.length + 1) w (by omega) (by omega)
   rw [show ((us.length + 1 : Nat) : Int) = (us.length : Int) + 1 by omega] at hgr
   refine hgr.mono ?_
   rintro e w1 ⟨v, rfl, ho, hb⟩
   have HO := hid ho
   clear hgr ho
   go_wp2
   go_loopw [6, 27] (fun sv iv wr => ((iv = .int .i64 0 ∧ Hid (wr.ownsRow w.heap.size 131 4 sv 0 [])) ∨ (iv = .int .i64 1 ∧ Hid (wr.ownsRow w.heap.size 131 4 sv us.length news)) ∨ (iv = .int .i64 2 ∧ Hid (wr.ownsRow w.heap.size 131 4 sv (us.length + 1) (news ++ cs)))) ∧ Below w.heap.size w wr) (fun _ iv _ => 2 - (intOf iv).toNat)
   case atStart => exact ⟨.inl ⟨rfl, HO⟩, hb⟩
   case round =>
    clear HO hb e1 e2 e3 e4
    obtain ⟨hcs, hb⟩ := hrel
    have k0 : wr.cell? ⟨g2, 0, none⟩ = some (.slice (some ⟨g, 0, none⟩) us.length ca) := (hb.cell (p := ⟨g2, 0, none⟩) hg2).trans h0
    have k1 : wr.cell? ⟨g2, 1, none⟩ = some (.slice (some ⟨gt, 0, none⟩) 1 1) := (hb.cell (p := ⟨g2, 1, none⟩) hg2).trans h1
    rcases hcs with ⟨rfl, HO⟩ | ⟨rfl, HO⟩ | ⟨rfl, HO⟩
    ·go_wp2_with (at_builtin; refine wpList_append_own _ rfl (.tmp 31) (.tmp 32) 25 rfl w.heap.size 131 i0 _ 4 64 Tryz.underlying25 hi hz0 hz1 hz2 rfl (by decide) _ _ _ rfl HO.out ⟨g, 0, none⟩ us.length ca news rfl HNL.out (HCW.out _ hb) HON.out (by unfold maxLen; omega) (by omega) hb.size ?_; intro v' w' hown hgrow _)
     have HO2 := hid hown
     have bw2 : Below w.heap.size w w' := hb.grown hgrow hb.size (fun k hk => (HO.out.lt k hk).1)
     clear hown hgrow HO
     go_wp2
     go_roundw
     case rel => exact ⟨.inr (.inl ⟨rfl, (by simpa using HO2.out : w'.ownsRow w.heap.size 131 4 v' us.length news)⟩), bw2⟩
     case measure => simp [intOf]
    ·go_wp2_with (at_builtin; refine wpList_append_own _ rfl (.tmp 31) (.tmp 32) 25 rfl w.heap.size 131 i0 _ 4 64 Tryz.underlying25 hi hz0 hz1 hz2 rfl (by decide) _ _ _ rfl HO.out ⟨gt, 0, none⟩ 1 1 cs rfl HCL.out (HCT.out _ hb) HOC.out (by unfold maxLen; omega) (by omega) hb.size ?_; intro v' w' hown hgrow _)
     have HO2 := hid hown
     have bw2 : Below w.heap.size w w' := hb.grown hgrow hb.size (fun k hk => (HO.out.lt k hk).1)
     clear hown hgrow HO
     go_wp2
     go_roundw
     case rel => exact ⟨.inr (.inr ⟨rfl, HO2⟩), bw2⟩
     case measure => simp [intOf]
    ·go_wp2
     go_ret
     exact ⟨_, rfl, HRS.out _ _ hb HO.out, hb⟩
theorem rs_nil {α : Type} (K : Nat) (C : Nat → World → List Value → α → Prop) (B : Nat) (w : World) : RS K C B w (.slice none ([] : List α).length 0) [] := ⟨none, 0, rfl, fun h => absurd h (Nat.lt_irrefl 0)⟩
set_option maxHeartbeats 8000000 in
theorem concat_nil (g2 gt : Nat) (t : TI) (w : World) (hg2 : g2 < w.heap.size) (h0 : w.cell? ⟨g2, 0, none⟩ = some (.slice none 0 0)) (h1 : w.cell? ⟨g2, 1, none⟩ = some (.slice (some ⟨gt, 0, none⟩) 1 1))
 (ht : RS 4 CT 0 w (.slice (some ⟨gt, 0, none⟩) [t].length 1) [t]) :
 Calls Tryz.prog 100 #[.slice (some ⟨g2, 0, none⟩) 2 2] w fun e w' => ∃ v, e = .returned v ∧ RS 4 CT 0 w' v [t] ∧ Below w.heap.size w w' := by
 obtain ⟨i0, hi, hz0, hz1, hz2⟩ := info_parts infoTI
 obtain ⟨cs, cfill, ccells⟩ := RS.flat liesT ht
 have HT : Hid (gt < w.heap.size) := hid (by obtain ⟨_, _, he, hh⟩ := ht; obtain ⟨g', o', e2, _, h3, _⟩ := hh (by simp); simp only [Value.slice.injEq] at he; rw [← he.1] at e2; cases e2; exact h3)
 have HCL : Hid (cs.length = 1 * 4) := cfill.1
 have HOC : Hid (∀ u ∈ cs, u.oneCell' = true) := cfill.one oneT liesT
 have HCT : Hid (∀ W, Below w.heap.size w W → ∀ j u, cs[j]? = some u → W.cell? ((⟨gt, 0, none⟩ : Addr).add j) = some u) := hid (fun W hW j u hj => by
  rw [Addr.add_lit]
  exact (hW.cell (p := ⟨gt, 0 + j, none⟩) HT.out).trans (ccells j u hj))
 have HRS : Hid (∀ W v, Below w.heap.size w W → W.ownsRow w.heap.size 131 4 v 1 cs → RS 4 CT 0 W v [t]) := hid (fun W v hW ho => (cfill.below liesT hW).own liesT (own_bs ho (Nat.zero_le _)) (Nat.le_refl _))
 clear ht cfill ccells HT
 go_enter Tryz.func100, Tryz.ntmps100
 go_wp2
 go_loopw [3, 11] (fun sv iv wr => ((iv = .int .i64 0 ∧ sv = .int .i64 0) ∨ (iv = .int .i64 1 ∧ sv = .int .i64 0) ∨ (iv = .int .i64 2 ∧ sv = .int .i64 1)) ∧ wr = w) (fun _ iv _ => 2 - (intOf iv).toNat)
 case atStart => exact ⟨.inl ⟨rfl, rfl⟩, rfl⟩
 case round =>
  obtain ⟨hcs, hww⟩ := hrel
  replace hww := hww.symm
  subst hww
  rcases hcs with ⟨rfl, rfl⟩ | ⟨rfl, rfl⟩ | ⟨rfl, rfl⟩
  ·go_wp2
   go_roundw
   case rel => exact ⟨.inr (.inl ⟨rfl, by first | rfl | go_num⟩), by first | exact rfl | trivial⟩
   case measure => simp [intOf]
  ·go_wp2
   go_roundw
   case rel => exact ⟨.inr (.inr ⟨rfl, by first | rfl | go_num⟩), by first | exact rfl | trivial⟩
   case measure => simp [intOf]
  ·go_wp2_with (go_at_call 110; fail)
   have hgr := grow_impl 1 w (by omega) (by omega)
   rw [show ((1 : Nat) : Int) = 1 from rfl] at hgr
   refine hgr.mono ?_
   rintro e w1 ⟨v, rfl, ho, hb⟩
   have HO := hid ho
   clear hgr ho
   go_wp2
   go_loopw [6, 27] (fun sv iv wr => ((iv = .int .i64 0 ∧ Hid (wr.ownsRow w.heap.size 131 4 sv 0 [])) ∨ (iv = .int .i64 1 ∧ Hid (wr.ownsRow w.heap.size 131 4 sv 0 [])) ∨ (iv = .int .i64 2 ∧ Hid (wr.ownsRow w.heap.size 131 4 sv 1 cs))) ∧ Below w.heap.size w wr) (fun _ iv _ => 2 - (intOf iv).toNat)
   case atStart => exact ⟨.inl ⟨rfl, HO⟩, hb⟩
   case round =>
    clear HO hb
    obtain ⟨hcs, hb⟩ := hrel
    have k0 : wr.cell? ⟨g2, 0, none⟩ = some (.slice none 0 0) := (hb.cell (p := ⟨g2, 0, none⟩) hg2).trans h0
    have k1 : wr.cell? ⟨g2, 1, none⟩ = some (.slice (some ⟨gt, 0, none⟩) 1 1) := (hb.cell (p := ⟨g2, 1, none⟩) hg2).trans h1
    rcases hcs with ⟨rfl, HO⟩ | ⟨rfl, HO⟩ | ⟨rfl, HO⟩
    ·go_wp2_with (at_builtin; refine wpList_append_rs liesT oneT _ rfl (.tmp 31) (.tmp 32) 25 rfl w.heap.size 131 i0 _ 64 Tryz.underlying25 hi hz0 hz1 hz2 rfl (by decide) _ _ _ rfl HO.out none 0 ([] : List TI) rfl (rs_nil _ _ _ _) (by unfold maxLen; simp) (by simp) hb.size ?_; intro news v' w' hfi hown hgrow _; have hnn : news = [] := List.length_eq_zero_iff.1 (by have := hfi.1; simpa using this); subst hnn; clear hfi)
     have HO2 := hid hown
     have bw2 : Below w.heap.size w w' := hb.grown hgrow hb.size (fun k hk => (HO.out.lt k hk).1)
     clear hown hgrow HO
     go_wp2
     go_roundw
     case rel => exact ⟨.inr (.inl ⟨rfl, (by simpa using HO2.out : w'.ownsRow w.heap.size 131 4 v' 0 [])⟩), bw2⟩
     case measure => simp [intOf]
    ·go_wp2_with (at_builtin; refine wpList_append_own _ rfl (.tmp 31) (.tmp 32) 25 rfl w.heap.size 131 i0 _ 4 64 Tryz.underlying25 hi hz0 hz1 hz2 rfl (by decide) _ _ _ rfl HO.out ⟨gt, 0, none⟩ 1 1 cs rfl HCL.out (HCT.out _ hb) HOC.out (by unfold maxLen; omega) (by omega) hb.size ?_; intro v' w' hown hgrow _)
     have HO2 := hid hown
     have bw2 : Below w.heap.size w w' := hb.grown hgrow hb.size (fun k hk => (HO.out.lt k hk).1)
     clear hown hgrow HO
     go_wp2
     go_roundw
     case rel => exact ⟨.inr (.inr ⟨rfl, (by simpa using HO2.out : w'.ownsRow w.heap.size 131 4 v' 1 cs)⟩), bw2⟩
     case measure => simp [intOf]
    ·go_wp2
     go_ret
     exact ⟨_, rfl, HRS.out _ _ hb HO.out, hb⟩
end Go.Proofs.YtblkgicbimflhaaGreat
