import Derived.Test.YtjfgojlnpbehfaaCB
import Derived.Laws.Bits64
namespace Go.Proofs.Ytjfgojlnpbehfaa
open Go.ChangeShapes Go.WideShapes Go.ChangeAt Go.RowKit
set_option linter.unusedVariables false
set_option linter.unusedSimpArgs false
set_option maxRecDepth 100000
theorem toNat_u64 (a : Nat) (ha : a < 18446744073709551616) : (BitVec.ofInt 64 (a : Int)).toNat = a := by
  rw [BitVec.ofInt_natCast, BitVec.toNat_ofNat]; exact Nat.mod_eq_of_lt (by omega)
theorem bits_or_nat (a b : Nat) (ha : a < 18446744073709551616) (hb : b < 18446744073709551616) : bits .or .u64 (a : Int) (b : Int) = ((a ||| b : Nat) : Int) := by
  have hx : a ||| b < 2 ^ 64 := Nat.or_lt_two_pow (by omega) (by omega)
  show IntKind.u64.wrap ((BitVec.ofInt 64 (a : Int) ||| BitVec.ofInt 64 (b : Int)).toNat : Int) = _
  rw [BitVec.toNat_or, toNat_u64 a ha, toNat_u64 b hb, IntKind.wrap_u64]
  omega
theorem bits_and_nat (a b : Nat) (ha : a < 18446744073709551616) (hb : b < 18446744073709551616) : bits .and .u64 (a : Int) (b : Int) = ((a &&& b : Nat) : Int) := by
  have hx : a &&& b < 2 ^ 64 := Nat.and_lt_two_pow _ (by omega)
  show IntKind.u64.wrap ((BitVec.ofInt 64 (a : Int) &&& BitVec.ofInt 64 (b : Int)).toNat : Int) = _
  rw [BitVec.toNat_and, toNat_u64 a ha, toNat_u64 b hb, IntKind.wrap_u64]
  omega
/-- Tables as bits. -/
def bitsOf (xs : List Int) : Nat := xs.foldl (fun b t => b ||| 2 ^ t.toNat) 0
theorem bitsOf_step {xs : List Int} {k : Nat} (h : k < xs.length) : bitsOf (xs.take (k + 1)) = bitsOf (xs.take k) ||| 2 ^ xs[k].toNat := by
  unfold bitsOf
  rw [show xs.take (k + 1) = xs.take k ++ [xs[k]] by rw [List.take_add_one, List.getElem?_eq_getElem h]; rfl, List.foldl_append]
  rfl
theorem fold_bit (i : Nat) : ∀ (xs : List Int) (b : Nat), ((xs.foldl (fun b t => b ||| 2 ^ t.toNat) b).testBit i = true ↔ b.testBit i = true ∨ ∃ x ∈ xs, x.toNat = i)
  | [], b => by simp
  | x :: r, b => by
    rw [List.foldl_cons, fold_bit i r, Nat.testBit_or, Nat.testBit_two_pow]
    simp only [Bool.or_eq_true, decide_eq_true_eq, List.mem_cons, exists_eq_or_imp]
    exact or_assoc
theorem bitsOf_bit (xs : List Int) (i : Nat) : (bitsOf xs).testBit i = true ↔ ∃ x ∈ xs, x.toNat = i := by
  unfold bitsOf
  rw [fold_bit]
  simp
theorem fold_lt : ∀ (xs : List Int) (b : Nat), (∀ x ∈ xs, x < 32) → b < 2 ^ 32 → xs.foldl (fun b t => b ||| 2 ^ t.toNat) b < 2 ^ 32
  | [], b, _, h => h
  | x :: r, b, hx, h => by
    rw [List.foldl_cons]
    refine fold_lt r _ (fun y hy => hx y (List.mem_cons_of_mem _ hy)) (Nat.or_lt_two_pow h ?_)
    have := hx x List.mem_cons_self
    exact Nat.pow_lt_pow_right (by decide) (by omega)
theorem tab_of {xs : List Int} (h : ∀ j, j < xs.length → tabAt xs j) : ∀ x ∈ xs, 0 ≤ x ∧ x < 32 := fun x hx => by
  obtain ⟨i, hi, rfl⟩ := List.getElem_of_mem hx
  have := h i hi
  unfold tabAt at this
  rw [getD_at hi] at this
  exact ⟨this.1, this.2.1⟩
theorem bitsOf_lt {xs : List Int} (h : ∀ x ∈ xs, 0 ≤ x ∧ x < 32) : bitsOf xs < 2 ^ 32 := fold_lt xs 0 (fun x hx => (h x hx).2) (by decide)
theorem tab_rise {xs : List Int} (h : ∀ j, j < xs.length → tabAt xs j) : ∀ i, i < xs.length → (i : Int) ≤ xs.getD i 0
  | 0, hi => (h 0 hi).1
  | i + 1, hi => by
    have h1 := tab_rise h i (by omega)
    have h2 := (h (i + 1) hi).2.2 (by omega)
    rw [show i + 1 - 1 = i from rfl] at h2
    omega
theorem tab_all {xs : List Int} (h : ∀ j, j < xs.length → tabAt xs j) : tabP xs := ⟨by
  rcases Nat.eq_zero_or_pos xs.length with h0 | h0
  · omega
  · have h1 := tab_rise h (xs.length - 1) (by omega)
    have h2 := (h (xs.length - 1) (by omega)).2.1
    omega, h⟩
theorem bits_meet {xs ys : List Int} (hx : ∀ x ∈ xs, 0 ≤ x ∧ x < 32) (hy : ∀ x ∈ ys, 0 ≤ x ∧ x < 32) : bitsOf xs &&& bitsOf ys ≠ 0 ↔ meetP xs ys := by
  constructor
  · intro h
    apply Classical.byContradiction
    intro hn
    apply h
    apply Nat.eq_of_testBit_eq
    intro i
    rw [Nat.testBit_and, Nat.zero_testBit]
    apply Bool.eq_false_iff.2
    intro hb
    rw [Bool.and_eq_true, bitsOf_bit, bitsOf_bit] at hb
    obtain ⟨⟨x, x1, x2⟩, y, y1, y2⟩ := hb
    have := hx x x1
    have := hy y y1
    exact hn ⟨x, x1, by rw [show x = y by omega]; exact y1⟩
  · rintro ⟨x, h1, h2⟩ h0
    have h3 : (bitsOf xs &&& bitsOf ys).testBit x.toNat = true := by
      rw [Nat.testBit_and, Bool.and_eq_true, bitsOf_bit, bitsOf_bit]
      exact ⟨⟨x, h1, rfl⟩, x, h2, rfl⟩
    rw [h0, Nat.zero_testBit] at h3
    cases h3
theorem within_any (x a b : Int) (w : World) :
    Calls Try.prog 47 #[.int .i64 x, .int .i64 a, .int .i64 b] w fun e w' => e = .returned (.bool (decide (a ≤ x) && decide (x ≤ b))) ∧ w' = w := by
  by_cases h1 : a ≤ x
  · by_cases h2 : x ≤ b
    · have HE : (decide (a ≤ x) && decide (x ≤ b)) = true := by simp [h1, h2]
      rw [HE]
      clear HE
      go_enter Try.func47, Try.ntmps47
      go_wp2
      go_ret
      exact ⟨rfl, rfl⟩
    · have HE : (decide (a ≤ x) && decide (x ≤ b)) = false := by simp [h2]
      rw [HE]
      clear HE
      go_enter Try.func47, Try.ntmps47
      go_wp2
      go_ret
      exact ⟨rfl, rfl⟩
  · have HE : (decide (a ≤ x) && decide (x ≤ b)) = false := by simp [h1]
    rw [HE]
    clear HE
    go_enter Try.func47, Try.ntmps47
    go_wp2
    go_ret
    exact ⟨rfl, rfl⟩
def BitsR (xs : List Int) (e : Ending) : Prop := (tabP xs ∧ e = .returned (.tuple #[.int .u64 (bitsOf xs : Nat), .bool true])) ∨ (¬ tabP xs ∧ e = .returned (.tuple #[.int .u64 0, .bool false]))
set_option maxHeartbeats 4000000 in
theorem tableBits_impl (a : Option Addr) (ca : Nat) (xs : List Int) (w : World) (hn : xs.length ≤ 1048576) (ha : RS 1 CI 0 w (.slice a xs.length ca) xs) :
    Calls Try.prog 39 #[.slice a xs.length ca] w fun e w' => BitsR xs e ∧ w' = w := by
  obtain ⟨a', ca', he, hva⟩ := ha
  simp only [Value.slice.injEq] at he
  obtain ⟨rfl, _, rfl⟩ := he
  go_enter Try.func39, Try.ntmps39
  go_wp2
  go_loopw [4, 9] (fun bv i wr => ∃ k : Nat, k ≤ xs.length ∧ bv = .int .u64 ((bitsOf (xs.take k) : Nat) : Int) ∧ i = .int .i64 k ∧ Hid (∀ j, j < k → tabAt xs j) ∧ wr = w) (fun _ i _ => xs.length - (intOf i).toNat)
  case atStart => exact ⟨0, Nat.zero_le _, rfl, rfl, (fun x h => absurd h (Nat.not_lt_zero _) : ∀ j, j < 0 → tabAt xs j), rfl⟩
  case round =>
    obtain ⟨k, hk, rfl, rfl, HO, hww⟩ := hrel
    replace hww := hww.symm
    subst hww
    by_cases hlt : k < xs.length
    · have hlti : (k : Int) < xs.length := by omega
      obtain ⟨g, o, rfl, _, hg, hgc⟩ := hva (by omega)
      obtain ⟨cs, hC, hcell⟩ := hgc k hlt
      unfold CI at hC
      subst hC
      have c0 : w.cell? ⟨g, o + k, none⟩ = some (.int .i64 xs[k]) := ((Below.refl _ w).cell (p := ⟨g, o + k, none⟩) hg).trans (by have := hcell 0 (by omega); rw [Nat.mul_one, Nat.add_zero] at this; exact this)
      have HST : Hid (tabAt xs k → ∀ j, j < k + 1 → tabAt xs j) := (fun z j hj => by
        by_cases e : j = k
        · subst e; exact z
        · exact HO.out j (by omega) : tabAt xs k → ∀ j, j < k + 1 → tabAt xs j)
      have HNo : Hid (¬ tabAt xs k → ¬ tabP xs) := (fun z h => z (h.2 k hlt) : ¬ tabAt xs k → ¬ tabP xs)
      have HD := hid (getD_at hlt)
      have HBS := hid (bitsOf_step hlt)
      have hBL : bitsOf (xs.take k) < 2 ^ 32 := bitsOf_lt (fun x hx => by
        obtain ⟨i, hi, rfl⟩ := List.getElem_of_mem hx
        have hi' : i < k := by rw [List.length_take] at hi; omega
        have := HO.out i hi'
        unfold tabAt at this
        rw [getD_at (show i < xs.length by omega)] at this
        rw [List.getElem_take]
        exact ⟨this.1, this.2.1⟩)
      clear hcell HO
      generalize hx : xs[k] = x at c0 HD HBS
      clear hx
      generalize hBk : bitsOf (xs.take k) = bk at hBL HBS ⊢
      clear hBk
      by_cases h0 : 0 ≤ x ∧ x ≤ 31
      · have hin : (decide (0 ≤ x) && decide (x ≤ 31)) = true := by simp [h0.1, h0.2]
        have hsh : min x.toNat 64 = x.toNat := by omega
        have hp : 2 ^ x.toNat < 2 ^ 32 := Nat.pow_lt_pow_right (by decide) (by omega)
        have HOR : Hid (bits .or .u64 (bk : Int) ((2 : Int) ^ x.toNat) = ((bk ||| 2 ^ x.toNat : Nat) : Int)) := (by
          have h := bits_or_nat bk (2 ^ x.toNat) (by omega) (by omega)
          rw [← h]
          simp : bits .or .u64 (bk : Int) ((2 : Int) ^ x.toNat) = ((bk ||| 2 ^ x.toNat : Nat) : Int))
        have hx0 : ¬ x < 0 := by omega
        have hwr : IntKind.u64.wrap (2 ^ x.toNat) = ((2 ^ x.toNat : Nat) : Int) := by
          rw [IntKind.wrap_u64]
          have e2 : (2 : Int) ^ x.toNat = ((2 ^ x.toNat : Nat) : Int) := by simp
          rw [e2]
          generalize 2 ^ x.toNat = z at hp ⊢
          omega
        have hshl : ∀ W, (binOp .shl 53 (.int .u64 1) (.int .i64 x)).run Try.prog W = .ok (.int .u64 ((2 ^ x.toNat : Nat) : Int)) W := fun W => by
          simp [binOp, Op.shift, hx0, IntKind.bits, hsh, hwr]
        by_cases hk0 : (0 : Int) < k
        · obtain ⟨ds, hE, hcell2⟩ := hgc (k - 1) (by omega)
          unfold CI at hE
          subst hE
          have d0 : w.cell? ⟨g, o + (k - 1), none⟩ = some (.int .i64 xs[k - 1]) := ((Below.refl _ w).cell (p := ⟨g, o + (k - 1), none⟩) hg).trans (by have := hcell2 0 (by omega); rw [Nat.mul_one, Nat.add_zero] at this; exact this)
          have HE := hid (getD_at (show k - 1 < xs.length by omega))
          have hw : IntKind.i64.wrap ((k : Int) - 1) = ((k - 1 : Nat) : Int) := by simp only [IntKind.wrap_i64, wrap64]; omega
          have hk1 : ((k - 1 : Nat) : Int) < xs.length := by omega
          clear hgc hva hcell2
          generalize hy : xs[k - 1] = y at d0 HE
          clear hy
          generalize hkp : k - 1 = kp at d0 HE hw hk1
          by_cases h2 : x ≤ y
          · have HF := hid (HNo.out (fun h => by have := h.2.2 (by omega); rw [HD.out, hkp, HE.out] at this; omega))
            clear HST HNo HD HE hkp HBS HOR hwr hsh
            go_wp2_with (go_at_call 47; refine (within_any _ _ _ _).mono ?_; rintro e w' ⟨rfl, rfl⟩; rw [hin])
            refine bodyPost_ret (v := .tuple #[.int .u64 0, .bool false]) (by simp [results, Try.results39, go_sem]) rfl ⟨.inr ⟨HF.out, rfl⟩, rfl⟩
          · have HV := hid (HST.out ⟨by rw [HD.out]; omega, by rw [HD.out]; omega, fun _ => by rw [HD.out, hkp, HE.out]; omega⟩)
            clear HST HNo HD HE hkp
            go_wp2_with (go_at_call 47; refine (within_any _ _ _ _).mono ?_; rintro e w' ⟨rfl, rfl⟩; rw [hin])
            go_roundw
            case rel => exact ⟨k + 1, by omega, by rw [HBS.out, ← HOR.out], by go_num, HV, by first | exact rfl | trivial⟩
            case measure => simp [intOf]; omega
        · have HV := hid (HST.out ⟨by rw [HD.out]; omega, by rw [HD.out]; omega, fun z => by omega⟩)
          clear HST HNo HD hgc hva
          go_wp2_with (go_at_call 47; refine (within_any _ _ _ _).mono ?_; rintro e w' ⟨rfl, rfl⟩; rw [hin])
          go_roundw
          case rel => exact ⟨k + 1, by omega, by rw [HBS.out, ← HOR.out], by go_num, HV, by first | exact rfl | trivial⟩
          case measure => simp [intOf]; omega
      · have hin : (decide (0 ≤ x) && decide (x ≤ 31)) = false := by simp; omega
        have HF := hid (HNo.out (fun h => by have h1 := h.1; have h2 := h.2.1; rw [HD.out] at h1 h2; omega))
        clear hgc hva HST HNo HD HBS
        go_wp2_with (go_at_call 47; refine (within_any _ _ _ _).mono ?_; rintro e w' ⟨rfl, rfl⟩; rw [hin])
        refine bodyPost_ret (v := .tuple #[.int .u64 0, .bool false]) (by simp [results, Try.results39, go_sem]) rfl ⟨.inr ⟨HF.out, rfl⟩, rfl⟩
    · have hkn : k = xs.length := by omega
      subst hkn
      have hlti : ¬ (xs.length : Int) < xs.length := by omega
      have HT := hid (tab_all HO.out)
      clear HO
      go_wp2
      refine bodyPost_ret (v := .tuple #[.int .u64 ((bitsOf (xs.take xs.length) : Nat) : Int), .bool true]) (by simp [results, Try.results39, go_sem]) rfl ⟨.inl ⟨HT.out, by rw [List.take_length]⟩, rfl⟩
end Go.Proofs.Ytjfgojlnpbehfaa
