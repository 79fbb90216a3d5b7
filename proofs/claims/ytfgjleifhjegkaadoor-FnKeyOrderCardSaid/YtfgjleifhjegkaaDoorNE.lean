import Derived.Test.YtfgjleifhjegkaaDoorKBV
import Derived.Lib.Bytealg
import Derived.Test.YtfgjleifhjegkaaDoorP3
import Derived.Test.YtfgjleifhjegkaaDoorW4
import Derived.Deep.QuietTactic
import Derived.BigQuiet
namespace Go.Proofs.YtfgjleifhjegkaaDoor
open Go.ChangeShapes Go.WideShapes Go.ChangeAt Go.RowKit
set_option linter.unusedVariables false
set_option linter.unusedSimpArgs false
set_option maxRecDepth 100000
/-- One list of bytes is less than another. -/
def ltI : List Int → List Int → Bool
  | _, [] => false
  | [], _ :: _ => true
  | a :: x, b :: y => decide (a < b) || (a == b && ltI x y)
theorem ltI_same (a : Int) (x y : List Int) : ltI (a :: x) (a :: y) = ltI x y := by simp [ltI]
theorem ltI_less {a b : Int} (x y : List Int) (h : a < b) : ltI (a :: x) (b :: y) = true := by simp [ltI, h]
theorem ltI_more {a b : Int} (x y : List Int) (h : b < a) : ltI (a :: x) (b :: y) = false := by
  have h1 : ¬ a < b := by omega
  have h2 : (a == b) = false := by simp; omega
  simp [ltI, h1, h2]
theorem ofNat_lt {a b : Int} (ha : 0 ≤ a ∧ a ≤ 255) (hb : 0 ≤ b ∧ b ≤ 255) : (UInt8.ofNat a.toNat < UInt8.ofNat b.toNat) ↔ a < b := by
  rw [UInt8.lt_iff_toNat_lt]
  simp
  omega
theorem ofNat_eq {a b : Int} (ha : 0 ≤ a ∧ a ≤ 255) (hb : 0 ≤ b ∧ b ≤ 255) : (UInt8.ofNat a.toNat = UInt8.ofNat b.toNat) ↔ a = b := by
  constructor
  · intro h
    have := congrArg UInt8.toNat h
    simp at this
    omega
  · rintro rfl; rfl
theorem less_map : ∀ (x y : List Int), Byt x → Byt y → Op.bytesLess (x.map fun n => UInt8.ofNat n.toNat) (y.map fun n => UInt8.ofNat n.toNat) = ltI x y
  | [], [], _, _ => rfl
  | _ :: _, [], _, _ => rfl
  | [], _ :: _, _, _ => rfl
  | a :: x, b :: y, hx, hy => by
    have ha := hx a (List.mem_cons_self ..)
    have hb := hy b (List.mem_cons_self ..)
    have ih := less_map x y (fun z hz => hx z (List.mem_cons_of_mem _ hz)) (fun z hz => hy z (List.mem_cons_of_mem _ hz))
    rw [List.map_cons, List.map_cons, Op.bytesLess, ltI, ih]
    congr 1
    · rw [decide_eq_decide]; exact ofNat_lt ha hb
    · congr 1
      rw [Bool.eq_iff_iff, beq_iff_eq, beq_iff_eq]
      exact ofNat_eq ha hb
theorem less_nums {x y : List Int} (hx : Byt x) (hy : Byt y) : Op.bytesLess (strOfNums x).toList (strOfNums y).toList = ltI x y := by
  have e : ∀ l : List Int, (strOfNums l).toList = l.map fun n => UInt8.ofNat n.toNat := fun l => by
    rw [ByteArray.toList_eq]
    unfold strOfNums
    simp
  rw [e, e]
  exact less_map x y hx hy
theorem same_nums {x y : List Int} (hx : Byt x) (hy : Byt y) : ((strOfNums x).toList == (strOfNums y).toList) = decide (x = y) := by
  by_cases h : x = y
  · subst h; simp
  · rw [decide_eq_false h, beq_eq_false_iff_ne, ByteArray.toList_eq, ByteArray.toList_eq]
    exact fun e => h (strNums_inj hx hy (Go.WideShapes.bytes_inj e))
theorem ltI_snoc : ∀ (a b : List Int) (x y : Int), a.length = b.length → ltI (a ++ [x]) (b ++ [y]) = (ltI a b || (a == b && decide (x < y)))
  | [], [], x, y, _ => by simp [ltI]
  | [], _ :: _, _, _, h => by simp at h
  | _ :: _, [], _, _, h => by simp at h
  | a :: p, b :: q, x, y, h => by
    have ih := ltI_snoc p q x y (by simpa using h)
    rw [List.cons_append, List.cons_append]
    rcases Int.lt_trichotomy a b with hab | hab | hab
    · rw [ltI_less _ _ hab, ltI_less _ _ hab]; rfl
    · subst hab
      rw [ltI_same, ltI_same, ih]
      congr 1
      have : (a :: p == a :: q) = (p == q) := by simp
      rw [this]
    · rw [ltI_more _ _ hab, ltI_more _ _ hab]
      have : (a :: p == b :: q) = false := by simp; intro e; omega
      rw [this]; rfl
theorem beL_inj {m u v : Nat} (hu : u < 256 ^ m) (hv : v < 256 ^ m) (h : beL m u = beL m v) : u = v := by
  rw [← numL_beL m u hu, ← numL_beL m v hv, h]
theorem ltI_beL : ∀ (m u v : Nat), u < 256 ^ m → v < 256 ^ m → ltI (beL m u) (beL m v) = decide (u < v)
  | 0, u, v, hu, hv => by
    simp at hu hv
    subst hu hv
    rfl
  | m + 1, u, v, hu, hv => by
    have hu' : u / 256 < 256 ^ m := Nat.div_lt_of_lt_mul (by rw [Nat.pow_succ] at hu; omega)
    have hv' : v / 256 < 256 ^ m := Nat.div_lt_of_lt_mul (by rw [Nat.pow_succ] at hv; omega)
    have ih := ltI_beL m (u / 256) (v / 256) hu' hv'
    rw [beL, beL, ltI_snoc _ _ _ _ (by rw [beL_len, beL_len]), ih]
    clear ih hu hv
    by_cases he : u / 256 = v / 256
    · have h1 : (beL m (u / 256) == beL m (v / 256)) = true := by rw [he]; simp
      have h2 : ¬ u / 256 < v / 256 := by omega
      rw [h1, decide_eq_false h2, Bool.false_or, Bool.true_and, decide_eq_decide]
      omega
    · have h1 : (beL m (u / 256) == beL m (v / 256)) = false := by
        rw [beq_eq_false_iff_ne]
        exact fun e => he (beL_inj hu' hv' e)
      rw [h1, Bool.false_and, Bool.or_false, decide_eq_decide]
      omega
theorem ltI_esc : ∀ (x y : List Int), Byt x → Byt y → ltI (escL x ++ [0, 1]) (escL y ++ [0, 1]) = ltI x y
  | [], [], _, _ => rfl
  | [], b :: q, _, hy => by
    have hb := hy b (List.mem_cons_self ..)
    have he : escL (b :: q) = esc1 b ++ escL q := by simp [escL]
    rw [he]
    by_cases h : b = 0
    · subst h
      have : esc1 0 = [0, 255] := by simp [esc1]
      rw [this]
      rfl
    · have : esc1 b = [b] := by simp [esc1, h]
      rw [this]
      show ltI (0 :: [1]) (b :: (escL q ++ [0, 1])) = true
      exact ltI_less _ _ (by omega)
  | a :: p, [], hx, _ => by
    have ha := hx a (List.mem_cons_self ..)
    have he : escL (a :: p) = esc1 a ++ escL p := by simp [escL]
    rw [he]
    by_cases h : a = 0
    · subst h
      have : esc1 0 = [0, 255] := by simp [esc1]
      rw [this]
      show ltI (0 :: 255 :: (escL p ++ [0, 1])) (0 :: [1]) = false
      rw [ltI_same]
      exact ltI_more _ _ (by decide)
    · have : esc1 a = [a] := by simp [esc1, h]
      rw [this]
      show ltI (a :: (escL p ++ [0, 1])) (0 :: [1]) = false
      exact ltI_more _ _ (by omega)
  | a :: p, b :: q, hx, hy => by
    have ha := hx a (List.mem_cons_self ..)
    have hb := hy b (List.mem_cons_self ..)
    have ih := ltI_esc p q (fun z hz => hx z (List.mem_cons_of_mem _ hz)) (fun z hz => hy z (List.mem_cons_of_mem _ hz))
    have hea : escL (a :: p) = esc1 a ++ escL p := by simp [escL]
    have heb : escL (b :: q) = esc1 b ++ escL q := by simp [escL]
    have e0 : esc1 0 = [0, 255] := by simp [esc1]
    rw [hea, heb]
    by_cases h1 : a = 0
    · subst h1
      rw [e0]
      by_cases h2 : b = 0
      · subst h2
        rw [e0]
        show ltI (0 :: 255 :: (escL p ++ [0, 1])) (0 :: 255 :: (escL q ++ [0, 1])) = _
        rw [ltI_same, ltI_same, ltI_same, ih]
      · have : esc1 b = [b] := by simp [esc1, h2]
        rw [this, ltI_less p q (by omega)]
        show ltI (0 :: 255 :: (escL p ++ [0, 1])) (b :: (escL q ++ [0, 1])) = true
        exact ltI_less _ _ (by omega)
    · have ea : esc1 a = [a] := by simp [esc1, h1]
      rw [ea]
      by_cases h2 : b = 0
      · subst h2
        rw [e0, ltI_more p q (by omega)]
        show ltI (a :: (escL p ++ [0, 1])) (0 :: 255 :: (escL q ++ [0, 1])) = false
        exact ltI_more _ _ (by omega)
      · have eb : esc1 b = [b] := by simp [esc1, h2]
        rw [eb]
        show ltI (a :: (escL p ++ [0, 1])) (b :: (escL q ++ [0, 1])) = _
        rcases Int.lt_trichotomy a b with hab | hab | hab
        · rw [ltI_less _ _ hab, ltI_less _ _ hab]
        · subst hab; rw [ltI_same, ltI_same, ih]
        · rw [ltI_more _ _ hab, ltI_more _ _ hab]
theorem cmp_less : ∀ (a b : List UInt8), ltI (a.map fun x => (x.toNat : Int)) (b.map fun x => (x.toNat : Int)) = decide (Lib.compareBytes a b < 0)
  | [], [] => rfl
  | _ :: _, [] => rfl
  | [], _ :: _ => rfl
  | a :: x, b :: y => by
    have ih := cmp_less x y
    rw [List.map_cons, List.map_cons]
    by_cases h1 : a < b
    · have hi : (a.toNat : Int) < (b.toNat : Int) := by have := UInt8.lt_iff_toNat_lt.1 h1; omega
      rw [ltI_less _ _ hi, Lib.compareBytes, if_pos h1]; rfl
    · by_cases h2 : b < a
      · have hi : (b.toNat : Int) < (a.toNat : Int) := by have := UInt8.lt_iff_toNat_lt.1 h2; omega
        rw [ltI_more _ _ hi, Lib.compareBytes, if_neg h1, if_pos h2]; rfl
      · have he : a = b := by
          apply UInt8.toNat_inj.1
          have := mt UInt8.lt_iff_toNat_lt.2 h1
          have := mt UInt8.lt_iff_toNat_lt.2 h2
          omega
        subst he
        rw [ltI_same, ih, Lib.compareBytes, if_neg h1, if_neg h1]
theorem cmp_zero : ∀ (a b : List UInt8), Lib.compareBytes a b = 0 ↔ a = b
  | [], [] => by simp [Lib.compareBytes]
  | _ :: _, [] => by simp [Lib.compareBytes]
  | [], _ :: _ => by simp [Lib.compareBytes]
  | a :: x, b :: y => by
    have ih := cmp_zero x y
    by_cases h1 : a < b
    · rw [Lib.compareBytes, if_pos h1]
      constructor
      · intro h; exact absurd h (by decide)
      · intro h; injection h with h; subst h; exact absurd h1 (by simp)
    · by_cases h2 : b < a
      · rw [Lib.compareBytes, if_neg h1, if_pos h2]
        constructor
        · intro h; exact absurd h (by decide)
        · intro h; injection h with h; subst h; exact absurd h2 (by simp)
      · have he : a = b := by
          apply UInt8.toNat_inj.1
          have := mt UInt8.lt_iff_toNat_lt.2 h1
          have := mt UInt8.lt_iff_toNat_lt.2 h2
          omega
        subst he
        rw [Lib.compareBytes, if_neg h1, if_neg h1, ih]
        simp
def sgnI (a b : Int) : Int := if a < b then -1 else if b < a then 1 else 0
/-- The order of two values of one kind, or NULL. -/
def ordK (t u : VA) : Int :=
  if t.k = 0 ∨ u.k = 0 then sgnI (if t.k = 0 then 0 else 1) (if u.k = 0 then 0 else 1)
  else if t.k = 3 then Lib.compareBytes t.s.data.toList u.s.data.toList
  else sgnI t.n u.n
theorem sgn_neg (a b : Int) : decide (sgnI a b < 0) = decide (a < b) := by
  unfold sgnI
  rw [decide_eq_decide]
  split
  · simp; assumption
  · split <;> simp <;> omega
theorem sgn_zero (a b : Int) : sgnI a b = 0 ↔ a = b := by
  unfold sgnI
  split
  · constructor <;> intro h <;> omega
  · split <;> constructor <;> intro h <;> omega
theorem key_less {t u : VA} (ht : vok t.k t.n t.s = true) (hu : vok u.k u.n u.s = true) (g1 : -9223372036854775808 ≤ t.n ∧ t.n ≤ 9223372036854775807) (g2 : -9223372036854775808 ≤ u.n ∧ u.n ≤ 9223372036854775807) (hk : t.k = u.k ∨ t.k = 0 ∨ u.k = 0) :
    ltI (keyP t.k t.n t.s) (keyP u.k u.n u.s) = decide (ordK t u < 0) := by
  obtain ⟨k, n, s⟩ := t
  obtain ⟨k', n', s'⟩ := u
  simp only at *
  have e8 : 256 ^ 8 = 18446744073709551616 := by decide
  have e4 : 256 ^ 4 = 4294967296 := by decide
  have hpos : ∀ k n s, vok k n s = true → k ≠ 0 → ∃ c r, keyP k n s = c :: r ∧ 0 < c := fun k n s hv hk0 => by
    rcases vokK hv with rfl | rfl | rfl | rfl | ⟨rfl, a, b⟩ | ⟨rfl, a, b⟩
    · exact absurd rfl hk0
    · exact ⟨16, _, by simp [keyP]; rfl, by decide⟩
    · exact ⟨32, _, by simp [keyP]; rfl, by decide⟩
    · exact ⟨48, _, by simp [keyP]; rfl, by decide⟩
    · exact ⟨64, _, by simp [keyP]; rfl, by decide⟩
    · exact ⟨80, _, by simp [keyP]; rfl, by decide⟩
  have hnull : ∀ n s, keyP 0 n s = [0] := fun n s => by simp [keyP]
  by_cases h0 : k = 0
  · subst h0
    by_cases h0' : k' = 0
    · subst h0'
      rw [hnull, hnull]
      simp [ordK, sgnI, ltI]
    · obtain ⟨c, r, he, hc⟩ := hpos k' n' s' hu h0'
      rw [hnull, he, ltI_less _ _ hc]
      simp [ordK, sgnI, h0']
  by_cases h0' : k' = 0
  · subst h0'
    obtain ⟨c, r, he, hc⟩ := hpos k n s ht h0
    rw [hnull, he, ltI_more _ _ hc]
    simp [ordK, sgnI, h0]
  have hkk : k = k' := hk.elim id fun h => h.elim (fun h => absurd h h0) fun h => absurd h h0'
  subst hkk
  have ho : ordK ⟨k, n, s⟩ ⟨k, n', s'⟩ = if k = 3 then Lib.compareBytes s.data.toList s'.data.toList else sgnI n n' := by
    unfold ordK
    simp only
    rw [if_neg (by simp [h0])]
  rw [ho]
  clear ho hpos hnull
  rcases vokK ht with rfl | rfl | rfl | rfl | ⟨rfl, a, b⟩ | ⟨rfl, a, b⟩
  · exact absurd rfl h0
  · have e : ∀ n s, keyP 1 n s = 16 :: beL 8 (n + 9223372036854775808).toNat := fun n s => by simp [keyP]
    rw [e, e, ltI_same, ltI_beL 8 _ _ (by rw [e8]; omega) (by rw [e8]; omega), if_neg (by decide), sgn_neg, decide_eq_decide]
    omega
  · have e : ∀ n s, keyP 2 n s = 32 :: beL 8 (n + 9223372036854775808).toNat := fun n s => by simp [keyP]
    rw [e, e, ltI_same, ltI_beL 8 _ _ (by rw [e8]; omega) (by rw [e8]; omega), if_neg (by decide), sgn_neg, decide_eq_decide]
    omega
  · have e : ∀ n s, keyP 3 n s = 48 :: (escL (strI s) ++ [0, 1]) := fun n s => by simp [keyP]
    rw [e, e, ltI_same, ltI_esc _ _ (strI_byt s) (strI_byt s'), if_pos rfl]
    exact cmp_less _ _
  · have hb := vokK hu
    have e : ∀ n s, keyP 4 n s = [64, n] := fun n s => by simp [keyP]
    rw [e, e, ltI_same, if_neg (by decide), sgn_neg]
    simp [ltI]
  · have hb := vokK hu
    have hb' : -719162 ≤ n' ∧ n' ≤ 2932896 := by
      rcases hb with h | h | h | h | ⟨h, _, _⟩ | ⟨h, a, b⟩
      all_goals first | exact ⟨a, b⟩ | omega
    have e : ∀ n s, keyP 5 n s = 80 :: beL 4 (n + 2147483648).toNat := fun n s => by simp [keyP]
    rw [e, e, ltI_same, ltI_beL 4 _ _ (by rw [e4]; omega) (by rw [e4]; omega), if_neg (by decide), sgn_neg, decide_eq_decide]
    omega
end Go.Proofs.YtfgjleifhjegkaaDoor
namespace Go.Proofs.YtfgjleifhjegkaaDoor
open Go.ChangeShapes Go.WideShapes Go.ChangeAt Go.RowKit
set_option linter.unusedVariables false
set_option linter.unusedSimpArgs false
set_option maxRecDepth 100000
open Go.Shelf
theorem ret_two {k l : IntKind} {a b c d : Int} (h : a = c) (g : b = d) : Ending.returned (.tuple #[.int k a, .int l b]) = .returned (.tuple #[.int k c, .int l d]) := by rw [h, g]
def zB (b : Bool) : Int := if b then 1 else 0
theorem below_drewN {B : Nat} {a w : World} (h : Below B a w) (n : Nat) : Below B a (w.drewN n) := ⟨h.os, h.tape, h.output, h.size, h.block⟩
def sgn (a b : Int) : Int := if a < b then -1 else if b < a then 1 else 0
theorem sign_any (a b : Int) (w : World) : Calls Tryd.prog 49 #[.int .i64 a, .int .i64 b] w fun e w' => e = .returned (.int .i64 (sgn a b)) ∧ w' = w := by
  go_enter Tryd.func49, Tryd.ntmps49
  go_wp2
  all_goals
    go_ret
    refine ⟨ret_i ?_, rfl⟩
    go_light
    unfold sgn
    split <;> (try split) <;> omega
theorem hide {p : Prop} (h : p) : Hid p := h
theorem bit_any (b : Bool) (w : World) : Calls Tryd.prog 50 #[.bool b] w fun e w' => e = .returned (.int .i64 (zB b)) ∧ w' = w := by
  cases b
  all_goals
    go_enter Tryd.func50, Tryd.ntmps50
    go_wp2
    go_ret
    exact ⟨rfl, rfl⟩
theorem cmpL_len : ∀ (xs ys : List Int), xs = [] ∨ ys = [] → cmpL xs ys = sgn xs.length ys.length
  | [], [], _ => rfl
  | [], y :: ys, _ => by simp only [cmpL, sgn, List.length_nil, List.length_cons]; rw [if_pos (by omega)]
  | x :: xs, [], _ => by simp only [cmpL, sgn, List.length_nil, List.length_cons]; rw [if_neg (by omega), if_pos (by omega)]
  | x :: xs, y :: ys, h => by simp at h
theorem cmpL_same (a : Int) (xs ys : List Int) : cmpL (a :: xs) (a :: ys) = cmpL xs ys := by simp [cmpL]
theorem cmpL_diff (a b : Int) (xs ys : List Int) (h : a ≠ b) : cmpL (a :: xs) (b :: ys) = sgn a b := by
  unfold cmpL sgn; split; rfl; split; rfl; omega
theorem owns_cells {w : World} {base e n : Nat} {v : Value} {xs : List Int} (h : w.ownsRow base e 1 v n (xs.map (Value.int .i64))) : ∃ a cap, v = .slice a n cap ∧ ∀ j : Nat, j < xs.length → ∃ g, a = some ⟨g, 0, none⟩ ∧ base ≤ g ∧ g < w.heap.size ∧ w.cell? ⟨g, j, none⟩ = some (.int .i64 (xs.getD j 0)) := by
  have hl := h.1
  have h2 := h.2
  rcases h2 with ⟨rfl, rfl⟩ | ⟨g, cap, cur, rfl, hb, hg, _, _, _, ht⟩
  · refine ⟨none, 0, rfl, fun j hj => ?_⟩
    simp at hl; subst hl; simp at hj
  · refine ⟨some ⟨g, 0, none⟩, cap, rfl, fun j hj => ⟨g, rfl, hb, ?_, ?_⟩⟩
    · exact (h.lt g rfl).2
    · have := h.cells (g := g) rfl j (.int .i64 (xs.getD j 0)) (by simp [List.getD, hj])
      simp only [Addr.add] at this
      by_cases e : j = 0
      · subst e; simpa using this
      · simpa [e] using this
theorem CharsPost.get {s : ByteArray} {w w' : World} {e : Ending} {cs : List Int} (h : CharsPost s w e w') (hx : chars s = some cs) : ∃ v, e = .returned (.tuple #[v, .bool true]) ∧ w'.ownsRow w.heap.size 3 1 v cs.length (cs.map (Value.int .i64)) ∧ Below w.heap.size w w' := by
  rcases h with ⟨ds, v, hch, rfl, hown, hb⟩ | ⟨a, hch, _, _⟩
  · rw [hx] at hch; cases hch; exact ⟨v, rfl, hown, hb⟩
  · rw [hx] at hch; cases hch
set_option maxHeartbeats 4000000 in
theorem compare_spec_text (n1 : Int) (s1 : ByteArray) (n2 : Int) (s2 : ByteArray) (xs ys : List Int) (w : World) (hs1 : s1.size ≤ 1048576) (hs2 : s2.size ≤ 1048576) (hv1 : vok 3 n1 s1 = true) (hv2 : vok 3 n2 s2 = true) (hx : chars s1 = some xs) (hy : chars s2 = some ys) :
    Calls Tryd.prog 27 #[.agg #[.int .i64 3, .int .i64 n1, .string s1], .agg #[.int .i64 3, .int .i64 n2, .string s2]] w fun e w' => e = .returned (.tuple #[.int .i64 (cmpL xs ys), .int .i64 0]) ∧ Below w.heap.size w w' := by
  have bw0 : Below w.heap.size w ((w.alloc (.cells #[.int .i64 3, .int .i64 n1, .string s1] 39)).alloc (.cells #[.int .i64 3, .int .i64 n2, .string s2] 39)) := (below_alloc w _).alloc (by simp) _
  have HV1 : Hid (vok 3 n1 s1 = true) := hv1
  have HV2 : Hid (vok 3 n2 s2 = true) := hv2
  have HX : Hid (chars s1 = some xs) := hx
  have HY : Hid (chars s2 = some ys) := hy
  have lx := (count_eq s1 xs hx).2.2
  have ly := (count_eq s2 ys hy).2.2
  clear hv1 hv2 hx hy
  go_enter Tryd.func27, Tryd.ntmps27
  go_wp2_with fail
  refine (vok_spec 3 n1 s1 _ hs1).mono ?_
  rw [HV1.out]
  rintro e w1 ⟨rfl, hb⟩
  obtain ⟨hc, hf⟩ := bcell hb
  have bw1 : Below w.heap.size w w1 := bw0.trans (hb.mono (by simp; omega))
  have hz1 : w.heap.size + 1 < w1.heap.size := by have := hb.size; simp at this; omega
  have hy1 : w.heap.size < w1.heap.size := by omega
  go_wp2_with fail
  refine (vok_spec 3 n2 s2 _ hs2).mono ?_
  rw [HV2.out]
  rintro e w2 ⟨rfl, hb2⟩
  obtain ⟨hc2, hf2⟩ := bcell hb2
  have bw2 : Below w.heap.size w w2 := bw1.trans (hb2.mono bw1.size)
  have hz2 : w.heap.size + 1 < w2.heap.size := by have := hb2.size; omega
  have hy2 : w.heap.size < w2.heap.size := by omega
  go_wp2_with fail
  refine (chars_any s1 _ hs1).mono ?_
  intro e w3 hcp
  obtain ⟨v1, rfl, hown1, hb3⟩ := CharsPost.get hcp HX.out
  clear hcp
  obtain ⟨hc3, hf3⟩ := bcell hb3
  have bw3 : Below w.heap.size w w3 := bw2.trans (hb3.mono bw2.size)
  have hz3 : w.heap.size + 1 < w3.heap.size := by have := hb3.size; omega
  have hy3 : w.heap.size < w3.heap.size := by omega
  go_wp2_with fail
  refine (chars_any s2 _ hs2).mono ?_
  intro e w4 hcp
  obtain ⟨v2, rfl, hown2, hb4⟩ := CharsPost.get hcp HY.out
  clear hcp
  have bw4 : Below w.heap.size w w4 := bw3.trans (hb4.mono bw3.size)
  obtain ⟨a1, c1, rfl, hcell1⟩ := owns_cells hown1
  obtain ⟨a2, c2, rfl, hcell2⟩ := owns_cells hown2
  have hk1 : ∀ j : Nat, j < xs.length → ∃ g, a1 = some ⟨g, 0, none⟩ ∧ w4.cell? ⟨g, j, none⟩ = some (.int .i64 (xs.getD j 0)) := fun j hj => by
    obtain ⟨g, e1, _, e3, e4⟩ := hcell1 j hj
    exact ⟨g, e1, (hb4.cell (p := ⟨g, j, none⟩) e3).trans e4⟩
  have hk2 : ∀ j : Nat, j < ys.length → ∃ g, a2 = some ⟨g, 0, none⟩ ∧ w4.cell? ⟨g, j, none⟩ = some (.int .i64 (ys.getD j 0)) := fun j hj => by
    obtain ⟨g, e1, _, e3, e4⟩ := hcell2 j hj
    exact ⟨g, e1, e4⟩
  have HK1 := hide hk1
  have HK2 := hide hk2
  clear hk1 hk2 hcell1 hcell2 hown1 hown2 hb hb2 hb3 hb4 hc hf hc2 hf2 hc3 hf3 bw1 bw2 bw3
  go_wp2
  go_loopw [10] (fun i wr => ∃ (j nq : Nat), i = .int .i64 j ∧ j ≤ xs.length ∧ j ≤ ys.length ∧ wr = w4.drewN nq ∧ cmpL xs ys = cmpL (xs.drop j) (ys.drop j)) (fun i _ => xs.length - (intOf i).toNat)
  case atStart => exact ⟨0, 0, rfl, by omega, by omega, rfl, by simp⟩
  case round =>
    obtain ⟨j, nq, rfl, hj1, hj2, rfl, hcm⟩ := hrel
    have HC : Hid (cmpL xs ys = cmpL (xs.drop j) (ys.drop j)) := hcm
    clear hcm
    by_cases h1 : j < xs.length
    · by_cases h2 : j < ys.length
      · obtain ⟨g1, rfl, hcl1⟩ := HK1.out j h1
        obtain ⟨g2, rfl, hcl2⟩ := HK2.out j h2
        have h1' : (j : Int) < xs.length := by omega
        have h2' : (j : Int) < ys.length := by omega
        have XD : Hid (xs.drop j = xs.getD j 0 :: xs.drop (j + 1)) := (by rw [List.drop_eq_getElem_cons h1]; simp [List.getD, h1] : xs.drop j = xs.getD j 0 :: xs.drop (j + 1))
        have YD : Hid (ys.drop j = ys.getD j 0 :: ys.drop (j + 1)) := (by rw [List.drop_eq_getElem_cons h2]; simp [List.getD, h2] : ys.drop j = ys.getD j 0 :: ys.drop (j + 1))
        generalize xs.getD j 0 = x at *
        generalize ys.getD j 0 = y at *
        by_cases hxy : x = y
        · have HS : Hid (cmpL xs ys = cmpL (xs.drop (j + 1)) (ys.drop (j + 1))) := (by rw [HC.out, XD.out, YD.out, hxy, cmpL_same] : cmpL xs ys = cmpL (xs.drop (j + 1)) (ys.drop (j + 1)))
          have hb : (x != y) = false := by simpa using hxy
          clear hxy XD YD HC
          go_wp2
          go_quiet (fail)
          go_wp2
          go_roundw
          case rel => exact ⟨j + 1, _, by go_num, by omega, by omega, rfl, HS.out⟩
          case measure => simp [intOf]; omega
        · have HS : Hid (cmpL xs ys = sgn x y) := (by rw [HC.out, XD.out, YD.out, cmpL_diff _ _ _ _ hxy] : cmpL xs ys = sgn x y)
          have hb : (x != y) = true := by simpa using hxy
          clear hxy XD YD HC
          go_wp2
          go_quiet (fail)
          go_wp2
          go_quiet ((go_at_call 49; refine (sign_any _ _ _).mono ?_; rintro e w' ⟨rfl, rfl⟩; exact ⟨rfl, _, rfl⟩))
          go_wp2
          go_ret2
          exact ⟨ret_two HS.out.symm rfl, below_drewN (below_drewN (below_drewN bw4 _) _) _⟩
      · have HS : Hid (cmpL xs ys = sgn xs.length ys.length) := (by
          have e : ys.drop j = [] := List.drop_eq_nil_of_le (by omega)
          rw [HC.out, e, cmpL_len _ _ (.inr rfl)]
          simp only [List.length_drop, List.length_nil, sgn]
          split <;> split <;> (try split) <;> (try split) <;> omega : cmpL xs ys = sgn xs.length ys.length)
        have h1' : (j : Int) < xs.length := by omega
        have h2' : ¬ (j : Int) < ys.length := by omega
        go_wp2_with (go_at_call 49; refine (sign_any _ _ _).mono ?_; rintro e w' ⟨rfl, rfl⟩)
        go_ret2
        exact ⟨ret_two HS.out.symm rfl, below_drewN bw4 _⟩
    · have HS : Hid (cmpL xs ys = sgn xs.length ys.length) := (by
        have e : xs.drop j = [] := List.drop_eq_nil_of_le (by omega)
        rw [HC.out, e, cmpL_len _ _ (.inl rfl)]
        simp only [List.length_drop, List.length_nil, sgn]
        split <;> split <;> (try split) <;> (try split) <;> omega : cmpL xs ys = sgn xs.length ys.length)
      have h1' : ¬ (j : Int) < xs.length := by omega
      go_wp2_with (go_at_call 49; refine (sign_any _ _ _).mono ?_; rintro e w' ⟨rfl, rfl⟩)
      go_ret2
      exact ⟨ret_two HS.out.symm rfl, below_drewN bw4 _⟩
theorem vok_text {n : Int} {s : ByteArray} (h : vok 3 n s = true) : ∃ xs, chars s = some xs := by
  cases e : chars s with
  | some xs => exact ⟨xs, rfl⟩
  | none => simp [vok, textOK_none e] at h
theorem ordK_null {t u : VA} (h : t.k = 0 ∨ u.k = 0) : ordK t u = sgn (zB (t.k != 0)) (zB (u.k != 0)) := by
  unfold ordK
  rw [if_pos h]
  by_cases h1 : t.k = 0 <;> by_cases h2 : u.k = 0 <;> simp [h1, h2, zB, sgn, sgnI]
set_option maxHeartbeats 8000000 in
theorem compare_K (k1 n1 : Int) (s1 : ByteArray) (k2 n2 : Int) (s2 : ByteArray) (w : World) (hs1 : s1.size ≤ 1048576) (hs2 : s2.size ≤ 1048576) (hv1 : vok k1 n1 s1 = true) (hv2 : vok k2 n2 s2 = true) (hk : k1 = k2 ∨ k1 = 0 ∨ k2 = 0) :
    Calls Tryd.prog 27 #[.agg #[.int .i64 k1, .int .i64 n1, .string s1], .agg #[.int .i64 k2, .int .i64 n2, .string s2]] w fun e w' => e = .returned (.tuple #[.int .i64 (ordK ⟨k1, n1, s1⟩ ⟨k2, n2, s2⟩), .int .i64 0]) ∧ Below w.heap.size w w' := by
  have bw0 : Below w.heap.size w ((w.alloc (.cells #[.int .i64 k1, .int .i64 n1, .string s1] 39)).alloc (.cells #[.int .i64 k2, .int .i64 n2, .string s2] 39)) := (below_alloc w _).alloc (by simp) _
  have HV1 : Hid (vok k1 n1 s1 = true) := hv1
  have HV2 : Hid (vok k2 n2 s2 = true) := hv2
  by_cases hz : k1 = 0 ∨ k2 = 0
  · have HR : Hid (ordK ⟨k1, n1, s1⟩ ⟨k2, n2, s2⟩ = sgn (zB (k1 != 0)) (zB (k2 != 0))) := ordK_null hz
    have cs : (k1 == 0) = true ∨ ((k1 == 0) = false ∧ (k2 == 0) = true) := by simp only [beq_iff_eq, beq_eq_false_iff_ne]; omega
    generalize ordK ⟨k1, n1, s1⟩ ⟨k2, n2, s2⟩ = od at *
    clear hv1 hv2 hz hk
    rcases cs with c1 | ⟨c1, c2⟩
    all_goals
      go_enter Tryd.func27, Tryd.ntmps27
      go_wp2_with fail
      refine (vok_spec k1 n1 s1 _ hs1).mono ?_
      rw [HV1.out]
      rintro e w1 ⟨rfl, hb⟩
      obtain ⟨hc, hf⟩ := bcell hb
      have bw1 : Below w.heap.size w w1 := bw0.trans (hb.mono (by simp; omega))
      have hz1 : w.heap.size + 1 < w1.heap.size := by have := hb.size; simp at this; omega
      have hy1 : w.heap.size < w1.heap.size := by omega
      go_wp2_with fail
      refine (vok_spec k2 n2 s2 _ hs2).mono ?_
      rw [HV2.out]
      rintro e w2 ⟨rfl, hb2⟩
      obtain ⟨hc2, hf2⟩ := bcell hb2
      have bw2 : Below w.heap.size w w2 := bw1.trans (hb2.mono bw1.size)
      have hz2 : w.heap.size + 1 < w2.heap.size := by have := hb2.size; omega
      have hy2 : w.heap.size < w2.heap.size := by omega
      go_wp2
      go_quiet (first | (go_at_call 49; refine (sign_any _ _ _).mono ?_; rintro e w' ⟨rfl, rfl⟩; exact ⟨rfl, _, rfl⟩) | (go_at_call 50; refine (bit_any _ _).mono ?_; rintro e w' ⟨rfl, rfl⟩; exact ⟨rfl, _, rfl⟩))
      go_wp2
      go_ret2
      exact ⟨ret_two (by rw [HR.out]) rfl, below_drewN bw2 _⟩
  · have hkk : k1 = k2 := by omega
    subst hkk
    have hk0 : k1 ≠ 0 := fun h => hz (.inl h)
    have e1 : (k1 == 0) = false := by simp [hk0]
    by_cases h3 : k1 = 3
    · subst h3
      obtain ⟨xs, hx⟩ := vok_text hv1
      obtain ⟨ys, hy⟩ := vok_text hv2
      have HR : ordK ⟨3, n1, s1⟩ ⟨3, n2, s2⟩ = cmpL xs ys := by
        unfold ordK
        simp only
        rw [if_neg (by decide), if_pos trivial, cmp_text s1 s2 xs ys hx hy]
      rw [HR]
      exact compare_spec_text n1 s1 n2 s2 xs ys w hs1 hs2 hv1 hv2 hx hy
    · have e3 : (k1 != 3) = true := by simpa using h3
      have HR : ordK ⟨k1, n1, s1⟩ ⟨k1, n2, s2⟩ = sgn n1 n2 := by
        unfold ordK
        simp only
        rw [if_neg (by simp [hk0]), if_neg h3]
        rfl
      rw [HR]
      clear hv1 hv2 hz hk h3 HR hk0
      go_enter Tryd.func27, Tryd.ntmps27
      go_wp2_with fail
      refine (vok_spec k1 n1 s1 _ hs1).mono ?_
      rw [HV1.out]
      rintro e w1 ⟨rfl, hb⟩
      obtain ⟨hc, hf⟩ := bcell hb
      have bw1 : Below w.heap.size w w1 := bw0.trans (hb.mono (by simp; omega))
      have hz1 : w.heap.size + 1 < w1.heap.size := by have := hb.size; simp at this; omega
      have hy1 : w.heap.size < w1.heap.size := by omega
      go_wp2_with fail
      refine (vok_spec k1 n2 s2 _ hs2).mono ?_
      rw [HV2.out]
      rintro e w2 ⟨rfl, hb2⟩
      obtain ⟨hc2, hf2⟩ := bcell hb2
      have bw2 : Below w.heap.size w w2 := bw1.trans (hb2.mono bw1.size)
      have hz2 : w.heap.size + 1 < w2.heap.size := by have := hb2.size; omega
      have hy2 : w.heap.size < w2.heap.size := by omega
      go_wp2_with (go_at_call 49; refine (sign_any _ _ _).mono ?_; rintro e w' ⟨rfl, rfl⟩)
      go_ret2
      exact ⟨rfl, bw2⟩
theorem key_eq {t u : VA} (ht : vok t.k t.n t.s = true) (hu : vok u.k u.n u.s = true) (g1 : -9223372036854775808 ≤ t.n ∧ t.n ≤ 9223372036854775807) (g2 : -9223372036854775808 ≤ u.n ∧ u.n ≤ 9223372036854775807) (hk : t.k = u.k ∨ t.k = 0 ∨ u.k = 0) : keyP t.k t.n t.s = keyP u.k u.n u.s ↔ ordK t u = 0 := by
  constructor
  · intro h
    have h1 := gst_key t [] ht g1.1 g1.2
    have h2 := gst_key u [] hu g2.1 g2.2
    rw [h, h2] at h1
    simp only [Option.some.injEq, Prod.mk.injEq] at h1
    have := h1.1
    subst this
    unfold ordK
    by_cases h0 : u.k = 0
    · rw [if_pos (.inl h0)]; simp [sgnI]
    · rw [if_neg (by simp [h0])]
      by_cases h3 : u.k = 3
      · rw [if_pos h3]; exact (cmp_zero _ _).2 rfl
      · rw [if_neg h3]; simp [sgnI]
  · intro h
    have key : t = u := by
      obtain ⟨k, n, s⟩ := t
      obtain ⟨k', n', s'⟩ := u
      simp only at *
      have z : ∀ k n s, vok k n s = true → k ≠ 3 → s = noS := fun k n s hv hk3 => by
        apply Go.WideShapes.bytes_inj
        exact List.eq_nil_of_length_eq_zero (by rw [Array.length_toList]; exact vok_size hv hk3)
      have z0 : ∀ n s, vok 0 n s = true → n = 0 := fun n s hv => by
        unfold vok at hv; simp at hv; exact hv.1
      have z3 : ∀ n s, vok 3 n s = true → n = 0 := fun n s hv => by
        unfold vok at hv; simp at hv; exact hv.1
      unfold ordK at h
      simp only at h
      by_cases h0 : k = 0
      · subst h0
        rw [if_pos (.inl rfl)] at h
        by_cases h0' : k' = 0
        · subst h0'
          rw [z0 n s ht, z0 n' s' hu, z 0 n s ht (by decide), z 0 n' s' hu (by decide)]
        · rw [if_pos rfl, if_neg h0'] at h
          exact absurd h (by decide)
      by_cases h0' : k' = 0
      · subst h0'
        rw [if_pos (.inr rfl), if_neg h0, if_pos rfl] at h
        exact absurd h (by decide)
      have hkk : k = k' := hk.elim id fun h => h.elim (fun h => absurd h h0) fun h => absurd h h0'
      subst hkk
      rw [if_neg (by simp [h0])] at h
      by_cases h3 : k = 3
      · subst h3
        rw [if_pos rfl] at h
        have := (cmp_zero _ _).1 h
        have hss : s = s' := Go.WideShapes.bytes_inj this
        rw [z3 n s ht, z3 n' s' hu, hss]
      · rw [if_neg h3] at h
        rw [(sgn_zero _ _).1 h, z k n s ht h3, z k n' s' hu h3]
    rw [key]
end Go.Proofs.YtfgjleifhjegkaaDoor
