import Derived.Test.YtdcdoeolaongkaaGreatDoorW3
import Derived.Test.YtdcdoeolaongkaaGreatDoorU1
namespace Go.Proofs.YtdcdoeolaongkaaGreatDoor.Rd
open Go.ChangeShapes Go.WideShapes Go.ChangeAt Go.RowKit Go.Shelf
set_option linter.unusedVariables false
set_option linter.unusedSimpArgs false
set_option maxRecDepth 100000
theorem ret_nb {k : IntKind} {a b : Int} {c d : Bool} (h : a = b) (g : c = d) : Ending.returned (.tuple #[.int k a, .bool c]) = .returned (.tuple #[.int k b, .bool d]) := by rw [h, g]
def isD (b : UInt8) : Bool := decide (48 ≤ b.toNat) && decide (b.toNat ≤ 57)
theorem isD_yes {b : UInt8} (h : isD b = true) : 48 ≤ b.toNat ∧ b.toNat ≤ 57 := by simpa [isD] using h
theorem isD_no {b : UInt8} (h : isD b = false) : b.toNat < 48 ∨ 57 < b.toNat := by simp [isD] at h; omega
def allD (l : List UInt8) : Bool := l.all isD
def numL (l : List UInt8) : Nat := l.foldl (fun n b => 10 * n + (b.toNat - 48)) 0
theorem numL_snoc (l : List UInt8) (b : UInt8) : numL (l ++ [b]) = 10 * numL l + (b.toNat - 48) := by simp [numL]
theorem allD_snoc (l : List UInt8) (b : UInt8) : allD (l ++ [b]) = (allD l && isD b) := by simp [allD]
theorem fold_lt : ∀ (l : List UInt8) (acc : Nat), allD l = true → l.foldl (fun n b => 10 * n + (b.toNat - 48)) acc < (acc + 1) * 10 ^ l.length
  | [], acc, _ => by simp
  | b :: l, acc, h => by
    simp only [allD, List.all_cons, Bool.and_eq_true] at h
    have h1 := fold_lt l (10 * acc + (b.toNat - 48)) h.2
    have h2 := isD_yes h.1
    rw [List.foldl_cons, List.length_cons, Nat.pow_succ, Nat.mul_comm (10 ^ l.length) 10, ← Nat.mul_assoc]
    refine Nat.lt_of_lt_of_le h1 (Nat.mul_le_mul_right _ (by omega))
theorem numL_lt {l : List UInt8} (h : allD l = true) : numL l < 10 ^ l.length := by
  have := fold_lt l 0 h
  simpa [numL] using this
theorem take_snoc (s : ByteArray) (k : Nat) (h : k < s.size) : s.data.toList.take (k + 1) = s.data.toList.take k ++ [s[k]] := by
  rw [List.take_succ_eq_append_getElem (by simpa using h)]; rfl
theorem take_full (s : ByteArray) : s.data.toList.take s.size = s.data.toList := List.take_of_length_le (by rw [Lib.size_eq]; exact Nat.le_refl _)
theorem allD_step {s : ByteArray} {k : Nat} (h : k < s.size) (hp : allD (s.data.toList.take k) = true) (hk : isD s[k] = true) : allD (s.data.toList.take (k + 1)) = true := by
  rw [take_snoc s k h, allD_snoc, hp, hk]; rfl
theorem allD_no {s : ByteArray} {k : Nat} (h : k < s.size) (hk : isD s[k] = false) : allD s.data.toList = false := by
  simp only [allD, List.all_eq_false]
  exact ⟨s[k], List.getElem_mem (by simpa using h), by simp [hk]⟩
/-- 1 to most digits. -/
def arD (l : List UInt8) (most : Nat) : Bool := allD l && (decide (1 ≤ l.length) && decide (l.length ≤ most))
theorem arD_no {s : ByteArray} {most : Nat} (h : allD s.data.toList = false) : arD s.data.toList most = false := by simp [arD, h]
theorem len_eq (s : ByteArray) : s.data.toList.length = s.size := (Lib.size_eq s).symm
theorem arD_len {s : ByteArray} {most : Nat} (h : s.size < 1 ∨ most < s.size) : arD s.data.toList most = false := by
  rw [Bool.eq_false_iff]
  intro c
  simp only [arD, len_eq, Bool.and_eq_true, decide_eq_true_eq] at c
  omega
theorem arD_yes {s : ByteArray} {most : Nat} (h : allD s.data.toList = true) : arD s.data.toList most = (decide ((1 : Int) ≤ (s.size : Int)) && decide (s.size ≤ most)) := by
  rw [arD, h, len_eq, Bool.true_and]
  congr 1
  simp
  omega
theorem arD_is {l : List UInt8} {most : Nat} (h : arD l most = true) : allD l = true ∧ 1 ≤ l.length ∧ l.length ≤ most := by simpa [arD] using h
set_option maxHeartbeats 1000000 in
theorem areDigits_any (s : ByteArray) (most : Nat) (w : World) (hs : s.size ≤ 1048576) (hm : most ≤ 100) :
    Calls Tryz.prog 157 #[.string s, .int .i64 most] w fun e w' => e = .returned (.bool (arD s.data.toList most)) ∧ Below w.heap.size w w' := by
  go_enter Tryz.func157, Tryz.ntmps157
  go_wp2
  go_loopw [6] (fun _ w' => ∃ pos : Nat, pos ≤ s.size ∧ w' = w.iter s pos ∧ Hid (allD (s.data.toList.take pos) = true)) (fun _ w' => s.size - w'.iterPos w.heap.size)
  case atStart => exact ⟨0, Nat.zero_le _, rfl, (rfl : allD [] = true)⟩
  case round =>
    obtain ⟨pos, hpl, rfl, HA⟩ := hrel
    by_cases hp : pos < s.size
    · cases hd : isD s[pos]
      · have HN : Hid (arD s.data.toList most = false) := arD_no (allD_no hp hd)
        have hn := isD_no hd
        clear hd HA
        by_cases ha : (s[pos]'hp).toNat < 128
        · have hnx : ∀ ty, (Instr.next (.pointer (some ⟨w.heap.size, 0, none⟩)) true ty).run Tryz.prog (w.iter s pos) = _ := fun ty => run_next_ascii w s pos ty hp ha
          generalize (s[pos]'hp).toNat = c at hnx hn
          rcases hn with h1 | h1
          · have h2 : (c : Int) < 48 := by omega
            go_wp2
            go_ret
            exact ⟨ret_bool HN.out.symm, iter_below _ _ _⟩
          · have h2 : ¬ (c : Int) < 48 := by omega
            have h3 : (57 : Int) < c := by omega
            go_wp2
            go_ret
            exact ⟨ret_bool HN.out.symm, iter_below _ _ _⟩
        · have hhi := decode_high s pos hp (by omega)
          have hnx : ∀ ty, (Instr.next (.pointer (some ⟨w.heap.size, 0, none⟩)) true ty).run Tryz.prog (w.iter s pos) = _ := fun ty => run_next_any w s pos ty hp
          generalize Utf8.decode s pos = c at hnx hhi
          obtain ⟨c1, c2⟩ := c
          simp only at hnx hhi
          have h2 : ¬ (c1 : Int) < 48 := by omega
          have h3 : (57 : Int) < c1 := by omega
          clear hn ha
          go_wp2
          go_ret
          exact ⟨ret_bool HN.out.symm, iter_below _ _ _⟩
      · have HY : Hid (allD (s.data.toList.take (pos + 1)) = true) := allD_step hp HA.out hd
        have hy := isD_yes hd
        have hnx : ∀ ty, (Instr.next (.pointer (some ⟨w.heap.size, 0, none⟩)) true ty).run Tryz.prog (w.iter s pos) = _ := fun ty => run_next_ascii w s pos ty hp (by omega)
        clear hd HA
        generalize (s[pos]'hp).toNat = c at hnx hy
        have h2 : ¬ (c : Int) < 48 := by omega
        have h3 : ¬ (57 : Int) < c := by omega
        go_wp2
        go_roundw
        case rel => exact ⟨pos + 1, by omega, rfl, HY⟩
        case measure => simp; omega
    · have hpe : pos = s.size := by omega
      subst hpe
      have HR : Hid (arD s.data.toList most = (decide ((1 : Int) ≤ (s.size : Int)) && decide (s.size ≤ most))) := arD_yes (by have := HA.out; rwa [take_full] at this)
      have hnx : ∀ ty, (Instr.next (.pointer (some ⟨w.heap.size, 0, none⟩)) true ty).run Tryz.prog (w.iter s s.size) = _ := fun ty => run_next_end w s s.size ty hp
      clear HA
      go_wp2_with (go_at_call 52; refine (within_any _ _ _ _).mono ?_; rintro e w' ⟨rfl, rfl⟩)
      go_ret
      exact ⟨ret_bool HR.out.symm, iter_below _ _ _⟩
theorem pow18 {l : List UInt8} (h : allD l = true) (hl : l.length ≤ 18) : numL l < 1000000000000000000 := by
  have h1 := numL_lt h
  have h2 : (10 : Nat) ^ l.length ≤ 10 ^ 18 := Nat.pow_le_pow_right (by omega) hl
  have h3 : (10 : Nat) ^ 18 = 1000000000000000000 := by decide
  omega
theorem allD_take {l : List UInt8} (h : allD l = true) (k : Nat) : allD (l.take k) = true := by
  simp only [allD, List.all_eq_true] at h ⊢
  exact fun x hx => h x (List.mem_of_mem_take hx)
theorem allD_at {s : ByteArray} (h : allD s.data.toList = true) (k : Nat) (hk : k < s.size) : isD s[k] = true := by
  simp only [allD, List.all_eq_true] at h
  exact h _ (List.getElem_mem (by simpa using hk))
set_option maxHeartbeats 1000000 in
theorem wordOf_any (s : ByteArray) (w : World) (hs : s.size ≤ 19) (hd : allD s.data.toList = true) :
    Calls Tryz.prog 159 #[.string s] w fun e w' => e = .returned (.int .u64 (numL s.data.toList : Nat)) ∧ Below w.heap.size w w' := by
  have HD : Hid (allD s.data.toList = true) := hd
  clear hd
  go_enter Tryz.func159, Tryz.ntmps159
  go_wp2
  go_loopw [3, 5] (fun n _ w' => ∃ pos m : Nat, pos ≤ s.size ∧ w' = w.iter s pos ∧ n = .int .u64 m ∧ Hid (numL (s.data.toList.take pos) = m)) (fun _ _ w' => s.size - w'.iterPos w.heap.size)
  case atStart => exact ⟨0, 0, Nat.zero_le _, rfl, rfl, (rfl : numL [] = 0)⟩
  case round =>
    obtain ⟨pos, m, hpl, rfl, rfl, HA⟩ := hrel
    by_cases hp : pos < s.size
    · have hy := isD_yes (allD_at HD.out pos hp)
      have hnx : ∀ ty, (Instr.next (.pointer (some ⟨w.heap.size, 0, none⟩)) true ty).run Tryz.prog (w.iter s pos) = _ := fun ty => run_next_ascii w s pos ty hp (by omega)
      have HS : Hid (numL (s.data.toList.take (pos + 1)) = 10 * m + ((s[pos]'hp).toNat - 48)) := (by rw [take_snoc s pos hp, numL_snoc, HA.out] : numL (s.data.toList.take (pos + 1)) = 10 * m + ((s[pos]'hp).toNat - 48))
      have hm : m < 1000000000000000000 := by
        have := pow18 (allD_take HD.out pos) (by rw [List.length_take]; omega)
        rw [HA.out] at this; exact this
      clear HA
      generalize (s[pos]'hp).toNat = c at hnx hy HS
      have hc1 : (48 : Int) ≤ c := by omega
      have hc2 : (c : Int) ≤ 57 := by omega
      have hmi : (m : Int) < 1000000000000000000 := by omega
      go_wp2
      go_roundw
      case rel => exact ⟨pos + 1, 10 * m + (c - 48), by omega, rfl, by go_light; congr 1; omega, HS⟩
      case measure => simp; omega
    · have hpe : pos = s.size := by omega
      subst hpe
      have hnx : ∀ ty, (Instr.next (.pointer (some ⟨w.heap.size, 0, none⟩)) true ty).run Tryz.prog (w.iter s s.size) = _ := fun ty => run_next_end w s s.size ty hp
      have HR : Hid (numL s.data.toList = m) := by have := HA.out; rwa [take_full] at this
      clear HA
      go_wp2
      go_ret
      exact ⟨ret_int (by rw [HR.out]), iter_below _ _ _⟩
/-- What the given l01Digits tells. -/
def dgN (l : List UInt8) (most : Nat) : Nat := if arD l most = true then numL l else 0
set_option maxHeartbeats 1000000 in
theorem digits_spec (s : ByteArray) (most : Nat) (w : World) (hs : s.size ≤ 1048576) (hm : most ≤ 19) :
    Calls Tryz.prog 177 #[.string s, .int .i64 most] w fun e w' => e = .returned (.tuple #[.int .u64 (dgN s.data.toList most : Nat), .bool (arD s.data.toList most)]) ∧ w' = w := by
  by_cases hl : s.size < 1 ∨ most < s.size
  · have HN : Hid (arD s.data.toList most = false) := arD_len hl
    have e1 : dgN s.data.toList most = 0 := by unfold dgN; rw [HN.out]; rfl
    rw [e1, HN.out]
    clear e1
    rcases hl with h | h
    · have h1 : (s.size : Int) < 1 := by omega
      go_enter Tryz.func177, Tryz.ntmps177
      go_wp2
      go_ret2
      exact ⟨rfl, rfl⟩
    · have h1 : ¬ (s.size : Int) < 1 := by omega
      have h2 : (most : Int) < s.size := by omega
      go_enter Tryz.func177, Tryz.ntmps177
      go_wp2
      go_ret2
      exact ⟨rfl, rfl⟩
  · have h1 : ¬ (s.size : Int) < 1 := by omega
    have h2 : ¬ (most : Int) < s.size := by omega
    have h3 : s.size ≤ 19 := by omega
    have HLEN : Hid (1 ≤ s.size ∧ s.size ≤ most) := (by omega : 1 ≤ s.size ∧ s.size ≤ most)
    clear hl
    go_enter Tryz.func177, Tryz.ntmps177
    go_wp2
    go_loop [6, 7] (fun n i => ∃ k m : Nat, k ≤ s.size ∧ i = .int .i64 k ∧ n = .int .u64 m ∧ Hid (allD (s.data.toList.take k) = true ∧ numL (s.data.toList.take k) = m)) (fun _ i => s.size - (intOf i).toNat)
    case atStart => exact ⟨0, 0, Nat.zero_le _, rfl, rfl, (⟨rfl, rfl⟩ : allD [] = true ∧ numL [] = 0)⟩
    case round =>
      obtain ⟨k, m, hk, rfl, rfl, HA⟩ := hrel
      by_cases hp : k < s.size
      · have hlti : (k : Int) < s.size := by omega
        cases hd : isD s[k]
        · have HN : Hid (arD s.data.toList most = false) := arD_no (allD_no hp hd)
          have HN0 : Hid (dgN s.data.toList most = 0) := (by unfold dgN; rw [HN.out]; rfl : dgN s.data.toList most = 0)
          have hn := isD_no hd
          clear hd HA
          obtain ⟨c, hc⟩ : ∃ c, c = (s[k]'hp).toNat := ⟨_, rfl⟩
          rw [← hc] at hn
          have hci : ((s[k]'hp).toNat : Int) = c := by omega
          clear hc
          rcases hn with g | g
          · have g1 : (c : Int) < 48 := by omega
            go_wp2
            go_ret2
            exact ⟨ret_nb (by rw [HN0.out]; rfl) HN.out.symm, rfl⟩
          · have g1 : ¬ (c : Int) < 48 := by omega
            have g2 : (57 : Int) < c := by omega
            go_wp2
            go_ret2
            exact ⟨ret_nb (by rw [HN0.out]; rfl) HN.out.symm, rfl⟩
        · have HY : Hid (allD (s.data.toList.take (k + 1)) = true ∧ numL (s.data.toList.take (k + 1)) = 10 * m + ((s[k]'hp).toNat - 48)) := ⟨allD_step hp HA.out.1 hd, by rw [take_snoc s k hp, numL_snoc, HA.out.2]⟩
          have hy := isD_yes hd
          have hm : m < 1000000000000000000 := by
            have := pow18 HA.out.1 (by rw [List.length_take]; omega)
            rw [HA.out.2] at this; exact this
          clear hd HA
          obtain ⟨c, hc⟩ : ∃ c, c = (s[k]'hp).toNat := ⟨_, rfl⟩
          rw [← hc] at hy HY
          have hci : ((s[k]'hp).toNat : Int) = c := by omega
          clear hc
          have g1 : ¬ (c : Int) < 48 := by omega
          have g2 : ¬ (57 : Int) < c := by omega
          have g3 : (48 : Int) ≤ c := by omega
          have g4 : (c : Int) ≤ 57 := by omega
          have hmi : (m : Int) < 1000000000000000000 := by omega
          go_wp2
          go_round
          case rel => exact ⟨k + 1, 10 * m + (c - 48), by omega, by go_num, by go_light; congr 1; omega, HY⟩
          case measure => simp [intOf]; omega
      · have hpe : k = s.size := by omega
        subst hpe
        have hlti : ¬ (s.size : Int) < s.size := by omega
        have HR : Hid (arD s.data.toList most = true) := (by
          have h := HA.out.1
          rw [take_full] at h
          simp only [arD, h, len_eq, Bool.true_and, Bool.and_eq_true, decide_eq_true_eq]
          exact HLEN.out : arD s.data.toList most = true)
        have HM : Hid (dgN s.data.toList most = m) := (by have h := HA.out.2; rw [take_full] at h; unfold dgN; rw [HR.out]; exact h : dgN s.data.toList most = m)
        clear HA
        go_wp2
        go_ret2
        exact ⟨ret_nb (by rw [HM.out]) HR.out.symm, rfl⟩
end Go.Proofs.YtdcdoeolaongkaaGreatDoor.Rd
