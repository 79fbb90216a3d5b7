import Derived.Test.YtdcdoeolaongkaaGreatDoorU1
import Derived.Test.YtdcdoeolaongkaaGreatDoorS1
import Derived.Lib.ItoaNum
import Derived.Lib.ItoaMem
import Derived.Laws.BytesArg
import Derived.Lib.ItoaLen
namespace Go.Proofs.YtdcdoeolaongkaaGreatDoor
open Go.ChangeShapes Go.WideShapes Go.ChangeAt Go.RowKit Go.Shelf
set_option linter.unusedVariables false
set_option linter.unusedSimpArgs false
set_option maxRecDepth 100000
theorem size_any (n : Int) (w : World) (wn : (Lit.int .i64 n).wf = true) : Calls Tryz.prog 133 #[.int .i64 n] w fun e w' => e = .returned (.int .u64 n.natAbs) ∧ w' = w := by
  have bn := wf_in wn
  clear wn
  by_cases h : n < 0
  all_goals
    go_enter Tryz.func133, Tryz.ntmps133
    go_wp2
    go_ret
    refine ⟨ret_int ?_, rfl⟩
    go_light
    unfold inI at bn
    simp only [IntKind.wrap, IntKind.bits, IntKind.signed, wrap64] at *
    simp
    omega
theorem conv_one (W : World) (x : Int) : (convert 27 9 (.slice (some ⟨W.heap.size, 0, none⟩) 1 1)).run Tryz.prog (W.alloc (.cells #[.int .u8 x] 5)) = .ok (.string ⟨#[UInt8.ofNat x.toNat]⟩) (W.alloc (.cells #[.int .u8 x] 5)) := by
  have := run_convert_bytes_arg (P := Tryz.prog) (W.alloc (.cells #[.int .u8 x] 5)) 27 5 Tryz.underlying27 Tryz.underlying5 W.heap.size 0 1 1 [x] rfl (by
    intro i hi
    have : i = 0 := by omega
    subst this
    simp [go_sem]) 9 Tryz.underlying9
  simpa [strOfNums] using this
theorem digits_len (n : Int) (h : inI n) : (Lib.decDigits n.natAbs).length ≤ 21 := by
  have := Lib.itoa_length_le n h.1 h.2
  unfold Lib.itoa at this
  split at this
  · simp at this; omega
  · have e : n.toNat = n.natAbs := by omega
    rw [e] at this; exact this
theorem digit_step {m : Nat} {acc l : List UInt8} (h : l = Lib.decDigits m ++ acc) (hm : ¬ m < 10) : l = Lib.decDigits (m / 10) ++ ((48 + UInt8.ofNat (m % 10)) :: acc) := by
  rw [h, Lib.decDigits, dif_neg hm]
  rw [UInt8.ofNat_add]; simp
theorem digit_last {m : Nat} {acc l : List UInt8} (h : l = Lib.decDigits m ++ acc) (hm : m < 10) : l = (48 + UInt8.ofNat (m % 10)) :: acc := by
  rw [h, Lib.decDigits_one hm]
  have e : m % 10 = m := by omega
  rw [UInt8.ofNat_add, e]; simp
theorem cons_str (d : UInt8) (acc : List UInt8) : ((⟨#[d]⟩ : ByteArray) ++ (⟨acc.toArray⟩ : ByteArray)) = ⟨(d :: acc).toArray⟩ := by
  apply ByteArray.ext; simp
theorem ret_str {a b : ByteArray} (h : a = b) : Ending.returned (.string a) = .returned (.string b) := by rw [h]
set_option maxHeartbeats 2000000 in
theorem dec_any (n : Int) (w : World) (wn : (Lit.int .i64 n).wf = true) : Calls Tryz.prog 126 #[.int .i64 n] w fun e w' => e = .returned (.string ⟨(Lib.itoa n).toArray⟩) ∧ Below w.heap.size w w' := by
  have bn := wf_in wn
  have bm : n.natAbs ≤ 9223372036854775808 := by unfold inI at bn; omega
  have DL := digits_len n bn
  go_enter Tryz.func126, Tryz.ntmps126
  go_wp2_with fail
  refine (size_any _ _ wn).mono ?_
  rintro e w0 ⟨rfl, hw⟩
  rw [hw]
  clear hw w0
  clear wn bn
  go_wp2
  go_loopw [3, 4] (fun u o wr => ∃ (m : Nat) (acc : List UInt8), m ≤ n.natAbs ∧ u = .int .u64 m ∧ o = .string ⟨acc.toArray⟩ ∧ Lib.decDigits n.natAbs = Lib.decDigits m ++ acc ∧ Below w.heap.size w wr) (fun u _ _ => (intOf u).toNat)
  case atStart => exact ⟨n.natAbs, [], by omega, rfl, rfl, by simp, Below.refl _ _⟩
  case round =>
    obtain ⟨m, acc, hm, rfl, rfl, hd, hb⟩ := hrel
    have hal : acc.length ≤ 21 := by have := congrArg List.length hd; simp at this; omega
    have hcv := conv_one
    have hm10 : (m : Int) % 10 < 10 := by omega
    have hm0 : 0 ≤ (m : Int) % 10 := by omega
    by_cases hlt : m < 10
    · have HD : Hid (Lib.decDigits n.natAbs = (48 + UInt8.ofNat (m % 10)) :: acc) := digit_last hd hlt
      have hq : ((m : Int) / 10 == 0) = true := by rw [beq_iff_eq]; omega
      clear hd
      by_cases hn : n < 0
      · go_wp2
        go_ret
        refine ⟨ret_str ?_, hb.alloc hb.size _⟩
        go_light
        unfold Lib.itoa
        rw [if_pos hn, HD.out]
        apply ByteArray.ext; simp
      · go_wp2
        go_ret
        refine ⟨ret_str ?_, hb.alloc hb.size _⟩
        go_light
        unfold Lib.itoa
        have e : n.toNat = n.natAbs := by omega
        rw [if_neg (by omega), e, HD.out]
        apply ByteArray.ext; simp
    · have HD : Hid (Lib.decDigits n.natAbs = Lib.decDigits (m / 10) ++ ((48 + UInt8.ofNat (m % 10)) :: acc)) := digit_step hd hlt
      have hq : ((m : Int) / 10 == 0) = false := by rw [beq_eq_false_iff_ne]; omega
      clear hd
      go_wp2
      go_roundw
      case rel => exact ⟨m / 10, _, by omega, by go_num, congrArg Value.string (cons_str _ _), HD.out, hb.alloc hb.size _⟩
      case measure => simp [intOf]; omega
end Go.Proofs.YtdcdoeolaongkaaGreatDoor
