import Derived.Test.YtfgjleifhjegkaaDoorVT
import Derived.Lib.ItoaNum
import Derived.Lib.ItoaMem
import Derived.Laws.BytesArg
import Derived.Lib.ItoaLen
import Derived.Deep.Heap
namespace Go.Proofs.YtfgjleifhjegkaaDoor
open Go.ChangeShapes Go.WideShapes Go.ChangeAt Go.RowKit
set_option linter.unusedVariables false
set_option linter.unusedSimpArgs false
set_option maxRecDepth 100000
theorem conv_one (W : World) (x : Int) : (convert 24 9 (.slice (some ⟨W.heap.size, 0, none⟩) 1 1)).run Tryd.prog (W.alloc (.cells #[.int .u8 x] 5)) = .ok (.string ⟨#[UInt8.ofNat x.toNat]⟩) (W.alloc (.cells #[.int .u8 x] 5)) := by
  have := run_convert_bytes_arg (P := Tryd.prog) (W.alloc (.cells #[.int .u8 x] 5)) 24 5 Tryd.underlying24 Tryd.underlying5 W.heap.size 0 1 1 [x] rfl (by
    intro i hi
    have : i = 0 := by omega
    subst this
    simp [go_sem]) 9 Tryd.underlying9
  simpa [strOfNums] using this
theorem digits_len (n : Nat) (h : n ≤ 9223372036854775807) : (Lib.decDigits n).length ≤ 21 := by
  have := Lib.itoa_length_le (n : Int) (by omega) (by omega)
  unfold Lib.itoa at this
  rw [if_neg (by omega)] at this
  simpa using this
/-- The digits that are still to be told, and those that are. -/
def DI (K m : Nat) (acc : List UInt8) : Prop := if m = 0 then Lib.decDigits K = acc else Lib.decDigits K = Lib.decDigits m ++ acc
theorem DI.step {K m : Nat} {acc : List UInt8} (h : DI K m acc) (hm : m ≠ 0) : DI K (m / 10) ((48 + UInt8.ofNat (m % 10)) :: acc) := by
  unfold DI at h ⊢
  rw [if_neg hm] at h
  by_cases hl : m < 10
  · rw [if_pos (by omega), h, Lib.decDigits_one hl]
    have e : m % 10 = m := by omega
    rw [UInt8.ofNat_add, e]; simp
  · rw [if_neg (by omega), h, Lib.decDigits, dif_neg hl]
    rw [UInt8.ofNat_add]; simp
theorem DI.len {K m : Nat} {acc : List UInt8} (h : DI K m acc) (hK : K ≤ 9223372036854775807) : acc.length ≤ 21 := by
  have := digits_len K hK
  unfold DI at h
  split at h
  · rw [h] at this; exact this
  · rw [h] at this; simp at this; omega
theorem cons_str (d : UInt8) (acc : List UInt8) : ((⟨#[d]⟩ : ByteArray) ++ (⟨acc.toArray⟩ : ByteArray)) = ⟨(d :: acc).toArray⟩ := by
  apply ByteArray.ext; simp
theorem ret_str {a b : ByteArray} (h : a = b) : Ending.returned (.string a) = .returned (.string b) := by rw [h]
/-- The text that marks k. -/
def mtx (K : Nat) : ByteArray := ⟨(109 :: Lib.decDigits K).toArray⟩
set_option maxHeartbeats 4000000 in
theorem markText_any (K : Nat) (w : World) (h0 : 0 < K) (hK : K ≤ 4611686018427387904) : Calls Tryd.prog 35 #[.int .i64 (K : Int)] w fun e w' => e = .returned (.string (mtx K)) ∧ Below w.heap.size w w' := by
  have D0 : Hid (DI K K []) := (by unfold DI; rw [if_neg (by omega)]; simp : DI K K [])
  have hK0 : ¬ (K : Int) ≤ 0 := by omega
  go_enter Tryd.func35, Tryd.ntmps35
  go_wp2
  go_loopw [0, 3] (fun u o wr => ∃ (m : Nat) (acc : List UInt8), m ≤ K ∧ u = .int .i64 (m : Int) ∧ o = .string ⟨acc.toArray⟩ ∧ Hid (DI K m acc) ∧ Below w.heap.size w wr) (fun u _ _ => (intOf u).toNat)
  case atStart => exact ⟨K, [], Nat.le_refl _, rfl, rfl, D0, Below.refl _ _⟩
  case round =>
    clear D0
    obtain ⟨m, acc, hm, rfl, rfl, HD, hb⟩ := hrel
    have hal := HD.out.len (by omega)
    have hcv := conv_one
    by_cases hz : m = 0
    · have HE : Hid (Lib.decDigits K = acc) := (by have := HD.out; unfold DI at this; rw [if_pos hz] at this; exact this : Lib.decDigits K = acc)
      subst hz
      clear HD
      go_wp2
      go_ret
      refine ⟨ret_str ?_, hb⟩
      go_light
      unfold mtx
      rw [HE.out]
      apply ByteArray.ext; simp
    · have hzi : (0 : Int) < m := by omega
      have HD2 := hid (HD.out.step hz)
      have hm10 : (m : Int) % 10 < 10 := by omega
      have hm00 : 0 ≤ (m : Int) % 10 := by omega
      clear HD
      go_wp2
      go_roundw
      case rel =>
        refine ⟨m / 10, (48 + UInt8.ofNat (m % 10)) :: acc, by omega, by go_num, ?_, HD2, hb.alloc hb.size _⟩
        rw [← cons_str]
        first
          | rfl
          | (congr 1; apply ByteArray.ext; simp; try omega)
      case measure => simp [intOf]; omega
end Go.Proofs.YtfgjleifhjegkaaDoor
