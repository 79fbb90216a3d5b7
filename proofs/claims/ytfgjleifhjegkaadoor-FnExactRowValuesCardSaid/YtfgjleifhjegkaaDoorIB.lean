import Derived.Test.YtfgjleifhjegkaaDoorIA
namespace Go.Proofs.YtfgjleifhjegkaaDoor
open Go.ChangeShapes Go.WideShapes Go.ChangeAt Go.RowKit
set_option linter.unusedVariables false
set_option linter.unusedSimpArgs false
set_option maxRecDepth 100000
/-- So many low bytes of a number, the highest first. -/
def shL : Nat → Int → List Int
  | 0, _ => []
  | m + 1, n => n / 2 ^ (8 * m) % 256 :: shL m n
theorem shL_len : ∀ m n, (shL m n).length = m
  | 0, _ => rfl
  | m + 1, n => by unfold shL; rw [List.length_cons, shL_len m]
theorem shL_low : ∀ m (n : Int), shL (m + 1) n = shL m (n / 256) ++ [n % 256]
  | 0, n => by simp [shL]
  | m + 1, n => by
    have ih := shL_low m n
    rw [shL, ih, shL, List.cons_append]
    congr 1
    rw [Int.ediv_ediv_of_nonneg (by decide), show (256 : Int) * 2 ^ (8 * m) = 2 ^ (8 * (m + 1)) by rw [show 8 * (m + 1) = 8 + 8 * m by omega, Int.pow_add]; rfl]
theorem beL_shL : ∀ (m u : Nat), beL m u = shL m (u : Int)
  | 0, _ => rfl
  | m + 1, u => by
    rw [shL_low, beL, beL_shL m (u / 256)]
    rfl
theorem shL_turn {n : Int} (h0 : -9223372036854775808 ≤ n) (h1 : n ≤ 9223372036854775807) : shL 8 (turnN n) = beL 8 (n + 9223372036854775808).toNat := by
  rw [beL_shL]
  unfold turnN
  split
  · rw [Int.toNat_of_nonneg (by omega)]
  · rw [Int.toNat_of_nonneg (by omega)]
    simp only [shL, List.cons.injEq, and_true]
    refine ⟨?_, ?_, ?_, ?_, ?_, ?_, ?_, ?_⟩ <;> simp <;> omega
set_option maxHeartbeats 4000000 in
theorem number_onto (b0 : Nat) (oa : Option Addr) (oc : Nat) (xs : List Int) (n : Int) (m : Nat) (w : World) (h0 : b0 ≤ w.heap.size) (hm : m ≤ 8) (hx : xs.length ≤ 100000000) (h1 : -9223372036854775808 ≤ n) (h2 : n ≤ 9223372036854775807) (HY : YOut 5 b0 w (.slice oa xs.length oc) xs) :
    Calls Tryd.prog 55 #[.slice oa xs.length oc, .int .i64 n, .int .i64 m] w fun e w' => Onto b0 w (xs ++ shL m n) e w' := by
  obtain ⟨i0, hi, hz0, hz1, hz2⟩ := info_parts infoU8
  have HY0 := hid HY
  clear HY
  go_enter Tryd.func55, Tryd.ntmps55
  have hwm : IntKind.i64.wrap ((m : Int) - 1) = (m : Int) - 1 := by simp only [IntKind.wrap_i64, wrap64]; omega
  go_wp2
  go_loopw [0, 7] (fun v iv wr => ∃ (r : Nat) (acc : List Int) (oa : Option Addr) (oc : Nat), r ≤ m ∧ iv = .int .i64 ((r : Int) - 1) ∧ v = .slice oa acc.length oc ∧ acc.length ≤ xs.length + 8 - r ∧ Hid (YOut 5 b0 wr (.slice oa acc.length oc) acc) ∧ Hid (xs ++ shL m n = acc ++ shL r n) ∧ b0 ≤ wr.heap.size ∧ Below b0 w wr) (fun _ iv _ => (intOf iv + 1).toNat)
  case atStart => exact ⟨m, xs, _, _, Nat.le_refl _, rfl, rfl, by omega, HY0, rfl, h0, Below.refl _ _⟩
  case round =>
    clear HY0 hwm
    obtain ⟨r, acc, oa, oc, hr, rfl, rfl, hal, HY, HV, hsz, hb⟩ := hrel
    rcases r with _ | r
    · have HR : Hid (YOut 5 b0 wr (.slice oa acc.length oc) (xs ++ shL m n)) := (by rw [HV.out]; simpa [shL] using HY.out : YOut 5 b0 wr (.slice oa acc.length oc) (xs ++ shL m n))
      clear HY HV
      go_wp2
      go_ret
      exact ⟨⟨_, rfl, HR.out⟩, hb⟩
    · have hr1 : ((r + 1 : Nat) : Int) - 1 = r := by omega
      have hw8 : IntKind.i64.wrap (8 * (r : Int)) = 8 * r := by simp only [IntKind.wrap_i64, wrap64]; omega
      obtain ⟨x, hx1⟩ : ∃ x : Int, n / 2 ^ (8 * r) % 256 = x := ⟨_, rfl⟩
      have HE : Hid (xs ++ shL m n = (acc ++ [x]) ++ shL r n) := (by rw [HV.out, ← hx1]; simp [shL] : xs ++ shL m n = (acc ++ [x]) ++ shL r n)
      have hbw : Below b0 w (wr.alloc (.cells #[.int .u8 x] 5)) := hb.alloc hsz _
      have HLT := hid (World.ownsRow.lt HY.out)
      have hw1 : IntKind.i64.wrap ((r : Int) - 1) = (r : Int) - 1 := by simp only [IntKind.wrap_i64, wrap64]; omega
      rw [hr1]
      clear HV hr1
      go_wp2_with (at_builtin; refine wpList_append_own _ rfl (.tmp 14) (.tmp 20) 24 rfl b0 5 i0 (.int .u8 0) 1 1 Tryd.underlying24 hi hz0 hz1 hz2 rfl (by decide) _ _ _ rfl (World.ownsRow.alloc HY.out _) ⟨wr.heap.size, 0, none⟩ 1 1 [.int .u8 x] rfl rfl (blk_new wr [.int .u8 x] 5).cells (by intro u hu; simp at hu; subst hu; rfl) (by unfold maxLen; omega) (by omega) (by simp; omega) ?_; intro v2 w2 hown2 hgrow2 hiff2; clear hiff2)
      have b2 : Below b0 w w2 := hbw.grown hgrow2 (by simp; omega) (fun j hj => (HLT.out j hj).1)
      have hs2 : b0 ≤ w2.heap.size := by have := hgrow2.size; simp at this; omega
      have HR := hid (YOut.push hown2)
      obtain ⟨oa2, oc2, rfl⟩ := HR.out.form
      have hl2 : (acc ++ [x]).length = acc.length + 1 := by simp
      obtain ⟨acc2, hac⟩ : ∃ l, l = acc ++ [x] := ⟨_, rfl⟩
      rw [← hac] at HR HE hl2 ⊢
      clear hown2 hgrow2 HY hac HLT hbw hb hx1
      go_wp2
      go_roundw
      case rel => exact ⟨r, acc2, oa2, oc2, by omega, by go_num, rfl, by omega, HR, HE, hs2, b2⟩
      case measure => first | (simp [intOf]; done) | (simp [intOf]; omega)
end Go.Proofs.YtfgjleifhjegkaaDoor
