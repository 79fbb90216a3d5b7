import Derived.Test.YtfgjleifhjegkaaDoorKB
namespace Go.Proofs.YtfgjleifhjegkaaDoor
open Go.ChangeShapes Go.WideShapes Go.ChangeAt Go.RowKit
set_option linter.unusedVariables false
set_option linter.unusedSimpArgs false
set_option maxRecDepth 100000
theorem ret_i {k : IntKind} {a b : Int} (h : a = b) : Ending.returned (.int k a) = .returned (.int k b) := by rw [h]
/-- The fold of a number. -/
def foldN (n : Int) : Int := if n < 0 then -2 * n - 1 else 2 * n
theorem fold_spec (n : Int) (w : World) (h0 : -9223372036854775808 ≤ n) (h1 : n ≤ 9223372036854775807) :
    Calls Tryd.prog 37 #[.int .i64 n] w fun e w' => e = .returned (.int .u64 (foldN n)) ∧ w' = w := by
  by_cases h : n < 0
  · have HE : Hid (foldN n = 2 * (-(n + 1)) + 1) := (by unfold foldN; rw [if_pos h]; omega : foldN n = 2 * (-(n + 1)) + 1)
    go_enter Tryd.func37, Tryd.ntmps37
    go_wp2
    go_ret
    refine ⟨ret_i ?_, rfl⟩
    rw [HE.out]
  · have HE : Hid (foldN n = 2 * n) := (by unfold foldN; rw [if_neg h] : foldN n = 2 * n)
    go_enter Tryd.func37, Tryd.ntmps37
    go_wp2
    go_ret
    refine ⟨ret_i ?_, rfl⟩
    rw [HE.out]
/-- A varint. -/
def varF : Nat → Nat → List Int
  | 0, n => [(n : Int)]
  | f + 1, n => if n < 128 then [(n : Int)] else ((n % 128 + 128 : Nat) : Int) :: varF f (n / 128)
theorem varF_small {f n : Nat} (h : n < 128) : varF f n = [(n : Int)] := by
  cases f with
  | zero => rfl
  | succ f => unfold varF; rw [if_pos h]
theorem varF_big {f n : Nat} (h : ¬ n < 128) : varF (f + 1) n = ((n % 128 + 128 : Nat) : Int) :: varF f (n / 128) := by
  conv => lhs; unfold varF
  rw [if_neg h]
theorem varF_len : ∀ f n, (varF f n).length ≤ f + 1
  | 0, _ => by simp [varF]
  | f + 1, n => by
    by_cases h : n < 128
    · rw [varF_small h]; simp
    · rw [varF_big h]; have := varF_len f (n / 128); simp; omega
theorem YOut.push {ty b : Nat} {w : World} {v : Value} {xs : List Int} {x : Int} (h : w.ownsRow b ty 1 v (xs.length + 1) (xs.map (Value.int .u8) ++ [.int .u8 x])) : YOut ty b w v (xs ++ [x]) := by
  unfold YOut
  rw [List.map_append, List.length_append]
  exact h
set_option maxHeartbeats 8000000 in
theorem varint_spec (n : Nat) (w : World) (hn : n < 18446744073709551616) :
    Calls Tryd.prog 36 #[.int .u64 (n : Int)] w fun e w' => (∃ v, e = .returned v ∧ YOut 5 w.heap.size w' v (varF 9 n)) ∧ Below w.heap.size w w' := by
  obtain ⟨i0, hi, hz0, hz1, hz2⟩ := info_parts infoU8
  go_enter Tryd.func36, Tryd.ntmps36
  go_wp2
  go_loopw [0, 3] (fun uv v wr => ∃ (m f : Nat) (acc : List Int) (oa : Option Addr) (oc : Nat), acc.length + f = 9 ∧ m < 2 * 128 ^ f ∧ m < 18446744073709551616 ∧ uv = .int .u64 (m : Int) ∧ v = .slice oa acc.length oc ∧ Hid (YOut 5 w.heap.size wr (.slice oa acc.length oc) acc) ∧ Hid (varF 9 n = acc ++ varF f m) ∧ Below w.heap.size w wr) (fun uv _ _ => (intOf uv).toNat)
  case atStart => exact ⟨n, 9, [], _, _, rfl, by omega, hn, rfl, rfl, World.ownsRow_made w #[] 0 (Nat.le_refl _) (by unfold maxLen; omega) (by simp), (by simp : varF 9 n = [] ++ varF 9 n), (Below.refl _ _).alloc (Nat.le_refl _) _⟩
  case round =>
    obtain ⟨m, f, acc, oa, oc, hf, hm, hm64, rfl, rfl, HY, HV, hb⟩ := hrel
    have hal : acc.length ≤ 9 := by omega
    by_cases hlt : m < 128
    · have hlti : ¬ (128 : Int) ≤ m := by omega
      have HE : Hid (varF 9 n = acc ++ [(m : Int)]) := (by rw [HV.out, varF_small hlt] : varF 9 n = acc ++ [(m : Int)])
      have hcv : IntKind.u8.wrap (m : Int) = m := by simp only [IntKind.wrap, IntKind.bits, IntKind.signed]; simp; omega
      have hbw : Below w.heap.size w (wr.alloc (.cells #[.int .u8 (m : Int)] 5)) := hb.alloc hb.size _
      have HLT := hid (World.ownsRow.lt HY.out)
      go_wp2_with (at_builtin; refine wpList_append_own _ rfl (.tmp 16) (.tmp 19) 24 rfl w.heap.size 5 i0 (.int .u8 0) 1 1 Tryd.underlying24 hi hz0 hz1 hz2 rfl (by decide) _ _ _ rfl (World.ownsRow.alloc HY.out _) ⟨wr.heap.size, 0, none⟩ 1 1 [.int .u8 (m : Int)] rfl rfl (blk_new wr [.int .u8 (m : Int)] 5).cells (by intro u hu; simp at hu; subst hu; rfl) (by unfold maxLen; omega) (by omega) (by have := hb.size; simp; omega) ?_; intro v2 w2 hown2 hgrow2 hiff2; clear hiff2)
      have b2 : Below w.heap.size w w2 := hbw.grown hgrow2 (by have := hb.size; simp; omega) (fun j hj => (HLT.out j hj).1)
      have HR : Hid (YOut 5 w.heap.size w2 v2 (varF 9 n)) := (by rw [HE.out]; exact YOut.push hown2 : YOut 5 w.heap.size w2 v2 (varF 9 n))
      clear hown2 hgrow2
      go_wp2
      go_ret
      exact ⟨⟨_, rfl, HR.out⟩, b2⟩
    · have hlti : (128 : Int) ≤ m := by omega
      rcases f with _ | f
      · exfalso; simp at hm; omega
      have hm2 : m / 128 < 2 * 128 ^ f := Nat.div_lt_of_lt_mul (by rw [Nat.pow_succ] at hm; omega)
      obtain ⟨x, hx⟩ : ∃ x : Int, x = ((m % 128 + 128 : Nat) : Int) := ⟨_, rfl⟩
      have HE : Hid (varF 9 n = (acc ++ [x]) ++ varF f (m / 128)) := (by rw [HV.out, varF_big hlt, hx]; simp : varF 9 n = (acc ++ [x]) ++ varF f (m / 128))
      have hcv : IntKind.u8.wrap ((m : Int) % 128 + 128) = x := by rw [hx]; simp only [IntKind.wrap, IntKind.bits, IntKind.signed]; simp; omega
      have hbw : Below w.heap.size w (wr.alloc (.cells #[.int .u8 x] 5)) := hb.alloc hb.size _
      have HLT := hid (World.ownsRow.lt HY.out)
      have hm128 : (m : Int) % 128 < 128 := by omega
      have hm0 : 0 ≤ (m : Int) % 128 := by omega
      clear hx HV
      go_wp2_with (at_builtin; refine wpList_append_own _ rfl (.tmp 7) (.tmp 12) 24 rfl w.heap.size 5 i0 (.int .u8 0) 1 1 Tryd.underlying24 hi hz0 hz1 hz2 rfl (by decide) _ _ _ rfl (World.ownsRow.alloc HY.out _) ⟨wr.heap.size, 0, none⟩ 1 1 [.int .u8 x] rfl rfl (blk_new wr [.int .u8 x] 5).cells (by intro u hu; simp at hu; subst hu; rfl) (by unfold maxLen; omega) (by omega) (by have := hb.size; simp; omega) ?_; intro v2 w2 hown2 hgrow2 hiff2; clear hiff2)
      have b2 : Below w.heap.size w w2 := hbw.grown hgrow2 (by have := hb.size; simp; omega) (fun j hj => (HLT.out j hj).1)
      have HR := hid (YOut.push hown2)
      obtain ⟨oa2, oc2, rfl⟩ := HR.out.form
      have hl2 : (acc ++ [x]).length = acc.length + 1 := by simp
      obtain ⟨acc2, hac⟩ : ∃ l, l = acc ++ [x] := ⟨_, rfl⟩
      rw [← hac] at HR HE hl2 ⊢
      clear hown2 hgrow2 HY hac HLT hbw hb
      go_wp2
      go_roundw
      case rel => exact ⟨m / 128, f, acc2, oa2, oc2, by omega, hm2, by omega, by go_num, rfl, HR, HE, b2⟩
      case measure => simp [intOf]; omega
end Go.Proofs.YtfgjleifhjegkaaDoor
