import Derived.Test.YtdcdoeolaongkaaGreatDoorG4
import Derived.Lib.SmallJoins
namespace Go.Proofs.YtdcdoeolaongkaaGreatDoor
open Go.ChangeShapes Go.WideShapes Go.ChangeAt Go.RowKit Go.Shelf Go.Joins
set_option linter.unusedVariables false
set_option linter.unusedSimpArgs false
set_option maxRecDepth 100000
def Pows (w : World) : Prop := Lib.TabIs Tryz.prog w "internal/strconv.uint64pow10" .u64 Lib.pow10Tab
theorem pow_glob : Tryz.prog.globalNamed "internal/strconv.uint64pow10" = some 5 := by kernel_rfl
theorem pows_below {w w' : World} (h : Pows w) (hb : Below w.heap.size w w') : Pows w' := tab_stays pow_glob h hb (Nat.le_refl _)
theorem below_grow (w : World) (k : Nat) (os : Array Obj) : Below w.heap.size w (Sort.grow (w.drewN k) os) :=
  ⟨rfl, rfl, rfl, by show w.heap.size ≤ (w.heap ++ os).size; rw [Array.size_append]; omega, fun j hj => Sort.heap_grow_old (w.drewN k) os hj⟩
theorem itoa_any (n : Int) (w : World) (wn : (Lit.int .i64 n).wf = true) (hP : Pows w) : Calls Tryz.prog 105 #[.int .i64 n] w fun e w' => e = .returned (.string ⟨(Lib.itoa n).toArray⟩) ∧ Below w.heap.size w w' := by
  refine (Tryz.strconv_Itoa n (wf_in wn).1 (wf_in wn).2 w hP).mono ?_
  rintro e w' ⟨rfl, k, os, rfl⟩
  exact ⟨rfl, below_grow w k os⟩
theorem repeat_any (c : Nat) (w : World) (hc : c ≤ 4) : Calls Tryz.prog 161 #[.string ⟨#[48]⟩, .int .i64 c] w fun e w' => e = .returned (.string ⟨(List.replicate c 48).toArray⟩) ∧ Below w.heap.size w w' := by
  have e : c = 0 ∨ c = 1 ∨ 2 ≤ c := by omega
  rcases e with rfl | rfl | h
  · refine (Tryz.strings_Repeat_zero _ w).mono ?_
    rintro e w' ⟨rfl, rfl⟩
    exact ⟨rfl, Below.refl _ _⟩
  · refine (Tryz.strings_Repeat_one _ w).mono ?_
    rintro e w' ⟨rfl, rfl⟩
    exact ⟨rfl, Below.refl _ _⟩
  · refine (Tryz.strings_Repeat_main ⟨#[48]⟩ c w h (by omega) (by show 1 * c ≤ _; omega) (by show 0 < 1; omega)).mono ?_
    rintro e w' ⟨rfl, hb⟩
    have e2 : Lib.repeatL (⟨#[48]⟩ : ByteArray).data.toList c = List.replicate c 48 := by
      clear h hc hb
      induction c with
      | zero => rfl
      | succ c ih => simp only [Lib.repeatL, List.replicate_succ]; rw [ih]; rfl
    rw [e2]
    exact ⟨rfl, hb⟩
theorem pad_str (k : Nat) (l : List UInt8) : (⟨(List.replicate k 48).toArray⟩ : ByteArray) ++ ⟨l.toArray⟩ = ⟨(List.replicate k 48 ++ l).toArray⟩ := by
  apply ByteArray.ext; apply Array.ext'; simp
set_option maxHeartbeats 2000000 in
theorem padded_any (n : Int) (d : Nat) (w : World) (wn : (Lit.int .i64 n).wf = true) (hd : d ≤ 4) (hl : (Lib.itoa n).length ≤ d) (hP : Pows w) : Calls Tryz.prog 164 #[.int .i64 n, .int .i64 d] w fun e w' => e = .returned (.string ⟨(wideL (Lib.itoa n) d).toArray⟩) ∧ Below w.heap.size w w' := by
  have EC : Hid (((d - (Lib.itoa n).length : Nat) : Int) = (d : Int) - (Lib.itoa n).length) := (by omega : ((d - (Lib.itoa n).length : Nat) : Int) = (d : Int) - (Lib.itoa n).length)
  go_enter Tryz.func164, Tryz.ntmps164
  go_wp2_with fail
  refine (itoa_any n _ wn hP).mono ?_
  rintro e w1 ⟨rfl, b1⟩
  have hl' : ((Lib.itoa n).length : Int) ≤ d := by omega
  go_wp2_with fail
  rw [← EC.out]
  refine (repeat_any _ _ (by omega)).mono ?_
  rintro e w2 ⟨rfl, b2⟩
  go_wp2
  go_ret
  exact ⟨ret_str (pad_str _ _), chain b1 b2⟩
theorem mag_any (n : Int) (w : World) (wn : (Lit.int .i64 n).wf = true) : Calls Tryz.prog 110 #[.int .i64 n] w fun e w' => e = .returned (.int .u64 n.natAbs) ∧ w' = w := by
  have bn := wf_in wn
  clear wn
  by_cases h : n < 0
  all_goals
    go_enter Tryz.func110, Tryz.ntmps110
    go_wp2
    go_ret
    refine ⟨ret_int ?_, rfl⟩
    go_light
    unfold inI at bn
    simp only [IntKind.wrap, IntKind.bits, IntKind.signed, wrap64] at *
    simp
    omega
end Go.Proofs.YtdcdoeolaongkaaGreatDoor
