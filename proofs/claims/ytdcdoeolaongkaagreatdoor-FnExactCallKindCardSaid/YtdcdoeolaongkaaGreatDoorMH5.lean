import Derived.Test.YtdcdoeolaongkaaGreatDoorMH1
import Derived.Test.YtdcdoeolaongkaaGreatDoorMH2
import Derived.Test.YtdcdoeolaongkaaGreatDoorMH3
import Derived.Test.YtdcdoeolaongkaaGreatDoorMH4
namespace Go.Proofs.YtdcdoeolaongkaaGreatDoor.Mp
open Go.MapKept Go.ChangeMaps
open Go.ChangeShapes Go.WideShapes Go.ChangeAt Go.RowKit
open Go.Proofs.YtdcdoeolaongkaaGreatDoor.Ok
set_option linter.unusedVariables false
set_option linter.unusedSimpArgs false
set_option maxRecDepth 100000
theorem len_three {ks : List Int} (h : ks.length = 3) : ∃ x y z, ks = [x, y, z] := by
  match ks, h with
  | [x, y, z], _ => exact ⟨x, y, z, rfl⟩
theorem callKind_spec (fn : Int) (ks : List Int) (a : Option Addr) (cap : Nat) (w : World) (hn : ks.length ≤ 1048576) (hk : RIO w (.slice a ks.length cap) ks) :
    Calls Tryz.prog 9 #[.int .i64 fn, .slice a ks.length cap] w fun e w' => e = .returned (.int .i64 (ckK fn ks)) ∧ Below w.heap.size w w' := by
  by_cases h8 : ks.length ≤ 8
  · by_cases hno : fn < 1 ∨ 13 < fn
    · exact sck_none fn ks a cap w hk hno h8
    have h13 : fn = 1 ∨ fn = 2 ∨ fn = 3 ∨ fn = 4 ∨ fn = 5 ∨ fn = 6 ∨ fn = 7 ∨ fn = 8 ∨ fn = 9 ∨ fn = 10 ∨ fn = 11 ∨ fn = 12 ∨ fn = 13 := by omega
    by_cases l1 : ks.length = 1
    · obtain ⟨x, rfl⟩ := List.length_eq_one_iff.1 l1
      exact sck_one fn x a cap w hk h13
    by_cases l2 : ks.length = 2
    · obtain ⟨x, y, rfl⟩ := len_two l2
      exact sck_two fn x y a cap w hk h13
    by_cases l3 : ks.length = 3
    · obtain ⟨x, y, z, rfl⟩ := len_three l3
      exact sck_three fn x y z a cap w hk h13
    exact sck_other fn ks a cap w hk h13 h8 l1 l2 l3
  · have HR : Hid (ckK fn ks = -1) := ckK_long (by omega) (by omega) (by omega)
    have hb : (8 : Int) < ks.length := by omega
    go_enter Tryz.func9, Tryz.ntmps9
    go_wp2
    go_ret
    exact ⟨ret_int HR.out.symm, Below.refl _ _⟩
end Go.Proofs.YtdcdoeolaongkaaGreatDoor.Mp
