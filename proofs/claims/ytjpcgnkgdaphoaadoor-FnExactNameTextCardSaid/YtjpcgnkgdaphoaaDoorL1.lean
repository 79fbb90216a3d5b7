import Derived.Test.YtjpcgnkgdaphoaaDoorRows
import Derived.Test.YtjpcgnkgdaphoaaDoorM3
import Derived.Shelf.Abstract
import Derived.WalkKit
import Derived.ProofKit
import Derived.OpenShut
import Derived.WalkLawsBesides
import Derived.Deep.Light
import Derived.WalkSpells
import Derived.Deep.QuietTactic
import Derived.BigQuiet
import Derived.Deep.RegionWith
namespace Go.Proofs.YtjpcgnkgdaphoaaDoor
open Go.ChangeShapes Go.WideShapes Go.ChangeAt Go.RowKit Go.Shelf
set_option linter.unusedVariables false
set_option linter.unusedSimpArgs false
theorem ret_bool {a b : Bool} (h : a = b) : Ending.returned (.bool a) = .returned (.bool b) := by rw [h]
theorem ret_int {k : IntKind} {a b : Int} (h : a = b) : Ending.returned (.int k a) = .returned (.int k b) := by rw [h]
theorem ret_str {a b : ByteArray} (h : a = b) : Ending.returned (.string a) = .returned (.string b) := by rw [h]
theorem isDigit_any (b : Int) (w : World) : Calls Tryd.prog 29 #[.int .u8 b] w fun e w' => e = .returned (.bool (digI b)) ∧ w' = w := by
  go_enter Tryd.func29, Tryd.ntmps29
  go_wp2
  all_goals
    go_ret
    refine ⟨ret_bool ?_, rfl⟩
    go_light
    unfold digI
    grind
theorem digit_any (b : Int) (w : World) : Calls Tryd.prog 17 #[.int .u8 b] w fun e w' => e = .returned (.bool (digI b)) ∧ w' = w := by
  go_enter Tryd.func17, Tryd.ntmps17
  go_wp2
  all_goals
    go_ret
    refine ⟨ret_bool ?_, rfl⟩
    go_light
    unfold digI
    grind
theorem isNameByte_any (b : Int) (w : World) : Calls Tryd.prog 45 #[.int .u8 b] w fun e w' => e = .returned (.bool (priI b)) ∧ w' = w := by
  go_enter Tryd.func45, Tryd.ntmps45
  go_wp2
  all_goals
    go_ret
    refine ⟨ret_bool ?_, rfl⟩
    go_light
    unfold priI
    grind
theorem nought_any (b : Int) (w : World) : Calls Tryd.prog 57 #[.int .u8 b] w fun e w' => e = .returned (.bool (nulI b)) ∧ w' = w := by
  go_enter Tryd.func57, Tryd.ntmps57
  go_wp2
  all_goals
    go_ret
    refine ⟨ret_bool ?_, rfl⟩
    go_light
    unfold nulI
    grind
theorem beginsWord_any (b : Int) (w : World) : Calls Tryd.prog 27 #[.int .u8 b] w fun e w' => e = .returned (.bool (wdI b)) ∧ w' = w := by
  go_enter Tryd.func27, Tryd.ntmps27
  go_wp2
  all_goals
    go_ret
    refine ⟨ret_bool ?_, rfl⟩
    go_light
    unfold wdI
    grind
theorem letter_any (b : Int) (w : World) : Calls Tryd.prog 16 #[.int .u8 b] w fun e w' => e = .returned (.bool (wdI b)) ∧ w' = w := by
  go_enter Tryd.func16, Tryd.ntmps16
  go_wp2
  all_goals
    go_ret
    refine ⟨ret_bool ?_, rfl⟩
    go_light
    unfold wdI
    grind
theorem goesOnWord_any (b : Int) (w : World) : Calls Tryd.prog 41 #[.int .u8 b] w fun e w' => e = .returned (.bool (goI b)) ∧ w' = w := by
  cases h1 : wdI b <;> cases h2 : digI b
  all_goals
    have c1 := fun w => beginsWord_any b w
    have c2 := fun w => isDigit_any b w
    rw [h1] at c1
    rw [h2] at c2
    go_enter Tryd.func41, Tryd.ntmps41
    go_wp2_with (first | (go_at_call 27; refine (c1 _).mono ?_; rintro e w' ⟨rfl, rfl⟩) | (go_at_call 29; refine (c2 _).mono ?_; rintro e w' ⟨rfl, rfl⟩))
    go_ret
    refine ⟨ret_bool ?_, rfl⟩
    unfold goI
    rw [h1, h2]; rfl
/-- What countAhead asks of its function. -/
def Sorts (g : Nat) (p : Int → Bool) : Prop := (∀ args w, (callFunc g args).run Tryd.prog w = .ok (.enter g args) w) ∧ ∀ (b : Int) (w : World), Calls Tryd.prog g #[.int .u8 b] w fun e w' => e = .returned (.bool (p b)) ∧ w' = w
theorem Sorts.isDigit : Sorts 29 digI := ⟨enters_of Tryd.func29 (by kernel_rfl) rfl, isDigit_any⟩
theorem Sorts.goesOn : Sorts 41 goI := ⟨enters_of Tryd.func41 (by kernel_rfl) rfl, goesOnWord_any⟩
theorem Sorts.isName : Sorts 45 priI := ⟨enters_of Tryd.func45 (by kernel_rfl) rfl, isNameByte_any⟩
theorem Sorts.nought : Sorts 57 nulI := ⟨enters_of Tryd.func57 (by kernel_rfl) rfl, nought_any⟩
end Go.Proofs.YtjpcgnkgdaphoaaDoor
