import Derived.Test.YtcgnkcehjcednaaDoorN4
import Derived.Test.YtcgnkcehjcednaaDoorN5
namespace Go.Proofs.YtcgnkcehjcednaaDoor
open Go.ChangeShapes Go.WideShapes Go.ChangeAt Go.RowKit Go.Shelf
set_option linter.unusedVariables false
set_option linter.unusedSimpArgs false
set_option maxRecDepth 100000
set_option maxHeartbeats 800000 in
theorem tokenTextS_any (k p : Int) (x : ByteArray) (w : World) (hs : x.size ≤ 1048576) :
    Calls Tryd.prog 63 #[.agg #[.int .i64 k, .string x, .int .i64 p]] w fun e w' => e = .returned (.string ⟨(tokText k x.data.toList).toArray⟩) ∧ Below w.heap.size w w' := by
  have h34 := fun w => mark46_any x 34 w hs
  have h39 := fun w => mark46_any x 39 w hs
  rw [show ((34 : UInt8).toNat : Int) = 34 from rfl] at h34
  rw [show ((39 : UInt8).toNat : Int) = 39 from rfl] at h39
  by_cases h2 : k = 2
  · subst h2
    go_enter Tryd.func63, Tryd.ntmps63
    go_wp2_with (go_at_call 46; refine (h34 _).mono ?_; rintro e w1 ⟨rfl, hb1⟩)
    go_ret
    exact ⟨rfl, ((Below.refl _ _).alloc (Nat.le_refl _) _).trans (hb1.mono (by simp))⟩
  · have h2' : (k == 2) = false := by rw [beq_eq_false_iff_ne]; exact h2
    by_cases h5 : k = 5
    · subst h5
      go_enter Tryd.func63, Tryd.ntmps63
      go_wp2_with (go_at_call 46; refine (h39 _).mono ?_; rintro e w1 ⟨rfl, hb1⟩)
      go_ret
      exact ⟨rfl, ((Below.refl _ _).alloc (Nat.le_refl _) _).trans (hb1.mono (by simp))⟩
    · have h5' : (k == 5) = false := by rw [beq_eq_false_iff_ne]; exact h5
      have HE : Hid (tokText k x.data.toList = x.data.toList) := by show _ = _; unfold tokText; rw [if_neg h2, if_neg h5]
      go_enter Tryd.func63, Tryd.ntmps63
      go_wp2
      go_ret
      exact ⟨ret_str (ba_ext (by rw [HE.out])), (Below.refl _ _).alloc (Nat.le_refl _) _⟩
end Go.Proofs.YtcgnkcehjcednaaDoor
