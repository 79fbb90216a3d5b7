import Derived.Test.YtdcdoeolaongkaaGreatDoorMH5
import Derived.Test.YtdcdoeolaongkaaGreatDoorMI
namespace Go.Proofs.YtdcdoeolaongkaaGreatDoor.Mp
open Go.MapKept Go.ChangeMaps
open Go.ChangeShapes Go.WideShapes Go.ChangeAt Go.RowKit
open Go.Proofs.YtdcdoeolaongkaaGreatDoor.Ok
set_option linter.unusedVariables false
set_option linter.unusedSimpArgs false
set_option maxRecDepth 100000
set_option maxHeartbeats 1600000 in
theorem callKind_law (fn : Int) (la : Option Addr) (lc : Nat) (ks : List Int) (w : World) (hn : ks.length ≤ maxLen) (hv : RIO w (.slice la ks.length lc) ks) :
    Calls Tryz.prog 3 #[.int .i64 fn, .slice la ks.length lc] w fun e w' => e = .returned (.bool true) ∧ Below w.heap.size w w' := by
  unfold maxLen at hn
  by_cases hbig : 1048576 < ks.length
  · have hbi : (1048576 : Int) < ks.length := by omega
    go_enter Tryz.func3, Tryz.ntmps3
    go_wp2
    go_ret
    exact ⟨rfl, Below.refl _ _⟩
  · have hbi : ¬ (1048576 : Int) < ks.length := by omega
    have hn1 : ks.length ≤ 1048576 := by omega
    have HS := fun a c w h => callKind_spec fn ks a c w hn1 h
    have HI := fun a c w h => callKind_any fn ks a c w hn1 h
    generalize ckK fn ks = r at HS HI
    go_enter Tryz.func3, Tryz.ntmps3
    go_wp2_with (go_at_call 10; fail)
    refine (toIntS_any la lc ks _ hn1 hv).mono ?_
    rintro e w1 ⟨rfl, hr1, hb1⟩
    go_wp2_with (go_at_call 9; fail)
    refine (HS _ _ _ hr1).mono ?_
    rintro e w2 ⟨rfl, hb2⟩
    have bw2 : Below w.heap.size w w2 := hb1.trans (hb2.mono hb1.size)
    go_wp2_with (go_at_call 10; fail)
    refine (toIntS_any la lc ks _ hn1 (hv.below bw2)).mono ?_
    rintro e w3 ⟨rfl, hr3, hb3⟩
    have bw3 : Below w.heap.size w w3 := bw2.trans (hb3.mono bw2.size)
    go_wp2_with (go_at_call 11; fail)
    refine (HI _ _ _ hr3).mono ?_
    rintro e w4 ⟨rfl, hb4⟩
    have bw4 : Below w.heap.size w w4 := bw3.trans (hb4.mono bw3.size)
    go_wp2_with (go_at_call 10; fail)
    refine (toIntS_any la lc ks _ hn1 (hv.below bw4)).mono ?_
    rintro e w5 ⟨rfl, hr5, hb5⟩
    have bw5 : Below w.heap.size w w5 := bw4.trans (hb5.mono bw4.size)
    have hr35 := (hr3.below hb4).below hb5
    go_wp2_with (go_at_call 12; fail)
    refine (eqIntS_same _ _ ks _ hn1 hr35 hr5).mono ?_
    rintro e w6 ⟨rfl, hb6⟩
    go_wp2
    go_ret
    exact ⟨rfl, bw5.trans (hb6.mono bw5.size)⟩
end Go.Proofs.YtdcdoeolaongkaaGreatDoor.Mp
