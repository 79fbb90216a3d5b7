import Derived.Test.YtoieiegjhjedoaaSG6
namespace Go.Proofs.Ytoieiegjhjedoaa
open Go.ChangeShapes Go.WideShapes Go.ChangeAt Go.RowKit
set_option linter.unusedVariables false
set_option linter.unusedSimpArgs false
set_option maxRecDepth 100000
theorem toPlan_any (a : Option Addr) (c : Nat) (us : List PN) (w : World) (hB : BL 1048576 us) (hv : RS 11 CP 0 w (.slice a us.length c) us) :
    Calls Try.prog 6 #[.agg #[.slice a us.length c]] w fun e w' => ∃ b d, e = .returned (.agg #[.slice b us.length d]) ∧ RS 11 CP 0 w' (.slice b us.length d) us ∧ Below w.heap.size w w' := by
  refine (toL_e us [.slice a us.length c] w hB ⟨_, rfl, hv⟩).mono ?_
  rintro e w' ⟨ds, rfl, hD, hb⟩
  obtain ⟨v, rfl, hr⟩ := hD
  have R := hr.mono liesP (Nat.zero_le _)
  obtain ⟨b, d, rfl, _⟩ := hr
  exact ⟨b, d, rfl, R, hb⟩
theorem eqPlan_any (v u : Value) (us : List PN) (w : World) (hB : BL 1048576 us) (hv : RS 11 CP 0 w v us) (hu : RS 11 CP 0 w u us) :
    Calls Try.prog 8 #[.agg #[v], .agg #[u]] w fun e w' => e = .returned (.bool true) ∧ Below w.heap.size w w' :=
  eqL_e us [v] [u] w hB ⟨_, rfl, hv⟩ ⟨_, rfl, hu⟩
set_option maxHeartbeats 4000000 in
theorem plan_law (la : Option Addr) (lc : Nat) (us : List PN) (w : World) (hsz : BL maxLen us) (hI : ∀ p ∈ us, ∀ e ∈ p.exprs, RgE e) (hv : RS 11 CP 0 w (.slice la us.length lc) us) :
    Calls Try.prog 3 #[.agg #[.slice la us.length lc]] w fun e w' => e = .returned (.bool true) ∧ Below w.heap.size w w' := by
  have bw0 := below_alloc w (.cells #[.slice la us.length lc] 24)
  have HI := hid hI
  have HV : Hid (RS 11 CP 0 w (.slice la us.length lc) us) := hv
  have a0 : (w.alloc (.cells #[.slice la us.length lc] 24)).cell? ⟨w.heap.size, 0, none⟩ = some (.slice la us.length lc) := by simp
  have hsz0 := szL_e us [.slice la us.length lc] 1048576 _ (by omega) (by omega) hsz ⟨_, rfl, hv.below liesP bw0⟩
  clear hI hv hsz
  go_enter Try.func3, Try.ntmps3
  go_wp2_with (go_at_call 4; fail)
  refine hsz0.mono ?_
  rintro e w1 ⟨rfl | ⟨m, hm, rfl, hBL⟩, hb1⟩
  · have bw1 : Below w.heap.size w w1 := bw0.trans (hb1.mono bw0.size)
    clear hsz0 hb1
    go_wp2
    go_ret
    exact ⟨rfl, bw1⟩
  · have bw1 : Below w.heap.size w w1 := bw0.trans (hb1.mono bw0.size)
    have hy1 : w.heap.size < w1.heap.size := by have := hb1.size; simp at this; omega
    have a1 := (hb1.cell (p := ⟨w.heap.size, 0, none⟩) (by simp)).trans a0
    clear hb1 a0 hsz0 bw0
    have hm0 : ¬ (m : Int) < 0 := by omega
    have HBL := hid hBL
    clear hBL
    have ht2 := toPlan_any la lc us w1 HBL.out (HV.out.below liesP bw1)
    go_wp2_with (go_at_call 6; fail)
    refine ht2.mono ?_
    rintro e w2 ⟨ta, tc, rfl, hr2, hb2⟩
    have bw2 : Below w.heap.size w w2 := bw1.trans (hb2.mono bw1.size)
    have hy2 : w.heap.size < w2.heap.size := by have := hb2.size; omega
    have a2 := (hb2.cell (p := ⟨w.heap.size, 0, none⟩) hy1).trans a1
    clear hb2 ht2 a1 hy1
    have ht3 := safePlan_spec us ta tc w2 HBL.out HI.out hr2
    go_wp2_with (go_at_call 5; fail)
    refine ht3.mono ?_
    rintro e w3 ⟨rfl, hb3⟩
    have bw3 : Below w.heap.size w w3 := bw2.trans (hb3.mono bw2.size)
    have hy3 : w.heap.size < w3.heap.size := by have := hb3.size; omega
    have a3 := (hb3.cell (p := ⟨w.heap.size, 0, none⟩) hy2).trans a2
    clear hb3 ht3 a2 hy2 hr2 bw1 bw2
    have ht4 := toPlan_any la lc us w3 HBL.out (HV.out.below liesP bw3)
    go_wp2_with (go_at_call 6; fail)
    refine ht4.mono ?_
    rintro e w4 ⟨tb, td, rfl, hr4, hb4⟩
    have bw4 : Below w.heap.size w w4 := bw3.trans (hb4.mono bw3.size)
    have hy4 : w.heap.size < w4.heap.size := by have := hb4.size; omega
    have a4 := (hb4.cell (p := ⟨w.heap.size, 0, none⟩) hy3).trans a3
    clear hb4 ht4 a3 hy3 bw3
    have bx := below_alloc w4 (.cells #[.slice tb us.length td] 29)
    have bw5 : Below w.heap.size w (w4.alloc (.cells #[.slice tb us.length td] 29)) := bw4.alloc bw4.size _
    have ht5 := safePlan_impl us tb td _ HBL.out HI.out (hr4.below liesP bx)
    have a5 := (bx.cell (p := ⟨w.heap.size, 0, none⟩) hy4).trans a4
    have b5 : (w4.alloc (.cells #[.slice tb us.length td] 29)).cell? ⟨w4.heap.size, 0, none⟩ = some (.slice tb us.length td) := by simp
    go_wp2_with (go_at_call 7; fail)
    refine ht5.mono ?_
    rintro e w6 ⟨rfl, hb6⟩
    have bw6 : Below w.heap.size w w6 := bw5.trans (hb6.mono bw5.size)
    have hy6 : w.heap.size < w6.heap.size := by have := bw6.size; have := hb6.size; simp at this; omega
    have hz6 : w4.heap.size < w6.heap.size := by have := hb6.size; simp at this; omega
    have a6 := (hb6.cell (p := ⟨w.heap.size, 0, none⟩) (by simp; omega)).trans a5
    have b6 := (hb6.cell (p := ⟨w4.heap.size, 0, none⟩) (by simp)).trans b5
    have hr6 := (hr4.below liesP bx).below liesP hb6
    clear hb6 ht5 a4 a5 b5 hr4 bx bw4 bw5 hy4
    have HR6 := hid hr6
    have hdr : Below w6.heap.size w6 w6.drew := (Below.refl _ w6).drew
    have ht7 := fun W (h : Below w6.heap.size w6 W) => toPlan_any la lc us W HBL.out (HV.out.below liesP (bw6.trans (h.mono bw6.size)))
    clear hr6
    go_wp2
    go_region_with (first | (go_at_call 6; refine (ht7 _ hdr).mono ?_; rintro e w7 ⟨tc', tcd, rfl, hr7, hb7⟩; replace hb7 := undrew hb7; have bw7 : Below w.heap.size w w7 := bw6.trans (hb7.mono bw6.size); have b7 := (hb7.cell (p := ⟨w4.heap.size, 0, none⟩) hz6).trans b6; have hr67 := HR6.out.below liesP hb7; have ht8 := eqPlan_any _ _ us _ HBL.out hr67 hr7; have ht9 := eqPlan_any _ _ us _ HBL.out (hr67.below liesP ((Below.refl _ w7).drew)) (hr7.below liesP ((Below.refl _ w7).drew)); clear hb7 hr7 hr67) | (go_at_call 8; refine ht8.mono ?_; rintro e w8 ⟨rfl, hb8⟩; have bw8 : Below w.heap.size w w8 := bw7.trans (hb8.mono bw7.size)) | (go_at_call 8; refine ht9.mono ?_; rintro e w8 ⟨rfl, hb8⟩; replace hb8 := undrew hb8; have bw8 : Below w.heap.size w w8 := bw7.trans (hb8.mono bw7.size)))
    all_goals
      go_wp2
      go_ret
      exact ⟨rfl, by first | exact bw8 | exact bw8.drew⟩
end Go.Proofs.Ytoieiegjhjedoaa
