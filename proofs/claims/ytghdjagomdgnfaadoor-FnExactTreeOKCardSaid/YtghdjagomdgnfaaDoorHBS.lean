import Derived.Test.YtghdjagomdgnfaaDoorHBR
import Derived.Test.YtghdjagomdgnfaaDoorHBP
namespace Go.Proofs.YtghdjagomdgnfaaDoor
open Go.ChangeShapes Go.WideShapes Go.ChangeAt Go.RowKit
set_option linter.unusedVariables false
set_option linter.unusedSimpArgs false
set_option maxRecDepth 100000
open K
theorem ncalls : NCalls where
  c22 := fun t ops g o cap w hop hl hcap hr hv h1 h2 h3 hN hM ka kl kc => n22 t ops g o cap w hop hl hcap hr hv h1 h2 h3 hN hM ka kl kc
  c23 := fun t ops g o cap w hop hl hcap hr hv h1 h2 h3 hN hM ka kl kc => n23 t ops g o cap w hop hl hcap hr hv h1 h2 h3 hN hM ka kl kc
  c24 := fun t ops g o cap w hop hl hcap hr hv h1 h2 h3 hN hM ka kl kc => n24 t ops g o cap w hop hl hcap hr hv h1 h2 h3 hN hM ka kl kc
theorem sml_of {us : List Nd} (h : ∀ t ∈ us, ndZ t ≤ 1048576) : ∀ j (hj : j < us.length), Sml us[j] := fun j hj => by
  have := h us[j] (List.getElem_mem hj)
  unfold ndZ at this
  exact ⟨by omega, by omega, by omega, by omega⟩
set_option maxHeartbeats 4000000 in
theorem tree_law (la : Option Addr) (lc : Nat) (us : List Nd) (w : World) (hn : us.length ≤ maxLen) (hsz : ∀ t ∈ us, Small t) (hI : ∀ t ∈ us, t.n ≤ 9223372036854775807 ∧ t.m ≤ 9223372036854775807) (hv : RN w (.slice la us.length lc) us) (hT : Tabs w) :
    Calls Tryd.prog 5 #[.agg #[.slice la us.length lc]] w fun e w' => e = .returned (.bool true) ∧ Below w.heap.size w w' := by
  have bw0 := below_alloc w (.cells #[.slice la us.length lc] 26)
  have HI : Hid (∀ j (h : j < us.length), us[j].n ≤ 9223372036854775807 ∧ us[j].m ≤ 9223372036854775807) := fun j h => hI _ (List.getElem_mem h)
  have HT : Hid (Tabs w) := hT
  have HV : Hid (RN w (.slice la us.length lc) us) := hv
  have a0 : (w.alloc (.cells #[.slice la us.length lc] 26)).cell? ⟨w.heap.size, 0, none⟩ = some (.slice la us.length lc) := by simp
  have hsz0 := szTree_any la lc us _ hn hsz (hv.below bw0)
  clear hT hI hv hsz
  go_enter Tryd.func5, Tryd.ntmps5
  go_wp2_with (go_at_call 10; fail)
  refine hsz0.mono ?_
  rintro e w1 ⟨rfl | ⟨m, hm, rfl, hn1, hs1⟩, hb1⟩
  · have bw1 : Below w.heap.size w w1 := bw0.trans (hb1.mono bw0.size)
    clear hsz0 hb1
    go_wp2
    go_ret
    exact ⟨rfl, bw1⟩
  · have bw1 : Below w.heap.size w w1 := bw0.trans (hb1.mono bw0.size)
    have hy1 : w.heap.size < w1.heap.size := by have := hb1.size; simp at this; omega
    have a1 := (hb1.cell (p := ⟨w.heap.size, 0, none⟩) (by simp)).trans a0
    clear hb1 a0 hsz0 bw0
    have hm0 : ¬ (m : Int) < 0 := by omega
    have hk : ∀ t ∈ us, t.kids.length ≤ 1048576 := fun t ht => by have := hs1 t ht; unfold ndZ at this; omega
    have HSm : Hid (∀ j (h : j < us.length), Sml us[j]) := sml_of hs1
    clear hs1
    have ht2 := K.toTree_any la lc us w1 hn1 hk (HV.out.below bw1)
    go_wp2_with (go_at_call 12; fail)
    refine ht2.mono ?_
    rintro e w2 ⟨ta, rfl, hr2, hb2⟩
    have bw2 : Below w.heap.size w w2 := bw1.trans (hb2.mono bw1.size)
    have hy2 : w.heap.size < w2.heap.size := by have := hb2.size; omega
    have a2 := (hb2.cell (p := ⟨w.heap.size, 0, none⟩) hy1).trans a1
    clear hb2 ht2 a1 hy1
    have ht3 := treeOK_spec ncalls us ta us.length w2 hn1 HSm.out HI.out hr2
    go_wp2_with (go_at_call 11; fail)
    refine ht3.mono ?_
    rintro e w3 ⟨rfl, hb3⟩
    have bw3 : Below w.heap.size w w3 := bw2.trans (hb3.mono bw2.size)
    have hy3 : w.heap.size < w3.heap.size := by have := hb3.size; omega
    have a3 := (hb3.cell (p := ⟨w.heap.size, 0, none⟩) hy2).trans a2
    clear hb3 ht3 a2 hy2 hr2 bw1 bw2
    have ht4 := K.toTree_any la lc us w3 hn1 hk (HV.out.below bw3)
    go_wp2_with (go_at_call 12; fail)
    refine ht4.mono ?_
    rintro e w4 ⟨tb, rfl, hr4, hb4⟩
    have bw4 : Below w.heap.size w w4 := bw3.trans (hb4.mono bw3.size)
    have hy4 : w.heap.size < w4.heap.size := by have := hb4.size; omega
    have a4 := (hb4.cell (p := ⟨w.heap.size, 0, none⟩) hy3).trans a3
    clear hb4 ht4 a3 hy3 bw3
    have bx := below_alloc w4 (.cells #[.slice tb us.length us.length] 31)
    have bw5 : Below w.heap.size w (w4.alloc (.cells #[.slice tb us.length us.length] 31)) := bw4.alloc bw4.size _
    have ht5 := treeOK_impl us tb us.length _ hn1 HSm.out (tabs_below HT.out bw5) (hr4.below bx)
    have a5 := (bx.cell (p := ⟨w.heap.size, 0, none⟩) hy4).trans a4
    have b5 : (w4.alloc (.cells #[.slice tb us.length us.length] 31)).cell? ⟨w4.heap.size, 0, none⟩ = some (.slice tb us.length us.length) := by simp
    go_wp2_with (go_at_call 13; fail)
    refine ht5.mono ?_
    rintro e w6 ⟨rfl, hb6⟩
    have bw6 : Below w.heap.size w w6 := bw5.trans (hb6.mono bw5.size)
    have hy6 : w.heap.size < w6.heap.size := by have := bw6.size; have := hb6.size; simp at this; omega
    have hz6 : w4.heap.size < w6.heap.size := by have := hb6.size; simp at this; omega
    have a6 := (hb6.cell (p := ⟨w.heap.size, 0, none⟩) (by simp; omega)).trans a5
    have b6 := (hb6.cell (p := ⟨w4.heap.size, 0, none⟩) (by simp)).trans b5
    have hr6 := (hr4.below bx).below hb6
    clear hb6 ht5 a4 a5 b5 hr4 bx bw4 bw5 hy4
    have HR6 : Hid (RNK w6 (.slice tb us.length us.length) us) := hr6
    have hdr : Below w6.heap.size w6 w6.drew := (Below.refl _ w6).drew
    have ht7 := fun W (h : Below w6.heap.size w6 W) => K.toTree_any la lc us W hn1 hk (HV.out.below (bw6.trans (h.mono bw6.size)))
    clear hr6
    go_wp2
    go_region_with (first | (go_at_call 12; refine (ht7 _ hdr).mono ?_; rintro e w7 ⟨tc, rfl, hr7, hb7⟩; replace hb7 := undrew hb7; have bw7 : Below w.heap.size w w7 := bw6.trans (hb7.mono bw6.size); have b7 := (hb7.cell (p := ⟨w4.heap.size, 0, none⟩) hz6).trans b6; have hr67 := HR6.out.below hb7; have ht8 := eqTree_same _ _ us _ hn1 hk hr67.rn hr7.rn; have ht9 := eqTree_same _ _ us _ hn1 hk (hr67.below ((Below.refl _ w7).drew)).rn (hr7.below ((Below.refl _ w7).drew)).rn; clear hb7 hr7 hr67) | (go_at_call 14; refine ht8.mono ?_; rintro e w8 ⟨rfl, hb8⟩; have bw8 : Below w.heap.size w w8 := bw7.trans (hb8.mono bw7.size)) | (go_at_call 14; refine ht9.mono ?_; rintro e w8 ⟨rfl, hb8⟩; replace hb8 := undrew hb8; have bw8 : Below w.heap.size w w8 := bw7.trans (hb8.mono bw7.size)))
    all_goals
      go_wp2
      go_ret
      exact ⟨rfl, by first | exact bw8 | exact bw8.drew⟩
end Go.Proofs.YtghdjagomdgnfaaDoor
