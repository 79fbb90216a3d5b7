import Derived.Test.YtfgjleifhjegkaaDoorMD
import Derived.Test.YtfgjleifhjegkaaDoorME
import Derived.Test.YtfgjleifhjegkaaDoorVQ
import Derived.Test.YtfgjleifhjegkaaDoorW3
import Derived.Test.YtfgjleifhjegkaaDoorMA
namespace Go.Proofs.YtfgjleifhjegkaaDoor
open Go.ChangeShapes Go.WideShapes Go.ChangeAt Go.RowKit
set_option linter.unusedVariables false
set_option linter.unusedSimpArgs false
set_option maxRecDepth 100000
theorem ysRowR {ty b g B : Nat} {w : World} {xs : List Int} (h : YRow ty b w g xs) (hg : g < B) (hn : xs.length ≤ 1048576) : YS B w (.slice (some ⟨g, 0, none⟩) xs.length xs.length) xs :=
  ⟨_, _, rfl, Nat.le_refl _, by omega, .inr ⟨g, 0, rfl, hg, fun i hi => by rw [Nat.zero_add]; exact RowOf.cell h hi⟩⟩
set_option maxHeartbeats 8000000 in
theorem kmr_law (la : Option Addr) (lc : Nat) (xs : List Int) (w : World) (hmx : xs.length ≤ maxLen) (hby : Byt xs) (hT : Tabs w) (hv : RS 1 CY 0 w (.slice la xs.length lc) xs)
    (hbv : ∀ us c, RvC xs us c → BVS 1048576 us)
    (him : ∀ (a : Option Addr) (ca : Nat) (W : World), Byt xs → xs.length ≤ 1048576 → Tabs W → YS W.heap.size W (.slice a xs.length ca) xs → Calls Tryd.prog 24 #[.slice a xs.length ca] W fun e w' => RvP xs W e w') :
    Calls Tryd.prog 6 #[.slice la xs.length lc] w fun e w' => e = .returned (.bool true) ∧ Below w.heap.size w w' := by
  unfold maxLen at hmx
  by_cases hbig : (1048576 : Int) < xs.length
  · clear him hv hT hbv
    go_enter Tryd.func6, Tryd.ntmps6
    go_wp2
    go_ret
    exact ⟨rfl, Below.refl _ _⟩
  have hn : xs.length ≤ 1048576 := by omega
  have HV : Hid (RS 1 CY 0 w (.slice la xs.length lc) xs) := hv
  have HBY : Hid (Byt xs) := hby
  have HT0 : Hid (Tabs w) := hT
  have HIM := hid him
  have HBV := hid hbv
  have ht9 := fun W (h : Below w.heap.size w W) => toByteS_w la lc xs W hn (HV.out.below liesY h)
  clear hv hby hT him hbv hmx
  go_enter Tryd.func6, Tryd.ntmps6
  go_wp2_with (go_at_call 20; fail)
  refine (ht9 _ (Below.refl _ _)).mono ?_
  rintro e w2 ⟨rfl, hr2, hb2⟩
  have bw2 : Below w.heap.size w w2 := hb2
  have hsp := rowValues_spec _ xs.length xs w2 hn hn HBY.out (ysRowR hr2 (RowOf.lt hr2).2 hn)
  clear hr2 hb2
  go_wp2_with (go_at_call 23; fail)
  refine hsp.mono ?_
  rintro e w3 ⟨v, c, us, rfl, hr3, hc3, hb3⟩
  have bw3 : Below w.heap.size w w3 := bw2.trans (hb3.mono bw2.size)
  have HC3 := hid hc3
  have HCC := hid hc3
  have HBW3 := hid bw3
  have HR3 := hid (hr3.rs (D := CV) id)
  have HR33 := hid (HR3.out.mono liesV (Nat.zero_le _))
  obtain ⟨wa, wc, rfl, _⟩ := hr3
  have HUB := hid (HBV.out us c hc3)
  have hul : us.length ≤ 1048576 := HUB.out.1
  clear hsp hb3 hc3 bw2
  go_wp2_with (go_at_call 20; fail)
  refine (ht9 _ bw3).mono ?_
  rintro e w4 ⟨rfl, hr4, hb4⟩
  have bw4 : Below w.heap.size w w4 := bw3.trans (hb4.mono bw3.size)
  replace HR3 := hid (HR3.out.below liesV hb4)
  have HB34 := hid hb4
  have HR4 := hid hr4
  have HGL : Hid (w3.heap.size < w4.heap.size) := (RowOf.lt hr4).2
  have him := HIM.out _ xs.length w4 HBY.out hn (tabs_below HT0.out bw4) (ysRowR hr4 (RowOf.lt hr4).2 hn)
  obtain ⟨gx, hgx⟩ : ∃ x, x = w3.heap.size := ⟨_, rfl⟩
  rw [← hgx] at him HR4 HB34 HGL ⊢
  have HGX : Hid (w.heap.size ≤ gx) := (by rw [hgx]; exact bw3.size : w.heap.size ≤ gx)
  have HR30 : Hid (RS 3 CV 0 w4 (.slice wa us.length wc) us) := HR3.out.mono liesV (Nat.zero_le _)
  have HG3 := hid hgx
  have HGX4 : Hid (gx ≤ w4.heap.size) := (by rw [hgx]; exact hb4.size : gx ≤ w4.heap.size)
  clear hr4 hb4 hgx
  go_wp2_with (go_at_call 24; fail)
  refine him.mono ?_
  rintro e w5 ⟨v5, c5, us5, rfl, hr5, hc5, hb5⟩
  obtain ⟨rfl, rfl⟩ := rvC_eq hc5 HC3.out
  have bw5 : Below w.heap.size w w5 := bw4.trans (hb5.mono bw4.size)
  have HR5 := hid hr5
  obtain ⟨ga, gc, rfl, _⟩ := hr5
  have HR45 := hid (RowOf.below HR4.out hb5)
  have HB5 := hid hb5
  have HR35 := hid (HR30.out.below liesV hb5)
  have he1 := eqVS_same _ _ us5 w5 HUB.out ((HR5.out.rs (D := CV) id).mono liesV (Nat.zero_le _)) HR35.out
  clear him hb5 hc5 HC3 HR30 HR3
  go_wp2_with (go_at_call 13; fail)
  refine he1.mono ?_
  rintro e w6 ⟨rfl, hb6⟩
  have bw6 : Below w.heap.size w w6 := bw5.trans (hb6.mono bw5.size)
  replace HR5 := hid (HR5.out.below liesV hb6)
  replace HR45 := hid (RowOf.below HR45.out hb6)
  have HB6 : Hid (Below w4.heap.size w4 w6) := HB5.out.trans (hb6.mono HB5.out.size)
  clear he1 hb6 HR35 HB5 bw5 bw4 bw3
  go_wp2_with (go_at_call 20; fail)
  refine (ht9 _ bw6).mono ?_
  rintro e w7 ⟨rfl, hr7, hb7⟩
  have bw7 : Below w.heap.size w w7 := bw6.trans (hb7.mono bw6.size)
  replace HR5 := hid (HR5.out.below liesV hb7)
  have HB7 : Hid (Below w4.heap.size w4 w7) := HB6.out.trans (hb7.mono HB6.out.size)
  have he2 := eqByteS_same _ _ xs w7 hn (((YRow.rsw (RowOf.below HR45.out hb7)).rs (D := CY) id).mono liesY (Nat.zero_le _)) (((YRow.rsw hr7).rs (D := CY) id).mono liesY (Nat.zero_le _))
  clear hb7 hr7 HR45 HB6 bw6
  go_wp2_with (go_at_call 12; fail)
  refine he2.mono ?_
  rintro e w8 ⟨rfl, hb8⟩
  replace HR5 := hid (HR5.out.below liesV hb8)
  have hb48 : Below w4.heap.size w4 w8 := HB7.out.trans (hb8.mono HB7.out.size)
  have X8 : Below gx w3 w8 := HB34.out.trans (hb48.mono HGX4.out)
  have hmk := markY_row gx xs.length xs w4 w8 w3 _ gx gx hn HR4.out hb48 X8 (Nat.le_refl _)
  clear he2 hb8 HB7 hb48 HB34 X8 bw7
  go_wp2_with (go_at_call 15; fail)
  refine hmk.mono ?_
  rintro e w9 ⟨rfl, X9, hs9, hh9⟩
  replace HR5 := hid (HR5.out.keptV hs9 (fun b h1 h2 => hh9 b h2 (by have := HGL.out; omega)))
  have Y9 : Below w3.heap.size w3 w9 := (by rw [← HG3.out]; exact X9)
  have HR39 := hid (HR33.out.below liesV Y9)
  have he3 := eqVS_same _ _ us5 w9 HUB.out ((HR5.out.rs (D := CV) id).mono liesV (Nat.zero_le _)) HR39.out
  have hx9 : gx ≤ w9.heap.size := by have := Y9.size; have := HG3.out; omega
  obtain ⟨k9, hk9⟩ : ∃ x : Int, ((1 + xs.length : Nat) : Int) = x := ⟨_, rfl⟩
  rw [hk9]
  have hk9n : ¬ k9 < 0 := by omega
  clear hmk hs9 hh9 HR4 HR39 Y9 hk9
  go_wp2_with (go_at_call 13; fail)
  refine he3.mono ?_
  rintro e w10 ⟨rfl, hb10⟩
  replace HR5 := hid (HR5.out.below liesV hb10)
  have X10 : Below gx w3 w10 := X9.trans (hb10.mono hx9)
  have hmi := markV_told ga gc w4.heap.size us5 w10 w3 gx hul X10 HGX4.out HR5.out
  clear he3 hb10 X9 hx9 HR5 X10
  go_wp2_with (go_at_call 14; fail)
  refine hmi.mono ?_
  rintro e w11 ⟨rfl, X11, hTt⟩
  have HT := hid hTt
  have hhe := heldV_told ga us5.length gc 1 w11 (by omega) (by omega) hTt
  obtain ⟨mm, hmm⟩ : ∃ x : Int, ((1 + 3 * us5.length : Nat) : Int) = x := ⟨_, rfl⟩
  rw [hmm] at hhe ⊢
  have hmm0 : ¬ mm < 0 := by omega
  have HMM := hid hmm
  have hx11 : gx ≤ w11.heap.size := by have := X11.size; have := HG3.out; omega
  clear hmi hTt hmm
  go_wp2_with (go_at_call 22; fail)
  refine hhe.mono ?_
  rintro e w11' ⟨rfl, hb11⟩
  replace HT := hid (HT.out.below hb11)
  have X11' : Below gx w3 w11' := X11.trans (hb11.mono hx11)
  have HB3 : Hid (Below w.heap.size w w3) := HBW3.out
  have bw11 : Below w.heap.size w w11' := HB3.out.trans (X11'.mono HGX.out)
  have Y11 : Below w3.heap.size w3 w11' := (by rw [← HG3.out]; exact X11')
  have HR311 := hid (HR33.out.below liesV Y11)
  clear hhe Y11 X11 X11' hb11
  go_wp2_with (go_at_call 20; fail)
  refine (ht9 _ bw11).mono ?_
  rintro e w12 ⟨rfl, hr12, hb12⟩
  have bw12 : Below w.heap.size w w12 := bw11.trans (hb12.mono bw11.size)
  replace HT := hid (HT.out.below hb12)
  replace HR311 := hid (HR311.out.below liesV hb12)
  have him2 := HIM.out _ xs.length w12 HBY.out hn (tabs_below HT0.out bw12) (ysRowR hr12 (RowOf.lt hr12).2 hn)
  clear hr12 hb12 bw11
  go_wp2_with (go_at_call 24; fail)
  refine him2.mono ?_
  rintro e w13 ⟨v13, c13, us13, rfl, hr13, hc13, hb13⟩
  obtain ⟨rfl, rfl⟩ := rvC_eq hc13 HCC.out
  have bw13 : Below w.heap.size w w13 := bw12.trans (hb13.mono bw12.size)
  replace HT := hid (HT.out.below hb13)
  replace HR311 := hid (HR311.out.below liesV hb13)
  have HR13 := hid hr13
  obtain ⟨ha, hc, rfl, _⟩ := hr13
  have he4 := eqVS_same _ _ us13 w13 HUB.out ((HR13.out.rs (D := CV) id).mono liesV (Nat.zero_le _)) HR311.out
  clear him2 hb13 hc13 HCC bw12 HR13 HR311
  go_wp2_with (go_at_call 13; fail)
  refine he4.mono ?_
  rintro e w14 ⟨rfl, hb14⟩
  have bw14 : Below w.heap.size w w14 := bw13.trans (hb14.mono bw13.size)
  have hhe2 := heldV_told ga us13.length gc 1 w14 (by omega) (by omega) (HT.out.below hb14)
  rw [HMM.out] at hhe2
  clear he4 hb14 bw13 HT
  go_wp2_with (go_at_call 22; fail)
  refine hhe2.mono ?_
  rintro e w15 ⟨rfl, hb15⟩
  have bw15 : Below w.heap.size w w15 := bw14.trans (hb15.mono bw14.size)
  clear hb15
  go_wp2
  go_ret
  exact ⟨rfl, bw15⟩
end Go.Proofs.YtfgjleifhjegkaaDoor
