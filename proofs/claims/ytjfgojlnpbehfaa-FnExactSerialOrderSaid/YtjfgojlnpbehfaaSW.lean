import Derived.Test.YtjfgojlnpbehfaaXT
import Derived.Test.YtjfgojlnpbehfaaDQ
import Derived.Test.YtjfgojlnpbehfaaDS
import Derived.Test.YtjfgojlnpbehfaaML
namespace Go.Proofs.Ytjfgojlnpbehfaa
open Go.ChangeShapes Go.WideShapes Go.ChangeAt Go.RowKit
set_option linter.unusedVariables false
set_option linter.unusedSimpArgs false
set_option maxRecDepth 100000
theorem serC_len {us : List TI} {l : List Int} {c : Int} (h : SerC us l c) : l.length ≤ us.length := by
  rcases h with ⟨_, rfl, _⟩ | ⟨_, x, _, hl, rfl, _⟩ | ⟨_, x, _, _, _, rfl, _⟩
  · simp
  · rw [List.length_map]; omega
  · simp
set_option maxHeartbeats 8000000 in
theorem serial_law (la : Option Addr) (lc : Nat) (us : List TI) (w : World) (hus : BH maxLen us) (hv : RS 4 CT 0 w (.slice la us.length lc) us) :
    Calls Try.prog 4 #[.slice la us.length lc] w fun e w' => e = .returned (.bool true) ∧ Below w.heap.size w w' := by
  have HV : Hid (RS 4 CT 0 w (.slice la us.length lc) us) := hv
  have hs1 := szTS_any la lc us 1048576 w (by omega) (by omega) hus hv
  clear hv hus
  go_enter Try.func4, Try.ntmps4
  go_wp2_with (go_at_call 6; fail)
  refine hs1.mono ?_
  rintro e w1 ⟨rfl | ⟨m, hm, rfl, hBL⟩, bw1⟩
  · clear hs1
    go_wp2
    go_ret
    exact ⟨rfl, bw1⟩
  have HBL := hid hBL
  have hn := hBL.1
  have hm0 : ¬ (m : Int) < 0 := by omega
  have ht9 := fun W (h : Below w.heap.size w W) => toTS_w la lc us W HBL.out (HV.out.below liesT h)
  clear hs1 hBL hm
  go_wp2_with (go_at_call 9; fail)
  refine (ht9 _ bw1).mono ?_
  rintro e w2 ⟨rfl, hr2, hb2⟩
  have bw2 : Below w.heap.size w w2 := bw1.trans (hb2.mono bw1.size)
  have hsp := serial_spec _ us.length us w2 HBL.out (hr2.rs (cap := us.length) (fun h => (liesTW.mono h (Nat.zero_le _)).ct))
  clear hr2 hb2 hm0
  go_wp2_with (go_at_call 14; fail)
  refine hsp.mono ?_
  rintro e w3 ⟨v, c, l, rfl, hr3, hc3, hb3⟩
  have bw3 : Below w.heap.size w w3 := bw2.trans (hb3.mono bw2.size)
  have HC3 := hid hc3
  have HCC := hid hc3
  have HBW3 := hid bw3
  have HR3 := hid (hr3.rs (D := CI) id)
  have HR33 := hid (HR3.out.mono liesI (Nat.zero_le _))
  obtain ⟨wa, wc, rfl, _⟩ := hr3
  have hll := serC_len hc3
  clear hsp hb3 hc3 bw1 bw2
  go_wp2_with (go_at_call 9; fail)
  refine (ht9 _ bw3).mono ?_
  rintro e w4 ⟨rfl, hr4, hb4⟩
  have bw4 : Below w.heap.size w w4 := bw3.trans (hb4.mono bw3.size)
  replace HR3 := hid (HR3.out.below liesI hb4)
  have HB34 := hid hb4
  have HR4 := hid hr4
  have him := serial_impl _ us.length us w4 HBL.out (hr4.rs (cap := us.length) (fun h => (liesTW.mono h (Nat.zero_le _)).ct))
  obtain ⟨gx, hgx⟩ : ∃ x, x = w3.heap.size := ⟨_, rfl⟩
  rw [← hgx] at him HR4 HB34 ⊢
  have HGX : Hid (w.heap.size ≤ gx) := (by rw [hgx]; exact bw3.size : w.heap.size ≤ gx)
  have HR30 : Hid (RS 1 CI 0 w4 (.slice wa l.length wc) l) := HR3.out.mono liesI (Nat.zero_le _)
  have HG3 := hid hgx
  have HGX4 : Hid (gx ≤ w4.heap.size) := (by rw [hgx]; exact hb4.size : gx ≤ w4.heap.size)
  clear hr4 hb4 hgx
  go_wp2_with (go_at_call 15; fail)
  refine him.mono ?_
  rintro e w5 ⟨v5, c5, l5, rfl, hr5, hc5, hb5⟩
  obtain ⟨rfl, rfl⟩ := serC_eq hc5 HC3.out
  have bw5 : Below w.heap.size w w5 := bw4.trans (hb5.mono bw4.size)
  have HR5 := hid hr5
  obtain ⟨ga, gc, rfl, _⟩ := hr5
  have HR45 := hid (HR4.out.below liesTW hb5)
  have HB5 := hid hb5
  have HR35 := hid (HR30.out.below liesI hb5)
  have he1 := eqIntS_same _ _ l5 w5 (by omega) ((HR5.out.rs (D := CI) id).mono liesI (Nat.zero_le _)) HR35.out
  clear him hb5 hc5 HC3 HR30 HR3
  go_wp2_with (go_at_call 16; fail)
  refine he1.mono ?_
  rintro e w6 ⟨rfl, hb6⟩
  have bw6 : Below w.heap.size w w6 := bw5.trans (hb6.mono bw5.size)
  replace HR5 := hid (HR5.out.below liesI hb6)
  replace HR45 := hid (HR45.out.below liesTW hb6)
  have HB6 : Hid (Below w4.heap.size w4 w6) := HB5.out.trans (hb6.mono HB5.out.size)
  clear he1 hb6 HR35 HB5 bw5 bw4 bw3
  go_wp2_with (go_at_call 9; fail)
  refine (ht9 _ bw6).mono ?_
  rintro e w7 ⟨rfl, hr7, hb7⟩
  have bw7 : Below w.heap.size w w7 := bw6.trans (hb7.mono bw6.size)
  replace HR5 := hid (HR5.out.below liesI hb7)
  have HB7 : Hid (Below w4.heap.size w4 w7) := HB6.out.trans (hb7.mono HB6.out.size)
  have he2 := eqTS_same _ _ us w7 HBL.out ((HR45.out.below liesTW hb7).rs (cap := us.length) (fun h => (liesTW.mono h (Nat.zero_le _)).ct)) (hr7.rs (cap := us.length) (fun h => (liesTW.mono h (Nat.zero_le _)).ct))
  clear hb7 hr7 HR45 HB6 bw6
  go_wp2_with (go_at_call 12; fail)
  refine he2.mono ?_
  rintro e w8 ⟨rfl, hb8⟩
  replace HR5 := hid (HR5.out.below liesI hb8)
  have hb48 : Below w4.heap.size w4 w8 := HB7.out.trans (hb8.mono HB7.out.size)
  have X8 : Below gx w3 w8 := HB34.out.trans (hb48.mono HGX4.out)
  have hmk := markTS_any gx us.length us w4 w8 w3 gx HBL.out HR4.out hb48 X8 (Nat.le_refl _)
  clear he2 hb8 HB7 hb48 HB34 X8 bw7
  go_wp2_with (go_at_call 17; fail)
  refine hmk.mono ?_
  rintro e w9 ⟨⟨k9, hk9, rfl⟩, X9, hs9, hh9⟩
  have hk9n : ¬ k9 < 0 := by omega
  replace HR5 := hid (HR5.out.high (Nat.le_refl _) hs9 hh9)
  have Y9 : Below w3.heap.size w3 w9 := (by rw [← HG3.out]; exact X9)
  have HR39 := hid (HR33.out.below liesI Y9)
  have he3 := eqIntS_same _ _ l5 w9 (by omega) ((HR5.out.rs (D := CI) id).mono liesI (Nat.zero_le _)) HR39.out
  have hx9 : gx ≤ w9.heap.size := by have := Y9.size; have := HG3.out; omega
  clear hmk hs9 hh9 HR4 HR39 Y9
  go_wp2_with (go_at_call 16; fail)
  refine he3.mono ?_
  rintro e w10 ⟨rfl, hb10⟩
  replace HR5 := hid (HR5.out.below liesI hb10)
  have X10 : Below gx w3 w10 := X9.trans (hb10.mono hx9)
  have hmi := markI_told ga gc w4.heap.size l5 1 w10 w3 gx (by omega) (by omega) X10 HGX4.out HR5.out
  clear he3 hb10 X9 hx9 HR5 X10
  go_wp2_with (go_at_call 18; fail)
  refine hmi.mono ?_
  rintro e w11 ⟨rfl, X11, hT, _⟩
  have HT := hid hT
  obtain ⟨mm, hmm⟩ : ∃ x : Nat, (1 : Int) + l5.length = x := ⟨1 + l5.length, by omega⟩
  have hhe := heldI_told ga l5.length gc 1 w11 (by omega) (by omega) hT
  rw [hmm] at hhe ⊢
  have hmm0 : ¬ (mm : Int) < 0 := by omega
  have HMM := hid hmm
  clear hmi hT hmm
  go_wp2_with (go_at_call 19; fail)
  refine hhe.mono ?_
  rintro e w11' ⟨rfl, hww⟩
  replace hww := hww.symm
  subst hww
  have HB3 : Hid (Below w.heap.size w w3) := HBW3.out
  have bw11 : Below w.heap.size w w11 := HB3.out.trans (X11.mono HGX.out)
  have Y11 : Below w3.heap.size w3 w11 := (by rw [← HG3.out]; exact X11)
  have HR311 := hid (HR33.out.below liesI Y11)
  clear hhe Y11 X11
  go_wp2_with (go_at_call 9; fail)
  refine (ht9 _ bw11).mono ?_
  rintro e w12 ⟨rfl, hr12, hb12⟩
  have bw12 : Below w.heap.size w w12 := bw11.trans (hb12.mono bw11.size)
  replace HT := hid (HT.out.below hb12)
  replace HR311 := hid (HR311.out.below liesI hb12)
  have him2 := serial_impl _ us.length us w12 HBL.out (hr12.rs (cap := us.length) (fun h => (liesTW.mono h (Nat.zero_le _)).ct))
  clear hr12 hb12 bw11
  go_wp2_with (go_at_call 15; fail)
  refine him2.mono ?_
  rintro e w13 ⟨v13, c13, l13, rfl, hr13, hc13, hb13⟩
  obtain ⟨rfl, rfl⟩ := serC_eq hc13 HCC.out
  have bw13 : Below w.heap.size w w13 := bw12.trans (hb13.mono bw12.size)
  replace HT := hid (HT.out.below hb13)
  replace HR311 := hid (HR311.out.below liesI hb13)
  have HR13 := hid hr13
  obtain ⟨ha, hc, rfl, _⟩ := hr13
  have he4 := eqIntS_same _ _ l13 w13 (by omega) ((HR13.out.rs (D := CI) id).mono liesI (Nat.zero_le _)) HR311.out
  clear him2 hb13 hc13 HCC bw12 HR13 HR311
  go_wp2_with (go_at_call 16; fail)
  refine he4.mono ?_
  rintro e w14 ⟨rfl, hb14⟩
  have bw14 : Below w.heap.size w w14 := bw13.trans (hb14.mono bw13.size)
  have hhe2 := heldI_told ga l13.length gc 1 w14 (by omega) (by omega) (HT.out.below hb14)
  rw [HMM.out] at hhe2
  clear he4 hb14 bw13 HT
  go_wp2_with (go_at_call 19; fail)
  refine hhe2.mono ?_
  rintro e w15 ⟨rfl, hww⟩
  replace hww := hww.symm
  subst hww
  go_wp2
  go_ret
  exact ⟨rfl, bw14⟩
end Go.Proofs.Ytjfgojlnpbehfaa
