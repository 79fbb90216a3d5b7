import Derived.Test.YtcgnkcehjcednaaDoorJA9
import Derived.Deep.CutRange
import Derived.Deep.DeepCutAuto
namespace Go.Proofs.YtcgnkcehjcednaaDoor
open Go.ChangeShapes Go.WideShapes Go.ChangeAt Go.RowKit Go.Shelf
set_option linter.unusedVariables false
set_option linter.unusedSimpArgs false
set_option maxRecDepth 100000
namespace Wh
open Ar Dr
set_option maxHeartbeats 16000000 in
theorem whole_zero (v0 : Option Addr) (len cap : Nat) (w : World) (hl : len ≤ 1048576) (hr : ∀ j, j < len → ∃ g o b, v0 = some ⟨g, o, none⟩ ∧ g < w.heap.size ∧ w.cell? ⟨g, o + j, none⟩ = some (.int .u8 b) ∧ 0 ≤ b ∧ b < 256) (hT : Tabs w) :
    Calls Tryd.prog 10 #[.slice v0 len cap] w fun e w' => e = .returned (.bool true) ∧ Below w.heap.size w w' := by
  have hli : ¬ (1048576 : Int) < len := by omega
  go_enter Tryd.func10, Tryd.ntmps10
  go_wp2_with fail
  refine (drawNumbers_any v0 len cap _ hl hr).mono ?_
  intro e w1 hp
  clear hr
  obtain ⟨k, a, b, ha, hb, rfl, b1⟩ := hp
  have bw1 : Below w.heap.size w w1 := b1
  have HA : Hid (inK k a) := ha
  have HB : Hid (inK k b) := hb
  have hk : k = 1 ∨ k = 2 := by unfold inK at ha; omega
  have HK : Hid (k = 1 ∨ k = 2) := hk
  by_cases b0 : b = 0
  · subst b0
    have RM : Hid (binR k 5 a 0 = (0, 0, 14)) := r_mod0 hk
    have HS : Hid (inK k a) := ha
    have RA : Hid (binR k 1 a 0 = (k, a, 0)) := (by have := r_add (b := 0) hk (by rw [Int.add_zero]; exact ha); rw [Int.add_zero] at this; exact this : binR k 1 a 0 = (k, a, 0))
    have RS : Hid (binR k 2 a 0 = (k, a, 0)) := (by have := r_sub (b := 0) hk ha; rw [Int.add_zero] at this; exact this : binR k 2 a 0 = (k, a, 0))
    clear ha hb hk
    go_wp2_with fail
    refine (binary_spec k 5 a 0 _ (inK_num 5 HA.out HB.out (by omega)) (by omega)).mono ?_
    rw [RM.out]
    simp only [binV]
    rintro e w2 ⟨rfl, hb2⟩
    have b2 : Below w1.heap.size w1 w2 := Below.trans (by (go_light; repeat (first | with_reducible exact Below.refl _ _ | (with_reducible refine Below.setCell ?_ ?_ _; rotate_left; (focus first | (simp; done) | (simp; omega) | omega)) | (with_reducible refine Below.alloc ?_ ?_ _; rotate_left; (focus first | (simp; done) | (simp; omega) | omega)) | with_reducible refine Below.drew ?_))) (hb2.mono (by first | (simp; done) | (simp; omega)))
    have bw2 : Below w.heap.size w w2 := chain bw1 b2
    have A2 : HV w2 (w1.heap.size) k a := HV.from hb2 (by simp [go_sem]) (by simp [go_sem]) (by simp [go_sem]) (by first | (simp; done) | (simp; omega))
    have B2 : HV w2 (w1.heap.size + 1) k 0 := HV.from hb2 (by simp [go_sem]) (by simp [go_sem]) (by simp [go_sem]) (by first | (simp; done) | (simp; omega))
    obtain ⟨A2x, A2y, A2z, A2l⟩ := A2
    obtain ⟨B2x, B2y, B2z, B2l⟩ := B2
    have A2 : HV w2 (w1.heap.size) k a := ⟨A2x, A2y, A2z, A2l⟩
    have B2 : HV w2 (w1.heap.size + 1) k 0 := ⟨B2x, B2y, B2z, B2l⟩
    clear hb2
    go_wp2_with fail
    refine (binary_impl k 5 a 0 _ (inK_num 5 HA.out HB.out (by omega)) (tabs_below hT (chain bw2 (by (go_light; repeat (first | with_reducible exact Below.refl _ _ | (with_reducible refine Below.setCell ?_ ?_ _; rotate_left; (focus first | (simp; done) | (simp; omega) | omega)) | (with_reducible refine Below.alloc ?_ ?_ _; rotate_left; (focus first | (simp; done) | (simp; omega) | omega)) | with_reducible refine Below.drew ?_)))))).mono ?_
    rw [RM.out]
    simp only [binV]
    rintro e w3 ⟨rfl, hb3⟩
    have b3 : Below w2.heap.size w2 w3 := Below.trans (by (go_light; repeat (first | with_reducible exact Below.refl _ _ | (with_reducible refine Below.setCell ?_ ?_ _; rotate_left; (focus first | (simp; done) | (simp; omega) | omega)) | (with_reducible refine Below.alloc ?_ ?_ _; rotate_left; (focus first | (simp; done) | (simp; omega) | omega)) | with_reducible refine Below.drew ?_))) (hb3.mono (by first | (simp; done) | (simp; omega)))
    have bw3 : Below w.heap.size w w3 := chain bw2 b3
    have A3 := A2.go b3
    have B3 := B2.go b3
    have R3 : HV w3 (w2.heap.size) 0 0 := HV.from hb3 (by simp [go_sem]) (by simp [go_sem]) (by simp [go_sem]) (by first | (simp; done) | (simp; omega))
    obtain ⟨A3x, A3y, A3z, A3l⟩ := A3
    obtain ⟨B3x, B3y, B3z, B3l⟩ := B3
    obtain ⟨R3x, R3y, R3z, R3l⟩ := R3
    have A3 : HV w3 (w1.heap.size) k a := ⟨A3x, A3y, A3z, A3l⟩
    have B3 : HV w3 (w1.heap.size + 1) k 0 := ⟨B3x, B3y, B3z, B3l⟩
    have R3 : HV w3 (w2.heap.size) 0 0 := ⟨R3x, R3y, R3z, R3l⟩
    clear hb3
    go_wp2_with fail
    refine (binary_impl k 1 a 0 _ (inK_num 1 HA.out HB.out (by omega)) (tabs_below hT (chain bw3 (by (go_light; repeat (first | with_reducible exact Below.refl _ _ | (with_reducible refine Below.setCell ?_ ?_ _; rotate_left; (focus first | (simp; done) | (simp; omega) | omega)) | (with_reducible refine Below.alloc ?_ ?_ _; rotate_left; (focus first | (simp; done) | (simp; omega) | omega)) | with_reducible refine Below.drew ?_)))))).mono ?_
    rw [RA.out]
    simp only [binV]
    rintro e w4 ⟨rfl, hb4⟩
    have b4 : Below w3.heap.size w3 w4 := Below.trans (by (go_light; repeat (first | with_reducible exact Below.refl _ _ | (with_reducible refine Below.setCell ?_ ?_ _; rotate_left; (focus first | (simp; done) | (simp; omega) | omega)) | (with_reducible refine Below.alloc ?_ ?_ _; rotate_left; (focus first | (simp; done) | (simp; omega) | omega)) | with_reducible refine Below.drew ?_))) (hb4.mono (by first | (simp; done) | (simp; omega)))
    have bw4 : Below w.heap.size w w4 := chain bw3 b4
    have A4 := A3.go b4
    have B4 := B3.go b4
    have R4 := R3.go b4
    have G4 : HV w4 (w3.heap.size) 0 0 := HV.from hb4 (by simp [go_sem]) (by simp [go_sem]) (by simp [go_sem]) (by first | (simp; done) | (simp; omega))
    obtain ⟨A4x, A4y, A4z, A4l⟩ := A4
    obtain ⟨B4x, B4y, B4z, B4l⟩ := B4
    obtain ⟨R4x, R4y, R4z, R4l⟩ := R4
    obtain ⟨G4x, G4y, G4z, G4l⟩ := G4
    have A4 : HV w4 (w1.heap.size) k a := ⟨A4x, A4y, A4z, A4l⟩
    have B4 : HV w4 (w1.heap.size + 1) k 0 := ⟨B4x, B4y, B4z, B4l⟩
    have R4 : HV w4 (w2.heap.size) 0 0 := ⟨R4x, R4y, R4z, R4l⟩
    have G4 : HV w4 (w3.heap.size) 0 0 := ⟨G4x, G4y, G4z, G4l⟩
    clear hb4
    go_wp2_with fail
    refine (binary_spec k 1 a 0 _ (inK_num 1 HA.out HB.out (by omega)) (by omega)).mono ?_
    rw [RA.out]
    simp only [binV]
    rintro e w5 ⟨rfl, hb5⟩
    have b5 : Below w4.heap.size w4 w5 := Below.trans (by (go_light; repeat (first | with_reducible exact Below.refl _ _ | (with_reducible refine Below.setCell ?_ ?_ _; rotate_left; (focus first | (simp; done) | (simp; omega) | omega)) | (with_reducible refine Below.alloc ?_ ?_ _; rotate_left; (focus first | (simp; done) | (simp; omega) | omega)) | with_reducible refine Below.drew ?_))) (hb5.mono (by first | (simp; done) | (simp; omega)))
    have bw5 : Below w.heap.size w w5 := chain bw4 b5
    have A5 := A4.go b5
    have B5 := B4.go b5
    have G5 := G4.go b5
    have S5 : HV w5 (w4.heap.size) k a := HV.from hb5 (by simp [go_sem]) (by simp [go_sem]) (by simp [go_sem]) (by first | (simp; done) | (simp; omega))
    obtain ⟨A5x, A5y, A5z, A5l⟩ := A5
    obtain ⟨B5x, B5y, B5z, B5l⟩ := B5
    obtain ⟨G5x, G5y, G5z, G5l⟩ := G5
    obtain ⟨S5x, S5y, S5z, S5l⟩ := S5
    have A5 : HV w5 (w1.heap.size) k a := ⟨A5x, A5y, A5z, A5l⟩
    have B5 : HV w5 (w1.heap.size + 1) k 0 := ⟨B5x, B5y, B5z, B5l⟩
    have G5 : HV w5 (w3.heap.size) 0 0 := ⟨G5x, G5y, G5z, G5l⟩
    have S5 : HV w5 (w4.heap.size) k a := ⟨S5x, S5y, S5z, S5l⟩
    clear hb5
    go_wp2_with fail
    refine (binary_impl k 2 a 0 _ (inK_num 2 HS.out HB.out (by omega)) (tabs_below hT (chain bw5 (by (go_light; repeat (first | with_reducible exact Below.refl _ _ | (with_reducible refine Below.setCell ?_ ?_ _; rotate_left; (focus first | (simp; done) | (simp; omega) | omega)) | (with_reducible refine Below.alloc ?_ ?_ _; rotate_left; (focus first | (simp; done) | (simp; omega) | omega)) | with_reducible refine Below.drew ?_)))))).mono ?_
    rw [RS.out]
    simp only [binV]
    rintro e w6 ⟨rfl, hb6⟩
    have b6 : Below w5.heap.size w5 w6 := Below.trans (by (go_light; repeat (first | with_reducible exact Below.refl _ _ | (with_reducible refine Below.setCell ?_ ?_ _; rotate_left; (focus first | (simp; done) | (simp; omega) | omega)) | (with_reducible refine Below.alloc ?_ ?_ _; rotate_left; (focus first | (simp; done) | (simp; omega) | omega)) | with_reducible refine Below.drew ?_))) (hb6.mono (by first | (simp; done) | (simp; omega)))
    have bw6 : Below w.heap.size w w6 := chain bw5 b6
    have A6 := A5.go b6
    have B6 := B5.go b6
    have G6 := G5.go b6
    have S6 := S5.go b6
    obtain ⟨A6x, A6y, A6z, A6l⟩ := A6
    obtain ⟨B6x, B6y, B6z, B6l⟩ := B6
    obtain ⟨G6x, G6y, G6z, G6l⟩ := G6
    obtain ⟨S6x, S6y, S6z, S6l⟩ := S6
    have A6 : HV w6 (w1.heap.size) k a := ⟨A6x, A6y, A6z, A6l⟩
    have B6 : HV w6 (w1.heap.size + 1) k 0 := ⟨B6x, B6y, B6z, B6l⟩
    have G6 : HV w6 (w3.heap.size) 0 0 := ⟨G6x, G6y, G6z, G6l⟩
    have S6 : HV w6 (w4.heap.size) k a := ⟨S6x, S6y, S6z, S6l⟩
    clear hb6
    go_wp2
    go_ret
    exact ⟨rfl, chain bw6 (by (go_light; repeat (first | with_reducible exact Below.refl _ _ | (with_reducible refine Below.setCell ?_ ?_ _; rotate_left; (focus first | (simp; done) | (simp; omega) | omega)) | (with_reducible refine Below.alloc ?_ ?_ _; rotate_left; (focus first | (simp; done) | (simp; omega) | omega)) | with_reducible refine Below.drew ?_)))⟩
  have BA : Hid (inI a) := inK_in ha
  have BB : Hid (inI b) := inK_in hb
  obtain ⟨m, hm⟩ : ∃ m, a.tmod b = m := ⟨_, rfl⟩
  have RM : Hid (binR k 5 a b = (k, m, 0)) := (by rw [← hm]; exact r_mod hk b0 : binR k 5 a b = (k, m, 0))
  have HLie : Hid (Lie a b m) := (by rw [← hm]; exact lie_of b0 BA.out BB.out : Lie a b m)
  have BM : Hid (inI m) := (by rw [← hm]; exact tmod_bd BA.out : inI m)
  have HDiv : Hid (k = 1 → ¬ (a = -9223372036854775808 ∧ b = -1) → ∃ q, Hid (binR 1 4 a b = (1, q, 0)) ∧ Hid (binR 1 3 q b = (1, a - m, 0)) ∧ Hid (inI q) ∧ Hid (inI (a - m))) := (fun _ hx => by rw [← hm]; exact div_facts b0 BA.out BB.out hx)
  have RB : Hid (binR 1 1 (a - m) m = (1, a, 0)) := r_back BA.out
  have HDec : Hid (k = 2 → -999999999999999999 ≤ a ∧ a ≤ 999999999999999999 ∧ -999999999999999999 ≤ m ∧ m ≤ 999999999999999999 ∧ (a - m).tmod b = 0 ∧ (b != 0) = true) := (fun e => by
    have hd : inD a := by
      rcases ha with ⟨h, _⟩ | ⟨_, h⟩
      · omega
      · exact h
    have hd2 : inD (a.tmod b) := tmod_le hd
    rw [hm] at hd2
    unfold inD at hd hd2
    refine ⟨hd.1, hd.2, hd2.1, hd2.2, ?_, by simpa using b0⟩
    have := (mod_facts a b b0).2.2.2.2
    rw [hm] at this
    rw [show a - m = b * a.tdiv b by omega]
    exact Int.mul_tmod_right _ _)
  obtain ⟨⟨s1, s2, s3⟩, hs0⟩ : ∃ r, binR k 1 a b = r := ⟨_, rfl⟩
  have RA : Hid (binR k 1 a b = (s1, s2, s3)) := hs0
  have HAdd : Hid ((s1 = k ∧ s2 = a + b ∧ s3 = 0 ∧ inK k (a + b)) ∨ (s1 = 0 ∧ s2 = 0 ∧ s3 = 13)) := (by
    by_cases hs : inK k (a + b)
    · have := r_add hk hs
      rw [hs0] at this
      cases this
      exact .inl ⟨rfl, rfl, rfl, hs⟩
    · have := r_over hk hs
      rw [hs0] at this
      cases this
      exact .inr ⟨rfl, rfl, rfl⟩)
  have RS : Hid (binR k 2 (a + b) b = (k, a, 0)) := r_sub hk ha
  clear ha hb hk hm hs0
  go_wp2_with fail
  refine (binary_spec k 5 a b _ (inK_num 5 HA.out HB.out (by omega)) (by omega)).mono ?_
  rw [RM.out]
  simp only [binV]
  rintro e w2 ⟨rfl, hb2⟩
  have b2 : Below w1.heap.size w1 w2 := Below.trans (by (go_light; repeat (first | with_reducible exact Below.refl _ _ | (with_reducible refine Below.setCell ?_ ?_ _; rotate_left; (focus first | (simp; done) | (simp; omega) | omega)) | (with_reducible refine Below.alloc ?_ ?_ _; rotate_left; (focus first | (simp; done) | (simp; omega) | omega)) | with_reducible refine Below.drew ?_))) (hb2.mono (by first | (simp; done) | (simp; omega)))
  have bw2 : Below w.heap.size w w2 := chain bw1 b2
  have A2 : HV w2 (w1.heap.size) k a := HV.from hb2 (by simp [go_sem]) (by simp [go_sem]) (by simp [go_sem]) (by first | (simp; done) | (simp; omega))
  have B2 : HV w2 (w1.heap.size + 1) k b := HV.from hb2 (by simp [go_sem]) (by simp [go_sem]) (by simp [go_sem]) (by first | (simp; done) | (simp; omega))
  obtain ⟨A2x, A2y, A2z, A2l⟩ := A2
  obtain ⟨B2x, B2y, B2z, B2l⟩ := B2
  have A2 : HV w2 (w1.heap.size) k a := ⟨A2x, A2y, A2z, A2l⟩
  have B2 : HV w2 (w1.heap.size + 1) k b := ⟨B2x, B2y, B2z, B2l⟩
  clear hb2
  go_wp2_with fail
  refine (binary_impl k 5 a b _ (inK_num 5 HA.out HB.out (by omega)) (tabs_below hT (chain bw2 (by (go_light; repeat (first | with_reducible exact Below.refl _ _ | (with_reducible refine Below.setCell ?_ ?_ _; rotate_left; (focus first | (simp; done) | (simp; omega) | omega)) | (with_reducible refine Below.alloc ?_ ?_ _; rotate_left; (focus first | (simp; done) | (simp; omega) | omega)) | with_reducible refine Below.drew ?_)))))).mono ?_
  rw [RM.out]
  simp only [binV]
  rintro e w3 ⟨rfl, hb3⟩
  have b3 : Below w2.heap.size w2 w3 := Below.trans (by (go_light; repeat (first | with_reducible exact Below.refl _ _ | (with_reducible refine Below.setCell ?_ ?_ _; rotate_left; (focus first | (simp; done) | (simp; omega) | omega)) | (with_reducible refine Below.alloc ?_ ?_ _; rotate_left; (focus first | (simp; done) | (simp; omega) | omega)) | with_reducible refine Below.drew ?_))) (hb3.mono (by first | (simp; done) | (simp; omega)))
  have bw3 : Below w.heap.size w w3 := chain bw2 b3
  have A3 := A2.go b3
  have B3 := B2.go b3
  have R3 : HV w3 (w2.heap.size) k m := HV.from hb3 (by simp [go_sem]) (by simp [go_sem]) (by simp [go_sem]) (by first | (simp; done) | (simp; omega))
  obtain ⟨A3x, A3y, A3z, A3l⟩ := A3
  obtain ⟨B3x, B3y, B3z, B3l⟩ := B3
  obtain ⟨R3x, R3y, R3z, R3l⟩ := R3
  have A3 : HV w3 (w1.heap.size) k a := ⟨A3x, A3y, A3z, A3l⟩
  have B3 : HV w3 (w1.heap.size + 1) k b := ⟨B3x, B3y, B3z, B3l⟩
  have R3 : HV w3 (w2.heap.size) k m := ⟨R3x, R3y, R3z, R3l⟩
  clear hb3
  go_wp2_with fail
  refine (binary_impl k 1 a b _ (inK_num 1 HA.out HB.out (by omega)) (tabs_below hT (chain bw3 (by (go_light; repeat (first | with_reducible exact Below.refl _ _ | (with_reducible refine Below.setCell ?_ ?_ _; rotate_left; (focus first | (simp; done) | (simp; omega) | omega)) | (with_reducible refine Below.alloc ?_ ?_ _; rotate_left; (focus first | (simp; done) | (simp; omega) | omega)) | with_reducible refine Below.drew ?_)))))).mono ?_
  rw [RA.out]
  simp only [binV]
  rintro e w4 ⟨rfl, hb4⟩
  have b4 : Below w3.heap.size w3 w4 := Below.trans (by (go_light; repeat (first | with_reducible exact Below.refl _ _ | (with_reducible refine Below.setCell ?_ ?_ _; rotate_left; (focus first | (simp; done) | (simp; omega) | omega)) | (with_reducible refine Below.alloc ?_ ?_ _; rotate_left; (focus first | (simp; done) | (simp; omega) | omega)) | with_reducible refine Below.drew ?_))) (hb4.mono (by first | (simp; done) | (simp; omega)))
  have bw4 : Below w.heap.size w w4 := chain bw3 b4
  have A4 := A3.go b4
  have B4 := B3.go b4
  have R4 := R3.go b4
  have G4 : HV w4 (w3.heap.size) k m := HV.from hb4 (by simp [go_sem]) (by simp [go_sem]) (by simp [go_sem]) (by first | (simp; done) | (simp; omega))
  obtain ⟨A4x, A4y, A4z, A4l⟩ := A4
  obtain ⟨B4x, B4y, B4z, B4l⟩ := B4
  obtain ⟨R4x, R4y, R4z, R4l⟩ := R4
  obtain ⟨G4x, G4y, G4z, G4l⟩ := G4
  have A4 : HV w4 (w1.heap.size) k a := ⟨A4x, A4y, A4z, A4l⟩
  have B4 : HV w4 (w1.heap.size + 1) k b := ⟨B4x, B4y, B4z, B4l⟩
  have R4 : HV w4 (w2.heap.size) k m := ⟨R4x, R4y, R4z, R4l⟩
  have G4 : HV w4 (w3.heap.size) k m := ⟨G4x, G4y, G4z, G4l⟩
  clear hb4
  go_wp2_with fail
  refine (binary_spec k 1 a b _ (inK_num 1 HA.out HB.out (by omega)) (by omega)).mono ?_
  rw [RA.out]
  simp only [binV]
  rintro e w5 ⟨rfl, hb5⟩
  have b5 : Below w4.heap.size w4 w5 := Below.trans (by (go_light; repeat (first | with_reducible exact Below.refl _ _ | (with_reducible refine Below.setCell ?_ ?_ _; rotate_left; (focus first | (simp; done) | (simp; omega) | omega)) | (with_reducible refine Below.alloc ?_ ?_ _; rotate_left; (focus first | (simp; done) | (simp; omega) | omega)) | with_reducible refine Below.drew ?_))) (hb5.mono (by first | (simp; done) | (simp; omega)))
  have bw5 : Below w.heap.size w w5 := chain bw4 b5
  have A5 := A4.go b5
  have B5 := B4.go b5
  have G5 := G4.go b5
  have S5 : HV w5 (w4.heap.size) s1 s2 := HV.from hb5 (by simp [go_sem]) (by simp [go_sem]) (by simp [go_sem]) (by first | (simp; done) | (simp; omega))
  obtain ⟨A5x, A5y, A5z, A5l⟩ := A5
  obtain ⟨B5x, B5y, B5z, B5l⟩ := B5
  obtain ⟨G5x, G5y, G5z, G5l⟩ := G5
  obtain ⟨S5x, S5y, S5z, S5l⟩ := S5
  have A5 : HV w5 (w1.heap.size) k a := ⟨A5x, A5y, A5z, A5l⟩
  have B5 : HV w5 (w1.heap.size + 1) k b := ⟨B5x, B5y, B5z, B5l⟩
  have G5 : HV w5 (w3.heap.size) k m := ⟨G5x, G5y, G5z, G5l⟩
  have S5 : HV w5 (w4.heap.size) s1 s2 := ⟨S5x, S5y, S5z, S5l⟩
  clear hb5
  go_upto_if 65 with fail
  go_cut [13, 14] from 66 to 78 (fun _ _ wx => HV wx w1.heap.size k a ∧ HV wx (w1.heap.size + 1) k b ∧ HV wx w3.heap.size k m ∧ Below w.heap.size w wx)
  case first =>
    rcases HAdd.out with ⟨e1, e2, e3, hs⟩ | ⟨e1, e2, e3⟩
    · subst e1 e2 e3
      have HS : Hid (inK s1 (a + b)) := hs
      clear hs
      go_wp2_with fail
      refine (binary_impl s1 2 (a + b) b _ (inK_num 2 HS.out HB.out (by omega)) (tabs_below hT (chain bw5 (by (go_light; repeat (first | with_reducible exact Below.refl _ _ | (with_reducible refine Below.setCell ?_ ?_ _; rotate_left; (focus first | (simp; done) | (simp; omega) | omega)) | (with_reducible refine Below.alloc ?_ ?_ _; rotate_left; (focus first | (simp; done) | (simp; omega) | omega)) | with_reducible refine Below.drew ?_)))))).mono ?_
      rw [RS.out]
      simp only [binV]
      rintro e w6 ⟨rfl, hb6⟩
      have b6 : Below w5.heap.size w5 w6 := Below.trans (by (go_light; repeat (first | with_reducible exact Below.refl _ _ | (with_reducible refine Below.setCell ?_ ?_ _; rotate_left; (focus first | (simp; done) | (simp; omega) | omega)) | (with_reducible refine Below.alloc ?_ ?_ _; rotate_left; (focus first | (simp; done) | (simp; omega) | omega)) | with_reducible refine Below.drew ?_))) (hb6.mono (by first | (simp; done) | (simp; omega)))
      have bw6 : Below w.heap.size w w6 := chain bw5 b6
      have A6 := A5.go b6
      have B6 := B5.go b6
      have G6 := G5.go b6
      have S6 := S5.go b6
      obtain ⟨A6x, A6y, A6z, A6l⟩ := A6
      obtain ⟨B6x, B6y, B6z, B6l⟩ := B6
      obtain ⟨G6x, G6y, G6z, G6l⟩ := G6
      obtain ⟨S6x, S6y, S6z, S6l⟩ := S6
      have A6 : HV w6 (w1.heap.size) s1 a := ⟨A6x, A6y, A6z, A6l⟩
      have B6 : HV w6 (w1.heap.size + 1) s1 b := ⟨B6x, B6y, B6z, B6l⟩
      have G6 : HV w6 (w3.heap.size) s1 m := ⟨G6x, G6y, G6z, G6l⟩
      have S6 : HV w6 (w4.heap.size) s1 (a + b) := ⟨S6x, S6y, S6z, S6l⟩
      clear hb6
      go_wp2_with fail
      go_meet
      exact meet4 A6 B6 G6 bw6 (by (go_light; repeat (first | with_reducible exact Below.refl _ _ | (with_reducible refine Below.setCell ?_ ?_ _; rotate_left; (focus first | (simp; done) | (simp; omega) | omega)) | (with_reducible refine Below.alloc ?_ ?_ _; rotate_left; (focus first | (simp; done) | (simp; omega) | omega)) | with_reducible refine Below.drew ?_)))
    · subst e1 e2 e3
      go_wp2_with fail
      go_meet
      exact meet4 A5 B5 G5 bw5 (by (go_light; repeat (first | with_reducible exact Below.refl _ _ | (with_reducible refine Below.setCell ?_ ?_ _; rotate_left; (focus first | (simp; done) | (simp; omega) | omega)) | (with_reducible refine Below.alloc ?_ ?_ _; rotate_left; (focus first | (simp; done) | (simp; omega) | omega)) | with_reducible refine Below.drew ?_)))
  case rest =>
    obtain ⟨A6, B6, G6, bw6⟩ := hcut
    generalize wc = w6 at *
    obtain ⟨A6x, A6y, A6z, A6l⟩ := A6
    obtain ⟨B6x, B6y, B6z, B6l⟩ := B6
    obtain ⟨G6x, G6y, G6z, G6l⟩ := G6
    have A6 : HV w6 w1.heap.size k a := ⟨A6x, A6y, A6z, A6l⟩
    have B6 : HV w6 (w1.heap.size + 1) k b := ⟨B6x, B6y, B6z, B6l⟩
    have G6 : HV w6 w3.heap.size k m := ⟨G6x, G6y, G6z, G6l⟩
    go_upto_region 18 with fail
    have hBB := BB.out
    have hBA := BA.out
    have hBM := BM.out
    unfold inI at hBB hBA hBM
    obtain ⟨bb1, bb2⟩ := hBB
    obtain ⟨ba1, ba2⟩ := hBA
    obtain ⟨bm1, bm2⟩ := hBM
    rcases HLie.out with ⟨h1, h2, h3, (⟨h4, h5⟩ | ⟨h4, h5⟩ | ⟨h4, h5⟩)⟩ | ⟨h1, h0, h2, h3, (⟨h4, h5⟩ | ⟨h4, h5⟩ | ⟨h4, h5⟩)⟩ | ⟨h1, h2, (⟨h4, h5⟩ | ⟨h4, h5⟩ | ⟨h4, h5⟩)⟩
    all_goals
      go_upto_region 20 with fail
      (try (rename b = -9223372036854775808 => hbm; clear hbm))
      rcases HK.out with hk1 | hk2
      · subst hk1
        by_cases hx : a = -9223372036854775808 ∧ b = -1
        · obtain ⟨ea, eb⟩ := hx
          first
            | (exfalso; omega)
            | (have RD : Hid (binR 1 4 a b = (0, 0, 13)) := (by rw [ea, eb]; exact r_divx : binR 1 4 a b = (0, 0, 13))
               clear ea eb
               go_wp2_with fail
               refine (binary_impl 1 4 a b _ (Ar.nums_int 4 (by omega) (by omega) BA.out BB.out) (tabs_below hT (chain bw6 (by (go_light; repeat (first | with_reducible exact Below.refl _ _ | (with_reducible refine Below.setCell ?_ ?_ _; rotate_left; (focus first | (simp; done) | (simp; omega) | omega)) | (with_reducible refine Below.alloc ?_ ?_ _; rotate_left; (focus first | (simp; done) | (simp; omega) | omega)) | with_reducible refine Below.drew ?_)))))).mono ?_
               rw [RD.out]
               simp only [binV]
               rintro e w7 ⟨rfl, hb7⟩
               have b7 : Below w6.heap.size w6 w7 := Below.trans (by (go_light; repeat (first | with_reducible exact Below.refl _ _ | (with_reducible refine Below.setCell ?_ ?_ _; rotate_left; (focus first | (simp; done) | (simp; omega) | omega)) | (with_reducible refine Below.alloc ?_ ?_ _; rotate_left; (focus first | (simp; done) | (simp; omega) | omega)) | with_reducible refine Below.drew ?_))) (hb7.mono (by first | (simp; done) | (simp; omega)))
               have bw7 : Below w.heap.size w w7 := chain bw6 b7
               have A7 := A6.go b7
               have B7 := B6.go b7
               have G7 := G6.go b7
               obtain ⟨A7x, A7y, A7z, A7l⟩ := A7
               obtain ⟨B7x, B7y, B7z, B7l⟩ := B7
               obtain ⟨G7x, G7y, G7z, G7l⟩ := G7
               have A7 : HV w7 (w1.heap.size) 1 a := ⟨A7x, A7y, A7z, A7l⟩
               have B7 : HV w7 (w1.heap.size + 1) 1 b := ⟨B7x, B7y, B7z, B7l⟩
               have G7 : HV w7 (w3.heap.size) 1 m := ⟨G7x, G7y, G7z, G7l⟩
               clear hb7
               go_wp2_with fail
               refine (binary_spec 1 4 a b _ (Ar.nums_int 4 (by omega) (by omega) BA.out BB.out) (by omega)).mono ?_
               rw [RD.out]
               simp only [binV]
               rintro e w8 ⟨rfl, hb8⟩
               have b8 : Below w7.heap.size w7 w8 := Below.trans (by (go_light; repeat (first | with_reducible exact Below.refl _ _ | (with_reducible refine Below.setCell ?_ ?_ _; rotate_left; (focus first | (simp; done) | (simp; omega) | omega)) | (with_reducible refine Below.alloc ?_ ?_ _; rotate_left; (focus first | (simp; done) | (simp; omega) | omega)) | with_reducible refine Below.drew ?_))) (hb8.mono (by first | (simp; done) | (simp; omega)))
               have bw8 : Below w.heap.size w w8 := chain bw7 b8
               have A8 := A7.go b8
               have B8 := B7.go b8
               have G8 := G7.go b8
               have Q8 : HV w8 (w7.heap.size) 0 0 := HV.from hb8 (by simp [go_sem]) (by simp [go_sem]) (by simp [go_sem]) (by first | (simp; done) | (simp; omega))
               obtain ⟨A8x, A8y, A8z, A8l⟩ := A8
               obtain ⟨B8x, B8y, B8z, B8l⟩ := B8
               obtain ⟨G8x, G8y, G8z, G8l⟩ := G8
               obtain ⟨Q8x, Q8y, Q8z, Q8l⟩ := Q8
               have A8 : HV w8 (w1.heap.size) 1 a := ⟨A8x, A8y, A8z, A8l⟩
               have B8 : HV w8 (w1.heap.size + 1) 1 b := ⟨B8x, B8y, B8z, B8l⟩
               have G8 : HV w8 (w3.heap.size) 1 m := ⟨G8x, G8y, G8z, G8l⟩
               have Q8 : HV w8 (w7.heap.size) 0 0 := ⟨Q8x, Q8y, Q8z, Q8l⟩
               clear hb8
               go_wp2
               go_ret
               exact ⟨rfl, bw8⟩)
        · obtain ⟨q, RD, RU, BQ, BP⟩ := HDiv.out rfl hx
          go_wp2_with fail
          refine (binary_impl 1 4 a b _ (Ar.nums_int 4 (by omega) (by omega) BA.out BB.out) (tabs_below hT (chain bw6 (by (go_light; repeat (first | with_reducible exact Below.refl _ _ | (with_reducible refine Below.setCell ?_ ?_ _; rotate_left; (focus first | (simp; done) | (simp; omega) | omega)) | (with_reducible refine Below.alloc ?_ ?_ _; rotate_left; (focus first | (simp; done) | (simp; omega) | omega)) | with_reducible refine Below.drew ?_)))))).mono ?_
          rw [RD.out]
          simp only [binV]
          rintro e w7 ⟨rfl, hb7⟩
          have b7 : Below w6.heap.size w6 w7 := Below.trans (by (go_light; repeat (first | with_reducible exact Below.refl _ _ | (with_reducible refine Below.setCell ?_ ?_ _; rotate_left; (focus first | (simp; done) | (simp; omega) | omega)) | (with_reducible refine Below.alloc ?_ ?_ _; rotate_left; (focus first | (simp; done) | (simp; omega) | omega)) | with_reducible refine Below.drew ?_))) (hb7.mono (by first | (simp; done) | (simp; omega)))
          have bw7 : Below w.heap.size w w7 := chain bw6 b7
          have A7 := A6.go b7
          have B7 := B6.go b7
          have G7 := G6.go b7
          obtain ⟨A7x, A7y, A7z, A7l⟩ := A7
          obtain ⟨B7x, B7y, B7z, B7l⟩ := B7
          obtain ⟨G7x, G7y, G7z, G7l⟩ := G7
          have A7 : HV w7 (w1.heap.size) 1 a := ⟨A7x, A7y, A7z, A7l⟩
          have B7 : HV w7 (w1.heap.size + 1) 1 b := ⟨B7x, B7y, B7z, B7l⟩
          have G7 : HV w7 (w3.heap.size) 1 m := ⟨G7x, G7y, G7z, G7l⟩
          clear hb7
          go_wp2_with fail
          refine (binary_spec 1 4 a b _ (Ar.nums_int 4 (by omega) (by omega) BA.out BB.out) (by omega)).mono ?_
          rw [RD.out]
          simp only [binV]
          rintro e w8 ⟨rfl, hb8⟩
          have b8 : Below w7.heap.size w7 w8 := Below.trans (by (go_light; repeat (first | with_reducible exact Below.refl _ _ | (with_reducible refine Below.setCell ?_ ?_ _; rotate_left; (focus first | (simp; done) | (simp; omega) | omega)) | (with_reducible refine Below.alloc ?_ ?_ _; rotate_left; (focus first | (simp; done) | (simp; omega) | omega)) | with_reducible refine Below.drew ?_))) (hb8.mono (by first | (simp; done) | (simp; omega)))
          have bw8 : Below w.heap.size w w8 := chain bw7 b8
          have A8 := A7.go b8
          have B8 := B7.go b8
          have G8 := G7.go b8
          have Q8 : HV w8 (w7.heap.size) 1 q := HV.from hb8 (by simp [go_sem]) (by simp [go_sem]) (by simp [go_sem]) (by first | (simp; done) | (simp; omega))
          obtain ⟨A8x, A8y, A8z, A8l⟩ := A8
          obtain ⟨B8x, B8y, B8z, B8l⟩ := B8
          obtain ⟨G8x, G8y, G8z, G8l⟩ := G8
          obtain ⟨Q8x, Q8y, Q8z, Q8l⟩ := Q8
          have A8 : HV w8 (w1.heap.size) 1 a := ⟨A8x, A8y, A8z, A8l⟩
          have B8 : HV w8 (w1.heap.size + 1) 1 b := ⟨B8x, B8y, B8z, B8l⟩
          have G8 : HV w8 (w3.heap.size) 1 m := ⟨G8x, G8y, G8z, G8l⟩
          have Q8 : HV w8 (w7.heap.size) 1 q := ⟨Q8x, Q8y, Q8z, Q8l⟩
          clear hb8
          go_wp2_with fail
          refine (binary_impl 1 3 q b _ (Ar.nums_int 3 (by omega) (by omega) BQ.out BB.out) (tabs_below hT (chain bw8 (by (go_light; repeat (first | with_reducible exact Below.refl _ _ | (with_reducible refine Below.setCell ?_ ?_ _; rotate_left; (focus first | (simp; done) | (simp; omega) | omega)) | (with_reducible refine Below.alloc ?_ ?_ _; rotate_left; (focus first | (simp; done) | (simp; omega) | omega)) | with_reducible refine Below.drew ?_)))))).mono ?_
          rw [RU.out]
          simp only [binV]
          rintro e w9 ⟨rfl, hb9⟩
          have b9 : Below w8.heap.size w8 w9 := Below.trans (by (go_light; repeat (first | with_reducible exact Below.refl _ _ | (with_reducible refine Below.setCell ?_ ?_ _; rotate_left; (focus first | (simp; done) | (simp; omega) | omega)) | (with_reducible refine Below.alloc ?_ ?_ _; rotate_left; (focus first | (simp; done) | (simp; omega) | omega)) | with_reducible refine Below.drew ?_))) (hb9.mono (by first | (simp; done) | (simp; omega)))
          have bw9 : Below w.heap.size w w9 := chain bw8 b9
          have A9 := A8.go b9
          have B9 := B8.go b9
          have G9 := G8.go b9
          have Q9 := Q8.go b9
          obtain ⟨A9x, A9y, A9z, A9l⟩ := A9
          obtain ⟨B9x, B9y, B9z, B9l⟩ := B9
          obtain ⟨G9x, G9y, G9z, G9l⟩ := G9
          obtain ⟨Q9x, Q9y, Q9z, Q9l⟩ := Q9
          have A9 : HV w9 (w1.heap.size) 1 a := ⟨A9x, A9y, A9z, A9l⟩
          have B9 : HV w9 (w1.heap.size + 1) 1 b := ⟨B9x, B9y, B9z, B9l⟩
          have G9 : HV w9 (w3.heap.size) 1 m := ⟨G9x, G9y, G9z, G9l⟩
          have Q9 : HV w9 (w7.heap.size) 1 q := ⟨Q9x, Q9y, Q9z, Q9l⟩
          clear hb9
          go_wp2_with fail
          refine (binary_impl 1 1 (a - m) m _ (Ar.nums_int 1 (by omega) (by omega) BP.out BM.out) (tabs_below hT (chain bw9 (by (go_light; repeat (first | with_reducible exact Below.refl _ _ | (with_reducible refine Below.setCell ?_ ?_ _; rotate_left; (focus first | (simp; done) | (simp; omega) | omega)) | (with_reducible refine Below.alloc ?_ ?_ _; rotate_left; (focus first | (simp; done) | (simp; omega) | omega)) | with_reducible refine Below.drew ?_)))))).mono ?_
          rw [RB.out]
          simp only [binV]
          rintro e w10 ⟨rfl, hb10⟩
          have b10 : Below w9.heap.size w9 w10 := Below.trans (by (go_light; repeat (first | with_reducible exact Below.refl _ _ | (with_reducible refine Below.setCell ?_ ?_ _; rotate_left; (focus first | (simp; done) | (simp; omega) | omega)) | (with_reducible refine Below.alloc ?_ ?_ _; rotate_left; (focus first | (simp; done) | (simp; omega) | omega)) | with_reducible refine Below.drew ?_))) (hb10.mono (by first | (simp; done) | (simp; omega)))
          have bw10 : Below w.heap.size w w10 := chain bw9 b10
          have A10 := A9.go b10
          have B10 := B9.go b10
          have G10 := G9.go b10
          have Q10 := Q9.go b10
          have P10 : HV w10 (w9.heap.size) 1 (a - m) := HV.from hb10 (by simp [go_sem]) (by simp [go_sem]) (by simp [go_sem]) (by first | (simp; done) | (simp; omega))
          obtain ⟨A10x, A10y, A10z, A10l⟩ := A10
          obtain ⟨B10x, B10y, B10z, B10l⟩ := B10
          obtain ⟨G10x, G10y, G10z, G10l⟩ := G10
          obtain ⟨Q10x, Q10y, Q10z, Q10l⟩ := Q10
          obtain ⟨P10x, P10y, P10z, P10l⟩ := P10
          have A10 : HV w10 (w1.heap.size) 1 a := ⟨A10x, A10y, A10z, A10l⟩
          have B10 : HV w10 (w1.heap.size + 1) 1 b := ⟨B10x, B10y, B10z, B10l⟩
          have G10 : HV w10 (w3.heap.size) 1 m := ⟨G10x, G10y, G10z, G10l⟩
          have Q10 : HV w10 (w7.heap.size) 1 q := ⟨Q10x, Q10y, Q10z, Q10l⟩
          have P10 : HV w10 (w9.heap.size) 1 (a - m) := ⟨P10x, P10y, P10z, P10l⟩
          clear hb10
          go_wp2
          go_ret
          exact ⟨rfl, chain bw10 (by (go_light; repeat (first | with_reducible exact Below.refl _ _ | (with_reducible refine Below.setCell ?_ ?_ _; rotate_left; (focus first | (simp; done) | (simp; omega) | omega)) | (with_reducible refine Below.alloc ?_ ?_ _; rotate_left; (focus first | (simp; done) | (simp; omega) | omega)) | with_reducible refine Below.drew ?_)))⟩
      · subst hk2
        obtain ⟨i1, i2, i3, i4, i5, i6⟩ := HDec.out rfl
        go_wp2
        go_ret
        exact ⟨rfl, bw6⟩
end Wh
end Go.Proofs.YtcgnkcehjcednaaDoor
