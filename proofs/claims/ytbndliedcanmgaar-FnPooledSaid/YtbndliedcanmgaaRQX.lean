import Derived.Test.YtbndliedcanmgaaRQW
namespace Go.Proofs.YtbndliedcanmgaaR
open Go.ChangeShapes Go.WideShapes Go.ChangeAt Go.RowKit
set_option linter.unusedVariables false
set_option linter.unusedSimpArgs false
set_option maxRecDepth 100000
set_option maxHeartbeats 4000000 in
theorem index_any (a : Option Addr) (c : Nat) (us : List POp) (w : World) (h : us.length ≤ 4000) (hr : RS 2 CPo 0 w (.slice a us.length c) us) :
    Calls Try.prog 29 #[.slice a us.length c, .func (.func 21) #[] #[]] w fun e w' => ∃ k : Int, e = .returned (.int .i64 k) ∧ (k < 0 ↔ us.all opOK = true) ∧ Below w.heap.size w w' := by
  have HR := hid hr
  clear hr
  go_enter Try.func29, Try.ntmps29
  go_wp2
  go_loopw [8] (fun iv wx => ∃ j : Nat, iv = .int .i64 (j : Int) ∧ j ≤ us.length ∧ Hid (∀ i (hi : i < us.length), i < j → opOK us[i] = true) ∧ Below w.heap.size w wx) (fun iv _ => us.length - (intOf iv).toNat)
  case atStart => exact ⟨0, rfl, Nat.zero_le _, (fun i _ h => by omega : ∀ i (hi : i < us.length), i < 0 → opOK us[i] = true), Below.refl _ _⟩
  case round =>
    obtain ⟨j, rfl, hj, HA, hb⟩ := hrel
    by_cases hlt : j < us.length
    · have hlti : (j : Int) < us.length := by omega
      obtain ⟨g, o, rfl, _, hg, hc⟩ := po_at (HR.out.below liesPo hb) (by omega)
      obtain ⟨c0, c1⟩ := hc j hlt
      clear hc
      have HB := hid hb
      have hbs := hb.size
      clear hb
      cases hok : opOK us[j] with
      | false =>
        have HF : Hid (us.all opOK = false) := (by rw [List.all_eq_false]; exact ⟨us[j], List.getElem_mem hlt, by simp [hok]⟩ : us.all opOK = false)
        have HW := hid (wrong_any us[j])
        rw [hok] at HW
        clear hok HA
        generalize us[j].kd = kd at *
        generalize us[j].pg = pg at *
        go_wp2_with (go_at_call 21; refine (HW.out _).mono ?_; rintro e w' ⟨rfl, hb2⟩; have HB2 := hid hb2; clear hb2)
        go_ret
        exact ⟨_, rfl, by rw [HF.out]; simp, HB.out.trans (HB2.out.mono hbs)⟩
      | true =>
        have HA2 : Hid (∀ i (hi : i < us.length), i < j + 1 → opOK us[i] = true) := (fun i hi hij => by
          by_cases e : i < j
          · exact HA.out i hi e
          · have : i = j := by omega
            subst this
            exact hok : ∀ i (hi : i < us.length), i < j + 1 → opOK us[i] = true)
        have HW := hid (wrong_any us[j])
        rw [hok] at HW
        clear hok HA
        generalize us[j].kd = kd at *
        generalize us[j].pg = pg at *
        go_wp2_with (go_at_call 21; refine (HW.out _).mono ?_; rintro e w' ⟨rfl, hb2⟩; have HB2 := hid hb2; clear hb2)
        go_roundw
        case rel => exact ⟨j + 1, by go_num, by omega, HA2, HB.out.trans (HB2.out.mono hbs)⟩
        case measure => simp [intOf]; omega
    · have hje : j = us.length := by omega
      subst hje
      have HF : Hid (us.all opOK = true) := (by rw [List.all_eq_true]; intro x hx; obtain ⟨k, hk, rfl⟩ := List.getElem_of_mem hx; exact HA.out k hk hk : us.all opOK = true)
      go_wp2
      go_ret
      exact ⟨-1, rfl, by rw [HF.out]; simp, hb⟩
theorem contains_any (a : Option Addr) (c : Nat) (us : List POp) (w : World) (h : us.length ≤ 4000) (hr : RS 2 CPo 0 w (.slice a us.length c) us) :
    Calls Try.prog 20 #[.slice a us.length c, .func (.func 21) #[] #[]] w fun e w' => e = .returned (.bool (!us.all opOK)) ∧ Below w.heap.size w w' := by
  have HR := hid hr
  clear hr
  go_enter Try.func20, Try.ntmps20
  go_wp2_with (go_at_call 29; refine (index_any a c us w h HR.out).mono ?_; rintro e w' ⟨k, rfl, hk, hb⟩; have HK := hid hk; have HB := hid hb; clear hk hb)
  · go_ret
    refine ⟨?_, HB.out⟩
    have hk := HK.out
    cases hu : us.all opOK
    · rw [hu] at hk; simp at hk; simp; omega
    · rw [hu] at hk; simp at hk; simp; omega
end Go.Proofs.YtbndliedcanmgaaR
