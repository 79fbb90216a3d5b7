import Derived.Test.YtcgnkcehjcednaaDoorY3
import Derived.Test.YtcgnkcehjcednaaDoorM7
namespace Go.Proofs.YtcgnkcehjcednaaDoor
open Go.ChangeShapes Go.WideShapes Go.ChangeAt Go.RowKit Go.Shelf
set_option linter.unusedVariables false
set_option linter.unusedSimpArgs false
set_option maxRecDepth 100000
noncomputable def numB (x : List UInt8) (k : Int) : Bool := @decide (isNumL x k) (Classical.propDecidable _)
theorem numB_no {k : Int} {x : List UInt8} (h : ¬ isNumL x k) : numB x k = false := by unfold numB; simp [h]
theorem numB_yes {k : Int} {x : List UInt8} (h : isNumL x k) : numB x k = true := by unfold numB; simp [h]
set_option maxHeartbeats 1600000 in
theorem isNumber_any (s : ByteArray) (k : Int) (w : World) (hs : s.size ≤ maxLen) :
    Calls Tryd.prog 105 #[.string s, .int .i64 k] w fun e w' => e = .returned (.bool (numB s.data.toList k)) ∧ Below w.heap.size w w' := by
  have hsl : s.data.toList.length = s.size := by simp
  unfold maxLen at hs
  by_cases h1 : 1 ≤ s.size
  · have h1i : ¬ (s.size : Int) < 1 := by omega
    by_cases h20 : s.size ≤ 20
    · have h20i : ¬ (20 : Int) < s.size := by omega
      have h0 : 0 < s.size := by omega
      have h0i : (0 : Int) < s.size := by omega
      have hd0 := fun w => digit_any ((s[0]'h0).toNat : Int) w
      have HL : isDig s.data.toList[0]? = digI ((s[0]'h0).toNat : Int) := by rw [bl_get s 0 h0]; rfl
      cases hd : digI ((s[0]'h0).toNat : Int)
      · rw [hd] at hd0 HL
        have HF : Hid (numB s.data.toList k = false) := numB_no (fun z => by have := z.1; rw [HL] at this; cases this)
        clear hd HL
        go_enter Tryd.func105, Tryd.ntmps105
        go_wp2_with (go_at_call 91; refine (hd0 _).mono ?_; rintro e w' ⟨rfl, rfl⟩)
        go_ret
        exact ⟨ret_bool HF.out.symm, Below.refl _ _⟩
      · have hnum := fun w => number_any s 0 w (by omega) h0 hd
        rw [hd] at hd0 HL
        rw [List.drop_zero] at hnum
        have hiff : isNumL s.data.toList k ↔ numL s.data.toList = .tok k s.data.toList s.size := by
          unfold isNumL; rw [HL, hsl]; simp
        clear hd HL
        cases hnl : numL s.data.toList with
        | err c f =>
          rw [hnl] at hnum hiff
          have hc : c = 2 ∨ c = 5 := by
            unfold numL at hnl
            repeat' split at hnl
            all_goals first | (cases hnl; omega) | (have := (afterN_err hnl).1; omega)
          have hcz : (c == 0) = false := by rw [beq_eq_false_iff_ne]; omega
          have HF : Hid (numB s.data.toList k = false) := numB_no (fun z => by cases hiff.1 z)
          simp only [cutT] at hnum
          clear hiff hnl hc
          go_enter Tryd.func105, Tryd.ntmps105
          go_wp2_with (first | (go_at_call 91; refine (hd0 _).mono ?_; rintro e w' ⟨rfl, rfl⟩) | (go_at_call 95; refine (hnum _).mono ?_; rintro e w1 ⟨rfl, hb1⟩))
          go_ret
          exact ⟨ret_bool HF.out.symm, hb1.alloc hb1.size _⟩
        | tok t x n =>
          rw [hnl] at hnum hiff
          simp only [cutT] at hnum
          obtain ⟨X, hX⟩ : ∃ X : ByteArray, X = ⟨x.toArray⟩ := ⟨_, rfl⟩
          rw [← hX] at hnum
          have hXd : x = X.data.toList := by rw [hX]
          clear hX hnl
          subst hXd
          obtain ⟨E, hE⟩ : ∃ E : Int, ((0 + n : Nat) : Int) = E := ⟨_, rfl⟩
          rw [hE] at hnum
          by_cases hn : n = s.size
          · have hEs : E = (s.size : Int) := by rw [← hE, hn]; omega
            by_cases ht : t = k
            · by_cases hx : X = s
              · have HF : Hid (numB s.data.toList k = true) := numB_yes (hiff.2 (by rw [ht, hx, hn]))
                clear hiff
                subst ht hx hEs
                go_enter Tryd.func105, Tryd.ntmps105
                go_wp2_with (first | (go_at_call 91; refine (hd0 _).mono ?_; rintro e w' ⟨rfl, rfl⟩) | (go_at_call 95; refine (hnum _).mono ?_; rintro e w1 ⟨rfl, hb1⟩))
                go_ret
                exact ⟨ret_bool HF.out.symm, hb1.alloc hb1.size _⟩
              · have HF : Hid (numB s.data.toList k = false) := numB_no (fun z => by have := hiff.1 z; simp only [Cut.tok.injEq] at this; exact hx (ba_ext this.2.1))
                have hxb : (X.toList == s.toList) = false := by rw [Lib.toList_data, Lib.toList_data, beq_eq_false_iff_ne]; intro z; exact hx (ba_ext z)
                clear hiff hx
                subst ht hEs
                go_enter Tryd.func105, Tryd.ntmps105
                go_wp2_with (first | (go_at_call 91; refine (hd0 _).mono ?_; rintro e w' ⟨rfl, rfl⟩) | (go_at_call 95; refine (hnum _).mono ?_; rintro e w1 ⟨rfl, hb1⟩))
                go_ret
                exact ⟨ret_bool HF.out.symm, hb1.alloc hb1.size _⟩
            · have HF : Hid (numB s.data.toList k = false) := numB_no (fun z => by have := hiff.1 z; simp only [Cut.tok.injEq] at this; exact ht this.1)
              have htb : (t == k) = false := by rw [beq_eq_false_iff_ne]; exact ht
              clear hiff ht
              subst hEs
              go_enter Tryd.func105, Tryd.ntmps105
              go_wp2_with (first | (go_at_call 91; refine (hd0 _).mono ?_; rintro e w' ⟨rfl, rfl⟩) | (go_at_call 95; refine (hnum _).mono ?_; rintro e w1 ⟨rfl, hb1⟩))
              go_ret
              exact ⟨ret_bool HF.out.symm, hb1.alloc hb1.size _⟩
          · have HF : Hid (numB s.data.toList k = false) := numB_no (fun z => by have := hiff.1 z; simp only [Cut.tok.injEq] at this; exact hn this.2.2)
            have hEb : (E == (s.size : Int)) = false := by rw [beq_eq_false_iff_ne, ← hE]; omega
            clear hiff hn hE
            go_enter Tryd.func105, Tryd.ntmps105
            go_wp2_with (first | (go_at_call 91; refine (hd0 _).mono ?_; rintro e w' ⟨rfl, rfl⟩) | (go_at_call 95; refine (hnum _).mono ?_; rintro e w1 ⟨rfl, hb1⟩))
            go_ret
            exact ⟨ret_bool HF.out.symm, hb1.alloc hb1.size _⟩
    · have h20i : (20 : Int) < s.size := by omega
      have HF : Hid (numB s.data.toList k = false) := numB_no (fun z => by have := (num_len z).2; omega)
      go_enter Tryd.func105, Tryd.ntmps105
      go_wp2
      go_ret
      exact ⟨ret_bool HF.out.symm, Below.refl _ _⟩
  · have h1i : (s.size : Int) < 1 := by omega
    have HF : Hid (numB s.data.toList k = false) := numB_no (fun z => by have := (num_len z).1; omega)
    go_enter Tryd.func105, Tryd.ntmps105
    go_wp2
    go_ret
    exact ⟨ret_bool HF.out.symm, Below.refl _ _⟩
end Go.Proofs.YtcgnkcehjcednaaDoor
