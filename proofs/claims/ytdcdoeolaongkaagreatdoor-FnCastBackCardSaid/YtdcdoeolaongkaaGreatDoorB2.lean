import Derived.Test.YtdcdoeolaongkaaGreatDoorB0
import Derived.Test.YtdcdoeolaongkaaGreatDoorB1
import Derived.Test.YtdcdoeolaongkaaGreatDoorR8c
import Derived.Test.YtdcdoeolaongkaaGreatDoorW4
import Derived.Deep.RegionWith
namespace Go.Proofs.YtdcdoeolaongkaaGreatDoor.Rd
open Go.ChangeShapes Go.WideShapes Go.ChangeAt Go.RowKit Go.Shelf
set_option linter.unusedVariables false
set_option linter.unusedSimpArgs false
set_option maxRecDepth 100000
theorem undrew {W w' : World} (hb : Below W.drew.heap.size W.drew w') : Below W.heap.size W w' := (Below.refl W.heap.size W).drew.trans hb
theorem plain_of {k n : Int} {s b : ByteArray} {w w' : World} {e : Ending} (h : PlainEnd k n s w e w') (hb : isPlain k n s b) : e = .returned (.string b) ∧ Below w.heap.size w w' := by
  obtain ⟨c, hc, rfl, hw⟩ := h
  rw [isPlain_one hc hb]
  exact ⟨rfl, hw⟩
set_option maxHeartbeats 16000000 in
theorem castBack_law (la : Option Addr) (ln lc : Nat) (w : World) (hn : ln ≤ maxLen) (hr : Dr.Read w la ln) (hT : Tabs w) (hP : Pows w) (hM : ML w) :
    Calls Tryz.prog 4 #[.slice la ln lc] w fun e w' => e = .returned (.bool true) ∧ Below w.heap.size w w' := by
  unfold maxLen at hn
  by_cases hbig : 1048576 < ln
  · have hbi : (1048576 : Int) < ln := by omega
    go_enter Tryz.func4, Tryz.ntmps4
    go_wp2
    go_ret
    exact ⟨rfl, Below.refl _ _⟩
  · have hbi : ¬ (1048576 : Int) < ln := by omega
    go_enter Tryz.func4, Tryz.ntmps4
    go_wp2_with (go_at_call 13; fail)
    refine (Dr.drawPlain_any la ln lc _ (by omega) hr).mono ?_
    rintro e w1 ⟨k, n, s, hs, hin, rfl, bw1⟩
    have h' : s.size ≤ 1048576 := by omega
    have hy1 : w.heap.size ≤ w1.heap.size := bw1.size
    have bw1a : Below w.heap.size w (w1.alloc (.cells #[.int .i64 k, .int .i64 n, .string s] 29)) := bw1.alloc bw1.size _
    clear hs hr
    go_wp2_with (go_at_call 14; fail)
    refine (vok_spec k n s _ h').mono ?_
    rintro e w2 ⟨rfl, hb2⟩
    obtain ⟨hc2, hf2⟩ := bcell hb2
    have hz2 : w1.heap.size < w2.heap.size := by have := hb2.size; simp at this; omega
    have bw2 : Below w.heap.size w w2 := chain bw1a hb2
    cases hv : vok k n s
    · go_wp2
      go_ret
      exact ⟨rfl, bw2⟩
    by_cases hk3 : k = 3
    · subst hk3
      go_wp2
      go_ret
      exact ⟨rfl, bw2⟩
    have e3 : (k == 3) = false := by rw [beq_eq_false_iff_ne]; exact hk3
    by_cases hk0 : k = 0
    · subst hk0
      go_wp2
      go_ret
      exact ⟨rfl, bw2⟩
    have e0 : (k == 0) = false := by rw [beq_eq_false_iff_ne]; exact hk0
    have HK : Hid (k = 1 ∨ k = 2 ∨ k = 4 ∨ k = 5) := (by have := (vok_more hv).1; omega : k = 1 ∨ k = 2 ∨ k = 4 ∨ k = 5)
    have HVO : Hid (vok k n s = true) := hv
    have wn : (Lit.int .i64 n).wf = true := in_wf hin.1 hin.2
    have HIN : Hid (inI n) := hin
    clear hv hk3 hk0 hin
    go_wp2_with (go_at_call 15; fail)
    refine (cast_impl k n 3 s _ h' wn (tabs_below hT bw2) (pows_below hP bw2) (hM.below bw2)).mono ?_
    rintro e w3 ⟨V, hV, rfl, hb3⟩
    obtain ⟨b, hpl, rfl⟩ := cast_there HVO.out HK.out hV
    have HPL : Hid (isPlain k n s b) := hpl
    have hbs : b.size ≤ 1048576 := by have := (plain_ascii HVO.out HIN.out HK.out hpl).2.1; omega
    clear hV hpl
    simp only [tV]
    obtain ⟨hc3, hf3⟩ := bcell hb3
    have hz3 : w1.heap.size < w3.heap.size := by have := hb3.size; omega
    have bw3 : Below w.heap.size w w3 := chain bw2 hb3
    have bw3a : Below w.heap.size w (w3.alloc (.cells #[.int .i64 3, .int .i64 0, .string b] 29)) := bw3.alloc bw3.size _
    go_wp2_with (go_at_call 15; fail)
    refine (cast_impl 3 0 k b _ hbs (in_wf (by omega) (by omega)) (tabs_below hT bw3a) (pows_below hP bw3a) (hM.below bw3a)).mono ?_
    rintro e w4 ⟨V, hV, rfl, hb4⟩
    obtain rfl := cast_back HVO.out HIN.out HK.out HPL.out hV
    clear hV
    simp only [tV]
    obtain ⟨hc4, hf4⟩ := bcell hb4
    have hz4 : w3.heap.size < w4.heap.size := by have := hb4.size; simp at this; omega
    have hy4 : w1.heap.size < w4.heap.size := by omega
    have bw4 : Below w.heap.size w w4 := chain bw3a hb4
    have bw4a : Below w.heap.size w (w4.alloc (.cells #[.int .i64 k, .int .i64 n, .string s] 29)) := bw4.alloc bw4.size _
    have hpc : ∀ W, Below w.heap.size w W → Calls Tryz.prog 16 #[.agg #[.int .i64 k, .int .i64 n, .string s]] W fun e w' => e = .returned (.string b) ∧ Below W.heap.size W w' := fun W hW =>
      (plain_impl k n s W wn h' (tabs_below hT hW) (pows_below hP hW)).mono (fun e w' h => plain_of h HPL.out)
    clear HPL
    go_wp2
    go_region_with (go_at_call 16; refine (hpc _ (by first | exact bw4a.drew | exact bw4a)).mono ?_; rintro e w5 ⟨rfl, hb5⟩; replace hb5 := undrew hb5; obtain ⟨hc5, hf5⟩ := bcell hb5; have hz5 : w4.heap.size < w5.heap.size := (by have := hb5.size; simp at this; omega); have hx5 : w3.heap.size < w5.heap.size := (by omega); have hy5 : w1.heap.size < w5.heap.size := (by omega); have bw5 : Below w.heap.size w w5 := chain bw4a hb5)
    all_goals
      go_wp2
      go_ret
      exact ⟨rfl, by first | exact bw5 | exact bw5.drew⟩
end Go.Proofs.YtdcdoeolaongkaaGreatDoor.Rd
