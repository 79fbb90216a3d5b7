import Derived.Test.YtdcdoeolaongkaaGreatDoorR8c
import Derived.Test.YtdcdoeolaongkaaGreatDoorR8d
import Derived.Test.YtdcdoeolaongkaaGreatDoorW5
import Derived.Deep.RegionWith
namespace Go.Proofs.YtdcdoeolaongkaaGreatDoor.Rd
open Go.ChangeShapes Go.WideShapes Go.ChangeAt Go.RowKit Go.Shelf
set_option linter.unusedVariables false
set_option linter.unusedSimpArgs false
set_option maxRecDepth 100000
theorem CastIs.shape {k n kind : Int} {s : ByteArray} {V : Value} (h : CastIs k n s kind V) : ∃ a b t c, V = tV a b t c := by
  unfold CastIs at h
  repeat' split at h
  all_goals first | (obtain ⟨b, _, rfl⟩ := h; exact ⟨_, _, _, _, rfl⟩) | (subst h; exact ⟨_, _, _, _, rfl⟩) | (obtain ⟨a, b, c, hV⟩ := ctK_shape kind (rdK kind s); rw [hV] at h; subst h; exact ⟨_, _, _, _, rfl⟩) | (subst h; obtain ⟨a, b, c, hV⟩ := ctK_shape kind (rdK kind s); exact ⟨a, b, ⟨#[]⟩, c, hV⟩)
theorem eqValue_same (k n : Int) (s : ByteArray) (w : World) : Calls Tryz.prog 26 #[.agg #[.int .i64 k, .int .i64 n, .string s], .agg #[.int .i64 k, .int .i64 n, .string s]] w fun e w' => e = .returned (.bool true) ∧ Below w.heap.size w w' := by
  go_enter Tryz.func26, Tryz.ntmps26
  go_wp2
  go_ret
  exact ⟨rfl, (below_alloc w _).alloc (by simp) _⟩
set_option maxHeartbeats 8000000 in
theorem cast_law (k n : Int) (s : ByteArray) (kind : Int) (w : World) (hs : s.size ≤ maxLen) (wk : (Lit.int .i64 k).wf = true) (wn : (Lit.int .i64 n).wf = true) (hT : Tabs w) (hP : Pows w) (hM : ML w) :
    Calls Tryz.prog 6 #[.agg #[.int .i64 k, .int .i64 n, .string s], .int .i64 kind] w fun e w' => e = .returned (.bool true) ∧ Below w.heap.size w w' := by
  have bw0 : Below w.heap.size w (w.alloc (.cells #[.int .i64 k, .int .i64 n, .string s] 45)) := below_alloc w _
  by_cases h : (s.size : Int) ≤ 1048576
  · have h' : s.size ≤ 1048576 := by omega
    go_enter Tryz.func6, Tryz.ntmps6
    go_wp2_with fail
    refine (sz_yes k n 1048576 s _ (by omega) (by omega) h).mono ?_
    rintro e w1 ⟨rfl, hb1⟩
    obtain ⟨hc1, hf1⟩ := bcell hb1
    have bw1 : Below w.heap.size w w1 := chain bw0 hb1
    have hy1 : w.heap.size < w1.heap.size := by have := hb1.size; (try simp at this); omega
    go_wp2_with fail
    refine (toValue_any k n s _).mono ?_
    rintro e w2 ⟨rfl, hb2⟩
    obtain ⟨hc2, hf2⟩ := bcell hb2
    have bw2 : Below w.heap.size w w2 := chain bw1 hb2
    have hy2 : w.heap.size < w2.heap.size := by have := hb2.size; (try simp at this); omega
    go_wp2_with fail
    refine (cast_spec k n kind s _ h' wn).mono ?_
    rintro e w3 ⟨V, hV, rfl, hb3⟩
    obtain ⟨r1, r2, r3, r4, rfl⟩ := hV.shape
    have HV : Hid (CastIs k n s kind (tV r1 r2 r3 r4)) := hV
    clear hV
    simp only [tV]
    obtain ⟨hc3, hf3⟩ := bcell hb3
    have bw3 : Below w.heap.size w w3 := chain bw2 hb3
    have hy3 : w.heap.size < w3.heap.size := by have := hb3.size; (try simp at this); omega
    have bw3a : Below w.heap.size w (w3.alloc (.cells #[.int .i64 r1, .int .i64 r2, .string r3] 29)) := bw3.alloc bw3.size _
    go_wp2_with fail
    refine (toValue_any k n s _).mono ?_
    rintro e w4 ⟨rfl, hb4⟩
    obtain ⟨hc4, hf4⟩ := bcell hb4
    have bw4 : Below w.heap.size w w4 := chain bw3a hb4
    have hy4 : w.heap.size < w4.heap.size := by have := hb4.size; (try simp at this); omega
    go_wp2_with fail
    refine (cast_impl k n kind s _ h' wn (tabs_below hT bw4) (pows_below hP bw4) (hM.below bw4)).mono ?_
    rintro e w5 ⟨V, hV, rfl, hb5⟩
    obtain rfl := CastIs.one hV HV.out
    clear hV
    simp only [tV]
    obtain ⟨hc5, hf5⟩ := bcell hb5
    have bw5 : Below w.heap.size w w5 := chain bw4 hb5
    have hy5 : w.heap.size < w5.heap.size := by have := hb5.size; (try simp at this); omega
    have hx4 : w3.heap.size < w4.heap.size := by have := hb4.size; simp at this; omega
    have hx5 : w3.heap.size < w5.heap.size := by have := hb5.size; omega
    go_wp2_with fail
    refine (eqValue_same r1 r2 _ _).mono ?_
    rintro e w6 ⟨rfl, hb6⟩
    have bw6 : Below w.heap.size w w6 := chain (bw5.alloc bw5.size _) hb6
    go_wp2
    go_ret
    exact ⟨rfl, bw6⟩
  · have h' : (1048576 : Int) < s.size := by omega
    clear h
    go_enter Tryz.func6, Tryz.ntmps6
    go_wp2_with fail
    refine (sz_no k n 1048576 s _ (by omega) (by omega) hs h').mono ?_
    rintro e w1 ⟨rfl, hb1⟩
    go_wp2
    go_ret
    exact ⟨rfl, chain bw0 hb1⟩
end Go.Proofs.YtdcdoeolaongkaaGreatDoor.Rd
