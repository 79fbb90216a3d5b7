import Derived.Test.YtfgjleifhjegkaaDoorKVs
namespace Go.Proofs.YtfgjleifhjegkaaDoor
open Go.ChangeShapes Go.WideShapes Go.ChangeAt Go.RowKit
set_option linter.unusedVariables false
set_option linter.unusedSimpArgs false
set_option maxRecDepth 100000
theorem flat_mem {f : VA → List Int} : ∀ {us : List VA} {t : VA}, t ∈ us → (f t).length ≤ (us.flatMap f).length
  | a :: r, t, h => by
    rw [List.flatMap_cons, List.length_append]
    rcases List.mem_cons.1 h with rfl | h
    · omega
    · have := flat_mem (f := f) h
      omega
theorem escL_ge : ∀ l : List Int, l.length ≤ (escL l).length
  | [] => by simp
  | b :: r => by
    have ih := escL_ge r
    unfold escL at *
    rw [List.flatMap_cons, List.length_append, List.length_cons]
    have : 1 ≤ (esc1 b).length := by unfold esc1; split <;> simp
    omega
theorem vok_size {k n : Int} {s : ByteArray} (hv : vok k n s = true) (hk : k ≠ 3) : s.size = 0 := by
  have hvk := vokK hv
  unfold vok at hv
  rcases hvk with rfl | rfl | rfl | rfl | ⟨rfl, a, b⟩ | ⟨rfl, a, b⟩
  · simp at hv
    rw [empty_of (s := s) (by simpa using hv.2)]; rfl
  · rw [empty_of (s := s) (by simpa using hv)]; rfl
  · simp at hv
    rw [empty_of (s := s) (by simpa using hv.1)]; rfl
  · exact absurd rfl hk
  · simp at hv
    rw [empty_of (s := s) (by simpa using hv.1)]; rfl
  · simp at hv
    rw [empty_of (s := s) (by simpa using hv.1)]; rfl
theorem keyP_size {k n : Int} {s : ByteArray} (hv : vok k n s = true) : s.size ≤ (keyP k n s).length := by
  by_cases hk : k = 3
  · subst hk
    have h := escL_ge (strI s)
    rw [strI_len] at h
    have e : keyP 3 n s = 48 :: (escL (strI s) ++ [0, 1]) := by simp [keyP]
    rw [e, List.length_cons, List.length_append]
    omega
  · rw [vok_size hv hk]; omega
theorem kvC_bv {xs : List Int} {us : List VA} {c : Int} (h : KvC xs us c) : BVS 1048576 us := by
  rcases h with ⟨a1, a2, a3, a4, rfl⟩ | ⟨_, rfl, rfl⟩
  · have hv := valsB_at a1
    refine ⟨by omega, fun t ht => ?_⟩
    have h1 := keyP_size (hv.2 t ht)
    have h2 := flat_mem (f := fun t => keyP t.k t.n t.s) ht
    unfold keyL at a3
    unfold BV
    omega
  · exact ⟨by simp, fun t ht => by cases ht⟩
end Go.Proofs.YtfgjleifhjegkaaDoor
