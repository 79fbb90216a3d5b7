import Derived.Test.YtdcdoeolaongkaaGreatDoorR8a
import Derived.Test.YtdcdoeolaongkaaGreatDoorR7a
namespace Go.Proofs.YtdcdoeolaongkaaGreatDoor.Rd
open Go.ChangeShapes Go.WideShapes Go.ChangeAt Go.RowKit Go.Shelf
set_option linter.unusedVariables false
set_option linter.unusedSimpArgs false
set_option maxRecDepth 100000
set_option maxHeartbeats 4000000 in
theorem impl_text (n kind : Int) (s : ByteArray) (w : World) (hs : s.size ≤ 1048576) (wn : (Lit.int .i64 n).wf = true) (hT : Tabs w) (hP : Pows w) (hM : ML w) (HVO : Hid (vok 3 n s = true)) (HIK : Hid (Ok.isK kind = true)) (HCK : Hid (ck 3 kind = true)) (h3 : ¬ (3 : Int) = kind) (HK : Hid (kind = 1 ∨ kind = 2 ∨ kind = 4 ∨ kind = 5)) :
    Calls Tryz.prog 15 #[.agg #[.int .i64 3, .int .i64 n, .string s], .int .i64 kind] w fun e w' => CastEnd 3 n s kind w e w' := by
  have bw0 : Below w.heap.size w ((w.alloc (.cells #[.int .i64 3, .int .i64 n, .string s] 29)).alloc (.cells #[.int .i64 0, .int .i64 0, .string ⟨#[]⟩] 29)) := (below_alloc w _).alloc (by simp) _
  have HIS : Hid (CastIs 3 n s kind (ctK kind (rdK kind s))) := cast_text HVO.out HIK.out HCK.out h3
  have k3 : ((3 : Int) == kind) = false := by rw [beq_eq_false_iff_ne]; exact h3
  have k3' : (kind == 3) = false := by rw [beq_eq_false_iff_ne]; omega
  clear h3
  obtain ⟨a1, a2, a3, hV⟩ := ctK_shape kind (rdK kind s)
  rw [hV] at HIS
  have HVV : Hid (ctK kind (rdK kind s) = cV a1 a2 a3) := hV
  clear hV
  go_enter Tryz.func15, Tryz.ntmps15
  go_wp2_with (go_at_call 43; fail)
  refine (vok_impl 3 n s _ hs (tabs_below hT bw0)).mono ?_
  rw [HVO.out]
  rintro e w1 ⟨rfl, hb⟩
  obtain ⟨hc, hf⟩ := bcell hb
  have hz : w.heap.size + 1 < w1.heap.size := by have := hb.size; simp at this; omega
  have hy : w.heap.size < w1.heap.size := by omega
  have bw1 : Below w.heap.size w w1 := bw0.trans (hb.mono (by simp; omega))
  go_wp2_with (go_at_call 40; fail)
  refine (Ok.isKind_impl _ _).mono ?_
  rw [HIK.out]
  rintro e w0 ⟨rfl, hw⟩
  rw [hw]
  clear hw w0
  go_wp2_with (go_at_call 44; fail)
  refine (ck_impl _ _ _).mono ?_
  rw [HCK.out]
  rintro e w0 ⟨rfl, hw⟩
  rw [hw]
  clear hw w0
  go_wp2_with (go_at_call 45; fail)
  refine (castText_any s kind _ hs (hM.below bw1) HK.out).mono ?_
  rw [HVV.out]
  simp only [cV]
  rintro e w2 ⟨rfl, hb2⟩
  obtain ⟨hc2, hf2⟩ := bcell hb2
  have hz2 : w.heap.size + 1 < w2.heap.size := by have := hb2.size; omega
  have hy2 : w.heap.size < w2.heap.size := by omega
  have bw2 : Below w.heap.size w w2 := bw1.trans (hb2.mono (by have := bw1.size; omega))
  go_wp2
  refine bodyPost_ret (v := cV a1 a2 a3) (by simp [results, Tryz.results15, go_sem, cV, tV, hc, hf, hz, hy, hc2, hf2, hz2, hy2]) rfl (CastEnd.mk HIS.out ?_)
  exact ((bw2.setCell (by simp) _).setCell (by simp) _).setCell (by simp) _
theorem cast_impl (k n kind : Int) (s : ByteArray) (w : World) (hs : s.size ≤ 1048576) (wn : (Lit.int .i64 n).wf = true) (hT : Tabs w) (hP : Pows w) (hM : ML w) :
    Calls Tryz.prog 15 #[.agg #[.int .i64 k, .int .i64 n, .string s], .int .i64 kind] w fun e w' => CastEnd k n s kind w e w' := by
  cases hv : vok k n s
  · exact impl_bad1 k n kind s w hs wn hT hP hM hv
  cases hi : Ok.isK kind
  · exact impl_bad2 k n kind s w hs wn hT hP hM hv hi
  cases hk : ck k kind
  · exact impl_type k n kind s w hs wn hT hP hM hv hi hk
  by_cases h0 : k = 0
  · subst h0; exact impl_same0 n kind s w hs wn hT hP hM hv hi hk
  by_cases h1 : k = kind
  · subst h1; exact impl_same k n s w hs wn hT hP hM hv hi hk (by rw [beq_eq_false_iff_ne]; exact h0)
  rcases ck_cases hk (by omega) with ⟨rfl, h⟩ | ⟨rfl, rfl | rfl | rfl | rfl⟩ | ⟨rfl, rfl⟩ | ⟨rfl, rfl⟩
  · exact impl_text n kind s w hs wn hT hP hM hv hi hk h1 h
  · exact impl_plain1 n s w hs wn hT hP hM hv hi hk
  · exact impl_plain2 n s w hs wn hT hP hM hv hi hk
  · exact impl_plain4 n s w hs wn hT hP hM hv hi hk
  · exact impl_plain5 n s w hs wn hT hP hM hv hi hk
  · exact impl_up n s w hs wn hT hP hM hv hi hk
  · exact impl_down n s w hs wn hT hP hM hv hi hk
end Go.Proofs.YtdcdoeolaongkaaGreatDoor.Rd
