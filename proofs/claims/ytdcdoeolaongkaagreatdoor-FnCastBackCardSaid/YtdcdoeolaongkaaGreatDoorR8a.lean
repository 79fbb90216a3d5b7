import Derived.Test.YtdcdoeolaongkaaGreatDoorR8
namespace Go.Proofs.YtdcdoeolaongkaaGreatDoor.Rd
open Go.ChangeShapes Go.WideShapes Go.ChangeAt Go.RowKit Go.Shelf
set_option linter.unusedVariables false
set_option linter.unusedSimpArgs false
set_option maxRecDepth 100000
set_option maxHeartbeats 4000000 in
theorem impl_bad1 (k n kind : Int) (s : ByteArray) (w : World) (hs : s.size ≤ 1048576) (wn : (Lit.int .i64 n).wf = true) (hT : Tabs w) (hP : Pows w) (hM : ML w) (HVO : Hid (vok k n s = false)) :
    Calls Tryz.prog 15 #[.agg #[.int .i64 k, .int .i64 n, .string s], .int .i64 kind] w fun e w' => CastEnd k n s kind w e w' := by
  have bw0 : Below w.heap.size w ((w.alloc (.cells #[.int .i64 k, .int .i64 n, .string s] 29)).alloc (.cells #[.int .i64 0, .int .i64 0, .string ⟨#[]⟩] 29)) := (below_alloc w _).alloc (by simp) _
  have HIS : Hid (CastIs k n s kind (cV 0 0 1)) := cast_bad1 HVO.out
  go_enter Tryz.func15, Tryz.ntmps15
  go_wp2_with (go_at_call 43; fail)
  refine (vok_impl k n s _ hs (tabs_below hT bw0)).mono ?_
  rw [HVO.out]
  rintro e w1 ⟨rfl, hb⟩
  obtain ⟨hc, hf⟩ := bcell hb
  have hz : w.heap.size + 1 < w1.heap.size := by have := hb.size; simp at this; omega
  have hy : w.heap.size < w1.heap.size := by omega
  have bw1 : Below w.heap.size w w1 := bw0.trans (hb.mono (by simp; omega))
  go_wp2
  refine bodyPost_ret (v := cV 0 0 1) (by simp [results, Tryz.results15, go_sem, cV, tV, hc, hf, hz, hy]) rfl (CastEnd.mk HIS.out ?_)
  exact ((bw1.setCell (by simp) _).setCell (by simp) _).setCell (by simp) _
set_option maxHeartbeats 4000000 in
theorem impl_bad2 (k n kind : Int) (s : ByteArray) (w : World) (hs : s.size ≤ 1048576) (wn : (Lit.int .i64 n).wf = true) (hT : Tabs w) (hP : Pows w) (hM : ML w) (HVO : Hid (vok k n s = true)) (HIK : Hid (Ok.isK kind = false)) :
    Calls Tryz.prog 15 #[.agg #[.int .i64 k, .int .i64 n, .string s], .int .i64 kind] w fun e w' => CastEnd k n s kind w e w' := by
  have bw0 : Below w.heap.size w ((w.alloc (.cells #[.int .i64 k, .int .i64 n, .string s] 29)).alloc (.cells #[.int .i64 0, .int .i64 0, .string ⟨#[]⟩] 29)) := (below_alloc w _).alloc (by simp) _
  have HIS : Hid (CastIs k n s kind (cV 0 0 1)) := cast_bad2 HIK.out
  go_enter Tryz.func15, Tryz.ntmps15
  go_wp2_with (go_at_call 43; fail)
  refine (vok_impl k n s _ hs (tabs_below hT bw0)).mono ?_
  rw [HVO.out]
  rintro e w1 ⟨rfl, hb⟩
  obtain ⟨hc, hf⟩ := bcell hb
  have hz : w.heap.size + 1 < w1.heap.size := by have := hb.size; simp at this; omega
  have hy : w.heap.size < w1.heap.size := by omega
  have bw1 : Below w.heap.size w w1 := bw0.trans (hb.mono (by simp; omega))
  go_wp2_with (go_at_call 40; fail)
  refine (Ok.isKind_impl _ _).mono ?_
  rw [HIK.out]
  rintro e w0 ⟨rfl, hw⟩
  rw [hw]
  clear hw w0
  go_wp2
  refine bodyPost_ret (v := cV 0 0 1) (by simp [results, Tryz.results15, go_sem, cV, tV, hc, hf, hz, hy]) rfl (CastEnd.mk HIS.out ?_)
  exact ((bw1.setCell (by simp) _).setCell (by simp) _).setCell (by simp) _
set_option maxHeartbeats 4000000 in
theorem impl_type (k n kind : Int) (s : ByteArray) (w : World) (hs : s.size ≤ 1048576) (wn : (Lit.int .i64 n).wf = true) (hT : Tabs w) (hP : Pows w) (hM : ML w) (HVO : Hid (vok k n s = true)) (HIK : Hid (Ok.isK kind = true)) (HCK : Hid (ck k kind = false)) :
    Calls Tryz.prog 15 #[.agg #[.int .i64 k, .int .i64 n, .string s], .int .i64 kind] w fun e w' => CastEnd k n s kind w e w' := by
  have bw0 : Below w.heap.size w ((w.alloc (.cells #[.int .i64 k, .int .i64 n, .string s] 29)).alloc (.cells #[.int .i64 0, .int .i64 0, .string ⟨#[]⟩] 29)) := (below_alloc w _).alloc (by simp) _
  have HIS : Hid (CastIs k n s kind (cV 0 0 10)) := cast_type HVO.out HIK.out HCK.out
  go_enter Tryz.func15, Tryz.ntmps15
  go_wp2_with (go_at_call 43; fail)
  refine (vok_impl k n s _ hs (tabs_below hT bw0)).mono ?_
  rw [HVO.out]
  rintro e w1 ⟨rfl, hb⟩
  obtain ⟨hc, hf⟩ := bcell hb
  have hz : w.heap.size + 1 < w1.heap.size := by have := hb.size; simp at this; omega
  have hy : w.heap.size < w1.heap.size := by omega
  have bw1 : Below w.heap.size w w1 := bw0.trans (hb.mono (by simp; omega))
  go_wp2_with (go_at_call 40; fail)
  refine (Ok.isKind_impl _ _).mono ?_
  rw [HIK.out]
  rintro e w0 ⟨rfl, hw⟩
  rw [hw]
  clear hw w0
  go_wp2_with (go_at_call 44; fail)
  refine (ck_impl _ _ _).mono ?_
  rw [HCK.out]
  rintro e w0 ⟨rfl, hw⟩
  rw [hw]
  clear hw w0
  go_wp2
  refine bodyPost_ret (v := cV 0 0 10) (by simp [results, Tryz.results15, go_sem, cV, tV, hc, hf, hz, hy]) rfl (CastEnd.mk HIS.out ?_)
  exact ((bw1.setCell (by simp) _).setCell (by simp) _).setCell (by simp) _
set_option maxHeartbeats 4000000 in
theorem impl_same0 (n kind : Int) (s : ByteArray) (w : World) (hs : s.size ≤ 1048576) (wn : (Lit.int .i64 n).wf = true) (hT : Tabs w) (hP : Pows w) (hM : ML w) (HVO : Hid (vok 0 n s = true)) (HIK : Hid (Ok.isK kind = true)) (HCK : Hid (ck 0 kind = true)) :
    Calls Tryz.prog 15 #[.agg #[.int .i64 0, .int .i64 n, .string s], .int .i64 kind] w fun e w' => CastEnd 0 n s kind w e w' := by
  have bw0 : Below w.heap.size w ((w.alloc (.cells #[.int .i64 0, .int .i64 n, .string s] 29)).alloc (.cells #[.int .i64 0, .int .i64 0, .string ⟨#[]⟩] 29)) := (below_alloc w _).alloc (by simp) _
  have HIS : Hid (CastIs 0 n s kind (tV 0 n s 0)) := cast_same HVO.out HIK.out HCK.out (.inl rfl)
  go_enter Tryz.func15, Tryz.ntmps15
  go_wp2_with (go_at_call 43; fail)
  refine (vok_impl 0 n s _ hs (tabs_below hT bw0)).mono ?_
  rw [HVO.out]
  rintro e w1 ⟨rfl, hb⟩
  obtain ⟨hc, hf⟩ := bcell hb
  have hz : w.heap.size + 1 < w1.heap.size := by have := hb.size; simp at this; omega
  have hy : w.heap.size < w1.heap.size := by omega
  have bw1 : Below w.heap.size w w1 := bw0.trans (hb.mono (by simp; omega))
  go_wp2_with (go_at_call 40; fail)
  refine (Ok.isKind_impl _ _).mono ?_
  rw [HIK.out]
  rintro e w0 ⟨rfl, hw⟩
  rw [hw]
  clear hw w0
  go_wp2_with (go_at_call 44; fail)
  refine (ck_impl _ _ _).mono ?_
  rw [HCK.out]
  rintro e w0 ⟨rfl, hw⟩
  rw [hw]
  clear hw w0
  go_wp2
  refine bodyPost_ret (v := tV 0 n s 0) (by simp [results, Tryz.results15, go_sem, cV, tV, hc, hf, hz, hy]) rfl (CastEnd.mk HIS.out ?_)
  exact ((bw1.setCell (by simp) _).setCell (by simp) _).setCell (by simp) _
set_option maxHeartbeats 4000000 in
theorem impl_same (k n : Int) (s : ByteArray) (w : World) (hs : s.size ≤ 1048576) (wn : (Lit.int .i64 n).wf = true) (hT : Tabs w) (hP : Pows w) (hM : ML w) (HVO : Hid (vok k n s = true)) (HIK : Hid (Ok.isK k = true)) (HCK : Hid (ck k k = true)) (h0 : (k == 0) = false) :
    Calls Tryz.prog 15 #[.agg #[.int .i64 k, .int .i64 n, .string s], .int .i64 k] w fun e w' => CastEnd k n s k w e w' := by
  have bw0 : Below w.heap.size w ((w.alloc (.cells #[.int .i64 k, .int .i64 n, .string s] 29)).alloc (.cells #[.int .i64 0, .int .i64 0, .string ⟨#[]⟩] 29)) := (below_alloc w _).alloc (by simp) _
  have HIS : Hid (CastIs k n s k (tV k n s 0)) := cast_same HVO.out HIK.out HCK.out (.inr rfl)
  go_enter Tryz.func15, Tryz.ntmps15
  go_wp2_with (go_at_call 43; fail)
  refine (vok_impl k n s _ hs (tabs_below hT bw0)).mono ?_
  rw [HVO.out]
  rintro e w1 ⟨rfl, hb⟩
  obtain ⟨hc, hf⟩ := bcell hb
  have hz : w.heap.size + 1 < w1.heap.size := by have := hb.size; simp at this; omega
  have hy : w.heap.size < w1.heap.size := by omega
  have bw1 : Below w.heap.size w w1 := bw0.trans (hb.mono (by simp; omega))
  go_wp2_with (go_at_call 40; fail)
  refine (Ok.isKind_impl _ _).mono ?_
  rw [HIK.out]
  rintro e w0 ⟨rfl, hw⟩
  rw [hw]
  clear hw w0
  go_wp2_with (go_at_call 44; fail)
  refine (ck_impl _ _ _).mono ?_
  rw [HCK.out]
  rintro e w0 ⟨rfl, hw⟩
  rw [hw]
  clear hw w0
  go_wp2
  refine bodyPost_ret (v := tV k n s 0) (by simp [results, Tryz.results15, go_sem, cV, tV, hc, hf, hz, hy]) rfl (CastEnd.mk HIS.out ?_)
  exact ((bw1.setCell (by simp) _).setCell (by simp) _).setCell (by simp) _
set_option maxHeartbeats 4000000 in
theorem impl_plain1 (n : Int) (s : ByteArray) (w : World) (hs : s.size ≤ 1048576) (wn : (Lit.int .i64 n).wf = true) (hT : Tabs w) (hP : Pows w) (hM : ML w) (HVO : Hid (vok 1 n s = true)) (HIK : Hid (Ok.isK 3 = true)) (HCK : Hid (ck 1 3 = true)) :
    Calls Tryz.prog 15 #[.agg #[.int .i64 1, .int .i64 n, .string s], .int .i64 3] w fun e w' => CastEnd 1 n s 3 w e w' := by
  have bw0 : Below w.heap.size w ((w.alloc (.cells #[.int .i64 1, .int .i64 n, .string s] 29)).alloc (.cells #[.int .i64 0, .int .i64 0, .string ⟨#[]⟩] 29)) := (below_alloc w _).alloc (by simp) _
  go_enter Tryz.func15, Tryz.ntmps15
  go_wp2_with (go_at_call 43; fail)
  refine (vok_impl 1 n s _ hs (tabs_below hT bw0)).mono ?_
  rw [HVO.out]
  rintro e w1 ⟨rfl, hb⟩
  obtain ⟨hc, hf⟩ := bcell hb
  have hz : w.heap.size + 1 < w1.heap.size := by have := hb.size; simp at this; omega
  have hy : w.heap.size < w1.heap.size := by omega
  have bw1 : Below w.heap.size w w1 := bw0.trans (hb.mono (by simp; omega))
  go_wp2_with (go_at_call 40; fail)
  refine (Ok.isKind_impl _ _).mono ?_
  rw [HIK.out]
  rintro e w0 ⟨rfl, hw⟩
  rw [hw]
  clear hw w0
  go_wp2_with (go_at_call 44; fail)
  refine (ck_impl _ _ _).mono ?_
  rw [HCK.out]
  rintro e w0 ⟨rfl, hw⟩
  rw [hw]
  clear hw w0
  go_wp2_with (go_at_call 47; fail)
  refine (plainText_impl 1 n s _ wn HVO.out (pows_below hP bw1)).mono ?_
  rintro e w2 ⟨b, hpl, rfl, hb2⟩
  have HIS : Hid (CastIs 1 n s 3 (tV 3 0 b 0)) := cast_plain HVO.out HIK.out HCK.out (by omega) (by omega) hpl
  clear hpl
  obtain ⟨hc2, hf2⟩ := bcell hb2
  have hz2 : w.heap.size + 1 < w2.heap.size := by have := hb2.size; omega
  have hy2 : w.heap.size < w2.heap.size := by omega
  have bw2 : Below w.heap.size w w2 := bw1.trans (hb2.mono (by have := bw1.size; omega))
  go_wp2_with (go_at_call 46; fail)
  refine (textValue_any b _).mono ?_
  rintro e w3 ⟨rfl, hb3⟩
  obtain ⟨hc3, hf3⟩ := bcell hb3
  have hz3 : w.heap.size + 1 < w3.heap.size := by have := hb3.size; omega
  have hy3 : w.heap.size < w3.heap.size := by omega
  have bw3 : Below w.heap.size w w3 := bw2.trans (hb3.mono (by have := bw2.size; omega))
  go_wp2
  refine bodyPost_ret (v := tV 3 0 b 0) (by simp [results, Tryz.results15, go_sem, cV, tV, hc, hf, hz, hy, hc2, hf2, hz2, hy2, hc3, hf3, hz3, hy3]) rfl (CastEnd.mk HIS.out ?_)
  exact ((bw3.setCell (by simp) _).setCell (by simp) _).setCell (by simp) _
set_option maxHeartbeats 4000000 in
theorem impl_plain2 (n : Int) (s : ByteArray) (w : World) (hs : s.size ≤ 1048576) (wn : (Lit.int .i64 n).wf = true) (hT : Tabs w) (hP : Pows w) (hM : ML w) (HVO : Hid (vok 2 n s = true)) (HIK : Hid (Ok.isK 3 = true)) (HCK : Hid (ck 2 3 = true)) :
    Calls Tryz.prog 15 #[.agg #[.int .i64 2, .int .i64 n, .string s], .int .i64 3] w fun e w' => CastEnd 2 n s 3 w e w' := by
  have bw0 : Below w.heap.size w ((w.alloc (.cells #[.int .i64 2, .int .i64 n, .string s] 29)).alloc (.cells #[.int .i64 0, .int .i64 0, .string ⟨#[]⟩] 29)) := (below_alloc w _).alloc (by simp) _
  go_enter Tryz.func15, Tryz.ntmps15
  go_wp2_with (go_at_call 43; fail)
  refine (vok_impl 2 n s _ hs (tabs_below hT bw0)).mono ?_
  rw [HVO.out]
  rintro e w1 ⟨rfl, hb⟩
  obtain ⟨hc, hf⟩ := bcell hb
  have hz : w.heap.size + 1 < w1.heap.size := by have := hb.size; simp at this; omega
  have hy : w.heap.size < w1.heap.size := by omega
  have bw1 : Below w.heap.size w w1 := bw0.trans (hb.mono (by simp; omega))
  go_wp2_with (go_at_call 40; fail)
  refine (Ok.isKind_impl _ _).mono ?_
  rw [HIK.out]
  rintro e w0 ⟨rfl, hw⟩
  rw [hw]
  clear hw w0
  go_wp2_with (go_at_call 44; fail)
  refine (ck_impl _ _ _).mono ?_
  rw [HCK.out]
  rintro e w0 ⟨rfl, hw⟩
  rw [hw]
  clear hw w0
  go_wp2_with (go_at_call 47; fail)
  refine (plainText_impl 2 n s _ wn HVO.out (pows_below hP bw1)).mono ?_
  rintro e w2 ⟨b, hpl, rfl, hb2⟩
  have HIS : Hid (CastIs 2 n s 3 (tV 3 0 b 0)) := cast_plain HVO.out HIK.out HCK.out (by omega) (by omega) hpl
  clear hpl
  obtain ⟨hc2, hf2⟩ := bcell hb2
  have hz2 : w.heap.size + 1 < w2.heap.size := by have := hb2.size; omega
  have hy2 : w.heap.size < w2.heap.size := by omega
  have bw2 : Below w.heap.size w w2 := bw1.trans (hb2.mono (by have := bw1.size; omega))
  go_wp2_with (go_at_call 46; fail)
  refine (textValue_any b _).mono ?_
  rintro e w3 ⟨rfl, hb3⟩
  obtain ⟨hc3, hf3⟩ := bcell hb3
  have hz3 : w.heap.size + 1 < w3.heap.size := by have := hb3.size; omega
  have hy3 : w.heap.size < w3.heap.size := by omega
  have bw3 : Below w.heap.size w w3 := bw2.trans (hb3.mono (by have := bw2.size; omega))
  go_wp2
  refine bodyPost_ret (v := tV 3 0 b 0) (by simp [results, Tryz.results15, go_sem, cV, tV, hc, hf, hz, hy, hc2, hf2, hz2, hy2, hc3, hf3, hz3, hy3]) rfl (CastEnd.mk HIS.out ?_)
  exact ((bw3.setCell (by simp) _).setCell (by simp) _).setCell (by simp) _
set_option maxHeartbeats 4000000 in
theorem impl_plain4 (n : Int) (s : ByteArray) (w : World) (hs : s.size ≤ 1048576) (wn : (Lit.int .i64 n).wf = true) (hT : Tabs w) (hP : Pows w) (hM : ML w) (HVO : Hid (vok 4 n s = true)) (HIK : Hid (Ok.isK 3 = true)) (HCK : Hid (ck 4 3 = true)) :
    Calls Tryz.prog 15 #[.agg #[.int .i64 4, .int .i64 n, .string s], .int .i64 3] w fun e w' => CastEnd 4 n s 3 w e w' := by
  have bw0 : Below w.heap.size w ((w.alloc (.cells #[.int .i64 4, .int .i64 n, .string s] 29)).alloc (.cells #[.int .i64 0, .int .i64 0, .string ⟨#[]⟩] 29)) := (below_alloc w _).alloc (by simp) _
  go_enter Tryz.func15, Tryz.ntmps15
  go_wp2_with (go_at_call 43; fail)
  refine (vok_impl 4 n s _ hs (tabs_below hT bw0)).mono ?_
  rw [HVO.out]
  rintro e w1 ⟨rfl, hb⟩
  obtain ⟨hc, hf⟩ := bcell hb
  have hz : w.heap.size + 1 < w1.heap.size := by have := hb.size; simp at this; omega
  have hy : w.heap.size < w1.heap.size := by omega
  have bw1 : Below w.heap.size w w1 := bw0.trans (hb.mono (by simp; omega))
  go_wp2_with (go_at_call 40; fail)
  refine (Ok.isKind_impl _ _).mono ?_
  rw [HIK.out]
  rintro e w0 ⟨rfl, hw⟩
  rw [hw]
  clear hw w0
  go_wp2_with (go_at_call 44; fail)
  refine (ck_impl _ _ _).mono ?_
  rw [HCK.out]
  rintro e w0 ⟨rfl, hw⟩
  rw [hw]
  clear hw w0
  go_wp2_with (go_at_call 47; fail)
  refine (plainText_impl 4 n s _ wn HVO.out (pows_below hP bw1)).mono ?_
  rintro e w2 ⟨b, hpl, rfl, hb2⟩
  have HIS : Hid (CastIs 4 n s 3 (tV 3 0 b 0)) := cast_plain HVO.out HIK.out HCK.out (by omega) (by omega) hpl
  clear hpl
  obtain ⟨hc2, hf2⟩ := bcell hb2
  have hz2 : w.heap.size + 1 < w2.heap.size := by have := hb2.size; omega
  have hy2 : w.heap.size < w2.heap.size := by omega
  have bw2 : Below w.heap.size w w2 := bw1.trans (hb2.mono (by have := bw1.size; omega))
  go_wp2_with (go_at_call 46; fail)
  refine (textValue_any b _).mono ?_
  rintro e w3 ⟨rfl, hb3⟩
  obtain ⟨hc3, hf3⟩ := bcell hb3
  have hz3 : w.heap.size + 1 < w3.heap.size := by have := hb3.size; omega
  have hy3 : w.heap.size < w3.heap.size := by omega
  have bw3 : Below w.heap.size w w3 := bw2.trans (hb3.mono (by have := bw2.size; omega))
  go_wp2
  refine bodyPost_ret (v := tV 3 0 b 0) (by simp [results, Tryz.results15, go_sem, cV, tV, hc, hf, hz, hy, hc2, hf2, hz2, hy2, hc3, hf3, hz3, hy3]) rfl (CastEnd.mk HIS.out ?_)
  exact ((bw3.setCell (by simp) _).setCell (by simp) _).setCell (by simp) _
set_option maxHeartbeats 4000000 in
theorem impl_plain5 (n : Int) (s : ByteArray) (w : World) (hs : s.size ≤ 1048576) (wn : (Lit.int .i64 n).wf = true) (hT : Tabs w) (hP : Pows w) (hM : ML w) (HVO : Hid (vok 5 n s = true)) (HIK : Hid (Ok.isK 3 = true)) (HCK : Hid (ck 5 3 = true)) :
    Calls Tryz.prog 15 #[.agg #[.int .i64 5, .int .i64 n, .string s], .int .i64 3] w fun e w' => CastEnd 5 n s 3 w e w' := by
  have bw0 : Below w.heap.size w ((w.alloc (.cells #[.int .i64 5, .int .i64 n, .string s] 29)).alloc (.cells #[.int .i64 0, .int .i64 0, .string ⟨#[]⟩] 29)) := (below_alloc w _).alloc (by simp) _
  go_enter Tryz.func15, Tryz.ntmps15
  go_wp2_with (go_at_call 43; fail)
  refine (vok_impl 5 n s _ hs (tabs_below hT bw0)).mono ?_
  rw [HVO.out]
  rintro e w1 ⟨rfl, hb⟩
  obtain ⟨hc, hf⟩ := bcell hb
  have hz : w.heap.size + 1 < w1.heap.size := by have := hb.size; simp at this; omega
  have hy : w.heap.size < w1.heap.size := by omega
  have bw1 : Below w.heap.size w w1 := bw0.trans (hb.mono (by simp; omega))
  go_wp2_with (go_at_call 40; fail)
  refine (Ok.isKind_impl _ _).mono ?_
  rw [HIK.out]
  rintro e w0 ⟨rfl, hw⟩
  rw [hw]
  clear hw w0
  go_wp2_with (go_at_call 44; fail)
  refine (ck_impl _ _ _).mono ?_
  rw [HCK.out]
  rintro e w0 ⟨rfl, hw⟩
  rw [hw]
  clear hw w0
  go_wp2_with (go_at_call 47; fail)
  refine (plainText_impl 5 n s _ wn HVO.out (pows_below hP bw1)).mono ?_
  rintro e w2 ⟨b, hpl, rfl, hb2⟩
  have HIS : Hid (CastIs 5 n s 3 (tV 3 0 b 0)) := cast_plain HVO.out HIK.out HCK.out (by omega) (by omega) hpl
  clear hpl
  obtain ⟨hc2, hf2⟩ := bcell hb2
  have hz2 : w.heap.size + 1 < w2.heap.size := by have := hb2.size; omega
  have hy2 : w.heap.size < w2.heap.size := by omega
  have bw2 : Below w.heap.size w w2 := bw1.trans (hb2.mono (by have := bw1.size; omega))
  go_wp2_with (go_at_call 46; fail)
  refine (textValue_any b _).mono ?_
  rintro e w3 ⟨rfl, hb3⟩
  obtain ⟨hc3, hf3⟩ := bcell hb3
  have hz3 : w.heap.size + 1 < w3.heap.size := by have := hb3.size; omega
  have hy3 : w.heap.size < w3.heap.size := by omega
  have bw3 : Below w.heap.size w w3 := bw2.trans (hb3.mono (by have := bw2.size; omega))
  go_wp2
  refine bodyPost_ret (v := tV 3 0 b 0) (by simp [results, Tryz.results15, go_sem, cV, tV, hc, hf, hz, hy, hc2, hf2, hz2, hy2, hc3, hf3, hz3, hy3]) rfl (CastEnd.mk HIS.out ?_)
  exact ((bw3.setCell (by simp) _).setCell (by simp) _).setCell (by simp) _
set_option maxHeartbeats 4000000 in
theorem impl_up (n : Int) (s : ByteArray) (w : World) (hs : s.size ≤ 1048576) (wn : (Lit.int .i64 n).wf = true) (hT : Tabs w) (hP : Pows w) (hM : ML w) (HVO : Hid (vok 1 n s = true)) (HIK : Hid (Ok.isK 2 = true)) (HCK : Hid (ck 1 2 = true)) :
    Calls Tryz.prog 15 #[.agg #[.int .i64 1, .int .i64 n, .string s], .int .i64 2] w fun e w' => CastEnd 1 n s 2 w e w' := by
  have bw0 : Below w.heap.size w ((w.alloc (.cells #[.int .i64 1, .int .i64 n, .string s] 29)).alloc (.cells #[.int .i64 0, .int .i64 0, .string ⟨#[]⟩] 29)) := (below_alloc w _).alloc (by simp) _
  have hU := toU_two n
  have hdu := fun w => decUnits_any n w
  have HIS0 : Hid (CastIs 1 n s 2 (if (toU n).2 = 0 then cV 2 (toU n).1 0 else cV 0 0 13)) := cast_up HVO.out HIK.out HCK.out
  generalize toU n = u at *
  obtain ⟨u1, u2⟩ := u
  simp only at hU hdu HIS0
  rcases hU with rfl | ⟨rfl, rfl⟩
  · have HIS : Hid (CastIs 1 n s 2 (cV 2 u1 0)) := by have := HIS0.out; rw [if_pos rfl] at this; exact this
    clear HIS0
    go_enter Tryz.func15, Tryz.ntmps15
    go_wp2_with (go_at_call 43; fail)
    refine (vok_impl 1 n s _ hs (tabs_below hT bw0)).mono ?_
    rw [HVO.out]
    rintro e w1 ⟨rfl, hb⟩
    obtain ⟨hc, hf⟩ := bcell hb
    have hz : w.heap.size + 1 < w1.heap.size := by have := hb.size; simp at this; omega
    have hy : w.heap.size < w1.heap.size := by omega
    have bw1 : Below w.heap.size w w1 := bw0.trans (hb.mono (by simp; omega))
    go_wp2_with (go_at_call 40; fail)
    refine (Ok.isKind_impl _ _).mono ?_
    rw [HIK.out]
    rintro e w0 ⟨rfl, hw⟩
    rw [hw]
    clear hw w0
    go_wp2_with (go_at_call 44; fail)
    refine (ck_impl _ _ _).mono ?_
    rw [HCK.out]
    rintro e w0 ⟨rfl, hw⟩
    rw [hw]
    clear hw w0
    go_wp2_with (go_at_call 48; refine (hdu _).mono ?_; rintro e w0 ⟨rfl, hw⟩; rw [hw]; clear hw w0)
    refine (numbered_ok 2 u1 _).mono ?_
    rintro e w2 ⟨rfl, hb2⟩
    obtain ⟨hc2, hf2⟩ := bcell hb2
    have hz2 : w.heap.size + 1 < w2.heap.size := by have := hb2.size; omega
    have hy2 : w.heap.size < w2.heap.size := by omega
    have bw2 : Below w.heap.size w w2 := bw1.trans (hb2.mono (by have := bw1.size; omega))
    go_wp2
    refine bodyPost_ret (v := cV 2 u1 0) (by simp [results, Tryz.results15, go_sem, cV, tV, hc, hf, hz, hy, hc2, hf2, hz2, hy2]) rfl (CastEnd.mk HIS.out ?_)
    exact ((bw2.setCell (by simp) _).setCell (by simp) _).setCell (by simp) _
  · have HIS : Hid (CastIs 1 n s 2 (cV 0 0 13)) := by have := HIS0.out; rw [if_neg (by decide)] at this; exact this
    clear HIS0
    go_enter Tryz.func15, Tryz.ntmps15
    go_wp2_with (go_at_call 43; fail)
    refine (vok_impl 1 n s _ hs (tabs_below hT bw0)).mono ?_
    rw [HVO.out]
    rintro e w1 ⟨rfl, hb⟩
    obtain ⟨hc, hf⟩ := bcell hb
    have hz : w.heap.size + 1 < w1.heap.size := by have := hb.size; simp at this; omega
    have hy : w.heap.size < w1.heap.size := by omega
    have bw1 : Below w.heap.size w w1 := bw0.trans (hb.mono (by simp; omega))
    go_wp2_with (go_at_call 40; fail)
    refine (Ok.isKind_impl _ _).mono ?_
    rw [HIK.out]
    rintro e w0 ⟨rfl, hw⟩
    rw [hw]
    clear hw w0
    go_wp2_with (go_at_call 44; fail)
    refine (ck_impl _ _ _).mono ?_
    rw [HCK.out]
    rintro e w0 ⟨rfl, hw⟩
    rw [hw]
    clear hw w0
    go_wp2_with (go_at_call 48; refine (hdu _).mono ?_; rintro e w0 ⟨rfl, hw⟩; rw [hw]; clear hw w0)
    refine (numbered_bad 2 0 13 _ (by decide)).mono ?_
    rintro e w2 ⟨rfl, hb2⟩
    obtain ⟨hc2, hf2⟩ := bcell hb2
    have hz2 : w.heap.size + 1 < w2.heap.size := by have := hb2.size; omega
    have hy2 : w.heap.size < w2.heap.size := by omega
    have bw2 : Below w.heap.size w w2 := bw1.trans (hb2.mono (by have := bw1.size; omega))
    go_wp2
    refine bodyPost_ret (v := cV 0 0 13) (by simp [results, Tryz.results15, go_sem, cV, tV, hc, hf, hz, hy, hc2, hf2, hz2, hy2]) rfl (CastEnd.mk HIS.out ?_)
    exact ((bw2.setCell (by simp) _).setCell (by simp) _).setCell (by simp) _
set_option maxHeartbeats 4000000 in
theorem impl_down (n : Int) (s : ByteArray) (w : World) (hs : s.size ≤ 1048576) (wn : (Lit.int .i64 n).wf = true) (hT : Tabs w) (hP : Pows w) (hM : ML w) (HVO : Hid (vok 2 n s = true)) (HIK : Hid (Ok.isK 1 = true)) (HCK : Hid (ck 2 1 = true)) :
    Calls Tryz.prog 15 #[.agg #[.int .i64 2, .int .i64 n, .string s], .int .i64 1] w fun e w' => CastEnd 2 n s 1 w e w' := by
  have bw0 : Below w.heap.size w ((w.alloc (.cells #[.int .i64 2, .int .i64 n, .string s] 29)).alloc (.cells #[.int .i64 0, .int .i64 0, .string ⟨#[]⟩] 29)) := (below_alloc w _).alloc (by simp) _
  have HIS : Hid (CastIs 2 n s 1 (cV 1 (rndI n) 0)) := cast_down HVO.out HIK.out HCK.out
  have hm := (vok_more HVO.out).2.1 rfl
  have hr := fun w => wholeOf_any n w hm.1 hm.2
  generalize rndI n = r at *
  clear hm
  go_enter Tryz.func15, Tryz.ntmps15
  go_wp2_with (go_at_call 43; fail)
  refine (vok_impl 2 n s _ hs (tabs_below hT bw0)).mono ?_
  rw [HVO.out]
  rintro e w1 ⟨rfl, hb⟩
  obtain ⟨hc, hf⟩ := bcell hb
  have hz : w.heap.size + 1 < w1.heap.size := by have := hb.size; simp at this; omega
  have hy : w.heap.size < w1.heap.size := by omega
  have bw1 : Below w.heap.size w w1 := bw0.trans (hb.mono (by simp; omega))
  go_wp2_with (go_at_call 40; fail)
  refine (Ok.isKind_impl _ _).mono ?_
  rw [HIK.out]
  rintro e w0 ⟨rfl, hw⟩
  rw [hw]
  clear hw w0
  go_wp2_with (go_at_call 44; fail)
  refine (ck_impl _ _ _).mono ?_
  rw [HCK.out]
  rintro e w0 ⟨rfl, hw⟩
  rw [hw]
  clear hw w0
  go_wp2_with (go_at_call 50; fail)
  refine (hr _).mono ?_
  rintro e w2 ⟨rfl, hb2⟩
  obtain ⟨hc2, hf2⟩ := bcell hb2
  have hz2 : w.heap.size + 1 < w2.heap.size := by have := hb2.size; omega
  have hy2 : w.heap.size < w2.heap.size := by omega
  have bw2 : Below w.heap.size w w2 := bw1.trans (hb2.mono (by have := bw1.size; omega))
  go_wp2
  refine bodyPost_ret (v := cV 1 r 0) (by simp [results, Tryz.results15, go_sem, cV, tV, hc, hf, hz, hy, hc2, hf2, hz2, hy2]) rfl (CastEnd.mk HIS.out ?_)
  exact ((bw2.setCell (by simp) _).setCell (by simp) _).setCell (by simp) _
end Go.Proofs.YtdcdoeolaongkaaGreatDoor.Rd
