import Derived.Test.YtdcdoeolaongkaaGreatDoorG6
namespace Go.Proofs.YtdcdoeolaongkaaGreatDoor
open Go.ChangeShapes Go.WideShapes Go.ChangeAt Go.RowKit Go.Shelf Go.Joins
set_option linter.unusedVariables false
set_option linter.unusedSimpArgs false
set_option maxRecDepth 100000
theorem itoa_short (n : Int) (k : Nat) (h0 : 0 ≤ n) (hk : k = 2 ∨ k = 4) (h : n < if k = 2 then 100 else 10000) : (Lib.itoa n).length ≤ k := by
  obtain ⟨r, rfl⟩ := Int.eq_ofNat_of_zero_le h0
  rw [Lib.itoa_nonneg]
  rcases hk with rfl | rfl
  · simp at h
    by_cases h1 : r < 10
    · rw [Lib.decDigits_one h1]; simp
    · rw [Lib.decDigits, dif_neg h1, Lib.decDigits_one (by omega)]; simp
  · simp at h
    have := frac_len r (by omega)
    have h2 : (Lib.decDigits r).length ≤ (frac r).length := by unfold frac wideL; simp
    omega
set_option maxHeartbeats 4000000 in
theorem dayText_impl (n : Int) (w : World) (h1 : -719162 ≤ n) (h2 : n ≤ 2932896) (hP : Pows w) : Calls Tryz.prog 108 #[.int .i64 n] w fun e w' => ∃ y m d : Int, Days.vld y m d ∧ Days.num y m d = n ∧ e = .returned (.string ⟨(dayT y m d).toArray⟩) ∧ Below w.heap.size w w' := by
  go_enter Tryz.func108, Tryz.ntmps108
  go_wp2_with fail
  refine (Days.parts_impl _ _ h1 h2).mono ?_
  rintro e w0 ⟨y, m, d, rfl, v, hn, hw⟩
  rw [hw]
  clear hw w0
  have V : Hid (Days.vld y m d) := v
  have N : Hid (Days.num y m d = n) := hn
  have hd31 := Days.mdays_bd y m
  obtain ⟨⟨y1, y2⟩, ⟨m1, m2⟩, d1, d2⟩ := v
  clear hn
  have wy : (Lit.int .i64 y).wf = true := in_wf (by omega) (by omega)
  have wm : (Lit.int .i64 m).wf = true := in_wf (by omega) (by omega)
  have wd : (Lit.int .i64 d).wf = true := in_wf (by omega) (by omega)
  have ly := wide_len (Lib.itoa y) 4 (Lib.itoa_length_le y (by omega) (by omega)) (by omega)
  have lm := wide_len (Lib.itoa m) 2 (Lib.itoa_length_le m (by omega) (by omega)) (by omega)
  have ld := wide_len (Lib.itoa d) 2 (Lib.itoa_length_le d (by omega) (by omega)) (by omega)
  have l4 : (Lib.itoa y).length ≤ 4 := itoa_short y 4 (by omega) (.inr rfl) (by simp; omega)
  have l2 : (Lib.itoa m).length ≤ 2 := itoa_short m 2 (by omega) (.inl rfl) (by simp; omega)
  have l3 : (Lib.itoa d).length ≤ 2 := itoa_short d 2 (by omega) (.inl rfl) (by simp; omega)
  clear hd31 d2
  go_wp2_with fail
  refine (padded_any y 4 _ wy (by omega) l4 hP).mono ?_
  rintro e w1 ⟨rfl, b1⟩
  go_wp2_with fail
  refine (padded_any m 2 _ wm (by omega) l2 (pows_below hP b1)).mono ?_
  rintro e w2 ⟨rfl, b2⟩
  go_wp2_with fail
  refine (padded_any d 2 _ wd (by omega) l3 (pows_below hP (chain b1 b2))).mono ?_
  rintro e w3 ⟨rfl, b3⟩
  have bw := chain (chain b1 b2) b3
  clear wy wm wd
  go_wp2
  go_ret
  exact ⟨y, m, d, V.out, N.out, ret_str (day_str _ _ _), bw⟩
theorem bool_true : (⟨(Lib.formatBool true).toArray⟩ : ByteArray) = ⟨#[116, 114, 117, 101]⟩ := by decide
theorem bool_false : (⟨(Lib.formatBool false).toArray⟩ : ByteArray) = ⟨#[102, 97, 108, 115, 101]⟩ := by decide
set_option maxHeartbeats 4000000 in
theorem plainText_impl (k n : Int) (s : ByteArray) (w : World) (wn : (Lit.int .i64 n).wf = true) (hv : vok k n s = true) (hP : Pows w) :
    Calls Tryz.prog 47 #[.agg #[.int .i64 k, .int .i64 n, .string s]] w fun e w' => PlainEnd k n s w e w' := by
  have hm := vok_more hv
  have HV : Hid (vok k n s = true) := hv
  have bw0 := below_alloc w (.cells #[.int .i64 k, .int .i64 n, .string s] 29)
  obtain ⟨hk, hd, hy⟩ := hm
  clear hv
  rcases hk with rfl | rfl | rfl | rfl | rfl | rfl
  · clear hd hy
    go_enter Tryz.func47, Tryz.ntmps47
    go_wp2
    go_ret
    exact PlainEnd.mk (isPlain_null HV.out) bw0
  · clear hd hy
    go_enter Tryz.func47, Tryz.ntmps47
    go_wp2_with fail
    refine (itoa_any n _ wn (pows_below hP bw0)).mono ?_
    rintro e w1 ⟨rfl, b1⟩
    go_wp2
    go_ret
    exact PlainEnd.mk (isPlain_int HV.out) (chain bw0 b1)
  · have b := hd rfl
    clear hd hy
    go_enter Tryz.func47, Tryz.ntmps47
    go_wp2_with fail
    refine (decText_impl n _ b.1 b.2 (pows_below hP bw0)).mono ?_
    rintro e w1 ⟨rfl, b1⟩
    go_wp2
    go_ret
    exact PlainEnd.mk (isPlain_dec HV.out) (chain bw0 b1)
  · clear hd hy
    go_enter Tryz.func47, Tryz.ntmps47
    go_wp2
    go_ret
    exact PlainEnd.mk (isPlain_text HV.out) bw0
  · have HB : Hid (isPlain 4 n s (if n = 1 then ⟨#[116, 114, 117, 101]⟩ else ⟨#[102, 97, 108, 115, 101]⟩)) := isPlain_bool HV.out
    clear hd hy
    by_cases h1 : n = 1
    · subst h1
      have HC : Hid (isPlain 4 1 s ⟨(Lib.formatBool true).toArray⟩) := (by have := HB.out; rw [if_pos rfl] at this; rwa [bool_true] : isPlain 4 1 s ⟨(Lib.formatBool true).toArray⟩)
      clear HB
      go_enter Tryz.func47, Tryz.ntmps47
      go_wp2_with (go_at_call 107; refine (Tryz.strconv_FormatBool _ _).mono ?_; rintro e w' ⟨rfl, rfl⟩)
      go_ret
      exact PlainEnd.mk HC.out bw0
    · have e1 : (n == 1) = false := by simpa using h1
      have HC : Hid (isPlain 4 n s ⟨(Lib.formatBool false).toArray⟩) := (by have := HB.out; rw [if_neg h1] at this; rwa [bool_false] : isPlain 4 n s ⟨(Lib.formatBool false).toArray⟩)
      clear h1 HB
      go_enter Tryz.func47, Tryz.ntmps47
      go_wp2_with (go_at_call 107; refine (Tryz.strconv_FormatBool _ _).mono ?_; rintro e w' ⟨rfl, rfl⟩)
      go_ret
      exact PlainEnd.mk HC.out bw0
  · have b := hy rfl
    clear hd hy
    go_enter Tryz.func47, Tryz.ntmps47
    go_wp2_with fail
    refine (dayText_impl n _ b.1 b.2 (pows_below hP bw0)).mono ?_
    rintro e w1 ⟨y, m, d, v, hn, rfl, b1⟩
    have HP : Hid (isPlain 5 n s ⟨(dayT y m d).toArray⟩) := isPlain_day HV.out v hn
    clear v hn
    go_wp2
    go_ret
    exact PlainEnd.mk HP.out (chain bw0 b1)
set_option maxHeartbeats 4000000 in
theorem plain_impl (k n : Int) (s : ByteArray) (w : World) (wn : (Lit.int .i64 n).wf = true) (hs : s.size ≤ 1048576) (hT : Tabs w) (hP : Pows w) :
    Calls Tryz.prog 16 #[.agg #[.int .i64 k, .int .i64 n, .string s]] w fun e w' => PlainEnd k n s w e w' := by
  have bw0 := below_alloc w (.cells #[.int .i64 k, .int .i64 n, .string s] 29)
  cases hv : vok k n s with
  | false =>
    have HV : Hid (vok k n s = false) := hv
    clear hv
    go_enter Tryz.func16, Tryz.ntmps16
    go_wp2_with fail
    refine (vok_impl k n s _ hs (tabs_below hT bw0)).mono ?_
    rw [HV.out]
    rintro e w1 ⟨rfl, b1⟩
    go_wp2
    go_ret
    exact PlainEnd.mk (isPlain_bad HV.out) (chain bw0 b1)
  | true =>
    have HV : Hid (vok k n s = true) := hv
    clear hv
    go_enter Tryz.func16, Tryz.ntmps16
    go_wp2_with fail
    refine (vok_impl k n s _ hs (tabs_below hT bw0)).mono ?_
    rw [HV.out]
    rintro e w1 ⟨rfl, b1⟩
    obtain ⟨hc, hf⟩ := bcell b1
    go_wp2_with fail
    refine (plainText_impl k n s _ wn HV.out (pows_below hP (chain bw0 b1))).mono ?_
    rintro e w2 ⟨b, hp, rfl, b2⟩
    have HP : Hid (isPlain k n s b) := hp
    clear hp
    go_wp2
    go_ret
    exact PlainEnd.mk HP.out (chain (chain bw0 b1) b2)
end Go.Proofs.YtdcdoeolaongkaaGreatDoor
