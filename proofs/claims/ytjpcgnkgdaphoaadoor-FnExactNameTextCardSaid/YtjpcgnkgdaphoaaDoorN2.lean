import Derived.Test.YtjpcgnkgdaphoaaDoorN1
namespace Go.Proofs.YtjpcgnkgdaphoaaDoor
open Go.ChangeShapes Go.WideShapes Go.ChangeAt Go.RowKit Go.Shelf
set_option linter.unusedVariables false
set_option linter.unusedSimpArgs false
set_option maxRecDepth 100000
theorem LexR.few2 {l : List UInt8} {k : Nat} {acc : List Tok} {r : LexRes} (h : LexR l k acc r) : acc.length ≤ 2000 → ∀ ts, r = .ok ts → ts.length ≤ 2000 := by
  induction h with
  | fin h => intro ha ts e; cases e; exact ha
  | blank h hb nx ih => exact ih
  | cmt hc nx ih => exact ih
  | many h hb hc hm => intro _ ts e; cases e
  | bad h hb hc hm hk => intro _ ts e; cases e
  | tok h hb hc hm hk nx ih => intro ha ts e; exact ih (by simp; omega) ts e
theorem lex_big2 (s : ByteArray) (w : World) (hs : 8000 < s.size) (hm : s.size ≤ maxLen) : Calls Tryd.prog 21 #[.string s] w fun e w' => e = .returned (.tuple #[.slice none 0 0, .int .i64 5, .int .i64 0]) ∧ w' = w := by
  unfold maxLen at hm
  have h : (8000 : Int) < s.size := by omega
  go_enter Tryd.func21, Tryd.ntmps21
  go_wp2
  try go_step3
  go_wp2
  try rw [Exit.noGoto_ret]
  go_ret3
  exact ⟨rfl, rfl⟩
theorem LexR.code {l : List UInt8} {k : Nat} {acc : List Tok} {r : LexRes} (h : LexR l k acc r) : ∀ c p, r = .err c p → c ≠ 0 := by
  induction h with
  | fin h => intro c p e; cases e
  | blank h hb nx ih => exact ih
  | cmt hc nx ih => exact ih
  | many h hb hc hm => intro c p e; cases e; decide
  | bad h hb hc hm hk => intro c p e; cases e; have := (cut_err hk).1; omega
  | tok h hb hc hm hk nx ih => exact ih
theorem tokOK_small (k : Int) (x : ByteArray) (h : tokOK k x.data.toList) : (tokText k x.data.toList).length ≤ 8000 := by
  have hx : x.data.toList.length = x.size := by simp
  have hs := tokText_small k x
  unfold tokOK at h
  split at h
  · unfold isWordL at h; simp only [Bool.and_eq_true, decide_eq_true_eq] at h; omega
  · split at h
    · unfold isNameL at h; simp only [Bool.and_eq_true, decide_eq_true_eq] at h; omega
    · split at h
      · have := (num_len h).2; omega
      · split at h
        · unfold strOK at h
          rw [ba_mk] at h
          rcases Nat.lt_or_ge 1020 x.size with g | g
          · rw [textOK_long x g] at h; cases h
          · omega
        · split at h
          · unfold isSigL at h; simp only [Bool.and_eq_true, decide_eq_true_eq] at h; omega
          · exact h.elim
set_option maxHeartbeats 3200000 in
theorem tokenOK_any (k p : Int) (x : ByteArray) (w : World) (hs : x.size ≤ 1048576) (hT : Tabs w) (hM : ML w) :
    Calls Tryd.prog 18 #[.agg #[.int .i64 k, .string x, .int .i64 p]] w fun e w' => e = .returned (.bool (okB k x.data.toList)) ∧ Below w.heap.size w w' := by
  have hM1 : ∀ o, ML (w.alloc o) := fun o => hM.below (below_alloc _ _)
  have htt := fun w hM => tokenText_any k 0 x w hs hM
  have hts := tokText_small k x
  have hone := tok_one k x.data.toList
  have hsm := tokOK_small k x
  obtain ⟨T, hTd⟩ : ∃ T : ByteArray, T = ⟨(tokText k x.data.toList).toArray⟩ := ⟨_, rfl⟩
  rw [← hTd] at htt
  have hTl : T.data.toList = tokText k x.data.toList := by rw [hTd]
  have hTs : T.size = (tokText k x.data.toList).length := by rw [hTd]; simp [ByteArray.size]
  rw [← hTl] at hone
  rw [← hTs] at hts hsm
  clear hTd hTl hTs
  by_cases h8 : T.size ≤ 8000
  · have hlx := fun w hT => lex_any T w h8 hT
    go_enter Tryd.func18, Tryd.ntmps18
    go_wp2_with (go_at_call 19; refine (htt _ (hM1 _)).mono ?_; rintro e w1 ⟨rfl, hb1⟩; obtain ⟨hc1, hf1⟩ := bcell hb1; have hz1 : w.heap.size < w1.heap.size := (by have := hb1.size; simp at this; omega); have bw1 : Below w.heap.size w w1 := ((Below.refl _ _).alloc (Nat.le_refl _) _).trans (hb1.mono (by simp)); clear hb1)
    refine (hlx _ (tabs_below hT bw1)).mono ?_
    rintro e w2 ⟨r, hr, hres, hb2⟩
    obtain ⟨hc2, hf2⟩ := bcell hb2
    have hz2 : w.heap.size < w2.heap.size := by have := hb2.size; omega
    have bw2 : Below w.heap.size w w2 := bw1.trans (hb2.mono (Nat.le_of_lt hz1))
    cases r with
    | err c q =>
      have hcne := hr.code c q rfl
      have hcz : (c == 0) = false := by rw [beq_eq_false_iff_ne]; exact hcne
      have HB : Hid (okB k x.data.toList = false) := okB_no (fun z => by have := LexR.det hr (hone.1 z); cases this)
      cases hres
      clear hr hone hsm
      go_wp2
      go_quiet (fail)
      go_wp2
      go_ret
      exact ⟨ret_bool HB.out.symm, below_drewN bw2 _⟩
    | ok ts =>
      obtain ⟨v, rfl, ho⟩ := hres
      obtain ⟨la, lc, rfl⟩ := owns_slice ho
      have hfew := hr.few2 (by simp) ts rfl
      by_cases h1 : ts.length = 1
      · obtain ⟨⟨k1, x1, p1⟩, rfl⟩ := List.length_eq_one_iff.1 h1
        obtain ⟨g, rfl⟩ : ∃ g, la = some ⟨g, 0, none⟩ := by
          rcases ho.2 with ⟨h', h0⟩ | ⟨g, cap, cur, h', _⟩
          · simp at h0
          · simp only [Value.slice.injEq] at h'; exact ⟨g, h'.1⟩
        have e0 := ho.cellAt 0 (by simp)
        have e1 := ho.cellAt 1 (by simp)
        have e2 := ho.cellAt 2 (by simp)
        simp only [tcells, List.flatMap_cons, List.flatMap_nil, List.append_nil, List.getElem?_cons_zero, List.getElem?_cons_succ] at e0 e1 e2
        obtain ⟨X, hX⟩ : ∃ X : ByteArray, X = ⟨x1.toArray⟩ := ⟨_, rfl⟩
        rw [← hX] at e1
        have hXd : x1 = X.data.toList := by rw [hX]
        clear hX
        subst hXd
        have hg2 := (ho.lt g rfl).2
        simp only [List.length_cons, List.length_nil, Nat.zero_add] at hfew
        clear ho
        by_cases heq : k1 = k ∧ X = x ∧ p1 = 0
        · obtain ⟨rfl, rfl, rfl⟩ := heq
          have HB : Hid (okB k1 X.data.toList = true) := okB_yes (hone.2 hr)
          clear hr hone hsm h1
          go_wp2
          go_quiet (fail)
          go_wp2
          go_ret
          exact ⟨ret_bool HB.out.symm, below_drewN bw2 _⟩
        · have HB : Hid (okB k x.data.toList = false) := okB_no (fun z => by
            have := LexR.det hr (hone.1 z)
            simp only [LexRes.ok.injEq, List.cons.injEq, Prod.mk.injEq, and_true] at this
            exact heq ⟨this.1, ba_ext this.2.1, this.2.2⟩)
          clear hr hone hsm h1
          by_cases hk : k1 = k
          · subst hk
            by_cases hx : X = x
            · subst hx
              have hp : ((p1 : Int) == 0) = false := by rw [beq_eq_false_iff_ne]; intro z; exact heq ⟨rfl, rfl, by omega⟩
              clear heq
              go_wp2
              go_quiet (fail)
              go_wp2
              go_ret
              exact ⟨ret_bool HB.out.symm, below_drewN bw2 _⟩
            · have hxb : (X.toList == x.toList) = false := by rw [Lib.toList_data, Lib.toList_data, beq_eq_false_iff_ne]; intro z; exact hx (ba_ext z)
              have hxb2 : (X == x) = false := by
                rw [show (X == x) = (X.data == x.data) from rfl, beq_eq_false_iff_ne]; intro z; exact hx (ba_ext (by rw [z]))
              clear heq
              go_wp2
              go_quiet (fail)
              go_wp2
              go_ret
              exact ⟨ret_bool HB.out.symm, below_drewN bw2 _⟩
          · have hkb : (k1 == k) = false := by rw [beq_eq_false_iff_ne]; exact hk
            clear heq
            go_wp2
            go_quiet (fail)
            go_wp2
            go_ret
            exact ⟨ret_bool HB.out.symm, below_drewN bw2 _⟩
      · have h1b : ((ts.length : Int) == 1) = false := by rw [beq_eq_false_iff_ne]; omega
        have HB : Hid (okB k x.data.toList = false) := okB_no (fun z => by have := LexR.det hr (hone.1 z); cases this; exact h1 rfl)
        clear hr hone hsm ho h1
        go_wp2
        go_quiet (fail)
        go_wp2
        go_ret
        exact ⟨ret_bool HB.out.symm, below_drewN bw2 _⟩
  · have HB : Hid (okB k x.data.toList = false) := okB_no (fun z => h8 (hsm z))
    have hlx := fun w => lex_big2 T w (by omega) (by unfold maxLen; omega)
    clear hone hsm
    go_enter Tryd.func18, Tryd.ntmps18
    go_wp2_with (first | (go_at_call 19; refine (htt _ (hM1 _)).mono ?_; rintro e w1 ⟨rfl, hb1⟩; obtain ⟨hc1, hf1⟩ := bcell hb1; have hz1 : w.heap.size < w1.heap.size := (by have := hb1.size; simp at this; omega); have bw1 : Below w.heap.size w w1 := ((Below.refl _ _).alloc (Nat.le_refl _) _).trans (hb1.mono (by simp)); clear hb1) | (go_at_call 21; refine (hlx _).mono ?_; rintro e w' ⟨rfl, rfl⟩))
    go_quiet (fail)
    go_wp2
    go_ret
    exact ⟨ret_bool HB.out.symm, below_drewN (by assumption) _⟩
end Go.Proofs.YtjpcgnkgdaphoaaDoor
