import Derived.Test.YtbcnfepfmoecjaaDoorC2
import Derived.Test.YtbcnfepfmoecjaaDoorW4
import Derived.Deep.QuietTactic
import Derived.BigQuiet
namespace Go.Proofs.YtbcnfepfmoecjaaDoor
open Go.ChangeShapes Go.WideShapes Go.ChangeAt Go.RowKit Go.Shelf
set_option linter.unusedVariables false
set_option linter.unusedSimpArgs false
set_option maxRecDepth 100000
theorem hide {p : Prop} (h : p) : Hid p := h
theorem bit_any (b : Bool) (w : World) : Calls Tryd.prog 41 #[.bool b] w fun e w' => e = .returned (.int .i64 (zB b)) ∧ w' = w := by
  cases b
  all_goals
    go_enter Tryd.func41, Tryd.ntmps41
    go_wp2
    go_ret
    exact ⟨rfl, rfl⟩
theorem numbers_any (a b : Int) (w : World) : Calls Tryd.prog 42 #[.int .i64 a, .int .i64 b] w fun e w' => e = .returned (.bool ((a == 1 && b == 2) || (a == 2 && b == 1))) ∧ w' = w := by
  go_enter Tryd.func42, Tryd.ntmps42
  go_wp2
  all_goals
    go_ret
    refine ⟨ret_bool ?_, rfl⟩
    go_light
    grind
theorem cmpL_len : ∀ (xs ys : List Int), xs = [] ∨ ys = [] → cmpL xs ys = sgn xs.length ys.length
  | [], [], _ => rfl
  | [], y :: ys, _ => by simp only [cmpL, sgn, List.length_nil, List.length_cons]; rw [if_pos (by omega)]
  | x :: xs, [], _ => by simp only [cmpL, sgn, List.length_nil, List.length_cons]; rw [if_neg (by omega), if_pos (by omega)]
  | x :: xs, y :: ys, h => by simp at h
theorem cmpL_same (a : Int) (xs ys : List Int) : cmpL (a :: xs) (a :: ys) = cmpL xs ys := by simp [cmpL]
theorem cmpL_diff (a b : Int) (xs ys : List Int) (h : a ≠ b) : cmpL (a :: xs) (b :: ys) = sgn a b := by
  unfold cmpL sgn; split; rfl; split; rfl; omega
theorem owns_cells {w : World} {base e n : Nat} {v : Value} {xs : List Int} (h : w.ownsRow base e 1 v n (xs.map (Value.int .i64))) : ∃ a cap, v = .slice a n cap ∧ ∀ j : Nat, j < xs.length → ∃ g, a = some ⟨g, 0, none⟩ ∧ base ≤ g ∧ g < w.heap.size ∧ w.cell? ⟨g, j, none⟩ = some (.int .i64 (xs.getD j 0)) := by
  have hl := h.1
  have h2 := h.2
  rcases h2 with ⟨rfl, rfl⟩ | ⟨g, cap, cur, rfl, hb, hg, _, _, _, ht⟩
  · refine ⟨none, 0, rfl, fun j hj => ?_⟩
    simp at hl; subst hl; simp at hj
  · refine ⟨some ⟨g, 0, none⟩, cap, rfl, fun j hj => ⟨g, rfl, hb, ?_, ?_⟩⟩
    · exact (h.lt g rfl).2
    · have := h.cells (g := g) rfl j (.int .i64 (xs.getD j 0)) (by simp [List.getD, hj])
      simp only [Addr.add] at this
      by_cases e : j = 0
      · subst e; simpa using this
      · simpa [e] using this
theorem CharsPost.get {s : ByteArray} {w w' : World} {e : Ending} {cs : List Int} (h : CharsPost s w e w') (hx : chars s = some cs) : ∃ v, e = .returned (.tuple #[v, .bool true]) ∧ w'.ownsRow w.heap.size 3 1 v cs.length (cs.map (Value.int .i64)) ∧ Below w.heap.size w w' := by
  rcases h with ⟨ds, v, hch, rfl, hown, hb⟩ | ⟨a, hch, _, _⟩
  · rw [hx] at hch; cases hch; exact ⟨v, rfl, hown, hb⟩
  · rw [hx] at hch; cases hch
set_option maxHeartbeats 4000000 in
theorem compare_spec_text (n1 : Int) (s1 : ByteArray) (n2 : Int) (s2 : ByteArray) (xs ys : List Int) (w : World) (hs1 : s1.size ≤ 1048576) (hs2 : s2.size ≤ 1048576) (hv1 : vok 3 n1 s1 = true) (hv2 : vok 3 n2 s2 = true) (hx : chars s1 = some xs) (hy : chars s2 = some ys) :
    Calls Tryd.prog 18 #[.agg #[.int .i64 3, .int .i64 n1, .string s1], .agg #[.int .i64 3, .int .i64 n2, .string s2]] w fun e w' => e = .returned (.tuple #[.int .i64 (cmpL xs ys), .int .i64 0]) ∧ Below w.heap.size w w' := by
  have bw0 : Below w.heap.size w ((w.alloc (.cells #[.int .i64 3, .int .i64 n1, .string s1] 26)).alloc (.cells #[.int .i64 3, .int .i64 n2, .string s2] 26)) := (below_alloc w _).alloc (by simp) _
  have HV1 : Hid (vok 3 n1 s1 = true) := hv1
  have HV2 : Hid (vok 3 n2 s2 = true) := hv2
  have HX : Hid (chars s1 = some xs) := hx
  have HY : Hid (chars s2 = some ys) := hy
  have lx := (count_eq s1 xs hx).2.2
  have ly := (count_eq s2 ys hy).2.2
  clear hv1 hv2 hx hy
  go_enter Tryd.func18, Tryd.ntmps18
  go_wp2_with fail
  refine (vok_spec 3 n1 s1 _ hs1).mono ?_
  rw [HV1.out]
  rintro e w1 ⟨rfl, hb⟩
  obtain ⟨hc, hf⟩ := bcell hb
  have bw1 : Below w.heap.size w w1 := bw0.trans (hb.mono (by simp; omega))
  have hz1 : w.heap.size + 1 < w1.heap.size := by have := hb.size; simp at this; omega
  have hy1 : w.heap.size < w1.heap.size := by omega
  go_wp2_with fail
  refine (vok_spec 3 n2 s2 _ hs2).mono ?_
  rw [HV2.out]
  rintro e w2 ⟨rfl, hb2⟩
  obtain ⟨hc2, hf2⟩ := bcell hb2
  have bw2 : Below w.heap.size w w2 := bw1.trans (hb2.mono bw1.size)
  have hz2 : w.heap.size + 1 < w2.heap.size := by have := hb2.size; omega
  have hy2 : w.heap.size < w2.heap.size := by omega
  go_wp2_with fail
  refine (chars_any s1 _ hs1).mono ?_
  intro e w3 hcp
  obtain ⟨v1, rfl, hown1, hb3⟩ := CharsPost.get hcp HX.out
  clear hcp
  obtain ⟨hc3, hf3⟩ := bcell hb3
  have bw3 : Below w.heap.size w w3 := bw2.trans (hb3.mono bw2.size)
  have hz3 : w.heap.size + 1 < w3.heap.size := by have := hb3.size; omega
  have hy3 : w.heap.size < w3.heap.size := by omega
  go_wp2_with fail
  refine (chars_any s2 _ hs2).mono ?_
  intro e w4 hcp
  obtain ⟨v2, rfl, hown2, hb4⟩ := CharsPost.get hcp HY.out
  clear hcp
  have bw4 : Below w.heap.size w w4 := bw3.trans (hb4.mono bw3.size)
  obtain ⟨a1, c1, rfl, hcell1⟩ := owns_cells hown1
  obtain ⟨a2, c2, rfl, hcell2⟩ := owns_cells hown2
  have hk1 : ∀ j : Nat, j < xs.length → ∃ g, a1 = some ⟨g, 0, none⟩ ∧ w4.cell? ⟨g, j, none⟩ = some (.int .i64 (xs.getD j 0)) := fun j hj => by
    obtain ⟨g, e1, _, e3, e4⟩ := hcell1 j hj
    exact ⟨g, e1, (hb4.cell (p := ⟨g, j, none⟩) e3).trans e4⟩
  have hk2 : ∀ j : Nat, j < ys.length → ∃ g, a2 = some ⟨g, 0, none⟩ ∧ w4.cell? ⟨g, j, none⟩ = some (.int .i64 (ys.getD j 0)) := fun j hj => by
    obtain ⟨g, e1, _, e3, e4⟩ := hcell2 j hj
    exact ⟨g, e1, e4⟩
  have HK1 := hide hk1
  have HK2 := hide hk2
  clear hk1 hk2 hcell1 hcell2 hown1 hown2 hb hb2 hb3 hb4 hc hf hc2 hf2 hc3 hf3 bw1 bw2 bw3
  go_wp2
  go_loopw [10] (fun i wr => ∃ (j nq : Nat), i = .int .i64 j ∧ j ≤ xs.length ∧ j ≤ ys.length ∧ wr = w4.drewN nq ∧ cmpL xs ys = cmpL (xs.drop j) (ys.drop j)) (fun i _ => xs.length - (intOf i).toNat)
  case atStart => exact ⟨0, 0, rfl, by omega, by omega, rfl, by simp⟩
  case round =>
    obtain ⟨j, nq, rfl, hj1, hj2, rfl, hcm⟩ := hrel
    have HC : Hid (cmpL xs ys = cmpL (xs.drop j) (ys.drop j)) := hcm
    clear hcm
    by_cases h1 : j < xs.length
    · by_cases h2 : j < ys.length
      · obtain ⟨g1, rfl, hcl1⟩ := HK1.out j h1
        obtain ⟨g2, rfl, hcl2⟩ := HK2.out j h2
        have h1' : (j : Int) < xs.length := by omega
        have h2' : (j : Int) < ys.length := by omega
        have XD : Hid (xs.drop j = xs.getD j 0 :: xs.drop (j + 1)) := (by rw [List.drop_eq_getElem_cons h1]; simp [List.getD, h1] : xs.drop j = xs.getD j 0 :: xs.drop (j + 1))
        have YD : Hid (ys.drop j = ys.getD j 0 :: ys.drop (j + 1)) := (by rw [List.drop_eq_getElem_cons h2]; simp [List.getD, h2] : ys.drop j = ys.getD j 0 :: ys.drop (j + 1))
        generalize xs.getD j 0 = x at *
        generalize ys.getD j 0 = y at *
        by_cases hxy : x = y
        · have HS : Hid (cmpL xs ys = cmpL (xs.drop (j + 1)) (ys.drop (j + 1))) := (by rw [HC.out, XD.out, YD.out, hxy, cmpL_same] : cmpL xs ys = cmpL (xs.drop (j + 1)) (ys.drop (j + 1)))
          have hb : (x != y) = false := by simpa using hxy
          clear hxy XD YD HC
          go_wp2
          go_quiet (fail)
          go_wp2
          go_roundw
          case rel => exact ⟨j + 1, _, by go_num, by omega, by omega, rfl, HS.out⟩
          case measure => simp [intOf]; omega
        · have HS : Hid (cmpL xs ys = sgn x y) := (by rw [HC.out, XD.out, YD.out, cmpL_diff _ _ _ _ hxy] : cmpL xs ys = sgn x y)
          have hb : (x != y) = true := by simpa using hxy
          clear hxy XD YD HC
          go_wp2
          go_quiet (fail)
          go_wp2
          go_quiet ((go_at_call 40; refine (sign_any _ _ _).mono ?_; rintro e w' ⟨rfl, rfl⟩; exact ⟨rfl, _, rfl⟩))
          go_wp2
          go_ret2
          exact ⟨ret_two HS.out.symm rfl, below_drewN (below_drewN (below_drewN bw4 _) _) _⟩
      · have HS : Hid (cmpL xs ys = sgn xs.length ys.length) := (by
          have e : ys.drop j = [] := List.drop_eq_nil_of_le (by omega)
          rw [HC.out, e, cmpL_len _ _ (.inr rfl)]
          simp only [List.length_drop, List.length_nil, sgn]
          split <;> split <;> (try split) <;> (try split) <;> omega : cmpL xs ys = sgn xs.length ys.length)
        have h1' : (j : Int) < xs.length := by omega
        have h2' : ¬ (j : Int) < ys.length := by omega
        go_wp2_with (go_at_call 40; refine (sign_any _ _ _).mono ?_; rintro e w' ⟨rfl, rfl⟩)
        go_ret2
        exact ⟨ret_two HS.out.symm rfl, below_drewN bw4 _⟩
    · have HS : Hid (cmpL xs ys = sgn xs.length ys.length) := (by
        have e : xs.drop j = [] := List.drop_eq_nil_of_le (by omega)
        rw [HC.out, e, cmpL_len _ _ (.inl rfl)]
        simp only [List.length_drop, List.length_nil, sgn]
        split <;> split <;> (try split) <;> (try split) <;> omega : cmpL xs ys = sgn xs.length ys.length)
      have h1' : ¬ (j : Int) < xs.length := by omega
      go_wp2_with (go_at_call 40; refine (sign_any _ _ _).mono ?_; rintro e w' ⟨rfl, rfl⟩)
      go_ret2
      exact ⟨ret_two HS.out.symm rfl, below_drewN bw4 _⟩
theorem vok_text {n : Int} {s : ByteArray} (h : vok 3 n s = true) : ∃ xs, chars s = some xs := by
  cases e : chars s with
  | some xs => exact ⟨xs, rfl⟩
  | none => simp [vok, textOK_none e] at h
theorem ordV_null (k1 n1 : Int) (s1 : ByteArray) (k2 n2 : Int) (s2 : ByteArray) (h : k1 = 0 ∨ k2 = 0) (z1 : k1 = 0 → n1 = 0) (z2 : k2 = 0 → n2 = 0) : ordV k1 n1 s1 k2 n2 s2 = sgn (zB (k1 != 0)) (zB (k2 != 0)) := by
  unfold ordV
  rw [if_neg (by omega)]
  by_cases h1 : k1 = 0
  · by_cases h2 : k2 = 0
    · rw [if_pos (by omega), z1 h1, z2 h2, h1, h2]; rfl
    · rw [if_neg (by omega), if_pos h1, h1]; simp [zB, h2, sgn]
  · have h2 : k2 = 0 := by omega
    rw [if_neg (by omega), if_neg h1, if_pos h2, h2]; simp [zB, h1, sgn]
set_option maxHeartbeats 8000000 in
theorem compare_spec (k1 n1 : Int) (s1 : ByteArray) (k2 n2 : Int) (s2 : ByteArray) (w : World) (hs1 : s1.size ≤ 1048576) (hs2 : s2.size ≤ 1048576) :
    Calls Tryd.prog 18 #[.agg #[.int .i64 k1, .int .i64 n1, .string s1], .agg #[.int .i64 k2, .int .i64 n2, .string s2]] w fun e w' => e = .returned (.tuple #[.int .i64 (cmpR k1 n1 s1 k2 n2 s2).1, .int .i64 (cmpR k1 n1 s1 k2 n2 s2).2]) ∧ Below w.heap.size w w' := by
  have bw0 : Below w.heap.size w ((w.alloc (.cells #[.int .i64 k1, .int .i64 n1, .string s1] 26)).alloc (.cells #[.int .i64 k2, .int .i64 n2, .string s2] 26)) := (below_alloc w _).alloc (by simp) _
  cases hv1 : vok k1 n1 s1 with
  | false =>
    have HV : Hid (vok k1 n1 s1 = false) := hv1
    have HR : Hid (cmpR k1 n1 s1 k2 n2 s2 = (0, 1)) := (by unfold cmpR; rw [if_pos (.inl hv1)] : cmpR k1 n1 s1 k2 n2 s2 = (0, 1))
    rw [HR.out]
    clear hv1
    go_enter Tryd.func18, Tryd.ntmps18
    go_wp2_with fail
    refine (vok_spec k1 n1 s1 _ hs1).mono ?_
    rw [HV.out]
    rintro e w1 ⟨rfl, hb⟩
    obtain ⟨hc, hf⟩ := bcell hb
    have bw1 : Below w.heap.size w w1 := bw0.trans (hb.mono (by simp; omega))
    go_wp2
    go_ret2
    exact ⟨rfl, bw1⟩
  | true =>
  cases hv2 : vok k2 n2 s2 with
  | false =>
    have HV1 : Hid (vok k1 n1 s1 = true) := hv1
    have HV2 : Hid (vok k2 n2 s2 = false) := hv2
    have HR : Hid (cmpR k1 n1 s1 k2 n2 s2 = (0, 1)) := (by unfold cmpR; rw [if_pos (.inr hv2)] : cmpR k1 n1 s1 k2 n2 s2 = (0, 1))
    rw [HR.out]
    clear hv1 hv2
    go_enter Tryd.func18, Tryd.ntmps18
    go_wp2_with fail
    refine (vok_spec k1 n1 s1 _ hs1).mono ?_
    rw [HV1.out]
    rintro e w1 ⟨rfl, hb⟩
    obtain ⟨hc, hf⟩ := bcell hb
    have bw1 : Below w.heap.size w w1 := bw0.trans (hb.mono (by simp; omega))
    go_wp2_with fail
    refine (vok_spec k2 n2 s2 _ hs2).mono ?_
    rw [HV2.out]
    rintro e w2 ⟨rfl, hb2⟩
    have bw2 : Below w.heap.size w w2 := bw1.trans (hb2.mono bw1.size)
    go_wp2
    go_ret2
    exact ⟨rfl, bw2⟩
  | true =>
    have HV1 : Hid (vok k1 n1 s1 = true) := hv1
    have HV2 : Hid (vok k2 n2 s2 = true) := hv2
    have q1 := vok_kind hv1
    have q2 := vok_kind hv2
    by_cases hz : k1 = 0 ∨ k2 = 0
    · have HR : Hid (cmpR k1 n1 s1 k2 n2 s2 = (sgn (zB (k1 != 0)) (zB (k2 != 0)), 0)) := (by unfold cmpR; rw [if_neg (by rw [hv1, hv2]; simp), if_neg (by simp [together]; omega), ordV_null _ _ _ _ _ _ hz q1.2.2 q2.2.2] : cmpR k1 n1 s1 k2 n2 s2 = (sgn (zB (k1 != 0)) (zB (k2 != 0)), 0))
      have cs : (k1 == 0) = true ∨ ((k1 == 0) = false ∧ (k2 == 0) = true) := by simp only [beq_iff_eq, beq_eq_false_iff_ne]; omega
      clear hv1 hv2 q1 q2 hz
      rcases cs with c1 | ⟨c1, c2⟩
      all_goals
        go_enter Tryd.func18, Tryd.ntmps18
        go_wp2_with fail
        refine (vok_spec k1 n1 s1 _ hs1).mono ?_
        rw [HV1.out]
        rintro e w1 ⟨rfl, hb⟩
        obtain ⟨hc, hf⟩ := bcell hb
        have bw1 : Below w.heap.size w w1 := bw0.trans (hb.mono (by simp; omega))
        have hz1 : w.heap.size + 1 < w1.heap.size := by have := hb.size; simp at this; omega
        have hy1 : w.heap.size < w1.heap.size := by omega
        go_wp2_with fail
        refine (vok_spec k2 n2 s2 _ hs2).mono ?_
        rw [HV2.out]
        rintro e w2 ⟨rfl, hb2⟩
        obtain ⟨hc2, hf2⟩ := bcell hb2
        have bw2 : Below w.heap.size w w2 := bw1.trans (hb2.mono bw1.size)
        have hz2 : w.heap.size + 1 < w2.heap.size := by have := hb2.size; omega
        have hy2 : w.heap.size < w2.heap.size := by omega
        go_wp2
        go_quiet (first | (go_at_call 40; refine (sign_any _ _ _).mono ?_; rintro e w' ⟨rfl, rfl⟩; exact ⟨rfl, _, rfl⟩) | (go_at_call 41; refine (bit_any _ _).mono ?_; rintro e w' ⟨rfl, rfl⟩; exact ⟨rfl, _, rfl⟩))
        go_wp2
        go_ret2
        exact ⟨ret_two (by rw [HR.out]) (by rw [HR.out]), below_drewN bw2 _⟩
    · have e1 : (k1 == 0) = false := by simp; omega
      have e2 : (k2 == 0) = false := by simp; omega
      by_cases h33 : k1 = 3 ∧ k2 = 3
      · obtain ⟨rfl, rfl⟩ := h33
        obtain ⟨xs, hx⟩ := vok_text hv1
        obtain ⟨ys, hy⟩ := vok_text hv2
        have HR : Hid (cmpR 3 n1 s1 3 n2 s2 = (cmpL xs ys, 0)) := (by unfold cmpR; rw [if_neg (by rw [hv1, hv2]; simp), if_neg (by simp [together])]; unfold ordV; rw [if_pos ⟨rfl, rfl⟩, cmp_text s1 s2 xs ys hx hy] : cmpR 3 n1 s1 3 n2 s2 = (cmpL xs ys, 0))
        rw [HR.out]
        exact compare_spec_text n1 s1 n2 s2 xs ys w hs1 hs2 hv1 hv2 hx hy
      by_cases hsame : k1 = k2
      · subst hsame
        have h3 : ¬ k1 = 3 := by omega
        have e3 : (k1 != 3) = true := by simpa using h3
        have HR : Hid (cmpR k1 n1 s1 k1 n2 s2 = (sgn n1 n2, 0)) := (by unfold cmpR; rw [if_neg (by rw [hv1, hv2]; simp), if_neg (by simp [together])]; simp [ordV, h3] : cmpR k1 n1 s1 k1 n2 s2 = (sgn n1 n2, 0))
        rw [HR.out]
        clear hv1 hv2 q1 q2 hz h33 h3
        go_enter Tryd.func18, Tryd.ntmps18
        go_wp2_with fail
        refine (vok_spec k1 n1 s1 _ hs1).mono ?_
        rw [HV1.out]
        rintro e w1 ⟨rfl, hb⟩
        obtain ⟨hc, hf⟩ := bcell hb
        have bw1 : Below w.heap.size w w1 := bw0.trans (hb.mono (by simp; omega))
        have hz1 : w.heap.size + 1 < w1.heap.size := by have := hb.size; simp at this; omega
        have hy1 : w.heap.size < w1.heap.size := by omega
        go_wp2_with fail
        refine (vok_spec k1 n2 s2 _ hs2).mono ?_
        rw [HV2.out]
        rintro e w2 ⟨rfl, hb2⟩
        obtain ⟨hc2, hf2⟩ := bcell hb2
        have bw2 : Below w.heap.size w w2 := bw1.trans (hb2.mono bw1.size)
        have hz2 : w.heap.size + 1 < w2.heap.size := by have := hb2.size; omega
        have hy2 : w.heap.size < w2.heap.size := by omega
        go_wp2_with (go_at_call 40; refine (sign_any _ _ _).mono ?_; rintro e w' ⟨rfl, rfl⟩)
        go_ret2
        exact ⟨rfl, bw2⟩
      have e4 : (k1 == k2) = false := by simpa using hsame
      by_cases h12 : k1 = 1 ∧ k2 = 2
      · obtain ⟨rfl, rfl⟩ := h12
        have b2 := q2.2.1 rfl
        have HR : Hid (cmpR 1 n1 s1 2 n2 s2 = (cmpID n1 n2, 0)) := (by unfold cmpR; rw [if_neg (by rw [hv1, hv2]; simp), if_neg (by simp [together])]; simp [ordV] : cmpR 1 n1 s1 2 n2 s2 = (cmpID n1 n2, 0))
        rw [HR.out]
        clear hv1 hv2 q1 q2 hz h33 e1 e2 e4 hsame
        go_enter Tryd.func18, Tryd.ntmps18
        go_wp2_with fail
        refine (vok_spec 1 n1 s1 _ hs1).mono ?_
        rw [HV1.out]
        rintro e w1 ⟨rfl, hb⟩
        obtain ⟨hc, hf⟩ := bcell hb
        have bw1 : Below w.heap.size w w1 := bw0.trans (hb.mono (by simp; omega))
        have hz1 : w.heap.size + 1 < w1.heap.size := by have := hb.size; simp at this; omega
        have hy1 : w.heap.size < w1.heap.size := by omega
        go_wp2_with fail
        refine (vok_spec 2 n2 s2 _ hs2).mono ?_
        rw [HV2.out]
        rintro e w2 ⟨rfl, hb2⟩
        obtain ⟨hc2, hf2⟩ := bcell hb2
        have bw2 : Below w.heap.size w w2 := bw1.trans (hb2.mono bw1.size)
        have hz2 : w.heap.size + 1 < w2.heap.size := by have := hb2.size; omega
        have hy2 : w.heap.size < w2.heap.size := by omega
        go_wp2_with (first | (go_at_call 42; refine (numbers_any _ _ _).mono ?_; rintro e w' ⟨rfl, rfl⟩) | (go_at_call 43; refine (intDec_spec _ _ _ b2).mono ?_; rintro e w' ⟨rfl, rfl⟩))
        go_ret2
        exact ⟨rfl, bw2⟩
      by_cases h21 : k1 = 2 ∧ k2 = 1
      · obtain ⟨rfl, rfl⟩ := h21
        have b1 := q1.2.1 rfl
        have hs' : -1 ≤ cmpID n2 n1 ∧ cmpID n2 n1 ≤ 1 := sgn_bd (n2 * 10000) n1
        have HR : Hid (cmpR 2 n1 s1 1 n2 s2 = (- cmpID n2 n1, 0)) := (by unfold cmpR; rw [if_neg (by rw [hv1, hv2]; simp), if_neg (by simp [together])]; simp [ordV] : cmpR 2 n1 s1 1 n2 s2 = (- cmpID n2 n1, 0))
        rw [HR.out]
        clear hv1 hv2 q1 q2 hz h33 e1 e2 e4 hsame h12
        go_enter Tryd.func18, Tryd.ntmps18
        go_wp2_with fail
        refine (vok_spec 2 n1 s1 _ hs1).mono ?_
        rw [HV1.out]
        rintro e w1 ⟨rfl, hb⟩
        obtain ⟨hc, hf⟩ := bcell hb
        have bw1 : Below w.heap.size w w1 := bw0.trans (hb.mono (by simp; omega))
        have hz1 : w.heap.size + 1 < w1.heap.size := by have := hb.size; simp at this; omega
        have hy1 : w.heap.size < w1.heap.size := by omega
        go_wp2_with fail
        refine (vok_spec 1 n2 s2 _ hs2).mono ?_
        rw [HV2.out]
        rintro e w2 ⟨rfl, hb2⟩
        obtain ⟨hc2, hf2⟩ := bcell hb2
        have bw2 : Below w.heap.size w w2 := bw1.trans (hb2.mono bw1.size)
        have hz2 : w.heap.size + 1 < w2.heap.size := by have := hb2.size; omega
        have hy2 : w.heap.size < w2.heap.size := by omega
        go_wp2_with (first | (go_at_call 42; refine (numbers_any _ _ _).mono ?_; rintro e w' ⟨rfl, rfl⟩) | (go_at_call 43; refine (intDec_spec _ _ _ b1).mono ?_; rintro e w' ⟨rfl, rfl⟩))
        go_ret2
        exact ⟨rfl, bw2⟩
      · have HN : Hid (((k1 == 1 && k2 == 2) || (k1 == 2 && k2 == 1)) = false) := (by simp; omega : ((k1 == 1 && k2 == 2) || (k1 == 2 && k2 == 1)) = false)
        have HR : Hid (cmpR k1 n1 s1 k2 n2 s2 = (0, 10)) := (by unfold cmpR; rw [if_neg (by rw [hv1, hv2]; simp), if_pos (by simp [together]; omega)] : cmpR k1 n1 s1 k2 n2 s2 = (0, 10))
        rw [HR.out]
        clear hv1 hv2 q1 q2 hz h33 hsame h12 h21
        go_enter Tryd.func18, Tryd.ntmps18
        go_wp2_with fail
        refine (vok_spec k1 n1 s1 _ hs1).mono ?_
        rw [HV1.out]
        rintro e w1 ⟨rfl, hb⟩
        obtain ⟨hc, hf⟩ := bcell hb
        have bw1 : Below w.heap.size w w1 := bw0.trans (hb.mono (by simp; omega))
        have hz1 : w.heap.size + 1 < w1.heap.size := by have := hb.size; simp at this; omega
        have hy1 : w.heap.size < w1.heap.size := by omega
        go_wp2_with fail
        refine (vok_spec k2 n2 s2 _ hs2).mono ?_
        rw [HV2.out]
        rintro e w2 ⟨rfl, hb2⟩
        obtain ⟨hc2, hf2⟩ := bcell hb2
        have bw2 : Below w.heap.size w w2 := bw1.trans (hb2.mono bw1.size)
        have hz2 : w.heap.size + 1 < w2.heap.size := by have := hb2.size; omega
        have hy2 : w.heap.size < w2.heap.size := by omega
        go_wp2_with (go_at_call 42; refine (numbers_any _ _ _).mono ?_; rw [HN.out]; rintro e w' ⟨rfl, rfl⟩)
        go_ret2
        exact ⟨rfl, bw2⟩
end Go.Proofs.YtbcnfepfmoecjaaDoor
