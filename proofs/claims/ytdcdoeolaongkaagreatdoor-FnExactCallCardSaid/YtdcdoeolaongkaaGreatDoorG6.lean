import Derived.Test.YtdcdoeolaongkaaGreatDoorG5
namespace Go.Proofs.YtdcdoeolaongkaaGreatDoor
open Go.ChangeShapes Go.WideShapes Go.ChangeAt Go.RowKit Go.Shelf Go.Joins
set_option linter.unusedVariables false
set_option linter.unusedSimpArgs false
set_option maxRecDepth 100000
theorem tq (u : Int) : u = u.tdiv 10000 * 10000 + u.tmod 10000 ∧ u.tmod 10000 < 10000 ∧ -10000 < u.tmod 10000 ∧ (0 ≤ u → 0 ≤ u.tmod 10000) ∧ (u ≤ 0 → u.tmod 10000 ≤ 0) := by
  have h1 := Int.mul_tdiv_add_tmod u 10000
  have h2 := Int.tmod_lt_of_pos u (show (0 : Int) < 10000 by decide)
  have h3 : 0 ≤ u → 0 ≤ u.tmod 10000 := fun h => Int.tmod_nonneg _ h
  have h4 : u ≤ 0 → u.tmod 10000 ≤ 0 := fun h => by
    have e := Int.neg_tmod (-u) 10000
    rw [Int.neg_neg] at e
    have := Int.tmod_nonneg 10000 (show 0 ≤ -u by omega)
    omega
  have h5 : -10000 < u.tmod 10000 := by
    have e := Int.neg_tmod (-u) 10000
    rw [Int.neg_neg] at e
    have := Int.tmod_lt_of_pos (-u) (show (0 : Int) < 10000 by decide)
    omega
  exact ⟨by omega, h2, h5, h3, h4⟩
theorem digits_dig (r : Nat) : ∀ b ∈ Lib.decDigits r, b ≠ 46 := by
  induction r using Nat.strongRecOn with
  | _ r ih =>
    have key : ∀ k, k < 10 → UInt8.ofNat (48 + k) ≠ 46 := fun k hk e => by
      have := congrArg UInt8.toNat e
      simp at this; omega
    by_cases h1 : r < 10
    · rw [Lib.decDigits_one h1]; intro b hb; rw [List.mem_singleton] at hb; subst hb; exact key r h1
    · rw [Lib.decDigits, dif_neg h1]
      intro b hb
      rcases List.mem_append.1 hb with hb | hb
      · exact ih (r / 10) (by omega) b hb
      · rw [List.mem_singleton] at hb; subst hb; exact key (r % 10) (by omega)
theorem frac_dig (r : Nat) : ∀ b ∈ frac r, b ≠ 46 := by
  unfold frac wideL
  intro b hb
  rcases List.mem_append.1 hb with hb | hb
  · have := List.eq_of_mem_replicate hb; subst this; decide
  · exact digits_dig r b hb
theorem trim_mem {l : List UInt8} {c b : UInt8} (h : b ∈ Lib.trimRightB l c) : b ∈ l := by
  unfold Lib.trimRightB at h
  have := List.mem_reverse.1 h
  exact List.mem_reverse.1 ((List.dropWhile_sublist _).subset this)
theorem frac_zero : Lib.trimRightB (frac 0) 48 = [] := by
  unfold frac; rw [Lib.decDigits_one (by omega)]; decide
theorem dw_nil {p : UInt8 → Bool} : ∀ {l : List UInt8}, l.dropWhile p = [] → ∀ b ∈ l, p b = true
  | [], _, b, hb => by cases hb
  | x :: l, h, b, hb => by
    rw [List.dropWhile_cons] at h
    split at h
    · rename_i hx
      rcases List.mem_cons.1 hb with rfl | hb
      · exact hx
      · exact dw_nil h b hb
    · cases h
theorem trim_ne {l : List UInt8} {c : UInt8} (h : ∃ b ∈ l, b ≠ c) : Lib.trimRightB l c ≠ [] := by
  obtain ⟨b, hb, hne⟩ := h
  unfold Lib.trimRightB
  intro e
  have e2 : l.reverse.dropWhile (· == c) = [] := by simpa using e
  have := dw_nil e2 b (List.mem_reverse.2 hb)
  simp at this
  exact hne this
theorem trim_dot (T tr : List UInt8) (h : ∀ b ∈ tr, b ≠ 46) : Lib.trimSuffix (T ++ 46 :: tr) [46] = T ++ (if tr = [] then [] else 46 :: tr) := by
  unfold Lib.trimSuffix
  by_cases e : tr = []
  · subst e
    rw [if_pos (by simp [Lib.hasSuffix]), if_pos rfl]
    simp
  · rw [if_neg e, if_neg]
    intro hs
    unfold Lib.hasSuffix at hs
    rw [List.isSuffixOf_iff_suffix] at hs
    obtain ⟨p, hp⟩ := hs
    have et := List.dropLast_concat_getLast e
    have hl := h _ (List.getLast_mem e)
    have e3 : p ++ [46] = (T ++ 46 :: tr.dropLast) ++ [tr.getLast e] := by rw [hp, List.append_assoc, List.cons_append, et]
    have e4 := (List.append_inj' e3 rfl).2
    simp at e4
    exact hl e4.symm
/-- How the text ahead of the point comes about. -/
theorem head_T (n : Int) : (if n < 0 ∧ n.tdiv 10000 = 0 then [45, 48] else Lib.itoa (n.tdiv 10000)) = (if n < 0 then [45] else []) ++ Lib.decDigits (n.natAbs / 10000) := by
  have ht := tq n
  by_cases hn : n < 0
  · by_cases hq : n.tdiv 10000 = 0
    · rw [if_pos ⟨hn, hq⟩, if_pos hn]
      have e : n.natAbs / 10000 = 0 := by omega
      rw [e, Lib.decDigits_one (by omega)]; rfl
    · rw [if_neg (fun h => hq h.2), if_pos hn]
      have e : n.tdiv 10000 = -((n.natAbs / 10000 : Nat) : Int) := by omega
      rw [e, Lib.itoa_neg _ (by omega)]; rfl
  · rw [if_neg (fun h => hn h.1), if_neg hn]
    have e : n.tdiv 10000 = ((n.natAbs / 10000 : Nat) : Int) := by omega
    rw [e, Lib.itoa_nonneg]; rfl
theorem cat3 (a b : List UInt8) : ((⟨a.toArray⟩ : ByteArray) ++ ⟨#[46]⟩) ++ ⟨b.toArray⟩ = ⟨(a ++ 46 :: b).toArray⟩ := by
  apply ByteArray.ext; apply Array.ext'; simp
theorem trimR_any (g : List UInt8) (w : World) (hl : g.length ≤ 1000) : Calls Tryz.prog 166 #[.string ⟨g.toArray⟩, .string ⟨#[48]⟩] w fun e w' => e = .returned (.string ⟨(Lib.trimRightB g 48).toArray⟩) ∧ w' = w := by
  have := Tryz.strings_TrimRight_one ⟨g.toArray⟩ 48 (by decide) w (by show g.toArray.size ≤ _; simp; omega)
  simpa using this
theorem trimS_any (g : List UInt8) (w : World) (hl : g.length ≤ 1000) : Calls Tryz.prog 165 #[.string ⟨g.toArray⟩, .string ⟨#[46]⟩] w fun e w' => e = .returned (.string ⟨(Lib.trimSuffix g [46]).toArray⟩) ∧ w' = w := by
  have := Tryz.strings_TrimSuffix ⟨g.toArray⟩ ⟨#[46]⟩ w (by show g.toArray.size ≤ _; simp; omega)
  simpa using this
theorem trim_len (g : List UInt8) (c : UInt8) : (Lib.trimRightB g c).length ≤ g.length := by
  unfold Lib.trimRightB
  rw [List.length_reverse]
  have := (List.dropWhile_sublist (l := g.reverse) (· == c)).length_le
  simpa using this
/-- The end of decText, whatever stands ahead of the point. -/
theorem dec_fin (n : Int) (Tx : List UInt8) (h : Tx = (if n < 0 then [45] else []) ++ Lib.decDigits (n.natAbs / 10000)) : Lib.trimSuffix (Tx ++ 46 :: Lib.trimRightB (frac (n.natAbs % 10000)) 48) [46] = decT n := by
  rw [trim_dot _ _ (fun b hb => frac_dig _ b (trim_mem hb)), h]
  unfold decT
  by_cases h0 : n.natAbs % 10000 = 0
  · rw [h0, frac_zero, if_pos rfl, if_pos rfl, List.append_assoc]
  · rw [if_neg (trim_ne (frac_nz _ h0)), if_neg h0, List.append_assoc]
set_option maxHeartbeats 4000000 in
theorem decText_impl (n : Int) (w : World) (h1 : -999999999999999999 ≤ n) (h2 : n ≤ 999999999999999999) (hP : Pows w) : Calls Tryz.prog 106 #[.int .i64 n] w fun e w' => e = .returned (.string ⟨(decT n).toArray⟩) ∧ Below w.heap.size w w' := by
  have ht := tq n
  have wn : (Lit.int .i64 n).wf = true := in_wf (by omega) (by omega)
  have wq : (Lit.int .i64 (n.tdiv 10000)).wf = true := in_wf (by omega) (by omega)
  have wr : (Lit.int .i64 ((n.natAbs : Int) % 10000)).wf = true := in_wf (by omega) (by omega)
  have HH : Hid ((if n < 0 ∧ n.tdiv 10000 = 0 then [45, 48] else Lib.itoa (n.tdiv 10000)) = (if n < 0 then [45] else []) ++ Lib.decDigits (n.natAbs / 10000)) := head_T n
  have ER : Hid (Lib.itoa ((n.natAbs : Int) % 10000) = Lib.decDigits (n.natAbs % 10000)) := (by have := Lib.itoa_nonneg (n.natAbs % 10000); simpa using this : Lib.itoa ((n.natAbs : Int) % 10000) = Lib.decDigits (n.natAbs % 10000))
  have lq := Lib.itoa_length_le (n.tdiv 10000) (by omega) (by omega)
  have hfl := frac_len (n.natAbs % 10000) (by omega)
  have hrl : (Lib.itoa ((n.natAbs : Int) % 10000)).length ≤ 4 := by
    rw [ER.out]
    have : (Lib.decDigits (n.natAbs % 10000)).length ≤ (frac (n.natAbs % 10000)).length := by unfold frac wideL; simp
    omega
  clear ht
  go_enter Tryz.func106, Tryz.ntmps106
  go_wp2_with fail
  refine (itoa_any _ _ wq hP).mono ?_
  rintro e w1 ⟨rfl, b1⟩
  have htl := trim_len (frac (n.natAbs % 10000)) 48
  have FE : Hid (wideL (Lib.decDigits (n.natAbs % 10000)) 4 = frac (n.natAbs % 10000)) := rfl
  by_cases hz : n < 0 ∧ n.tdiv 10000 = 0
  · have HF : Hid (Lib.trimSuffix ([45, 48] ++ 46 :: Lib.trimRightB (frac (n.natAbs % 10000)) 48) [46] = decT n) := dec_fin n _ (by have := HH.out; rwa [if_pos hz] at this)
    have HCAT : Hid (((⟨#[45, 48]⟩ : ByteArray) ++ ⟨#[46]⟩) ++ ⟨(Lib.trimRightB (frac (n.natAbs % 10000)) 48).toArray⟩ = ⟨([45, 48] ++ 46 :: Lib.trimRightB (frac (n.natAbs % 10000)) 48).toArray⟩) := cat3 [45, 48] _
    obtain ⟨hn, hq⟩ := hz
    have eq : (n.tdiv 10000 == 0) = true := by simpa using hq
    clear hq HH
    go_wp2_with fail
    refine (mag_any _ _ wn).mono ?_
    rintro e w0 ⟨rfl, hw⟩
    rw [hw]
    clear hw w0
    go_wp2_with fail
    refine (padded_any _ 4 _ wr (by omega) hrl (pows_below hP b1)).mono ?_
    rw [ER.out]
    rintro e w2 ⟨rfl, b2⟩
    rw [FE.out]
    go_wp2_with fail
    refine (trimR_any _ _ (by omega)).mono ?_
    rintro e w0 ⟨rfl, hw⟩
    rw [hw]
    clear hw w0
    go_wp2_with fail
    rw [HCAT.out]
    refine (trimS_any _ _ (by simp; omega)).mono ?_
    rintro e w0 ⟨rfl, hw⟩
    rw [hw, HF.out]
    clear hw w0
    go_wp2
    go_ret
    exact ⟨rfl, chain b1 b2⟩
  · have HF : Hid (Lib.trimSuffix (Lib.itoa (n.tdiv 10000) ++ 46 :: Lib.trimRightB (frac (n.natAbs % 10000)) 48) [46] = decT n) := dec_fin n _ (by have := HH.out; rwa [if_neg hz] at this)
    have HCAT : Hid (((⟨(Lib.itoa (n.tdiv 10000)).toArray⟩ : ByteArray) ++ ⟨#[46]⟩) ++ ⟨(Lib.trimRightB (frac (n.natAbs % 10000)) 48).toArray⟩ = ⟨(Lib.itoa (n.tdiv 10000) ++ 46 :: Lib.trimRightB (frac (n.natAbs % 10000)) 48).toArray⟩) := cat3 _ _
    clear HH
    by_cases hn : n < 0
    · have eq : (n.tdiv 10000 == 0) = false := by rw [beq_eq_false_iff_ne]; exact fun h => hz ⟨hn, h⟩
      clear hz
      go_wp2_with fail
      refine (mag_any _ _ wn).mono ?_
      rintro e w0 ⟨rfl, hw⟩
      rw [hw]
      clear hw w0
      go_wp2_with fail
      refine (padded_any _ 4 _ wr (by omega) hrl (pows_below hP b1)).mono ?_
      rw [ER.out]
      rintro e w2 ⟨rfl, b2⟩
      rw [FE.out]
      go_wp2_with fail
      refine (trimR_any _ _ (by omega)).mono ?_
      rintro e w0 ⟨rfl, hw⟩
      rw [hw]
      clear hw w0
      go_wp2_with fail
      rw [HCAT.out]
      refine (trimS_any _ _ (by simp; omega)).mono ?_
      rintro e w0 ⟨rfl, hw⟩
      rw [hw, HF.out]
      clear hw w0
      go_wp2
      go_ret
      exact ⟨rfl, chain b1 b2⟩
    · clear hz
      go_wp2_with fail
      refine (mag_any _ _ wn).mono ?_
      rintro e w0 ⟨rfl, hw⟩
      rw [hw]
      clear hw w0
      go_wp2_with fail
      refine (padded_any _ 4 _ wr (by omega) hrl (pows_below hP b1)).mono ?_
      rw [ER.out]
      rintro e w2 ⟨rfl, b2⟩
      rw [FE.out]
      go_wp2_with fail
      refine (trimR_any _ _ (by omega)).mono ?_
      rintro e w0 ⟨rfl, hw⟩
      rw [hw]
      clear hw w0
      go_wp2_with fail
      rw [HCAT.out]
      refine (trimS_any _ _ (by simp; omega)).mono ?_
      rintro e w0 ⟨rfl, hw⟩
      rw [hw, HF.out]
      clear hw w0
      go_wp2
      go_ret
      exact ⟨rfl, chain b1 b2⟩
end Go.Proofs.YtdcdoeolaongkaaGreatDoor
