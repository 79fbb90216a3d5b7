import Derived.Test.YtdcdoeolaongkaaGreatDoorR8
namespace Go.Proofs.YtdcdoeolaongkaaGreatDoor.Rd
open Go.ChangeShapes Go.WideShapes Go.ChangeAt Go.RowKit Go.Shelf
set_option linter.unusedVariables false
set_option linter.unusedSimpArgs false
set_option maxRecDepth 100000
theorem dig_nat {k : Nat} (h : k < 10) : (UInt8.ofNat (48 + k)).toNat = 48 + k := by
  simp; omega
theorem dig_is {k : Nat} (h : k < 10) : isD (UInt8.ofNat (48 + k)) = true := by
  unfold isD; rw [dig_nat h]; simp; omega
theorem dec_num (m : Nat) : numL (Lib.decDigits m) = m ∧ allD (Lib.decDigits m) = true ∧ 1 ≤ (Lib.decDigits m).length := by
  induction m using Nat.strongRecOn with
  | _ m ih =>
    by_cases h : m < 10
    · rw [Lib.decDigits_one h]
      refine ⟨?_, ?_, by simp⟩
      · have := dig_nat h
        simp only [numL, List.foldl_cons, List.foldl_nil]
        omega
      · show (isD _ && allD []) = true
        rw [dig_is h]; rfl
    · obtain ⟨h1, h2, h3⟩ := ih (m / 10) (by omega)
      have hd : m % 10 < 10 := by omega
      rw [Lib.decDigits, dif_neg h]
      refine ⟨?_, ?_, by simp⟩
      · rw [numL_snoc, h1, dig_nat hd]; omega
      · rw [allD_snoc, h2, dig_is hd]; rfl
theorem dec_len : ∀ (k m : Nat), m < 10 ^ (k + 1) → (Lib.decDigits m).length ≤ k + 1
  | 0, m, h => by rw [Lib.decDigits_one (by omega)]; simp
  | k + 1, m, h => by
    by_cases c : m < 10
    · rw [Lib.decDigits_one c]; simp
    · rw [Lib.decDigits, dif_neg c]
      have h2 : m / 10 < 10 ^ (k + 1) := by rw [Nat.pow_succ] at h; omega
      have := dec_len k (m / 10) h2
      simp; omega
theorem neg_dig {l : List UInt8} (h : allD l = true) : negL l = false := by
  cases l with
  | nil => rfl
  | cons b l =>
    simp only [allD, List.all_cons, Bool.and_eq_true] at h
    have := isD_yes h.1
    simp only [negL]
    rw [beq_eq_false_iff_ne]
    intro e
    subst e
    simp at this
theorem neg_dig' {l x : List UInt8} (h : allD l = true) (hl : 1 ≤ l.length) : negL (l ++ x) = false := by
  cases l with
  | nil => simp at hl
  | cons b l =>
    simp only [allD, List.all_cons, Bool.and_eq_true] at h
    have := isD_yes h.1
    simp only [negL, List.cons_append]
    rw [beq_eq_false_iff_ne]
    intro e
    subst e
    simp at this
theorem read_int {n : Int} (h : inI n) : rdI (Lib.itoa n) = (n, true) := by
  obtain ⟨b1, b2⟩ := h
  have key : ∀ m : Nat, m ≤ 9223372036854775808 → arD (Lib.decDigits m) 19 = true := fun m hm => by
    obtain ⟨_, h2, h3⟩ := dec_num m
    have h4 := dec_len 18 m (by have : (10 : Nat) ^ 19 = 10000000000000000000 := (by decide); omega)
    rw [arD_all h3 h4, h2]
  by_cases hn : n < 0
  · obtain ⟨m, rfl⟩ : ∃ m : Nat, n = -(m : Int) := ⟨n.natAbs, by omega⟩
    rw [Lib.itoa_neg m (by omega)]
    have e1 : negL (45 :: Lib.decDigits m) = true := rfl
    have e2 : bodyL (45 :: Lib.decDigits m) = Lib.decDigits m := by unfold bodyL; rw [e1]; rfl
    unfold rdI
    rw [e1, e2, if_pos (key m (by omega)), (dec_num m).1]
    unfold sgR
    rw [if_pos rfl, if_pos (by omega)]
    rfl
  · obtain ⟨m, rfl⟩ : ∃ m : Nat, n = (m : Int) := ⟨n.natAbs, by omega⟩
    rw [Lib.itoa_nonneg m]
    have e1 : negL (Lib.decDigits m) = false := neg_dig (dec_num m).2.1
    have e2 : bodyL (Lib.decDigits m) = Lib.decDigits m := by unfold bodyL; rw [e1]; rfl
    unfold rdI
    rw [e1, e2, if_pos (key m (by omega)), (dec_num m).1]
    unfold sgR
    rw [if_neg (by decide), if_pos (by omega)]
    rfl
theorem dw_split (c : UInt8) : ∀ l : List UInt8, ∃ k, l = List.replicate k c ++ l.dropWhile (· == c)
  | [] => ⟨0, rfl⟩
  | b :: l => by
    by_cases h : (b == c) = true
    · obtain ⟨k, hk⟩ := dw_split c l
      refine ⟨k + 1, ?_⟩
      have hb : b = c := by simpa using h
      rw [List.dropWhile_cons_of_pos (by simpa using h), List.replicate_succ, List.cons_append, ← hk, hb]
    · exact ⟨0, by rw [List.dropWhile_cons_of_neg (by simpa using h)]; rfl⟩
theorem trim_split (l : List UInt8) (c : UInt8) : l = Lib.trimRightB l c ++ List.replicate (l.length - (Lib.trimRightB l c).length) c := by
  obtain ⟨k, hk⟩ := dw_split c l.reverse
  have e : l = Lib.trimRightB l c ++ List.replicate k c := by
    have := congrArg List.reverse hk
    rw [List.reverse_reverse, List.reverse_append, List.reverse_replicate] at this
    exact this
  have hl := congrArg List.length e
  rw [List.length_append, List.length_replicate] at hl
  rw [show l.length - (Lib.trimRightB l c).length = k by omega]
  exact e
theorem wide_num (m d : Nat) : numL (wideL (Lib.decDigits m) d) = m ∧ allD (wideL (Lib.decDigits m) d) = true := by
  obtain ⟨h1, h2, _⟩ := dec_num m
  unfold wideL
  constructor
  · rw [numL_app, numL_noughts, h1]; simp
  · rw [allD_app, allD_noughts, h2]; rfl
theorem frac_num (r : Nat) : numL (frac r) = r ∧ allD (frac r) = true := wide_num r 4
theorem trim_frac {r : Nat} (h0 : r ≠ 0) (h : r < 10000) : allD (Lib.trimRightB (frac r) 48) = true ∧ 1 ≤ (Lib.trimRightB (frac r) 48).length ∧ (Lib.trimRightB (frac r) 48).length ≤ 4 ∧ numL (Lib.trimRightB (frac r) 48) * 10 ^ (4 - (Lib.trimRightB (frac r) 48).length) = r := by
  obtain ⟨h1, h2⟩ := frac_num r
  have hl := frac_len r h
  have hs := trim_split (frac r) 48
  have hne := trim_ne (c := 48) (frac_nz r h0)
  have hle := trim_len (frac r) 48
  rw [hl] at hs hle
  generalize Lib.trimRightB (frac r) 48 = t at *
  rw [hs] at h1 h2
  rw [numL_app, numL_noughts, List.length_replicate] at h1
  rw [allD_app, Bool.and_eq_true] at h2
  refine ⟨h2.1, ?_, hle, by simpa using h1⟩
  cases t with
  | nil => exact absurd rfl hne
  | cons b t => simp
theorem dig_ne_pt {l : List UInt8} (h : allD l = true) : ∀ j, j < l.length → l[j]? ≠ some 46 := by
  intro j hj e
  have hm := List.mem_of_getElem? e
  simp only [allD, List.all_eq_true] at h
  have := isD_yes (h _ hm)
  simp at this
theorem pt_app {a b : List UInt8} (ha : allD a = true) : ptL (a ++ 46 :: b) = (a, b, true) := by
  have h := ptL_hit (l := a ++ 46 :: b) (i := a.length) (fun j hj => by rw [List.getElem?_append_left hj]; exact dig_ne_pt ha j hj) (by simp)
  rw [h]
  simp
theorem pt_none {a : List UInt8} (ha : allD a = true) : ptL a = (a, [], false) := ptL_none (dig_ne_pt ha)
theorem body_cons (l : List UInt8) : bodyL (45 :: l) = l := rfl
theorem body_pos {l : List UInt8} (h : negL l = false) : bodyL l = l := by unfold bodyL; rw [h]; rfl
theorem read_dec {n : Int} (h1 : -999999999999999999 ≤ n) (h2 : n ≤ 999999999999999999) : rdD (decT n) = (n, true) := by
  obtain ⟨A, hA⟩ : ∃ A, n.natAbs = A := ⟨_, rfl⟩
  have hq : A / 10000 < 10 ^ 14 := by have : (10 : Nat) ^ 14 = 100000000000000 := (by decide); omega
  obtain ⟨d1, d2, d3⟩ := dec_num (A / 10000)
  have d4 := dec_len 13 (A / 10000) hq
  have hq14 : arD (Lib.decDigits (A / 10000)) 14 = true := by rw [arD_all d3 d4, d2]
  have hsign : n = if n < 0 then -(A : Int) else A := by split <;> omega
  -- the text without its sign
  obtain ⟨t, ht⟩ : ∃ t, t = Lib.decDigits (A / 10000) ++ (if A % 10000 = 0 then [] else 46 :: Lib.trimRightB (frac (A % 10000)) 48) := ⟨_, rfl⟩
  have hok : okD (ptL t) = true ∧ unitsL (ptL t).1 (ptL t).2.1 = A := by
    rw [ht]
    by_cases c : A % 10000 = 0
    · rw [if_pos c, List.append_nil, pt_none d2]
      refine ⟨by simp [okD, hq14], ?_⟩
      unfold unitsL
      rw [d1]
      simp [numL]; omega
    · obtain ⟨f1, f2, f3, f4⟩ := trim_frac c (by omega)
      rw [if_neg c, pt_app d2]
      refine ⟨by simp only [okD]; rw [hq14, arD_all f2 f3, f1]; rfl, ?_⟩
      unfold unitsL
      simp only
      rw [d1, f4]; omega
  have hneg : negL t = false := by rw [ht]; exact neg_dig' d2 d3
  have hT : decT n = (if n < 0 then [45] else []) ++ t := by unfold decT; rw [hA, ht]
  by_cases hn : n < 0
  · rw [hT, if_pos hn]
    show rdD (45 :: t) = _
    unfold rdD
    rw [body_cons, if_pos hok.1, hok.2]
    show (-(A : Int), true) = _
    rw [if_pos hn] at hsign
    rw [← hsign]
  · rw [hT, if_neg hn, List.nil_append]
    unfold rdD
    rw [body_pos hneg, if_pos hok.1, hok.2, hneg]
    show ((A : Int), true) = _
    rw [if_neg hn] at hsign
    rw [← hsign]
theorem wide_len_eq {l : List UInt8} {d : Nat} (h : l.length ≤ d) : (wideL l d).length = d := by unfold wideL; simp; omega
theorem vld_vB {y m d : Int} (h : Days.vld y m d) : vB y m d = true := by
  obtain ⟨⟨a, b⟩, ⟨c, e⟩, f, g⟩ := h
  simp only [vB, Bool.and_eq_true, decide_eq_true_eq]; exact ⟨a, b, c, e, f, g⟩
theorem read_day {y m d : Int} (v : Days.vld y m d) : rdT (dayT y m d) = (Days.num y m d, true) := by
  have V := v
  have hd31 := Days.mdays_bd y m
  obtain ⟨⟨y1, y2⟩, ⟨m1, m2⟩, d1, d2⟩ := v
  have ly := wide_len_eq (itoa_short y 4 (by omega) (.inr rfl) (by simp; omega))
  have lm := wide_len_eq (itoa_short m 2 (by omega) (.inl rfl) (by simp; omega))
  have ld := wide_len_eq (itoa_short d 2 (by omega) (.inl rfl) (by simp; omega))
  obtain ⟨Y, rfl⟩ : ∃ Y : Nat, y = Y := ⟨y.toNat, by omega⟩
  obtain ⟨M, rfl⟩ : ∃ M : Nat, m = M := ⟨m.toNat, by omega⟩
  obtain ⟨D, rfl⟩ : ∃ D : Nat, d = D := ⟨d.toNat, by omega⟩
  rw [Lib.itoa_nonneg] at ly lm ld
  have hY := wide_num Y 4
  have hM := wide_num M 2
  have hD := wide_num D 2
  have hT : dayT (Y : Int) M D = wideL (Lib.decDigits Y) 4 ++ 45 :: (wideL (Lib.decDigits M) 2 ++ 45 :: wideL (Lib.decDigits D) 2) := by
    unfold dayT; rw [Lib.itoa_nonneg, Lib.itoa_nonneg, Lib.itoa_nonneg]
  rw [hT]
  generalize wideL (Lib.decDigits Y) 4 = a at *
  generalize wideL (Lib.decDigits M) 2 = b at *
  generalize wideL (Lib.decDigits D) 2 = c at *
  have e1 : dY (a ++ 45 :: (b ++ 45 :: c)) = a := by unfold dY; rw [← ly]; simp
  have e2 : dM (a ++ 45 :: (b ++ 45 :: c)) = b := by
    unfold dM
    rw [show (5 : Nat) = a.length + 1 by omega, ← List.drop_drop]
    simp [← lm]
  have e3 : dD (a ++ 45 :: (b ++ 45 :: c)) = c := by
    unfold dD
    rw [show (8 : Nat) = a.length + (1 + (b.length + 1)) by omega, ← List.drop_drop]
    simp [← List.drop_drop]
  have hsh : shB (a ++ 45 :: (b ++ 45 :: c)) = true := by
    unfold shB
    have g4 : (a ++ 45 :: (b ++ 45 :: c))[4]? = some 45 := by rw [List.getElem?_append_right (by omega), ly]; rfl
    have g7 : (a ++ 45 :: (b ++ 45 :: c))[7]? = some 45 := by
      rw [List.getElem?_append_right (by omega), ly]
      show (45 :: (b ++ 45 :: c))[3]? = _
      rw [List.getElem?_cons_succ, List.getElem?_append_right (by omega), lm]; rfl
    rw [g4, g7]
    simp [ly, lm, ld]
  rw [rdT_yes hsh (by unfold dOk; rw [e1, e2, e3, hY.2, hM.2, hD.2]; rfl) (by rw [e1, e2, e3, hY.1, hM.1, hD.1]; exact vld_vB V)]
  rw [e1, e2, e3, hY.1, hM.1, hD.1]
/-- Texts of single bytes are valid. -/
theorem ch_ascii (s : ByteArray) (ha : ∀ i (h : i < s.size), (s[i]'h).toNat < 128) : ∀ (f pos : Nat), pos ≤ s.size → s.size ≤ pos + f → ∃ cs, chF s f pos = some cs ∧ cs.length + pos = s.size
  | 0, pos, h1, h2 => ⟨[], by simp [chF]; omega, by simp; omega⟩
  | f + 1, pos, h1, h2 => by
    by_cases c : pos < s.size
    · have hd := decode_ascii s pos c (ha pos c)
      obtain ⟨cs, g1, g2⟩ := ch_ascii s ha f (pos + 1) (by omega) (by omega)
      have hne : ¬ ((s[pos]'c).toNat, 1) = ((65533 : Nat), 1) := by
        intro e
        have := (Prod.mk.injEq _ _ _ _ ▸ e : (s[pos]'c).toNat = 65533 ∧ 1 = 1).1
        have := ha pos c
        omega
      refine ⟨((s[pos]'c).toNat : Int) :: cs, ?_, by simp; omega⟩
      rw [chF, if_pos c, hd, if_neg hne]
      simp only [g1, Option.map_some]
    · exact ⟨[], by rw [chF, if_neg c], by simp; omega⟩
theorem text_ascii {s : ByteArray} (ha : ∀ b ∈ s.data.toList, b.toNat < 128) (hl : s.size ≤ 255) : textOK s = true := by
  obtain ⟨cs, h1, h2⟩ := ch_ascii s (fun i h => ha _ (List.getElem_mem (by rw [len_eq]; exact h))) s.size 0 (by omega) (by omega)
  unfold textOK chars
  rw [h1]
  simp; omega
theorem dig_ascii {l : List UInt8} (h : allD l = true) : ∀ b ∈ l, b.toNat < 128 := by
  intro b hb
  simp only [allD, List.all_eq_true] at h
  have := isD_yes (h b hb); omega
/-- A value's text is a valid text. -/
theorem plain_ascii {k n : Int} {s b : ByteArray} (hv : vok k n s = true) (hn : inI n) (hk : k = 1 ∨ k = 2 ∨ k = 4 ∨ k = 5) (h : isPlain k n s b) : (∀ c ∈ b.data.toList, c.toNat < 128) ∧ b.size ≤ 255 ∧ rdK k b = (n, true) := by
  unfold isPlain at h
  rw [if_neg (by rw [hv]; simp), if_neg (by omega)] at h
  obtain ⟨_, hd, hy⟩ := vok_more hv
  rcases hk with rfl | rfl | rfl | rfl
  · rw [if_pos rfl] at h
    subst h
    have hl := Lib.itoa_length_le n hn.1 hn.2
    refine ⟨?_, by rw [mk_size]; omega, ?_⟩
    · rw [mk_list]
      intro c hc
      unfold Lib.itoa at hc
      split at hc
      · rcases List.mem_cons.1 hc with rfl | hc
        · decide
        · exact dig_ascii (dec_num _).2.1 c hc
      · exact dig_ascii (dec_num _).2.1 c hc
    · unfold rdK; rw [if_pos rfl, mk_list]; exact read_int hn
  · rw [if_neg (by omega), if_pos rfl] at h
    subst h
    have hb := hd rfl
    have hq : n.natAbs / 10000 < 10 ^ 14 := by have : (10 : Nat) ^ 14 = 100000000000000 := (by decide); omega
    refine ⟨?_, ?_, ?_⟩
    · rw [mk_list]
      intro c hc
      unfold decT at hc
      rcases List.mem_append.1 hc with hc | hc
      · split at hc
        · rw [List.mem_singleton] at hc; subst hc; decide
        · simp at hc
      rcases List.mem_append.1 hc with hc | hc
      · exact dig_ascii (dec_num _).2.1 c hc
      · split at hc
        · simp at hc
        · rcases List.mem_cons.1 hc with rfl | hc
          · decide
          · exact dig_ascii (frac_num _).2 c (trim_mem hc)
    · rw [mk_size]
      unfold decT
      have l1 := dec_len 13 _ hq
      have l2 := trim_len (frac (n.natAbs % 10000)) 48
      have l3 := frac_len (n.natAbs % 10000) (by omega)
      rw [List.length_append, List.length_append]
      have : (if n < 0 then ([45] : List UInt8) else []).length ≤ 1 := by split <;> simp
      have : (if n.natAbs % 10000 = 0 then ([] : List UInt8) else 46 :: Lib.trimRightB (frac (n.natAbs % 10000)) 48).length ≤ 5 := by split <;> simp <;> omega
      omega
    · unfold rdK; rw [if_neg (by omega), if_pos rfl, mk_list]; exact read_dec hb.1 hb.2
  · rw [if_neg (by omega), if_neg (by omega), if_pos rfl] at h
    subst h
    have hb : n = 0 ∨ n = 1 := by
      unfold vok at hv
      rw [if_neg (by omega), if_neg (by omega), if_neg (by omega), if_neg (by omega), if_pos rfl] at hv
      simp at hv; omega
    rcases hb with rfl | rfl
    · rw [if_neg (by omega)]; exact ⟨by decide, by decide, by unfold rdK; rw [if_neg (by omega), if_neg (by omega), if_pos rfl]; rfl⟩
    · rw [if_pos rfl]; exact ⟨by decide, by decide, by unfold rdK; rw [if_neg (by omega), if_neg (by omega), if_pos rfl]; rfl⟩
  · rw [if_neg (by omega), if_neg (by omega), if_neg (by omega), if_pos rfl] at h
    obtain ⟨y, m, d, v, e, rfl⟩ := h
    have V := v
    have hd31 := Days.mdays_bd y m
    obtain ⟨⟨y1, y2⟩, ⟨m1, m2⟩, d1, d2⟩ := v
    have ly := wide_len_eq (itoa_short y 4 (by omega) (.inr rfl) (by simp; omega))
    have lm := wide_len_eq (itoa_short m 2 (by omega) (.inl rfl) (by simp; omega))
    have ld := wide_len_eq (itoa_short d 2 (by omega) (.inl rfl) (by simp; omega))
    have wd : ∀ (z : Int) (k : Nat), 0 ≤ z → ∀ c ∈ wideL (Lib.itoa z) k, c.toNat < 128 := fun z k hz c hc => by
      obtain ⟨Z, rfl⟩ : ∃ Z : Nat, z = Z := ⟨z.toNat, by omega⟩
      rw [Lib.itoa_nonneg] at hc
      exact dig_ascii (wide_num Z k).2 c hc
    refine ⟨?_, ?_, ?_⟩
    · rw [mk_list]
      intro c hc
      unfold dayT at hc
      rcases List.mem_append.1 hc with hc | hc
      · exact wd y 4 (by omega) c hc
      rcases List.mem_cons.1 hc with rfl | hc
      · decide
      rcases List.mem_append.1 hc with hc | hc
      · exact wd m 2 (by omega) c hc
      rcases List.mem_cons.1 hc with rfl | hc
      · decide
      · exact wd d 2 (by omega) c hc
    · rw [mk_size]; unfold dayT; simp [ly, lm, ld]
    · unfold rdK; rw [if_neg (by omega), if_neg (by omega), if_neg (by omega), mk_list, read_day V, e]
theorem empty_of {s : ByteArray} (h : s.toList.isEmpty = true) : s = ⟨#[]⟩ := by
  rw [Lib.toList_data, List.isEmpty_iff] at h
  apply ByteArray.ext
  exact Array.ext' h
theorem vok_empty {k n : Int} {s : ByteArray} (hv : vok k n s = true) (hk : k = 1 ∨ k = 2 ∨ k = 4 ∨ k = 5) : s = ⟨#[]⟩ := by
  unfold vok at hv
  rcases hk with rfl | rfl | rfl | rfl <;> simp at hv <;> first | exact empty_of (by simpa using hv) | exact empty_of (by simpa using hv.1)
/-- Cast to Text and back. -/
theorem cast_there {k n : Int} {s : ByteArray} {V : Value} (hv : vok k n s = true) (hk : k = 1 ∨ k = 2 ∨ k = 4 ∨ k = 5) (h : CastIs k n s 3 V) : ∃ b, isPlain k n s b ∧ V = tV 3 0 b 0 := by
  unfold CastIs at h
  have hc : ck k 3 = true := by rcases hk with rfl | rfl | rfl | rfl <;> decide
  rw [if_neg (by rw [hv]; simp; decide), if_neg (by rw [hc]; simp), if_neg (by omega), if_neg (by omega), if_pos rfl] at h
  exact h
theorem cast_back {k n : Int} {s b : ByteArray} {V : Value} (hv : vok k n s = true) (hn : inI n) (hk : k = 1 ∨ k = 2 ∨ k = 4 ∨ k = 5) (hp : isPlain k n s b) (h : CastIs 3 0 b k V) : V = tV k n s 0 := by
  obtain ⟨h1, h2, h3⟩ := plain_ascii hv hn hk hp
  have hb : vok 3 0 b = true := by
    unfold vok
    rw [if_neg (by omega), if_neg (by omega), if_neg (by omega), if_pos rfl, text_ascii h1 h2]; rfl
  have hc : ck 3 k = true := by rcases hk with rfl | rfl | rfl | rfl <;> decide
  have hi : Ok.isK k = true := by rcases hk with rfl | rfl | rfl | rfl <;> decide
  unfold CastIs at h
  rw [if_neg (by rw [hb, hi]; simp), if_neg (by rw [hc]; simp), if_neg (by omega), if_pos rfl, h3] at h
  rw [h, vok_empty hv hk]
  rfl
end Go.Proofs.YtdcdoeolaongkaaGreatDoor.Rd
