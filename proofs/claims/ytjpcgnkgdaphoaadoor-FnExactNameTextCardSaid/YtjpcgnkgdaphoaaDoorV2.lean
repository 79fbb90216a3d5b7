import Derived.Test.YtjpcgnkgdaphoaaDoorV1
namespace Go.Proofs.YtjpcgnkgdaphoaaDoor
open Go.ChangeShapes Go.WideShapes Go.ChangeAt Go.RowKit Go.Shelf
set_option linter.unusedVariables false
set_option linter.unusedSimpArgs false
set_option maxRecDepth 100000
theorem goI_ascii {c : UInt8} (h : goI (c.toNat : Int) = true) : c.toNat < 128 := by
  unfold goI wdI digI at h
  simp at h; omega
theorem lowC_shift (c : UInt8) (h : c.toNat < 128) : shiftF 65 90 32 (c.toNat : Int) = ((lowC c).toNat : Int) ∧ (lowC c).toNat < 128 := by
  unfold shiftF lowC
  by_cases g : 65 ≤ c.toNat ∧ c.toNat ≤ 90
  · rw [if_pos (by omega), if_pos g]; simp; omega
  · rw [if_neg (by omega), if_neg g]; exact ⟨rfl, h⟩
theorem mem_take_run (p : Int → Bool) (l : List UInt8) (c : UInt8) (h : c ∈ l.take (runN p l)) : p (c.toNat : Int) = true := by
  obtain ⟨i, hi, e⟩ := List.getElem_of_mem h
  rw [List.length_take] at hi
  refine runN_at p l i c (by omega) ?_
  rw [List.getElem_take] at e
  rw [List.getElem?_eq_getElem (by omega), e]
theorem low_take (l : List UInt8) : Lib.mapD (shiftF 65 90 32) (l.take (runN goI l)) = (l.take (runN goI l)).map lowC :=
  mapD_ascii _ lowC _ fun c hc => by
    have h1 := goI_ascii (mem_take_run goI l c hc)
    have h2 := lowC_shift c h1
    exact ⟨h1, h2.1, h2.2⟩
set_option maxHeartbeats 800000 in
theorem cutWord_any (s : ByteArray) (w : World) (hs : s.size ≤ 1048576) (hT : Tabs w) :
    Calls Tryd.prog 28 #[.string s] w fun e w' => e = .returned (cutV (wordL s.data.toList)) ∧ Below w.heap.size w w' := by
  have hc := fun w => countAhead_any 41 goI Sorts.goesOn s w (by unfold maxLen; omega)
  have HL : Hid (Lib.mapD (shiftF 65 90 32) (s.data.toList.take (runN goI s.data.toList)) = (s.data.toList.take (runN goI s.data.toList)).map lowC) := low_take _
  have hle : runN goI s.data.toList ≤ s.size := by have := runN_le goI s.data.toList; simpa using this
  have HW : Hid (wordL s.data.toList = if 30 < runN goI s.data.toList then .err 5 0 else .tok 1 ((s.data.toList.take (runN goI s.data.toList)).map lowC) (runN goI s.data.toList)) := rfl
  generalize runN goI s.data.toList = n at *
  by_cases h30 : 30 < n
  · have HW2 : Hid (wordL s.data.toList = .err 5 0) := by have := HW.out; rw [if_pos h30] at this; exact this
    clear HW HL
    go_enter Tryd.func28, Tryd.ntmps28
    go_wp2_with (go_at_call 40; refine (hc _).mono ?_; rintro e w' ⟨rfl, rfl⟩)
    refine bodyPost_ret (v := .agg #[.int .i64 0, .string ⟨#[]⟩, .int .i64 0, .int .i64 5, .int .i64 0]) (by simp [results, Tryd.results28, go_sem]) rfl ⟨?_, ?_⟩
    · rw [HW2.out]; rfl
    · exact (Below.refl _ _).alloc (Nat.le_refl _) _
  · have HW2 : Hid (wordL s.data.toList = .tok 1 ((s.data.toList.take n).map lowC) n) := by have := HW.out; rw [if_neg h30] at this; exact this
    have hsh := fun W hT => shifted_any (s.extract 0 n) 65 90 32 W (by simp; omega) (by omega) (by omega) hT
    obtain ⟨t, ht⟩ : ∃ t : ByteArray, t = ⟨(Lib.mapD (shiftF 65 90 32) (s.extract 0 n).data.toList).toArray⟩ := ⟨_, rfl⟩
    rw [← ht] at hsh
    have HE : Hid (t = ⟨((s.data.toList.take n).map lowC).toArray⟩) := by
      show t = _
      rw [ht, ba_take, HL.out]
    clear ht HL
    have hfd : ∀ w : World, (Instr.field 56 (.agg #[.int .i64 3, .int .i64 0, .string t]) 2).run Tryd.prog w = .ok (.string t) w := fun _ => by kernel_rfl
    have hT1 : ∀ o, Tabs (w.alloc o) := fun o => tabs_below hT (below_alloc _ _)
    clear HW
    go_enter Tryd.func28, Tryd.ntmps28
    go_wp2_with (first | (go_at_call 40; refine (hc _).mono ?_; rintro e w' ⟨rfl, rfl⟩) | (go_at_call 42; refine (hsh _ (hT1 _)).mono ?_; rintro e w1 ⟨rfl, hb1⟩; obtain ⟨hc1, hf1⟩ := bcell hb1; have hz1 : w.heap.size < w1.heap.size := (by have := hb1.size; simp at this; omega); have bw1 : Below w.heap.size w w1 := ((Below.refl _ _).alloc (Nat.le_refl _) _).trans (hb1.mono (by simp)); clear hb1))
    refine bodyPost_ret (v := .agg #[.int .i64 1, .string t, .int .i64 n, .int .i64 0, .int .i64 0]) (by simp [results, Tryd.results28, go_sem, hc1, hf1, hz1]) rfl ⟨?_, ?_⟩
    · rw [HW2.out, HE.out]; rfl
    · exact ((((bw1.setCell (Nat.le_refl _) _).setCell (Nat.le_refl _) _).setCell (Nat.le_refl _) _).setCell (Nat.le_refl _) _).setCell (Nat.le_refl _) _
set_option maxHeartbeats 1600000 in
theorem cutQuoted_any (s : ByteArray) (w : World) (hs : s.size ≤ 1048576) (h0 : 0 < s.size) (hq : s[0]'h0 = 34) :
    Calls Tryd.prog 31 #[.string s] w fun e w' => e = .returned (cutV (quoL s.data.toList)) ∧ Below w.heap.size w w' := by
  have hun := fun w => unquoted_any s 34 w hs h0 hq
  unfold UnqPost at hun
  have HQ : Hid (quoL s.data.toList = match unq 34 (s.data.toList.drop 1) with
    | none => .err 2 0
    | some x => if x.1 = [] ∨ runN priI x.1 < x.1.length then .err 2 0 else if 30 < x.1.length then .err 5 0 else .tok 2 x.1 (x.2 + 1)) := rfl
  have hlen := unq_len 34 (s.data.toList.drop 1)
  cases hu : unq 34 (s.data.toList.drop 1) with
  | none =>
    rw [hu] at hun
    have HQ2 : Hid (quoL s.data.toList = .err 2 0) := by have := HQ.out; rw [hu] at this; exact this
    clear HQ hlen hu
    go_enter Tryd.func31, Tryd.ntmps31
    go_wp2_with (go_at_call 44; refine (hun _).mono ?_; rintro e w1 ⟨rfl, hb1⟩; obtain ⟨hc1, hf1⟩ := bcell hb1; have hz1 : w.heap.size < w1.heap.size := (by have := hb1.size; simp at this; omega); have bw1 : Below w.heap.size w w1 := ((Below.refl _ _).alloc (Nat.le_refl _) _).trans (hb1.mono (by simp)); clear hb1)
    refine bodyPost_ret (v := .agg #[.int .i64 0, .string ⟨#[]⟩, .int .i64 0, .int .i64 2, .int .i64 0]) (by simp [results, Tryd.results31, go_sem, hc1, hf1, hz1]) rfl ⟨?_, ?_⟩
    · rw [HQ2.out]; rfl
    · exact ((((bw1.setCell (Nat.le_refl _) _).setCell (Nat.le_refl _) _).setCell (Nat.le_refl _) _).setCell (Nat.le_refl _) _).setCell (Nat.le_refl _) _
  | some x =>
    have hl := hlen x.1 x.2 hu
    rw [List.length_drop] at hl
    have hsl : s.data.toList.length = s.size := by simp
    rw [hsl] at hl
    rw [hu] at hun
    have HQ1 : Hid (quoL s.data.toList = if x.1 = [] ∨ runN priI x.1 < x.1.length then .err 2 0 else if 30 < x.1.length then .err 5 0 else .tok 2 x.1 (x.2 + 1)) := by have := HQ.out; rw [hu] at this; exact this
    clear HQ hlen hu hsl
    obtain ⟨x1, x2⟩ := x
    simp only at hun hl HQ1
    obtain ⟨c, hcl⟩ : ∃ c : ByteArray, c = ⟨x1.toArray⟩ := ⟨_, rfl⟩
    have hx1 : x1 = c.data.toList := by rw [hcl]
    rw [← hcl] at hun
    clear hcl
    subst hx1
    have hcs : c.data.toList.length = c.size := by simp
    rw [hcs] at hl HQ1
    have hcnt := fun w => countAhead_any 45 priI Sorts.isName c w (by unfold maxLen; omega)
    have hemp : c.data.toList = [] ↔ c.size = 0 := by rw [← hcs, List.length_eq_zero_iff]
    by_cases e0 : c.size = 0
    · have HQ2 : Hid (quoL s.data.toList = .err 2 0) := by have := HQ1.out; rw [if_pos (.inl (hemp.2 e0))] at this; exact this
      have he : c.toList = [] := by rw [Lib.toList_data]; exact hemp.2 e0
      clear HQ1 hemp
      go_enter Tryd.func31, Tryd.ntmps31
      go_wp2_with (first | (go_at_call 44; refine (hun _).mono ?_; rintro e w1 ⟨rfl, hb1⟩; obtain ⟨hc1, hf1⟩ := bcell hb1; have hz1 : w.heap.size < w1.heap.size := (by have := hb1.size; simp at this; omega); have bw1 : Below w.heap.size w w1 := ((Below.refl _ _).alloc (Nat.le_refl _) _).trans (hb1.mono (by simp)); clear hb1) | (go_at_call 40; refine (hcnt _).mono ?_; rintro e w' ⟨rfl, rfl⟩))
      refine bodyPost_ret (v := .agg #[.int .i64 0, .string ⟨#[]⟩, .int .i64 0, .int .i64 2, .int .i64 0]) (by simp [results, Tryd.results31, go_sem, hc1, hf1, hz1]) rfl ⟨?_, ?_⟩
      · rw [HQ2.out]; rfl
      · exact ((((bw1.setCell (Nat.le_refl _) _).setCell (Nat.le_refl _) _).setCell (Nat.le_refl _) _).setCell (Nat.le_refl _) _).setCell (Nat.le_refl _) _
    · have hne : ¬ c.data.toList = [] := fun z => e0 (hemp.1 z)
      have he : c.toList.isEmpty = false := by rw [Lib.toList_data]; simpa using hne
      have he2 : (c.toList == []) = false := by rw [Lib.toList_data, beq_eq_false_iff_ne]; exact hne
      have hr := runN_le priI c.data.toList
      rw [hcs] at hr
      by_cases hp : runN priI c.data.toList < c.size
      · have HQ2 : Hid (quoL s.data.toList = .err 2 0) := by have := HQ1.out; rw [if_pos (.inr hp)] at this; exact this
        clear HQ1 hemp hne
        generalize runN priI c.data.toList = m at *
        go_enter Tryd.func31, Tryd.ntmps31
        go_wp2_with (first | (go_at_call 44; refine (hun _).mono ?_; rintro e w1 ⟨rfl, hb1⟩; obtain ⟨hc1, hf1⟩ := bcell hb1; have hz1 : w.heap.size < w1.heap.size := (by have := hb1.size; simp at this; omega); have bw1 : Below w.heap.size w w1 := ((Below.refl _ _).alloc (Nat.le_refl _) _).trans (hb1.mono (by simp)); clear hb1) | (go_at_call 40; refine (hcnt _).mono ?_; rintro e w' ⟨rfl, rfl⟩))
        refine bodyPost_ret (v := .agg #[.int .i64 0, .string ⟨#[]⟩, .int .i64 0, .int .i64 2, .int .i64 0]) (by simp [results, Tryd.results31, go_sem, hc1, hf1, hz1]) rfl ⟨?_, ?_⟩
        · rw [HQ2.out]; rfl
        · exact ((((bw1.setCell (Nat.le_refl _) _).setCell (Nat.le_refl _) _).setCell (Nat.le_refl _) _).setCell (Nat.le_refl _) _).setCell (Nat.le_refl _) _
      · have HQ2 : Hid (quoL s.data.toList = if 30 < c.size then .err 5 0 else .tok 2 c.data.toList (x2 + 1)) := by
          have := HQ1.out; rw [if_neg (fun z => z.elim hne hp)] at this; exact this
        clear HQ1 hemp hne
        generalize runN priI c.data.toList = m at *
        by_cases hb30 : 30 < c.size
        · go_enter Tryd.func31, Tryd.ntmps31
          go_wp2_with (first | (go_at_call 44; refine (hun _).mono ?_; rintro e w1 ⟨rfl, hb1⟩; obtain ⟨hc1, hf1⟩ := bcell hb1; have hz1 : w.heap.size < w1.heap.size := (by have := hb1.size; simp at this; omega); have bw1 : Below w.heap.size w w1 := ((Below.refl _ _).alloc (Nat.le_refl _) _).trans (hb1.mono (by simp)); clear hb1) | (go_at_call 40; refine (hcnt _).mono ?_; rintro e w' ⟨rfl, rfl⟩))
          refine bodyPost_ret (v := .agg #[.int .i64 0, .string ⟨#[]⟩, .int .i64 0, .int .i64 5, .int .i64 0]) (by simp [results, Tryd.results31, go_sem, hc1, hf1, hz1]) rfl ⟨?_, ?_⟩
          · rw [HQ2.out, if_pos hb30]; rfl
          · exact ((((bw1.setCell (Nat.le_refl _) _).setCell (Nat.le_refl _) _).setCell (Nat.le_refl _) _).setCell (Nat.le_refl _) _).setCell (Nat.le_refl _) _
        · go_enter Tryd.func31, Tryd.ntmps31
          go_wp2_with (first | (go_at_call 44; refine (hun _).mono ?_; rintro e w1 ⟨rfl, hb1⟩; obtain ⟨hc1, hf1⟩ := bcell hb1; have hz1 : w.heap.size < w1.heap.size := (by have := hb1.size; simp at this; omega); have bw1 : Below w.heap.size w w1 := ((Below.refl _ _).alloc (Nat.le_refl _) _).trans (hb1.mono (by simp)); clear hb1) | (go_at_call 40; refine (hcnt _).mono ?_; rintro e w' ⟨rfl, rfl⟩))
          refine bodyPost_ret (v := .agg #[.int .i64 2, .string c, .int .i64 ((x2 + 1 : Nat) : Int), .int .i64 0, .int .i64 0]) (by simp [results, Tryd.results31, go_sem, hc1, hf1, hz1]) rfl ⟨?_, ?_⟩
          · rw [HQ2.out, if_neg hb30]; simp only [cutV, ba_mk]
          · exact ((((bw1.setCell (Nat.le_refl _) _).setCell (Nat.le_refl _) _).setCell (Nat.le_refl _) _).setCell (Nat.le_refl _) _).setCell (Nat.le_refl _) _
end Go.Proofs.YtjpcgnkgdaphoaaDoor
