import Derived.Test.YtjpcgnkgdaphoaaDoorV2
namespace Go.Proofs.YtjpcgnkgdaphoaaDoor
open Go.ChangeShapes Go.WideShapes Go.ChangeAt Go.RowKit Go.Shelf
set_option linter.unusedVariables false
set_option linter.unusedSimpArgs false
set_option maxRecDepth 100000
set_option maxHeartbeats 1600000 in
theorem cutString_any (s : ByteArray) (w : World) (hs : s.size ≤ 1048576) (h0 : 0 < s.size) (hq : s[0]'h0 = 39) (hT : Tabs w) :
    Calls Tryd.prog 32 #[.string s] w fun e w' => e = .returned (cutV (strL s.data.toList)) ∧ Below w.heap.size w w' := by
  have hun := fun w => unquoted_any s 39 w hs h0 hq
  unfold UnqPost at hun
  have HQ : Hid (strL s.data.toList = match unq 39 (s.data.toList.drop 1) with
    | none => .err 2 0
    | some x => match chars ⟨x.1.toArray⟩ with
      | none => .err 2 0
      | some cs => if 255 < cs.length then .err 5 0 else .tok 5 x.1 (x.2 + 1)) := rfl
  have hlen := unq_len 39 (s.data.toList.drop 1)
  cases hu : unq 39 (s.data.toList.drop 1) with
  | none =>
    rw [hu] at hun
    have HQ2 : Hid (strL s.data.toList = .err 2 0) := by have := HQ.out; rw [hu] at this; exact this
    clear HQ hlen hu
    go_enter Tryd.func32, Tryd.ntmps32
    go_wp2_with (go_at_call 44; refine (hun _).mono ?_; rintro e w1 ⟨rfl, hb1⟩; obtain ⟨hc1, hf1⟩ := bcell hb1; have hz1 : w.heap.size < w1.heap.size := (by have := hb1.size; simp at this; omega); have bw1 : Below w.heap.size w w1 := ((Below.refl _ _).alloc (Nat.le_refl _) _).trans (hb1.mono (by simp)); clear hb1)
    refine bodyPost_ret (v := .agg #[.int .i64 0, .string ⟨#[]⟩, .int .i64 0, .int .i64 2, .int .i64 0]) (by simp [results, Tryd.results32, go_sem, hc1, hf1, hz1]) rfl ⟨?_, ?_⟩
    · rw [HQ2.out]; rfl
    · exact ((((bw1.setCell (Nat.le_refl _) _).setCell (Nat.le_refl _) _).setCell (Nat.le_refl _) _).setCell (Nat.le_refl _) _).setCell (Nat.le_refl _) _
  | some x =>
    have hl := hlen x.1 x.2 hu
    rw [List.length_drop] at hl
    have hsl : s.data.toList.length = s.size := by simp
    rw [hsl] at hl
    rw [hu] at hun
    have HQ1 : Hid (strL s.data.toList = match chars ⟨x.1.toArray⟩ with
      | none => .err 2 0
      | some cs => if 255 < cs.length then .err 5 0 else .tok 5 x.1 (x.2 + 1)) := by have := HQ.out; rw [hu] at this; exact this
    clear HQ hlen hu hsl
    obtain ⟨x1, x2⟩ := x
    simp only at hun hl HQ1
    obtain ⟨c, hcl⟩ : ∃ c : ByteArray, c = ⟨x1.toArray⟩ := ⟨_, rfl⟩
    have hx1 : x1 = c.data.toList := by rw [hcl]
    rw [← hcl] at hun HQ1
    clear hcl
    subst hx1
    have hcs : c.data.toList.length = c.size := by simp
    rw [hcs] at hl
    have hva := fun w hT => valid_any c w (by omega) hT
    have hcc := fun w => charCount_any c w (by omega)
    rw [valid_iff c] at hva
    have hT1 : ∀ o, Tabs (w.alloc o) := fun o => tabs_below hT (below_alloc _ _)
    cases hch : chars c with
    | none =>
      have HQ2 : Hid (strL s.data.toList = .err 2 0) := by have := HQ1.out; rw [hch] at this; exact this
      rw [hch] at hva
      clear HQ1 hch
      simp only [Option.isSome_none] at hva
      go_enter Tryd.func32, Tryd.ntmps32
      go_wp2_with (first | (go_at_call 44; refine (hun _).mono ?_; rintro e w1 ⟨rfl, hb1⟩; obtain ⟨hc1, hf1⟩ := bcell hb1; have hz1 : w.heap.size < w1.heap.size := (by have := hb1.size; simp at this; omega); have bw1 : Below w.heap.size w w1 := ((Below.refl _ _).alloc (Nat.le_refl _) _).trans (hb1.mono (by simp)); have hT2 : Tabs w1 := tabs_below hT bw1; clear hb1) | (go_at_call 46; refine (hva _ hT2).mono ?_; rintro e w2 ⟨rfl, hb2⟩; obtain ⟨hc2, hf2⟩ := bcell hb2; have hz2 : w.heap.size < w2.heap.size := (by have := hb2.size; omega); have bw2 : Below w.heap.size w w2 := bw1.trans (hb2.mono (Nat.le_of_lt hz1)); clear hb2))
      refine bodyPost_ret (v := .agg #[.int .i64 0, .string ⟨#[]⟩, .int .i64 0, .int .i64 2, .int .i64 0]) (by simp [results, Tryd.results32, go_sem, hc1, hf1, hz1, hc2, hf2, hz2]) rfl ⟨?_, ?_⟩
      · rw [HQ2.out]; rfl
      · exact ((((bw2.setCell (Nat.le_refl _) _).setCell (Nat.le_refl _) _).setCell (Nat.le_refl _) _).setCell (Nat.le_refl _) _).setCell (Nat.le_refl _) _
    | some cs =>
      have HQ2 : Hid (strL s.data.toList = if 255 < cs.length then .err 5 0 else .tok 5 c.data.toList (x2 + 1)) := by have := HQ1.out; rw [hch] at this; exact this
      rw [hch] at hva
      have hcnt := (count_eq c cs hch).1
      have hcnt2 := (count_eq c cs hch).2.2
      rw [hcnt] at hcc
      clear HQ1 hch hcnt
      simp only [Option.isSome_some] at hva
      generalize cs.length = m at *
      by_cases hb : 255 < m
      · go_enter Tryd.func32, Tryd.ntmps32
        go_wp2_with (first | (go_at_call 44; refine (hun _).mono ?_; rintro e w1 ⟨rfl, hb1⟩; obtain ⟨hc1, hf1⟩ := bcell hb1; have hz1 : w.heap.size < w1.heap.size := (by have := hb1.size; simp at this; omega); have bw1 : Below w.heap.size w w1 := ((Below.refl _ _).alloc (Nat.le_refl _) _).trans (hb1.mono (by simp)); have hT2 : Tabs w1 := tabs_below hT bw1; clear hb1) | (go_at_call 46; refine (hva _ hT2).mono ?_; rintro e w2 ⟨rfl, hb2⟩; obtain ⟨hc2, hf2⟩ := bcell hb2; have hz2 : w.heap.size < w2.heap.size := (by have := hb2.size; omega); have bw2 : Below w.heap.size w w2 := bw1.trans (hb2.mono (Nat.le_of_lt hz1)); clear hb2) | (go_at_call 47; refine (hcc _).mono ?_; rintro e w3 ⟨rfl, hb3⟩; obtain ⟨hc3, hf3⟩ := bcell hb3; have hz3 : w.heap.size < w3.heap.size := (by have := hb3.size; omega); have bw3 : Below w.heap.size w w3 := bw2.trans (hb3.mono (Nat.le_of_lt hz2)); clear hb3))
        refine bodyPost_ret (v := .agg #[.int .i64 0, .string ⟨#[]⟩, .int .i64 0, .int .i64 5, .int .i64 0]) (by simp [results, Tryd.results32, go_sem, hc1, hf1, hz1, hc2, hf2, hz2, hc3, hf3, hz3]) rfl ⟨?_, ?_⟩
        · rw [HQ2.out, if_pos hb]; rfl
        · exact ((((bw3.setCell (Nat.le_refl _) _).setCell (Nat.le_refl _) _).setCell (Nat.le_refl _) _).setCell (Nat.le_refl _) _).setCell (Nat.le_refl _) _
      · go_enter Tryd.func32, Tryd.ntmps32
        go_wp2_with (first | (go_at_call 44; refine (hun _).mono ?_; rintro e w1 ⟨rfl, hb1⟩; obtain ⟨hc1, hf1⟩ := bcell hb1; have hz1 : w.heap.size < w1.heap.size := (by have := hb1.size; simp at this; omega); have bw1 : Below w.heap.size w w1 := ((Below.refl _ _).alloc (Nat.le_refl _) _).trans (hb1.mono (by simp)); have hT2 : Tabs w1 := tabs_below hT bw1; clear hb1) | (go_at_call 46; refine (hva _ hT2).mono ?_; rintro e w2 ⟨rfl, hb2⟩; obtain ⟨hc2, hf2⟩ := bcell hb2; have hz2 : w.heap.size < w2.heap.size := (by have := hb2.size; omega); have bw2 : Below w.heap.size w w2 := bw1.trans (hb2.mono (Nat.le_of_lt hz1)); clear hb2) | (go_at_call 47; refine (hcc _).mono ?_; rintro e w3 ⟨rfl, hb3⟩; obtain ⟨hc3, hf3⟩ := bcell hb3; have hz3 : w.heap.size < w3.heap.size := (by have := hb3.size; omega); have bw3 : Below w.heap.size w w3 := bw2.trans (hb3.mono (Nat.le_of_lt hz2)); clear hb3))
        refine bodyPost_ret (v := .agg #[.int .i64 5, .string c, .int .i64 ((x2 + 1 : Nat) : Int), .int .i64 0, .int .i64 0]) (by simp [results, Tryd.results32, go_sem, hc1, hf1, hz1, hc2, hf2, hz2, hc3, hf3, hz3]) rfl ⟨?_, ?_⟩
        · rw [HQ2.out, if_neg hb]; simp only [cutV, ba_mk]
        · exact ((((bw3.setCell (Nat.le_refl _) _).setCell (Nat.le_refl _) _).setCell (Nat.le_refl _) _).setCell (Nat.le_refl _) _).setCell (Nat.le_refl _) _
end Go.Proofs.YtjpcgnkgdaphoaaDoor
