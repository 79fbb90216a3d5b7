import Derived.Test.YtcgnkcehjcednaaDoorY3
import Derived.Test.YtcgnkcehjcednaaDoorW1
namespace Go.Proofs.YtcgnkcehjcednaaDoor
open Go.ChangeShapes Go.WideShapes Go.ChangeAt Go.RowKit Go.Shelf
set_option linter.unusedVariables false
set_option linter.unusedSimpArgs false
set_option maxRecDepth 100000
theorem chars_ok (c : ByteArray) (cs : List Int) (w : World) (hs : c.size ≤ 1048576) (h : chars c = some cs) : Calls Tryd.prog 35 #[.string c] w fun e w' => ∃ a cap, e = .returned (.tuple #[.slice a cs.length cap, .bool true]) ∧ Below w.heap.size w w' := by
  refine (chars_any c w hs).mono ?_
  rintro e w' (⟨cs', v, h1, rfl, ho, hb⟩ | ⟨a, h1, _⟩)
  · rw [h] at h1; cases h1
    obtain ⟨a, cap, rfl⟩ := owns_slice ho
    exact ⟨a, cap, rfl, hb⟩
  · rw [h] at h1; cases h1
theorem chars_bad (c : ByteArray) (w : World) (hs : c.size ≤ 1048576) (h : chars c = none) : Calls Tryd.prog 35 #[.string c] w fun e w' => ∃ a, e = .returned (.tuple #[.slice a 0 0, .bool false]) ∧ Below w.heap.size w w' := by
  refine (chars_any c w hs).mono ?_
  rintro e w' (⟨cs', v, h1, _⟩ | ⟨a, h1, rfl, hb⟩)
  · rw [h] at h1; cases h1
  · exact ⟨a, rfl, hb⟩
set_option maxHeartbeats 8000000 in
theorem token_any (s : ByteArray) (a : Nat) (w : World) (hs : s.size ≤ 8000) (ha : a < s.size) :
    Calls Tryd.prog 50 #[.string s, .int .i64 a] w fun e w' => e = .returned (cutT a (cutL (s.data.toList.drop a))) ∧ Below w.heap.size w w' := by
  have hai : (a : Int) < s.size := by omega
  have hsl : s.data.toList.length = s.size := by simp
  have hdl : (s.data.toList.drop a).length = s.size - a := by rw [List.length_drop, hsl]
  have hcl : cutL (s.data.toList.drop a) = if wdI ((s[a]'ha).toNat : Int) then wordL (s.data.toList.drop a) else if digI ((s[a]'ha).toNat : Int) then numL (s.data.toList.drop a) else if s[a]'ha = 34 then quoL (s.data.toList.drop a) else if s[a]'ha = 39 then strL (s.data.toList.drop a) else sigL (s.data.toList.drop a) := by
    conv => lhs; rw [drop_cons _ _ _ (bl_get s a ha)]
    unfold cutL
    simp only
    rw [← drop_cons _ _ _ (bl_get s a ha)]
  have hd1 : (s.data.toList.drop a).drop 1 = s.data.toList.drop (a + 1) := List.drop_drop
  obtain ⟨r, hr⟩ : ∃ r, r = cutL (s.data.toList.drop a) := ⟨_, rfl⟩
  rw [← hr] at hcl ⊢
  clear hr
  obtain ⟨c0, hc0⟩ : ∃ c0 : UInt8, s[a]'ha = c0 := ⟨_, rfl⟩
  have hci : ((s[a]'ha).toNat : Int) = (c0.toNat : Int) := by rw [hc0]
  rw [hci, hc0] at hcl
  have hlet := fun w => letter_any (c0.toNat : Int) w
  have hdig := fun w => digit_any (c0.toNat : Int) w
  cases hw : wdI (c0.toNat : Int)
  · rw [hw] at hlet hcl
    simp only [Bool.false_eq_true, if_false] at hcl
    cases hd : digI (c0.toNat : Int)
    · rw [hd] at hdig hcl
      simp only [Bool.false_eq_true, if_false] at hcl
      by_cases h34 : c0 = 34
      · rw [if_pos h34] at hcl
        have h34i : (c0.toNat : Int) = 34 := by rw [h34]; rfl
        rw [h34i] at hlet hdig
        have hbet := fun w => between_any s a 34 w (by omega) ha (by rw [hc0]; exact h34)
        unfold BetPost at hbet
        have hlen := unq_len 34 (s.data.toList.drop (a + 1))
        unfold quoL at hcl
        rw [hd1] at hcl
        clear hw hd h34
        cases hu : unq 34 (s.data.toList.drop (a + 1)) with
        | none =>
          rw [hu] at hbet hcl
          have HR : Hid (r = .err 2 0) := hcl
          clear hcl hlen hu
          go_enter Tryd.func50, Tryd.ntmps50
          go_wp2_with (first | (go_at_call 90; refine (hlet _).mono ?_; rintro e w' ⟨rfl, rfl⟩) | (go_at_call 91; refine (hdig _).mono ?_; rintro e w' ⟨rfl, rfl⟩) | (go_at_call 96; refine (hbet _).mono ?_; rintro e w1 ⟨rfl, hb1⟩; obtain ⟨hc1, hf1⟩ := bcell hb1; have hz1 : w.heap.size < w1.heap.size := (by have := hb1.size; simp at this; omega); have bw1 : Below w.heap.size w w1 := ((Below.refl _ _).alloc (Nat.le_refl _) _).trans (hb1.mono (by simp)); clear hb1))
          refine bodyPost_ret (v := .tuple #[.agg #[.int .i64 0, .string ⟨#[]⟩, .int .i64 0], .int .i64 0, .int .i64 2, .int .i64 (a : Int)]) (by simp [results, Tryd.results50, go_sem, hc1, hf1, hz1]) rfl ⟨?_, ?_⟩
          · rw [HR.out]; exact retV (cutT_err a 2 0 _ (by omega))
          · exact ((bw1.setCell (Nat.le_refl _) _).setCell (Nat.le_refl _) _).setCell (Nat.le_refl _) _
        | some x =>
          have hl := hlen x.1 x.2 hu
          rw [List.length_drop, hsl] at hl
          rw [hu] at hbet hcl
          clear hlen hu
          obtain ⟨x1, x2⟩ := x
          simp only at hbet hl hcl
          obtain ⟨c, hcd⟩ : ∃ c : ByteArray, c = ⟨x1.toArray⟩ := ⟨_, rfl⟩
          have hx1 : x1 = c.data.toList := by rw [hcd]
          rw [← hcd] at hbet
          clear hcd
          subst hx1
          have hcs : c.data.toList.length = c.size := by simp
          rw [hcs] at hl hcl
          have hend : ¬ (((a + 1 + x2 : Nat) : Int)) < 0 := by omega
          have hpr := fun w => printable_any c w (by unfold maxLen; omega)
          have hemp : c.data.toList = [] ↔ c.size = 0 := by rw [← hcs, List.length_eq_zero_iff]
          obtain ⟨E, hE⟩ : ∃ E : Int, ((a + 1 + x2 : Nat) : Int) = E := ⟨_, rfl⟩
          rw [hE] at hbet hend
          have HEE : Hid (E = ((a + (x2 + 1) : Nat) : Int)) := by show E = _; rw [← hE]; congr 1; omega
          clear hE
          by_cases e0 : c.size = 0
          · have HR : Hid (r = .err 2 0) := by rw [if_pos (.inl (hemp.2 e0))] at hcl; exact hcl
            have he : c.toList = [] := by rw [Lib.toList_data]; exact hemp.2 e0
            clear hcl hemp
            go_enter Tryd.func50, Tryd.ntmps50
            go_wp2_with (first | (go_at_call 90; refine (hlet _).mono ?_; rintro e w' ⟨rfl, rfl⟩) | (go_at_call 91; refine (hdig _).mono ?_; rintro e w' ⟨rfl, rfl⟩) | (go_at_call 96; refine (hbet _).mono ?_; rintro e w1 ⟨rfl, hb1⟩; obtain ⟨hc1, hf1⟩ := bcell hb1; have hz1 : w.heap.size < w1.heap.size := (by have := hb1.size; simp at this; omega); have bw1 : Below w.heap.size w w1 := ((Below.refl _ _).alloc (Nat.le_refl _) _).trans (hb1.mono (by simp)); clear hb1) | (go_at_call 89; refine (hpr _).mono ?_; rintro e w' ⟨rfl, rfl⟩))
            refine bodyPost_ret (v := .tuple #[.agg #[.int .i64 0, .string ⟨#[]⟩, .int .i64 0], .int .i64 0, .int .i64 2, .int .i64 (a : Int)]) (by simp [results, Tryd.results50, go_sem, hc1, hf1, hz1]) rfl ⟨?_, ?_⟩
            · rw [HR.out]; exact retV (cutT_err a 2 0 _ (by omega))
            · exact ((bw1.setCell (Nat.le_refl _) _).setCell (Nat.le_refl _) _).setCell (Nat.le_refl _) _
          · have hne : ¬ c.data.toList = [] := fun z => e0 (hemp.1 z)
            have he : c.toList.isEmpty = false := by rw [Lib.toList_data]; simpa using hne
            have he2 : (c.toList == []) = false := by rw [Lib.toList_data, beq_eq_false_iff_ne]; exact hne
            have hrr := runN_le priI c.data.toList
            rw [hcs] at hrr
            by_cases hp : runN priI c.data.toList < c.size
            · have HR : Hid (r = .err 2 0) := by rw [if_pos (.inr hp)] at hcl; exact hcl
              have hpd : decide (runN priI c.data.toList = c.size) = false := by simp; omega
              rw [hpd] at hpr
              clear hcl hemp hne hpd
              go_enter Tryd.func50, Tryd.ntmps50
              go_wp2_with (first | (go_at_call 90; refine (hlet _).mono ?_; rintro e w' ⟨rfl, rfl⟩) | (go_at_call 91; refine (hdig _).mono ?_; rintro e w' ⟨rfl, rfl⟩) | (go_at_call 96; refine (hbet _).mono ?_; rintro e w1 ⟨rfl, hb1⟩; obtain ⟨hc1, hf1⟩ := bcell hb1; have hz1 : w.heap.size < w1.heap.size := (by have := hb1.size; simp at this; omega); have bw1 : Below w.heap.size w w1 := ((Below.refl _ _).alloc (Nat.le_refl _) _).trans (hb1.mono (by simp)); clear hb1) | (go_at_call 89; refine (hpr _).mono ?_; rintro e w' ⟨rfl, rfl⟩))
              refine bodyPost_ret (v := .tuple #[.agg #[.int .i64 0, .string ⟨#[]⟩, .int .i64 0], .int .i64 0, .int .i64 2, .int .i64 (a : Int)]) (by simp [results, Tryd.results50, go_sem, hc1, hf1, hz1]) rfl ⟨?_, ?_⟩
              · rw [HR.out]; exact retV (cutT_err a 2 0 _ (by omega))
              · exact ((bw1.setCell (Nat.le_refl _) _).setCell (Nat.le_refl _) _).setCell (Nat.le_refl _) _
            · have hpd : decide (runN priI c.data.toList = c.size) = true := by simp; omega
              rw [hpd] at hpr
              rw [if_neg (fun z => z.elim hne hp)] at hcl
              clear hemp hne hpd
              by_cases h30 : 30 < c.size
              · have HR : Hid (r = .err 5 0) := by rw [if_pos h30] at hcl; exact hcl
                clear hcl
                go_enter Tryd.func50, Tryd.ntmps50
                go_wp2_with (first | (go_at_call 90; refine (hlet _).mono ?_; rintro e w' ⟨rfl, rfl⟩) | (go_at_call 91; refine (hdig _).mono ?_; rintro e w' ⟨rfl, rfl⟩) | (go_at_call 96; refine (hbet _).mono ?_; rintro e w1 ⟨rfl, hb1⟩; obtain ⟨hc1, hf1⟩ := bcell hb1; have hz1 : w.heap.size < w1.heap.size := (by have := hb1.size; simp at this; omega); have bw1 : Below w.heap.size w w1 := ((Below.refl _ _).alloc (Nat.le_refl _) _).trans (hb1.mono (by simp)); clear hb1) | (go_at_call 89; refine (hpr _).mono ?_; rintro e w' ⟨rfl, rfl⟩))
                refine bodyPost_ret (v := .tuple #[.agg #[.int .i64 0, .string ⟨#[]⟩, .int .i64 0], .int .i64 0, .int .i64 5, .int .i64 (a : Int)]) (by simp [results, Tryd.results50, go_sem, hc1, hf1, hz1]) rfl ⟨?_, ?_⟩
                · rw [HR.out]; exact retV (cutT_err a 5 0 _ (by omega))
                · exact ((bw1.setCell (Nat.le_refl _) _).setCell (Nat.le_refl _) _).setCell (Nat.le_refl _) _
              · have HR : Hid (r = .tok 2 c.data.toList (x2 + 1)) := by rw [if_neg h30] at hcl; exact hcl
                clear hcl
                go_enter Tryd.func50, Tryd.ntmps50
                go_wp2_with (first | (go_at_call 90; refine (hlet _).mono ?_; rintro e w' ⟨rfl, rfl⟩) | (go_at_call 91; refine (hdig _).mono ?_; rintro e w' ⟨rfl, rfl⟩) | (go_at_call 96; refine (hbet _).mono ?_; rintro e w1 ⟨rfl, hb1⟩; obtain ⟨hc1, hf1⟩ := bcell hb1; have hz1 : w.heap.size < w1.heap.size := (by have := hb1.size; simp at this; omega); have bw1 : Below w.heap.size w w1 := ((Below.refl _ _).alloc (Nat.le_refl _) _).trans (hb1.mono (by simp)); clear hb1) | (go_at_call 89; refine (hpr _).mono ?_; rintro e w' ⟨rfl, rfl⟩))
                refine bodyPost_ret (v := .tuple #[.agg #[.int .i64 2, .string c, .int .i64 (a : Int)], .int .i64 E, .int .i64 0, .int .i64 0]) (by simp [results, Tryd.results50, go_sem, hc1, hf1, hz1]) rfl ⟨?_, ?_⟩
                · rw [HR.out]; exact retV (cutT_tok a 2 c _ _ HEE.out)
                · exact ((bw1.setCell (Nat.le_refl _) _).setCell (Nat.le_refl _) _).setCell (Nat.le_refl _) _
      · have h34i : ((c0.toNat : Int) == 34) = false := by rw [beq_eq_false_iff_ne]; exact fun z => h34 (UInt8.toNat.inj (show c0.toNat = 34 by omega))
        rw [if_neg h34] at hcl
        by_cases h39 : c0 = 39
        · rw [if_pos h39] at hcl
          have h39i : (c0.toNat : Int) = 39 := by rw [h39]; rfl
          rw [h39i] at hlet hdig
          have hbet := fun w => between_any s a 39 w (by omega) ha (by rw [hc0]; exact h39)
          unfold BetPost at hbet
          have hlen := unq_len 39 (s.data.toList.drop (a + 1))
          unfold strL at hcl
          rw [hd1] at hcl
          clear hw hd h39 h34i h34
          cases hu : unq 39 (s.data.toList.drop (a + 1)) with
          | none =>
            rw [hu] at hbet hcl
            have HR : Hid (r = .err 2 0) := hcl
            have hch := fun w => chars_ok ⟨#[]⟩ [] w (by decide) (by kernel_rfl)
            clear hcl hlen hu
            go_enter Tryd.func50, Tryd.ntmps50
            go_wp2_with (first | (go_at_call 90; refine (hlet _).mono ?_; rintro e w' ⟨rfl, rfl⟩) | (go_at_call 91; refine (hdig _).mono ?_; rintro e w' ⟨rfl, rfl⟩) | (go_at_call 96; refine (hbet _).mono ?_; rintro e w1 ⟨rfl, hb1⟩; obtain ⟨hc1, hf1⟩ := bcell hb1; have hz1 : w.heap.size < w1.heap.size := (by have := hb1.size; simp at this; omega); have bw1 : Below w.heap.size w w1 := ((Below.refl _ _).alloc (Nat.le_refl _) _).trans (hb1.mono (by simp)); clear hb1) | (go_at_call 35; refine (hch _).mono ?_; rintro e w2 ⟨ca, cc, rfl, hb2⟩; obtain ⟨hc2, hf2⟩ := bcell hb2; have hz2 : w.heap.size < w2.heap.size := (by have := hb2.size; omega); have bw2 : Below w.heap.size w w2 := bw1.trans (hb2.mono (Nat.le_of_lt hz1)); clear hb2))
            refine bodyPost_ret (v := .tuple #[.agg #[.int .i64 0, .string ⟨#[]⟩, .int .i64 0], .int .i64 0, .int .i64 2, .int .i64 (a : Int)]) (by simp [results, Tryd.results50, go_sem, hc1, hf1, hz1, hc2, hf2, hz2]) rfl ⟨?_, ?_⟩
            · rw [HR.out]; exact retV (cutT_err a 2 0 _ (by omega))
            · exact ((bw2.setCell (Nat.le_refl _) _).setCell (Nat.le_refl _) _).setCell (Nat.le_refl _) _
          | some x =>
            have hl := hlen x.1 x.2 hu
            rw [List.length_drop, hsl] at hl
            rw [hu] at hbet hcl
            clear hlen hu
            obtain ⟨x1, x2⟩ := x
            simp only at hbet hl hcl
            obtain ⟨c, hcd⟩ : ∃ c : ByteArray, c = ⟨x1.toArray⟩ := ⟨_, rfl⟩
            have hx1 : x1 = c.data.toList := by rw [hcd]
            rw [← hcd] at hbet hcl
            clear hcd
            subst hx1
            have hcs : c.data.toList.length = c.size := by simp
            rw [hcs] at hl
            have hend : ¬ (((a + 1 + x2 : Nat) : Int)) < 0 := by omega
            obtain ⟨E, hE⟩ : ∃ E : Int, ((a + 1 + x2 : Nat) : Int) = E := ⟨_, rfl⟩
            rw [hE] at hbet hend
            have HEE : Hid (E = ((a + (x2 + 1) : Nat) : Int)) := by show E = _; rw [← hE]; congr 1; omega
            clear hE
            cases hcc : chars c with
            | none =>
              rw [hcc] at hcl
              have HR : Hid (r = .err 2 0) := hcl
              have hch := fun w => chars_bad c w (by omega) hcc
              clear hcl hcc
              go_enter Tryd.func50, Tryd.ntmps50
              go_wp2_with (first | (go_at_call 90; refine (hlet _).mono ?_; rintro e w' ⟨rfl, rfl⟩) | (go_at_call 91; refine (hdig _).mono ?_; rintro e w' ⟨rfl, rfl⟩) | (go_at_call 96; refine (hbet _).mono ?_; rintro e w1 ⟨rfl, hb1⟩; obtain ⟨hc1, hf1⟩ := bcell hb1; have hz1 : w.heap.size < w1.heap.size := (by have := hb1.size; simp at this; omega); have bw1 : Below w.heap.size w w1 := ((Below.refl _ _).alloc (Nat.le_refl _) _).trans (hb1.mono (by simp)); clear hb1) | (go_at_call 35; refine (hch _).mono ?_; rintro e w2 ⟨ca, rfl, hb2⟩; obtain ⟨hc2, hf2⟩ := bcell hb2; have hz2 : w.heap.size < w2.heap.size := (by have := hb2.size; omega); have bw2 : Below w.heap.size w w2 := bw1.trans (hb2.mono (Nat.le_of_lt hz1)); clear hb2))
              refine bodyPost_ret (v := .tuple #[.agg #[.int .i64 0, .string ⟨#[]⟩, .int .i64 0], .int .i64 0, .int .i64 2, .int .i64 (a : Int)]) (by simp [results, Tryd.results50, go_sem, hc1, hf1, hz1, hc2, hf2, hz2]) rfl ⟨?_, ?_⟩
              · rw [HR.out]; exact retV (cutT_err a 2 0 _ (by omega))
              · exact ((bw2.setCell (Nat.le_refl _) _).setCell (Nat.le_refl _) _).setCell (Nat.le_refl _) _
            | some cs =>
              rw [hcc] at hcl
              simp only at hcl
              have hch := fun w => chars_ok c cs w (by omega) hcc
              have hcnt := (count_eq c cs hcc).2.2
              clear hcc
              generalize cs.length = m at *
              by_cases h255 : 255 < m
              · have HR : Hid (r = .err 5 0) := by rw [if_pos h255] at hcl; exact hcl
                have hmi : (255 : Int) < m := by omega
                clear hcl
                go_enter Tryd.func50, Tryd.ntmps50
                go_wp2_with (first | (go_at_call 90; refine (hlet _).mono ?_; rintro e w' ⟨rfl, rfl⟩) | (go_at_call 91; refine (hdig _).mono ?_; rintro e w' ⟨rfl, rfl⟩) | (go_at_call 96; refine (hbet _).mono ?_; rintro e w1 ⟨rfl, hb1⟩; obtain ⟨hc1, hf1⟩ := bcell hb1; have hz1 : w.heap.size < w1.heap.size := (by have := hb1.size; simp at this; omega); have bw1 : Below w.heap.size w w1 := ((Below.refl _ _).alloc (Nat.le_refl _) _).trans (hb1.mono (by simp)); clear hb1) | (go_at_call 35; refine (hch _).mono ?_; rintro e w2 ⟨ca, cc, rfl, hb2⟩; obtain ⟨hc2, hf2⟩ := bcell hb2; have hz2 : w.heap.size < w2.heap.size := (by have := hb2.size; omega); have bw2 : Below w.heap.size w w2 := bw1.trans (hb2.mono (Nat.le_of_lt hz1)); clear hb2))
                refine bodyPost_ret (v := .tuple #[.agg #[.int .i64 0, .string ⟨#[]⟩, .int .i64 0], .int .i64 0, .int .i64 5, .int .i64 (a : Int)]) (by simp [results, Tryd.results50, go_sem, hc1, hf1, hz1, hc2, hf2, hz2]) rfl ⟨?_, ?_⟩
                · rw [HR.out]; exact retV (cutT_err a 5 0 _ (by omega))
                · exact ((bw2.setCell (Nat.le_refl _) _).setCell (Nat.le_refl _) _).setCell (Nat.le_refl _) _
              · have HR : Hid (r = .tok 5 c.data.toList (x2 + 1)) := by rw [if_neg h255] at hcl; exact hcl
                have hmi : ¬ (255 : Int) < m := by omega
                clear hcl
                go_enter Tryd.func50, Tryd.ntmps50
                go_wp2_with (first | (go_at_call 90; refine (hlet _).mono ?_; rintro e w' ⟨rfl, rfl⟩) | (go_at_call 91; refine (hdig _).mono ?_; rintro e w' ⟨rfl, rfl⟩) | (go_at_call 96; refine (hbet _).mono ?_; rintro e w1 ⟨rfl, hb1⟩; obtain ⟨hc1, hf1⟩ := bcell hb1; have hz1 : w.heap.size < w1.heap.size := (by have := hb1.size; simp at this; omega); have bw1 : Below w.heap.size w w1 := ((Below.refl _ _).alloc (Nat.le_refl _) _).trans (hb1.mono (by simp)); clear hb1) | (go_at_call 35; refine (hch _).mono ?_; rintro e w2 ⟨ca, cc, rfl, hb2⟩; obtain ⟨hc2, hf2⟩ := bcell hb2; have hz2 : w.heap.size < w2.heap.size := (by have := hb2.size; omega); have bw2 : Below w.heap.size w w2 := bw1.trans (hb2.mono (Nat.le_of_lt hz1)); clear hb2))
                refine bodyPost_ret (v := .tuple #[.agg #[.int .i64 5, .string c, .int .i64 (a : Int)], .int .i64 E, .int .i64 0, .int .i64 0]) (by simp [results, Tryd.results50, go_sem, hc1, hf1, hz1, hc2, hf2, hz2]) rfl ⟨?_, ?_⟩
                · rw [HR.out]; exact retV (cutT_tok a 5 c _ _ HEE.out)
                · exact ((bw2.setCell (Nat.le_refl _) _).setCell (Nat.le_refl _) _).setCell (Nat.le_refl _) _
        · have h39i : ((c0.toNat : Int) == 39) = false := by rw [beq_eq_false_iff_ne]; exact fun z => h39 (UInt8.toNat.inj (show c0.toNat = 39 by omega))
          rw [if_neg h39] at hcl
          have hsig := fun w => signAt_any s a w (by omega) (by omega)
          unfold sigL at hcl
          clear hw hd h34 h39
          cases hu : sigAt (s.data.toList.drop a) with
          | none =>
            rw [hu] at hsig hcl
            have HR : Hid (r = .err 2 0) := hcl
            clear hcl hu
            simp only [Option.getD_none] at hsig
            go_enter Tryd.func50, Tryd.ntmps50
            go_wp2_with (first | (go_at_call 90; refine (hlet _).mono ?_; rintro e w' ⟨rfl, rfl⟩) | (go_at_call 91; refine (hdig _).mono ?_; rintro e w' ⟨rfl, rfl⟩) | (go_at_call 97; refine (hsig _).mono ?_; rintro e w1 ⟨rfl, hb1⟩; obtain ⟨hc1, hf1⟩ := bcell hb1; have hz1 : w.heap.size < w1.heap.size := (by have := hb1.size; simp at this; omega); have bw1 : Below w.heap.size w w1 := ((Below.refl _ _).alloc (Nat.le_refl _) _).trans (hb1.mono (by simp)); clear hb1))
            refine bodyPost_ret (v := .tuple #[.agg #[.int .i64 0, .string ⟨#[]⟩, .int .i64 0], .int .i64 0, .int .i64 2, .int .i64 (a : Int)]) (by simp [results, Tryd.results50, go_sem, hc1, hf1, hz1]) rfl ⟨?_, ?_⟩
            · rw [HR.out]; exact retV (cutT_err a 2 0 _ (by omega))
            · exact ((bw1.setCell (Nat.le_refl _) _).setCell (Nat.le_refl _) _).setCell (Nat.le_refl _) _
          | some x1 =>
            have hxl := sigAt_len hu
            rw [hdl] at hxl
            rw [hu] at hsig hcl
            simp only [Option.getD_some] at hsig hcl
            clear hu
            obtain ⟨c, hcd⟩ : ∃ c : ByteArray, c = ⟨x1.toArray⟩ := ⟨_, rfl⟩
            have hx1 : x1 = c.data.toList := by rw [hcd]
            rw [← hcd] at hsig
            clear hcd
            subst hx1
            have hcs : c.data.toList.length = c.size := by simp
            rw [hcs] at hxl hcl
            have hne : ¬ c.data.toList = [] := fun z => by rw [z] at hcs; simp at hcs; omega
            have he : c.toList.isEmpty = false := by rw [Lib.toList_data]; simpa using hne
            have he2 : (c.toList == []) = false := by rw [Lib.toList_data, beq_eq_false_iff_ne]; exact hne
            by_cases h33 : c = ⟨#[33, 61]⟩
            · have HR : Hid (r = .tok 6 [60, 62] 2) := by rw [h33] at hcl; exact hcl
              have h33' : (c.toList == [33, 61]) = true := by rw [Lib.toList_data, beq_iff_eq, h33]
              have hsz : (c.size : Int) = 2 := by rw [h33]; rfl
              clear hcl hne h33
              go_enter Tryd.func50, Tryd.ntmps50
              go_wp2_with (first | (go_at_call 90; refine (hlet _).mono ?_; rintro e w' ⟨rfl, rfl⟩) | (go_at_call 91; refine (hdig _).mono ?_; rintro e w' ⟨rfl, rfl⟩) | (go_at_call 97; refine (hsig _).mono ?_; rintro e w1 ⟨rfl, hb1⟩; obtain ⟨hc1, hf1⟩ := bcell hb1; have hz1 : w.heap.size < w1.heap.size := (by have := hb1.size; simp at this; omega); have bw1 : Below w.heap.size w w1 := ((Below.refl _ _).alloc (Nat.le_refl _) _).trans (hb1.mono (by simp)); clear hb1))
              refine bodyPost_ret (v := .tuple #[.agg #[.int .i64 6, .string ⟨#[60, 62]⟩, .int .i64 (a : Int)], .int .i64 ((a : Int) + 2), .int .i64 0, .int .i64 0]) (by simp [results, Tryd.results50, go_sem, hc1, hf1, hz1]) rfl ⟨?_, ?_⟩
              · rw [HR.out]; exact retV (cutT_tok a 6 ⟨#[60, 62]⟩ 2 _ (by omega))
              · exact (((bw1.setCell (Nat.le_refl _) _).setCell (Nat.le_refl _) _).setCell (Nat.le_refl _) _).alloc (by simp; omega) _
            · have h33' : (c.toList == [33, 61]) = false := by rw [Lib.toList_data, beq_eq_false_iff_ne]; intro z; exact h33 (ba_ext z)
              have HR : Hid (r = .tok 6 c.data.toList c.size) := by rw [if_neg (fun z => h33 (ba_ext z))] at hcl; exact hcl
              clear hcl hne h33
              go_enter Tryd.func50, Tryd.ntmps50
              go_wp2_with (first | (go_at_call 90; refine (hlet _).mono ?_; rintro e w' ⟨rfl, rfl⟩) | (go_at_call 91; refine (hdig _).mono ?_; rintro e w' ⟨rfl, rfl⟩) | (go_at_call 97; refine (hsig _).mono ?_; rintro e w1 ⟨rfl, hb1⟩; obtain ⟨hc1, hf1⟩ := bcell hb1; have hz1 : w.heap.size < w1.heap.size := (by have := hb1.size; simp at this; omega); have bw1 : Below w.heap.size w w1 := ((Below.refl _ _).alloc (Nat.le_refl _) _).trans (hb1.mono (by simp)); clear hb1))
              refine bodyPost_ret (v := .tuple #[.agg #[.int .i64 6, .string c, .int .i64 (a : Int)], .int .i64 ((a : Int) + c.size), .int .i64 0, .int .i64 0]) (by simp [results, Tryd.results50, go_sem, hc1, hf1, hz1]) rfl ⟨?_, ?_⟩
              · rw [HR.out]; exact retV (cutT_tok a 6 c c.size _ (by omega))
              · exact (((bw1.setCell (Nat.le_refl _) _).setCell (Nat.le_refl _) _).setCell (Nat.le_refl _) _).alloc (by simp; omega) _
    · rw [hd] at hdig hcl
      simp only [if_true] at hcl
      have hnum := fun w => number_any s a w hs ha (by rw [hci]; exact hd)
      have hns := @cut_size (s.data.toList.drop a)
      have HR : Hid (r = numL (s.data.toList.drop a)) := hcl
      clear hw hd hcl
      cases hnl : numL (s.data.toList.drop a) with
      | err c f =>
        rw [hnl] at hnum
        have HR2 : Hid (r = .err c f) := HR.out.trans hnl
        clear hnl HR
        simp only [cutT] at hnum
        go_enter Tryd.func50, Tryd.ntmps50
        go_wp2_with (first | (go_at_call 90; refine (hlet _).mono ?_; rintro e w' ⟨rfl, rfl⟩) | (go_at_call 91; refine (hdig _).mono ?_; rintro e w' ⟨rfl, rfl⟩) | (go_at_call 95; refine (hnum _).mono ?_; rintro e w1 ⟨rfl, hb1⟩; obtain ⟨hc1, hf1⟩ := bcell hb1; have hz1 : w.heap.size < w1.heap.size := (by have := hb1.size; simp at this; omega); have bw1 : Below w.heap.size w w1 := ((Below.refl _ _).alloc (Nat.le_refl _) _).trans (hb1.mono (by simp)); clear hb1))
        refine bodyPost_ret (v := .tuple #[.agg #[.int .i64 0, .string ⟨#[]⟩, .int .i64 0], .int .i64 0, .int .i64 c, .int .i64 ((a + f : Nat) : Int)]) (by simp [results, Tryd.results50, go_sem, hc1, hf1, hz1]) rfl ⟨?_, ?_⟩
        · rw [HR2.out]; rfl
        · exact ((bw1.setCell (Nat.le_refl _) _).setCell (Nat.le_refl _) _).setCell (Nat.le_refl _) _
      | tok k x n =>
        rw [hnl] at hnum
        have HR2 : Hid (r = .tok k x n) := HR.out.trans hnl
        clear hnl HR
        simp only [cutT] at hnum
        go_enter Tryd.func50, Tryd.ntmps50
        go_wp2_with (first | (go_at_call 90; refine (hlet _).mono ?_; rintro e w' ⟨rfl, rfl⟩) | (go_at_call 91; refine (hdig _).mono ?_; rintro e w' ⟨rfl, rfl⟩) | (go_at_call 95; refine (hnum _).mono ?_; rintro e w1 ⟨rfl, hb1⟩; obtain ⟨hc1, hf1⟩ := bcell hb1; have hz1 : w.heap.size < w1.heap.size := (by have := hb1.size; simp at this; omega); have bw1 : Below w.heap.size w w1 := ((Below.refl _ _).alloc (Nat.le_refl _) _).trans (hb1.mono (by simp)); clear hb1))
        refine bodyPost_ret (v := .tuple #[.agg #[.int .i64 k, .string ⟨x.toArray⟩, .int .i64 (a : Int)], .int .i64 ((a + n : Nat) : Int), .int .i64 0, .int .i64 0]) (by simp [results, Tryd.results50, go_sem, hc1, hf1, hz1]) rfl ⟨?_, ?_⟩
        · rw [HR2.out]; rfl
        · exact ((bw1.setCell (Nat.le_refl _) _).setCell (Nat.le_refl _) _).setCell (Nat.le_refl _) _
  · rw [hw] at hlet hcl
    simp only [if_true] at hcl
    have hrun := fun w => run_any s a true w (by unfold maxLen; omega) (by omega)
    simp only [if_true] at hrun
    have hrl := runN_le goI (s.data.toList.drop a)
    rw [hdl] at hrl
    unfold wordL at hcl
    have HT : Hid (((s.data.toList.drop a).take (runN goI (s.data.toList.drop a))) = (s.extract a (a + runN goI (s.data.toList.drop a))).data.toList) := by
      show _ = _
      rw [ba_mid, Nat.add_sub_cancel_left]
    clear hw
    generalize runN goI (s.data.toList.drop a) = n at *
    by_cases h30 : 30 < n
    · have HR : Hid (r = .err 5 0) := by rw [if_pos h30] at hcl; exact hcl
      have h30i : (30 : Int) < n := by omega
      clear hcl
      go_enter Tryd.func50, Tryd.ntmps50
      go_wp2_with (first | (go_at_call 90; refine (hlet _).mono ?_; rintro e w' ⟨rfl, rfl⟩) | (go_at_call 91; refine (hdig _).mono ?_; rintro e w' ⟨rfl, rfl⟩) | (go_at_call 93; refine (hrun _).mono ?_; rintro e w' ⟨rfl, rfl⟩))
      refine bodyPost_ret (v := .tuple #[.agg #[.int .i64 0, .string ⟨#[]⟩, .int .i64 0], .int .i64 0, .int .i64 5, .int .i64 (a : Int)]) (by simp [results, Tryd.results50, go_sem]) rfl ⟨?_, ?_⟩
      · rw [HR.out]; exact retV (cutT_err a 5 0 _ (by omega))
      · exact (Below.refl _ _).alloc (Nat.le_refl _) _
    · have h30i : ¬ (30 : Int) < n := by omega
      rw [if_neg h30] at hcl
      have hcase := fun w => case_any (s.extract a (a + n)) w (by simp; omega)
      rw [← HT.out] at hcase
      obtain ⟨t, ht⟩ : ∃ t : ByteArray, t = ⟨(((s.data.toList.drop a).take n).map lowC).toArray⟩ := ⟨_, rfl⟩
      rw [← ht] at hcase
      have HR : Hid (r = .tok 1 t.data.toList n) := by show r = _; rw [hcl, ht]
      clear hcl ht HT
      go_enter Tryd.func50, Tryd.ntmps50
      go_wp2_with (first | (go_at_call 90; refine (hlet _).mono ?_; rintro e w' ⟨rfl, rfl⟩) | (go_at_call 91; refine (hdig _).mono ?_; rintro e w' ⟨rfl, rfl⟩) | (go_at_call 93; refine (hrun _).mono ?_; rintro e w' ⟨rfl, rfl⟩) | (go_at_call 94; refine (hcase _).mono ?_; rintro e w1 ⟨rfl, hb1⟩; obtain ⟨hc1, hf1⟩ := bcell hb1; have hz1 : w.heap.size < w1.heap.size := (by have := hb1.size; simp at this; omega); have bw1 : Below w.heap.size w w1 := ((Below.refl _ _).alloc (Nat.le_refl _) _).trans (hb1.mono (by simp)); clear hb1))
      refine bodyPost_ret (v := .tuple #[.agg #[.int .i64 1, .string t, .int .i64 (a : Int)], .int .i64 ((a : Int) + n), .int .i64 0, .int .i64 0]) (by simp [results, Tryd.results50, go_sem, hc1, hf1, hz1]) rfl ⟨?_, ?_⟩
      · rw [HR.out]; exact retV (cutT_tok a 1 t n _ (by omega))
      · exact ((bw1.setCell (Nat.le_refl _) _).setCell (Nat.le_refl _) _).setCell (Nat.le_refl _) _
end Go.Proofs.YtcgnkcehjcednaaDoor
