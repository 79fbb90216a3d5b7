import Derived.Test.YtjpcgnkgdaphoaaDoorX1
import Derived.Deep.LoopGhost
import Derived.WalkMore
import Derived.ScopeJumps
namespace Go.Proofs.YtjpcgnkgdaphoaaDoor
open Go.ChangeShapes Go.WideShapes Go.ChangeAt Go.RowKit Go.Shelf
set_option linter.unusedVariables false
set_option linter.unusedSimpArgs false
set_option maxRecDepth 100000
theorem cells3 (W : World) (B : Nat) (hB : B = W.heap.size) (a b c : Value) (ty : TypeId) : ∀ j u, ([a, b, c] : List Value)[j]? = some u → (W.alloc (.cells #[a, b, c] ty)).cell? ((⟨B, 0, none⟩ : Addr).add j) = some u := by
  subst hB
  intro j u h
  match j, h with
  | 0, h => simp at h; subst h; simp [Addr.add]
  | 1, h => simp at h; subst h; simp [Addr.add]
  | 2, h => simp at h; subst h; simp [Addr.add]
  | j + 3, h => simp at h
theorem pre_cmt (l : List UInt8) (p : Nat) : ([45, 45] : List UInt8).isPrefixOf (l.drop p) = cmtAt l p := by
  unfold cmtAt
  cases h : l[p]? with
  | none => rw [drop_nil l p h]; simp
  | some c =>
    rw [drop_cons l p c h]
    cases h2 : l[p + 1]? with
    | none => rw [drop_nil l (p + 1) h2]; simp [List.isPrefixOf]
    | some d => rw [drop_cons l (p + 1) d h2]; simp [List.isPrefixOf]; rw [Bool.eq_iff_iff]; simp; constructor <;> (rintro ⟨a, b⟩; exact ⟨a.symm, b.symm⟩)
set_option maxHeartbeats 8000000 in
theorem lex_any (s : ByteArray) (w : World) (hs : s.size ≤ 8000) (hT : Tabs w) : Calls Tryd.prog 21 #[.string s] w fun e w' => LexPost s w e w' := by
  have hsl : s.data.toList.length = s.size := by simp
  obtain ⟨i0, hi, hz0, hz1i, hz2⟩ := info_parts info47
  go_enter Tryd.func21, Tryd.ntmps21
  go_wp2
  go_step3
  go_wp2
  go_step3
  go_wp2
  go_loopg [5, 6] s.size (fun g v i wr => ∃ (p : Nat) (acc : List Tok), p + g = s.size ∧ i = .int .i64 p ∧ acc.length ≤ 2000 ∧ Hid (∀ r, LexR s.data.toList p acc r → LexR s.data.toList 0 [] r) ∧ wr.ownsRow w.heap.size 35 3 v acc.length (tcells acc) ∧ Below w.heap.size w wr)
  case atStart => exact ⟨0, [], by omega, rfl, by simp, fun r h => h, World.ownsRow_nil _ _ _ _, Below.refl _ _⟩
  case round =>
    obtain ⟨p, acc, hpg, rfl, hal, HC, hown, hbel⟩ := hrel
    have hbs := hbel.size
    obtain ⟨la, lc, hu5⟩ := owns_slice hown
    subst hu5
    by_cases hlt : p < s.size
    · have hlti : (p : Int) < s.size := by omega
      have HG : Hid (s.data.toList[p]? = some (s[p]'hlt)) := bl_get s p hlt
      have hTa : ∀ o, Tabs (wr.alloc o) := fun o => tabs_below hT (hbel.alloc hbs o)
      have hne : (Value.slice la acc.length lc).ownBlock ≠ some wr.heap.size := fun z => by have := (hown.lt _ z).2; omega
      obtain ⟨c0, hc0⟩ : ∃ c0 : UInt8, s[p]'hlt = c0 := ⟨_, rfl⟩
      have hci : ((s[p]'hlt).toNat : Int) = (c0.toNat : Int) := by rw [hc0]
      cases hbl : blank c0
      · have HBL : Hid (blank (s[p]'hlt) = false) := by rw [hc0]; exact hbl
        unfold blank at hbl
        simp only [Bool.or_eq_false_iff, decide_eq_false_iff_not] at hbl
        obtain ⟨⟨⟨n32, n9⟩, n10⟩, n13⟩ := hbl
        have n32 : ((c0.toNat : Int) == 32) = false := by rw [beq_eq_false_iff_ne]; exact fun z => n32 (UInt8.toNat.inj (show c0.toNat = 32 by omega))
        have n9 : ((c0.toNat : Int) == 9) = false := by rw [beq_eq_false_iff_ne]; exact fun z => n9 (UInt8.toNat.inj (show c0.toNat = 9 by omega))
        have n10 : ((c0.toNat : Int) == 10) = false := by rw [beq_eq_false_iff_ne]; exact fun z => n10 (UInt8.toNat.inj (show c0.toNat = 10 by omega))
        have n13 : ((c0.toNat : Int) == 13) = false := by rw [beq_eq_false_iff_ne]; exact fun z => n13 (UInt8.toNat.inj (show c0.toNat = 13 by omega))
        have hpre := fun w => Tryd.strings_HasPrefix (s.extract p s.size) ⟨#[45, 45]⟩ w
        unfold Lib.hasPrefix at hpre
        rw [ba_drop, show (⟨#[45, 45]⟩ : ByteArray).data.toList.isPrefixOf (s.data.toList.drop p) = cmtAt s.data.toList p from pre_cmt _ _] at hpre
        cases hcm : cmtAt s.data.toList p
        · rw [hcm] at hpre
          have HCM : Hid (cmtAt s.data.toList p = false) := hcm
          clear hcm
          by_cases hm : acc.length = 2000
          · have hmi : ((acc.length : Int) == 2000) = true := by rw [beq_iff_eq]; omega
            have HM : Hid (acc.length = 2000) := hm
            clear hm
            go_wp2_with (go_at_call 26; refine (hpre _).mono ?_; rintro e w' ⟨rfl, rfl⟩)
            try rw [Exit.noGoto_ret]
            go_ret3
            exact LexPost.err (HC.out _ (LexR.many HG.out HBL.out HCM.out HM.out)) rfl (hbel.alloc hbs _)
          · have hbw := fun w => beginsWord_any (c0.toNat : Int) w
            have hdg := fun w => isDigit_any (c0.toNat : Int) w
            have hmi : ((acc.length : Int) == 2000) = false := by rw [beq_eq_false_iff_ne]; omega
            cases hw : wdI (c0.toNat : Int)
            · rw [hw] at hbw
              cases hd : digI (c0.toNat : Int)
              · rw [hd] at hdg
                by_cases h34 : c0 = 34
                · have hcut := arm_quo s p hs hlt (by rw [hc0]; exact h34)
                  have h34i : (c0.toNat : Int) = 34 := by rw [h34]; rfl
                  rw [h34i] at hbw hdg
                  clear hw hd h34
                  cases hcl : cutL (s.data.toList.drop p) with
                  | err c f =>
                    rw [hcl] at hcut
                    simp only [cutV] at hcut
                    have HK : Hid (cutL (s.data.toList.drop p) = .err c f) := hcl
                    have hce := cut_err hcl
                    rw [List.length_drop, hsl] at hce
                    have hcne : (c != 0) = true := by rw [bne_iff_ne]; omega
                    clear hcl
                    go_wp2_with (first | (go_at_call 26; refine (hpre _).mono ?_; rintro e w' ⟨rfl, rfl⟩) | (go_at_call 27; refine (hbw _).mono ?_; rintro e w' ⟨rfl, rfl⟩) | (go_at_call 29; refine (hdg _).mono ?_; rintro e w' ⟨rfl, rfl⟩) | (go_at_call 31; refine (hcut _ (hTa _)).mono ?_; rintro e w1 ⟨rfl, hb1⟩; obtain ⟨hc1, hf1⟩ := bcell hb1; have hz1 : wr.heap.size < w1.heap.size := (by have := hb1.size; simp at this; omega); have bw1 : Below w.heap.size w w1 := (hbel.alloc hbel.size _).trans (hb1.mono (by simp; omega)); have ho1 := own_below (hown.alloc _) hb1; clear hb1))
                    go_quiet (fail)
                    go_wp2
                    try rw [Exit.noGoto_ret]
                    go_ret3
                    exact LexPost.err (HC.out _ (LexR.bad HG.out HBL.out HCM.out hm HK.out)) (by omega) (below_drewN (by (go_light; repeat (first | with_reducible exact bw1 | (with_reducible refine Below.setCell ?_ ?_ _; rotate_left; (focus first | omega | (simp; omega) | (simp; done))) | (with_reducible refine Below.alloc ?_ ?_ _; rotate_left; (focus first | (simp; omega) | (simp; done) | omega)) | with_reducible refine Below.drew ?_))) _)
                  | tok k x n =>
                    rw [hcl] at hcut
                    simp only [cutV] at hcut
                    have HK : Hid (cutL (s.data.toList.drop p) = .tok k x n) := hcl
                    have hn := cut_size hcl
                    rw [List.length_drop, hsl] at hn
                    clear hcl
                    go_wp2_with (first | (go_at_call 26; refine (hpre _).mono ?_; rintro e w' ⟨rfl, rfl⟩) | (go_at_call 27; refine (hbw _).mono ?_; rintro e w' ⟨rfl, rfl⟩) | (go_at_call 29; refine (hdg _).mono ?_; rintro e w' ⟨rfl, rfl⟩) | (go_at_call 31; refine (hcut _ (hTa _)).mono ?_; rintro e w1 ⟨rfl, hb1⟩; obtain ⟨hc1, hf1⟩ := bcell hb1; have hz1 : wr.heap.size < w1.heap.size := (by have := hb1.size; simp at this; omega); have bw1 : Below w.heap.size w w1 := (hbel.alloc hbel.size _).trans (hb1.mono (by simp; omega)); have ho1 := own_below (hown.alloc _) hb1; clear hb1) | (at_builtin; go_loud (refine wpList_append_own _ rfl (.tmp 90) (.tmp 97) 39 rfl w.heap.size 35 i0 (.agg #[.int .i64 0, .string ⟨#[]⟩, .int .i64 0]) 3 32 Tryd.underlying39 hi hz0 hz1i hz2 rfl (by decide) (.slice la acc.length lc) acc.length (tcells acc) rfl (by (go_light; repeat (first | with_reducible exact ho1 | with_reducible refine ownsRow_setCell_other ?_ hne _ | with_reducible refine World.ownsRow.alloc ?_ _ | with_reducible refine World.ownsRow.drew ?_))) ⟨_, 0, none⟩ 1 1 [.int .i64 k, .string ⟨x.toArray⟩, .int .i64 (p : Int)] rfl rfl (cells3 _ _ (by simp) _ _ _ _) (by intro u hu; simp at hu; rcases hu with rfl | rfl | rfl <;> rfl) (by unfold maxLen; omega) (by omega) (by simp; omega) ?_); intro v' w2 hown' hgrow _; have hld : w2.cell? ⟨wr.heap.size, 2, none⟩ = some (.int .i64 n) := (World.cell?_of_block (a := ⟨wr.heap.size, 2, none⟩) (hgrow.block wr.heap.size (by simp; omega) (fun z => hne z.symm))).trans (by simp [go_sem, hc1, hf1, hz1])))
                    have HB2 : Hid (Below w.heap.size w w2) := Below.grown (by (go_light; repeat (first | with_reducible exact bw1 | (with_reducible refine Below.setCell ?_ ?_ _; rotate_left; (focus first | omega | (simp; omega) | (simp; done))) | (with_reducible refine Below.alloc ?_ ?_ _; rotate_left; (focus first | (simp; omega) | (simp; done) | omega)) | with_reducible refine Below.drew ?_))) hgrow (by simp; omega) (fun k hk => (hown.lt k hk).1)
                    have HO : Hid (w2.ownsRow w.heap.size 35 3 v' (acc ++ [(k, x, p)]).length (tcells (acc ++ [(k, x, p)]))) := by
                      show w2.ownsRow w.heap.size 35 3 v' (acc ++ [(k, x, p)]).length (tcells (acc ++ [(k, x, p)]))
                      rw [tcells_snoc]; simpa using hown'
                    clear hown' hgrow
                    go_roundg (s.size - (p + n))
                    case rel => exact ⟨p + n, acc ++ [(k, x, p)], by omega, by go_num, by simp; omega, fun r h => HC.out r (LexR.tok HG.out HBL.out HCM.out hm HK.out h), HO.out, HB2.out⟩
                    case measure => omega

                · have h34i : ((c0.toNat : Int) == 34) = false := by rw [beq_eq_false_iff_ne]; exact fun z => h34 (UInt8.toNat.inj (show c0.toNat = 34 by omega))
                  by_cases h39 : c0 = 39
                  · have hcut := arm_str s p hs hlt (by rw [hc0]; exact h39)
                    have h39i : (c0.toNat : Int) = 39 := by rw [h39]; rfl
                    rw [h39i] at hbw hdg
                    clear hw hd h39 h34i
                    cases hcl : cutL (s.data.toList.drop p) with
                    | err c f =>
                      rw [hcl] at hcut
                      simp only [cutV] at hcut
                      have HK : Hid (cutL (s.data.toList.drop p) = .err c f) := hcl
                      have hce := cut_err hcl
                      rw [List.length_drop, hsl] at hce
                      have hcne : (c != 0) = true := by rw [bne_iff_ne]; omega
                      clear hcl
                      go_wp2_with (first | (go_at_call 26; refine (hpre _).mono ?_; rintro e w' ⟨rfl, rfl⟩) | (go_at_call 27; refine (hbw _).mono ?_; rintro e w' ⟨rfl, rfl⟩) | (go_at_call 29; refine (hdg _).mono ?_; rintro e w' ⟨rfl, rfl⟩) | (go_at_call 32; refine (hcut _ (hTa _)).mono ?_; rintro e w1 ⟨rfl, hb1⟩; obtain ⟨hc1, hf1⟩ := bcell hb1; have hz1 : wr.heap.size < w1.heap.size := (by have := hb1.size; simp at this; omega); have bw1 : Below w.heap.size w w1 := (hbel.alloc hbel.size _).trans (hb1.mono (by simp; omega)); have ho1 := own_below (hown.alloc _) hb1; clear hb1))
                      go_quiet (fail)
                      go_wp2
                      try rw [Exit.noGoto_ret]
                      go_ret3
                      exact LexPost.err (HC.out _ (LexR.bad HG.out HBL.out HCM.out hm HK.out)) (by omega) (below_drewN (by (go_light; repeat (first | with_reducible exact bw1 | (with_reducible refine Below.setCell ?_ ?_ _; rotate_left; (focus first | omega | (simp; omega) | (simp; done))) | (with_reducible refine Below.alloc ?_ ?_ _; rotate_left; (focus first | (simp; omega) | (simp; done) | omega)) | with_reducible refine Below.drew ?_))) _)
                    | tok k x n =>
                      rw [hcl] at hcut
                      simp only [cutV] at hcut
                      have HK : Hid (cutL (s.data.toList.drop p) = .tok k x n) := hcl
                      have hn := cut_size hcl
                      rw [List.length_drop, hsl] at hn
                      clear hcl
                      go_wp2_with (first | (go_at_call 26; refine (hpre _).mono ?_; rintro e w' ⟨rfl, rfl⟩) | (go_at_call 27; refine (hbw _).mono ?_; rintro e w' ⟨rfl, rfl⟩) | (go_at_call 29; refine (hdg _).mono ?_; rintro e w' ⟨rfl, rfl⟩) | (go_at_call 32; refine (hcut _ (hTa _)).mono ?_; rintro e w1 ⟨rfl, hb1⟩; obtain ⟨hc1, hf1⟩ := bcell hb1; have hz1 : wr.heap.size < w1.heap.size := (by have := hb1.size; simp at this; omega); have bw1 : Below w.heap.size w w1 := (hbel.alloc hbel.size _).trans (hb1.mono (by simp; omega)); have ho1 := own_below (hown.alloc _) hb1; clear hb1) | (at_builtin; go_loud (refine wpList_append_own _ rfl (.tmp 90) (.tmp 97) 39 rfl w.heap.size 35 i0 (.agg #[.int .i64 0, .string ⟨#[]⟩, .int .i64 0]) 3 32 Tryd.underlying39 hi hz0 hz1i hz2 rfl (by decide) (.slice la acc.length lc) acc.length (tcells acc) rfl (by (go_light; repeat (first | with_reducible exact ho1 | with_reducible refine ownsRow_setCell_other ?_ hne _ | with_reducible refine World.ownsRow.alloc ?_ _ | with_reducible refine World.ownsRow.drew ?_))) ⟨_, 0, none⟩ 1 1 [.int .i64 k, .string ⟨x.toArray⟩, .int .i64 (p : Int)] rfl rfl (cells3 _ _ (by simp) _ _ _ _) (by intro u hu; simp at hu; rcases hu with rfl | rfl | rfl <;> rfl) (by unfold maxLen; omega) (by omega) (by simp; omega) ?_); intro v' w2 hown' hgrow _; have hld : w2.cell? ⟨wr.heap.size, 2, none⟩ = some (.int .i64 n) := (World.cell?_of_block (a := ⟨wr.heap.size, 2, none⟩) (hgrow.block wr.heap.size (by simp; omega) (fun z => hne z.symm))).trans (by simp [go_sem, hc1, hf1, hz1])))
                      have HB2 : Hid (Below w.heap.size w w2) := Below.grown (by (go_light; repeat (first | with_reducible exact bw1 | (with_reducible refine Below.setCell ?_ ?_ _; rotate_left; (focus first | omega | (simp; omega) | (simp; done))) | (with_reducible refine Below.alloc ?_ ?_ _; rotate_left; (focus first | (simp; omega) | (simp; done) | omega)) | with_reducible refine Below.drew ?_))) hgrow (by simp; omega) (fun k hk => (hown.lt k hk).1)
                      have HO : Hid (w2.ownsRow w.heap.size 35 3 v' (acc ++ [(k, x, p)]).length (tcells (acc ++ [(k, x, p)]))) := by
                        show w2.ownsRow w.heap.size 35 3 v' (acc ++ [(k, x, p)]).length (tcells (acc ++ [(k, x, p)]))
                        rw [tcells_snoc]; simpa using hown'
                      clear hown' hgrow
                      go_roundg (s.size - (p + n))
                      case rel => exact ⟨p + n, acc ++ [(k, x, p)], by omega, by go_num, by simp; omega, fun r h => HC.out r (LexR.tok HG.out HBL.out HCM.out hm HK.out h), HO.out, HB2.out⟩
                      case measure => omega

                  · have h39i : ((c0.toNat : Int) == 39) = false := by rw [beq_eq_false_iff_ne]; exact fun z => h39 (UInt8.toNat.inj (show c0.toNat = 39 by omega))
                    have hcut := arm_sig s p hs hlt (by rw [hci]; exact hw) (by rw [hci]; exact hd) (by rw [hc0]; exact h34) (by rw [hc0]; exact h39)
                    clear hw hd h34 h39
                    cases hcl : cutL (s.data.toList.drop p) with
                    | err c f =>
                      rw [hcl] at hcut
                      simp only [cutV] at hcut
                      have HK : Hid (cutL (s.data.toList.drop p) = .err c f) := hcl
                      have hce := cut_err hcl
                      rw [List.length_drop, hsl] at hce
                      have hcne : (c != 0) = true := by rw [bne_iff_ne]; omega
                      clear hcl
                      go_wp2_with (first | (go_at_call 26; refine (hpre _).mono ?_; rintro e w' ⟨rfl, rfl⟩) | (go_at_call 27; refine (hbw _).mono ?_; rintro e w' ⟨rfl, rfl⟩) | (go_at_call 29; refine (hdg _).mono ?_; rintro e w' ⟨rfl, rfl⟩) | (go_at_call 33; refine (hcut _ (hTa _)).mono ?_; rintro e w1 ⟨rfl, hb1⟩; obtain ⟨hc1, hf1⟩ := bcell hb1; have hz1 : wr.heap.size < w1.heap.size := (by have := hb1.size; simp at this; omega); have bw1 : Below w.heap.size w w1 := (hbel.alloc hbel.size _).trans (hb1.mono (by simp; omega)); have ho1 := own_below (hown.alloc _) hb1; clear hb1))
                      go_quiet (fail)
                      go_wp2
                      try rw [Exit.noGoto_ret]
                      go_ret3
                      exact LexPost.err (HC.out _ (LexR.bad HG.out HBL.out HCM.out hm HK.out)) (by omega) (below_drewN (by (go_light; repeat (first | with_reducible exact bw1 | (with_reducible refine Below.setCell ?_ ?_ _; rotate_left; (focus first | omega | (simp; omega) | (simp; done))) | (with_reducible refine Below.alloc ?_ ?_ _; rotate_left; (focus first | (simp; omega) | (simp; done) | omega)) | with_reducible refine Below.drew ?_))) _)
                    | tok k x n =>
                      rw [hcl] at hcut
                      simp only [cutV] at hcut
                      have HK : Hid (cutL (s.data.toList.drop p) = .tok k x n) := hcl
                      have hn := cut_size hcl
                      rw [List.length_drop, hsl] at hn
                      clear hcl
                      go_wp2_with (first | (go_at_call 26; refine (hpre _).mono ?_; rintro e w' ⟨rfl, rfl⟩) | (go_at_call 27; refine (hbw _).mono ?_; rintro e w' ⟨rfl, rfl⟩) | (go_at_call 29; refine (hdg _).mono ?_; rintro e w' ⟨rfl, rfl⟩) | (go_at_call 33; refine (hcut _ (hTa _)).mono ?_; rintro e w1 ⟨rfl, hb1⟩; obtain ⟨hc1, hf1⟩ := bcell hb1; have hz1 : wr.heap.size < w1.heap.size := (by have := hb1.size; simp at this; omega); have bw1 : Below w.heap.size w w1 := (hbel.alloc hbel.size _).trans (hb1.mono (by simp; omega)); have ho1 := own_below (hown.alloc _) hb1; clear hb1) | (at_builtin; go_loud (refine wpList_append_own _ rfl (.tmp 90) (.tmp 97) 39 rfl w.heap.size 35 i0 (.agg #[.int .i64 0, .string ⟨#[]⟩, .int .i64 0]) 3 32 Tryd.underlying39 hi hz0 hz1i hz2 rfl (by decide) (.slice la acc.length lc) acc.length (tcells acc) rfl (by (go_light; repeat (first | with_reducible exact ho1 | with_reducible refine ownsRow_setCell_other ?_ hne _ | with_reducible refine World.ownsRow.alloc ?_ _ | with_reducible refine World.ownsRow.drew ?_))) ⟨_, 0, none⟩ 1 1 [.int .i64 k, .string ⟨x.toArray⟩, .int .i64 (p : Int)] rfl rfl (cells3 _ _ (by simp) _ _ _ _) (by intro u hu; simp at hu; rcases hu with rfl | rfl | rfl <;> rfl) (by unfold maxLen; omega) (by omega) (by simp; omega) ?_); intro v' w2 hown' hgrow _; have hld : w2.cell? ⟨wr.heap.size, 2, none⟩ = some (.int .i64 n) := (World.cell?_of_block (a := ⟨wr.heap.size, 2, none⟩) (hgrow.block wr.heap.size (by simp; omega) (fun z => hne z.symm))).trans (by simp [go_sem, hc1, hf1, hz1])))
                      have HB2 : Hid (Below w.heap.size w w2) := Below.grown (by (go_light; repeat (first | with_reducible exact bw1 | (with_reducible refine Below.setCell ?_ ?_ _; rotate_left; (focus first | omega | (simp; omega) | (simp; done))) | (with_reducible refine Below.alloc ?_ ?_ _; rotate_left; (focus first | (simp; omega) | (simp; done) | omega)) | with_reducible refine Below.drew ?_))) hgrow (by simp; omega) (fun k hk => (hown.lt k hk).1)
                      have HO : Hid (w2.ownsRow w.heap.size 35 3 v' (acc ++ [(k, x, p)]).length (tcells (acc ++ [(k, x, p)]))) := by
                        show w2.ownsRow w.heap.size 35 3 v' (acc ++ [(k, x, p)]).length (tcells (acc ++ [(k, x, p)]))
                        rw [tcells_snoc]; simpa using hown'
                      clear hown' hgrow
                      go_roundg (s.size - (p + n))
                      case rel => exact ⟨p + n, acc ++ [(k, x, p)], by omega, by go_num, by simp; omega, fun r h => HC.out r (LexR.tok HG.out HBL.out HCM.out hm HK.out h), HO.out, HB2.out⟩
                      case measure => omega

              · rw [hd] at hdg
                have hcut := arm_num s p hs hlt (by rw [hci]; exact hw) (by rw [hci]; exact hd)
                clear hw hd
                cases hcl : cutL (s.data.toList.drop p) with
                | err c f =>
                  rw [hcl] at hcut
                  simp only [cutV] at hcut
                  have HK : Hid (cutL (s.data.toList.drop p) = .err c f) := hcl
                  have hce := cut_err hcl
                  rw [List.length_drop, hsl] at hce
                  have hcne : (c != 0) = true := by rw [bne_iff_ne]; omega
                  clear hcl
                  go_wp2_with (first | (go_at_call 26; refine (hpre _).mono ?_; rintro e w' ⟨rfl, rfl⟩) | (go_at_call 27; refine (hbw _).mono ?_; rintro e w' ⟨rfl, rfl⟩) | (go_at_call 29; refine (hdg _).mono ?_; rintro e w' ⟨rfl, rfl⟩) | (go_at_call 30; refine (hcut _ (hTa _)).mono ?_; rintro e w1 ⟨rfl, hb1⟩; obtain ⟨hc1, hf1⟩ := bcell hb1; have hz1 : wr.heap.size < w1.heap.size := (by have := hb1.size; simp at this; omega); have bw1 : Below w.heap.size w w1 := (hbel.alloc hbel.size _).trans (hb1.mono (by simp; omega)); have ho1 := own_below (hown.alloc _) hb1; clear hb1))
                  go_quiet (fail)
                  go_wp2
                  try rw [Exit.noGoto_ret]
                  go_ret3
                  exact LexPost.err (HC.out _ (LexR.bad HG.out HBL.out HCM.out hm HK.out)) (by omega) (below_drewN (by (go_light; repeat (first | with_reducible exact bw1 | (with_reducible refine Below.setCell ?_ ?_ _; rotate_left; (focus first | omega | (simp; omega) | (simp; done))) | (with_reducible refine Below.alloc ?_ ?_ _; rotate_left; (focus first | (simp; omega) | (simp; done) | omega)) | with_reducible refine Below.drew ?_))) _)
                | tok k x n =>
                  rw [hcl] at hcut
                  simp only [cutV] at hcut
                  have HK : Hid (cutL (s.data.toList.drop p) = .tok k x n) := hcl
                  have hn := cut_size hcl
                  rw [List.length_drop, hsl] at hn
                  clear hcl
                  go_wp2_with (first | (go_at_call 26; refine (hpre _).mono ?_; rintro e w' ⟨rfl, rfl⟩) | (go_at_call 27; refine (hbw _).mono ?_; rintro e w' ⟨rfl, rfl⟩) | (go_at_call 29; refine (hdg _).mono ?_; rintro e w' ⟨rfl, rfl⟩) | (go_at_call 30; refine (hcut _ (hTa _)).mono ?_; rintro e w1 ⟨rfl, hb1⟩; obtain ⟨hc1, hf1⟩ := bcell hb1; have hz1 : wr.heap.size < w1.heap.size := (by have := hb1.size; simp at this; omega); have bw1 : Below w.heap.size w w1 := (hbel.alloc hbel.size _).trans (hb1.mono (by simp; omega)); have ho1 := own_below (hown.alloc _) hb1; clear hb1) | (at_builtin; go_loud (refine wpList_append_own _ rfl (.tmp 90) (.tmp 97) 39 rfl w.heap.size 35 i0 (.agg #[.int .i64 0, .string ⟨#[]⟩, .int .i64 0]) 3 32 Tryd.underlying39 hi hz0 hz1i hz2 rfl (by decide) (.slice la acc.length lc) acc.length (tcells acc) rfl (by (go_light; repeat (first | with_reducible exact ho1 | with_reducible refine ownsRow_setCell_other ?_ hne _ | with_reducible refine World.ownsRow.alloc ?_ _ | with_reducible refine World.ownsRow.drew ?_))) ⟨_, 0, none⟩ 1 1 [.int .i64 k, .string ⟨x.toArray⟩, .int .i64 (p : Int)] rfl rfl (cells3 _ _ (by simp) _ _ _ _) (by intro u hu; simp at hu; rcases hu with rfl | rfl | rfl <;> rfl) (by unfold maxLen; omega) (by omega) (by simp; omega) ?_); intro v' w2 hown' hgrow _; have hld : w2.cell? ⟨wr.heap.size, 2, none⟩ = some (.int .i64 n) := (World.cell?_of_block (a := ⟨wr.heap.size, 2, none⟩) (hgrow.block wr.heap.size (by simp; omega) (fun z => hne z.symm))).trans (by simp [go_sem, hc1, hf1, hz1])))
                  have HB2 : Hid (Below w.heap.size w w2) := Below.grown (by (go_light; repeat (first | with_reducible exact bw1 | (with_reducible refine Below.setCell ?_ ?_ _; rotate_left; (focus first | omega | (simp; omega) | (simp; done))) | (with_reducible refine Below.alloc ?_ ?_ _; rotate_left; (focus first | (simp; omega) | (simp; done) | omega)) | with_reducible refine Below.drew ?_))) hgrow (by simp; omega) (fun k hk => (hown.lt k hk).1)
                  have HO : Hid (w2.ownsRow w.heap.size 35 3 v' (acc ++ [(k, x, p)]).length (tcells (acc ++ [(k, x, p)]))) := by
                    show w2.ownsRow w.heap.size 35 3 v' (acc ++ [(k, x, p)]).length (tcells (acc ++ [(k, x, p)]))
                    rw [tcells_snoc]; simpa using hown'
                  clear hown' hgrow
                  go_roundg (s.size - (p + n))
                  case rel => exact ⟨p + n, acc ++ [(k, x, p)], by omega, by go_num, by simp; omega, fun r h => HC.out r (LexR.tok HG.out HBL.out HCM.out hm HK.out h), HO.out, HB2.out⟩
                  case measure => omega

            · rw [hw] at hbw
              have hcut := arm_word s p hs hlt (by rw [hci]; exact hw)
              clear hw
              cases hcl : cutL (s.data.toList.drop p) with
              | err c f =>
                rw [hcl] at hcut
                simp only [cutV] at hcut
                have HK : Hid (cutL (s.data.toList.drop p) = .err c f) := hcl
                have hce := cut_err hcl
                rw [List.length_drop, hsl] at hce
                have hcne : (c != 0) = true := by rw [bne_iff_ne]; omega
                clear hcl
                go_wp2_with (first | (go_at_call 26; refine (hpre _).mono ?_; rintro e w' ⟨rfl, rfl⟩) | (go_at_call 27; refine (hbw _).mono ?_; rintro e w' ⟨rfl, rfl⟩) | (go_at_call 29; refine (hdg _).mono ?_; rintro e w' ⟨rfl, rfl⟩) | (go_at_call 28; refine (hcut _ (hTa _)).mono ?_; rintro e w1 ⟨rfl, hb1⟩; obtain ⟨hc1, hf1⟩ := bcell hb1; have hz1 : wr.heap.size < w1.heap.size := (by have := hb1.size; simp at this; omega); have bw1 : Below w.heap.size w w1 := (hbel.alloc hbel.size _).trans (hb1.mono (by simp; omega)); have ho1 := own_below (hown.alloc _) hb1; clear hb1))
                go_quiet (fail)
                go_wp2
                try rw [Exit.noGoto_ret]
                go_ret3
                exact LexPost.err (HC.out _ (LexR.bad HG.out HBL.out HCM.out hm HK.out)) (by omega) (below_drewN (by (go_light; repeat (first | with_reducible exact bw1 | (with_reducible refine Below.setCell ?_ ?_ _; rotate_left; (focus first | omega | (simp; omega) | (simp; done))) | (with_reducible refine Below.alloc ?_ ?_ _; rotate_left; (focus first | (simp; omega) | (simp; done) | omega)) | with_reducible refine Below.drew ?_))) _)
              | tok k x n =>
                rw [hcl] at hcut
                simp only [cutV] at hcut
                have HK : Hid (cutL (s.data.toList.drop p) = .tok k x n) := hcl
                have hn := cut_size hcl
                rw [List.length_drop, hsl] at hn
                clear hcl
                go_wp2_with (first | (go_at_call 26; refine (hpre _).mono ?_; rintro e w' ⟨rfl, rfl⟩) | (go_at_call 27; refine (hbw _).mono ?_; rintro e w' ⟨rfl, rfl⟩) | (go_at_call 29; refine (hdg _).mono ?_; rintro e w' ⟨rfl, rfl⟩) | (go_at_call 28; refine (hcut _ (hTa _)).mono ?_; rintro e w1 ⟨rfl, hb1⟩; obtain ⟨hc1, hf1⟩ := bcell hb1; have hz1 : wr.heap.size < w1.heap.size := (by have := hb1.size; simp at this; omega); have bw1 : Below w.heap.size w w1 := (hbel.alloc hbel.size _).trans (hb1.mono (by simp; omega)); have ho1 := own_below (hown.alloc _) hb1; clear hb1) | (at_builtin; go_loud (refine wpList_append_own _ rfl (.tmp 90) (.tmp 97) 39 rfl w.heap.size 35 i0 (.agg #[.int .i64 0, .string ⟨#[]⟩, .int .i64 0]) 3 32 Tryd.underlying39 hi hz0 hz1i hz2 rfl (by decide) (.slice la acc.length lc) acc.length (tcells acc) rfl (by (go_light; repeat (first | with_reducible exact ho1 | with_reducible refine ownsRow_setCell_other ?_ hne _ | with_reducible refine World.ownsRow.alloc ?_ _ | with_reducible refine World.ownsRow.drew ?_))) ⟨_, 0, none⟩ 1 1 [.int .i64 k, .string ⟨x.toArray⟩, .int .i64 (p : Int)] rfl rfl (cells3 _ _ (by simp) _ _ _ _) (by intro u hu; simp at hu; rcases hu with rfl | rfl | rfl <;> rfl) (by unfold maxLen; omega) (by omega) (by simp; omega) ?_); intro v' w2 hown' hgrow _; have hld : w2.cell? ⟨wr.heap.size, 2, none⟩ = some (.int .i64 n) := (World.cell?_of_block (a := ⟨wr.heap.size, 2, none⟩) (hgrow.block wr.heap.size (by simp; omega) (fun z => hne z.symm))).trans (by simp [go_sem, hc1, hf1, hz1])))
                have HB2 : Hid (Below w.heap.size w w2) := Below.grown (by (go_light; repeat (first | with_reducible exact bw1 | (with_reducible refine Below.setCell ?_ ?_ _; rotate_left; (focus first | omega | (simp; omega) | (simp; done))) | (with_reducible refine Below.alloc ?_ ?_ _; rotate_left; (focus first | (simp; omega) | (simp; done) | omega)) | with_reducible refine Below.drew ?_))) hgrow (by simp; omega) (fun k hk => (hown.lt k hk).1)
                have HO : Hid (w2.ownsRow w.heap.size 35 3 v' (acc ++ [(k, x, p)]).length (tcells (acc ++ [(k, x, p)]))) := by
                  show w2.ownsRow w.heap.size 35 3 v' (acc ++ [(k, x, p)]).length (tcells (acc ++ [(k, x, p)]))
                  rw [tcells_snoc]; simpa using hown'
                clear hown' hgrow
                go_roundg (s.size - (p + n))
                case rel => exact ⟨p + n, acc ++ [(k, x, p)], by omega, by go_num, by simp; omega, fun r h => HC.out r (LexR.tok HG.out HBL.out HCM.out hm HK.out h), HO.out, HB2.out⟩
                case measure => omega

        · rw [hcm] at hpre
          have HCM : Hid (cmtAt s.data.toList p = true) := hcm
          clear hcm
          go_wp2_with (go_at_call 26; refine (hpre _).mono ?_; rintro e w' ⟨rfl, rfl⟩)
          go_loopg [6] (s.size - p) (fun g2 i wy => ∃ q : Nat, p ≤ q ∧ q + g2 = s.size ∧ i = .int .i64 q ∧ Hid (q - p ≤ runN nlI (s.data.toList.drop p)) ∧ wr.alloc (.cells #[.int .i64 0, .string ⟨#[]⟩, .int .i64 0, .int .i64 0, .int .i64 0] 46) = wy)
          case atStart => exact ⟨p, Nat.le_refl _, by omega, rfl, by show p - p ≤ _; omega, rfl⟩
          case round =>
            obtain ⟨q, hq1, hq2, rfl, HQ, rfl⟩ := hrel
            by_cases hql : q < s.size
            · have hqi : (q : Int) < s.size := by omega
              have hst := runN_step nlI _ (q - p) _ HQ.out (get_at s p q hq1 hql)
              by_cases h10 : ((s[q]'hql).toNat : Int) = 10
              · have HE : Hid (p + runN nlI (s.data.toList.drop p) = q) := by
                  have := hst.2 (by unfold nlI; simp [h10])
                  show _ = _
                  omega
                have hpq : p < q := by
                  rcases Nat.lt_or_ge p q with z | z
                  · exact z
                  · have e : p = q := by omega
                    subst e
                    rw [beq_eq_false_iff_ne] at n10
                    exact absurd (hci.symm.trans h10) n10
                clear hst
                go_wp2
                go_roundg (s.size - q)
                case rel => exact ⟨q, acc, by omega, rfl, hal, fun r h => HC.out r (LexR.cmt HCM.out (by rw [HE.out]; exact h)), hown.alloc _, hbel.alloc hbs _⟩
                case measure => omega
              · have HE : Hid (q + 1 - p ≤ runN nlI (s.data.toList.drop p)) := by
                  have := hst.1 (by unfold nlI; simp [h10])
                  show _ ≤ _
                  omega
                clear hst
                have h10' : ((((s[q]'hql).toNat : Int)) == 10) = false := by rw [beq_eq_false_iff_ne]; exact h10
                go_wp2
                go_roundg (s.size - (q + 1))
                case rel => exact ⟨q + 1, by omega, by omega, by go_num, HE.out, rfl⟩
                case measure => omega
            · have HE : Hid (p + runN nlI (s.data.toList.drop p) = q) := by
                have h1 := runN_le nlI (s.data.toList.drop p)
                have h2 := HQ.out
                rw [List.length_drop, hsl] at h1
                show _ = _
                omega
              have hqi : ¬ (q : Int) < s.size := by omega
              go_wp2
              try rw [Exit.noGoto_ret]
              go_ret3
              exact LexPost.ok (HC.out _ (LexR.cmt HCM.out (by rw [HE.out]; exact LexR.fin (by omega)))) (hown.alloc _) (hbel.alloc hbs _)
      · unfold blank at hbl
        simp only [Bool.or_eq_true, decide_eq_true_eq] at hbl
        have HBL : Hid (blank (s[p]'hlt) = true) := by
          show blank (s[p]'hlt) = true
          rw [hc0]; unfold blank; simp only [Bool.or_eq_true, decide_eq_true_eq]; exact hbl
        rcases hbl with ((h | h) | h) | h
        all_goals
          subst h
          go_wp2
          go_roundg (s.size - (p + 1))
          case rel => exact ⟨p + 1, acc, by omega, by go_num, hal, fun r h => HC.out r (LexR.blank HG.out HBL.out h), hown.alloc _, hbel.alloc hbs _⟩
          case measure => omega
    · have hlti : ¬ (p : Int) < s.size := by omega
      go_wp2
      try rw [Exit.noGoto_ret]
      go_ret3
      exact LexPost.ok (HC.out _ (LexR.fin (by omega))) hown hbel
end Go.Proofs.YtjpcgnkgdaphoaaDoor
