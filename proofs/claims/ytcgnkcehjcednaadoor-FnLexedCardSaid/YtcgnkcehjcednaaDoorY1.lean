import Derived.Test.YtcgnkcehjcednaaDoorX1
namespace Go.Proofs.YtcgnkcehjcednaaDoor
open Go.ChangeShapes Go.WideShapes Go.ChangeAt Go.RowKit Go.Shelf
set_option linter.unusedVariables false
set_option linter.unusedSimpArgs false
set_option maxRecDepth 100000
theorem lowC_up2 (c : UInt8) (h1 : 65 ≤ (c.toNat : Int)) (h2 : (c.toNat : Int) ≤ 90) : ((lowC c).toNat : Int) = (c.toNat : Int) - 65 + 97 := by
  unfold lowC; rw [if_pos (by omega)]; simp; omega
theorem take_snoc (s : ByteArray) (k : Nat) (h : k < s.size) : s.data.toList.take (k + 1) = s.data.toList.take k ++ [s[k]'h] := by
  rw [List.take_add_one, bl_get s k h]; rfl
set_option maxHeartbeats 1600000 in
theorem case_any (s : ByteArray) (w : World) (hs : s.size ≤ 1048576) :
    Calls Tryd.prog 94 #[.string s, .int .u8 65, .int .u8 97] w fun e w' => e = .returned (.string ⟨(s.data.toList.map lowC).toArray⟩) ∧ Below w.heap.size w w' := by
  obtain ⟨i0, hi, hz0, hz1, hz2⟩ := info_parts info5
  go_enter Tryd.func94, Tryd.ntmps94
  go_wp2
  go_loopw [7, 8] (fun v i wr => ∃ k : Nat, k ≤ s.size ∧ i = .int .i64 k ∧ wr.ownsRow w.heap.size 5 1 v ((s.data.toList.take k).map lowC).length (bcells ((s.data.toList.take k).map lowC)) ∧ Below w.heap.size w wr) (fun _ i _ => s.size - (intOf i).toNat)
  case atStart => exact ⟨0, Nat.zero_le _, rfl, World.ownsRow_made w #[] 0 (Nat.le_refl _) (by unfold maxLen; omega) (by simp), (Below.refl _ _).alloc (Nat.le_refl _) _⟩
  case round =>
    obtain ⟨k, hk, rfl, hown, hbel⟩ := hrel
    have hll : ((s.data.toList.take k).map lowC).length ≤ s.size := by rw [List.length_map, List.length_take]; simp; omega
    by_cases hlt : k < s.size
    · have hlti : (k : Int) < s.size := by omega
      have HS : Hid ((s.data.toList.take (k + 1)).map lowC = (s.data.toList.take k).map lowC ++ [lowC (s[k]'hlt)]) := by
        show (s.data.toList.take (k + 1)).map lowC = (s.data.toList.take k).map lowC ++ [lowC (s[k]'hlt)]
        rw [take_snoc s k hlt, List.map_append]; rfl
      obtain ⟨acc, hacc⟩ : ∃ acc, (s.data.toList.take k).map lowC = acc := ⟨_, rfl⟩
      rw [hacc] at hown hll HS
      clear hacc
      by_cases hup : 65 ≤ ((s[k]'hlt).toNat : Int) ∧ ((s[k]'hlt).toNat : Int) ≤ 90
      · obtain ⟨u1, u2⟩ := hup
        have hlow : ((lowC (s[k]'hlt)).toNat : Int) = ((s[k]'hlt).toNat : Int) - 65 + 97 := lowC_up2 _ u1 u2
        have HLW : Hid (((lowC (s[k]'hlt)).toNat : Int) = ((s[k]'hlt).toNat : Int) - 65 + 97) := hlow
        clear hlow
        go_wp2_with (at_builtin; refine wpList_append_own _ rfl (.tmp 34) (.tmp 36) 44 rfl w.heap.size 5 i0 (.int .u8 0) 1 1 Tryd.underlying44 hi hz0 hz1 hz2 rfl (by decide) _ _ _ rfl (hown.alloc _) ⟨wr.heap.size, 0, none⟩ 1 1 [.int .u8 (((s[k]'hlt).toNat : Int) - 65 + 97)] rfl rfl (cell_one_new _ _ _) (by intro u hu; simp at hu; subst hu; rfl) (by unfold maxLen; omega) (by omega) (by have := hbel.size; simp; omega) ?_; intro v' w1 hown' hgrow _)
        have HB1 : Hid (Below w.heap.size w w1) := (hbel.alloc hbel.size _).grown hgrow (by have := hbel.size; simp; omega) (fun k hk => (hown.lt k hk).1)
        have HO : Hid (w1.ownsRow w.heap.size 5 1 v' ((s.data.toList.take (k + 1)).map lowC).length (bcells ((s.data.toList.take (k + 1)).map lowC))) := by
          show w1.ownsRow w.heap.size 5 1 v' ((s.data.toList.take (k + 1)).map lowC).length (bcells ((s.data.toList.take (k + 1)).map lowC))
          rw [HS.out, bcells_snoc, HLW.out]; simpa using hown'
        clear hown' hgrow hown hbel
        go_wp2
        go_roundw
        case rel => exact ⟨k + 1, by omega, by go_num, HO.out, HB1.out⟩
        case measure => simp [intOf]; omega
      · have HLW : Hid (lowC (s[k]'hlt) = s[k]'hlt) := lowC_id (by omega)
        by_cases u1 : 65 ≤ ((s[k]'hlt).toNat : Int)
        · have u2 : ¬ ((s[k]'hlt).toNat : Int) ≤ 90 := fun z => hup ⟨u1, z⟩
          clear hup
          go_wp2_with (at_builtin; refine wpList_append_own _ rfl (.tmp 34) (.tmp 36) 44 rfl w.heap.size 5 i0 (.int .u8 0) 1 1 Tryd.underlying44 hi hz0 hz1 hz2 rfl (by decide) _ _ _ rfl (hown.alloc _) ⟨wr.heap.size, 0, none⟩ 1 1 [.int .u8 ((s[k]'hlt).toNat : Int)] rfl rfl (cell_one_new _ _ _) (by intro u hu; simp at hu; subst hu; rfl) (by unfold maxLen; omega) (by omega) (by have := hbel.size; simp; omega) ?_; intro v' w1 hown' hgrow _)
          have HB1 : Hid (Below w.heap.size w w1) := (hbel.alloc hbel.size _).grown hgrow (by have := hbel.size; simp; omega) (fun k hk => (hown.lt k hk).1)
          have HO : Hid (w1.ownsRow w.heap.size 5 1 v' ((s.data.toList.take (k + 1)).map lowC).length (bcells ((s.data.toList.take (k + 1)).map lowC))) := by
            show w1.ownsRow w.heap.size 5 1 v' ((s.data.toList.take (k + 1)).map lowC).length (bcells ((s.data.toList.take (k + 1)).map lowC))
            rw [HS.out, bcells_snoc, HLW.out]; simpa using hown'
          clear hown' hgrow hown hbel
          go_wp2
          go_roundw
          case rel => exact ⟨k + 1, by omega, by go_num, HO.out, HB1.out⟩
          case measure => simp [intOf]; omega
        · clear hup
          go_wp2_with (at_builtin; refine wpList_append_own _ rfl (.tmp 34) (.tmp 36) 44 rfl w.heap.size 5 i0 (.int .u8 0) 1 1 Tryd.underlying44 hi hz0 hz1 hz2 rfl (by decide) _ _ _ rfl (hown.alloc _) ⟨wr.heap.size, 0, none⟩ 1 1 [.int .u8 ((s[k]'hlt).toNat : Int)] rfl rfl (cell_one_new _ _ _) (by intro u hu; simp at hu; subst hu; rfl) (by unfold maxLen; omega) (by omega) (by have := hbel.size; simp; omega) ?_; intro v' w1 hown' hgrow _)
          have HB1 : Hid (Below w.heap.size w w1) := (hbel.alloc hbel.size _).grown hgrow (by have := hbel.size; simp; omega) (fun k hk => (hown.lt k hk).1)
          have HO : Hid (w1.ownsRow w.heap.size 5 1 v' ((s.data.toList.take (k + 1)).map lowC).length (bcells ((s.data.toList.take (k + 1)).map lowC))) := by
            show w1.ownsRow w.heap.size 5 1 v' ((s.data.toList.take (k + 1)).map lowC).length (bcells ((s.data.toList.take (k + 1)).map lowC))
            rw [HS.out, bcells_snoc, HLW.out]; simpa using hown'
          clear hown' hgrow hown hbel
          go_wp2
          go_roundw
          case rel => exact ⟨k + 1, by omega, by go_num, HO.out, HB1.out⟩
          case measure => simp [intOf]; omega
    · have he : (s.data.toList.take k).map lowC = s.data.toList.map lowC := by
        rw [List.take_of_length_le (by simp; omega)]
      rw [he] at hown
      obtain ⟨acc, hacc⟩ : ∃ acc, s.data.toList.map lowC = acc := ⟨_, rfl⟩
      rw [hacc] at hown
      have HE : Hid (s.data.toList.map lowC = acc) := hacc
      have hcv := conv_own wr _ _ _ hown
      clear hown he hacc hll
      go_wp2
      go_ret
      exact ⟨ret_str (by rw [HE.out]), hbel⟩
/-- The next token's place. -/
def SkipTo (l : List UInt8) (p q : Nat) : Prop := p ≤ q ∧ (q ≤ l.length ∨ q = p) ∧ (∀ acc r, LexR l q acc r → LexR l p acc r) ∧ (q < l.length → ∃ c, l[q]? = some c ∧ blank c = false ∧ cmtAt l q = false)
set_option maxHeartbeats 1600000 in
theorem skip_any (s : ByteArray) (a : Nat) (w : World) (hs : s.size ≤ 8000) (ha : a ≤ s.size) :
    Calls Tryd.prog 49 #[.string s, .int .i64 a] w fun e w' => ∃ q : Nat, SkipTo s.data.toList a q ∧ q ≤ s.size ∧ e = .returned (.int .i64 q) ∧ w' = w := by
  have hsl : s.data.toList.length = s.size := by simp
  go_enter Tryd.func49, Tryd.ntmps49
  go_wp2
  go_loop [1] (fun i => ∃ p : Nat, a ≤ p ∧ p ≤ s.size ∧ i = .int .i64 p ∧ Hid (∀ acc r, LexR s.data.toList p acc r → LexR s.data.toList a acc r)) (fun i => s.size - (intOf i).toNat)
  case atStart => exact ⟨a, Nat.le_refl _, ha, rfl, fun _ _ h => h⟩
  case round =>
    obtain ⟨p, hap, hp, rfl, HC⟩ := hrel
    by_cases hlt : p < s.size
    · have hlti : (p : Int) < s.size := by omega
      have HG : Hid (s.data.toList[p]? = some (s[p]'hlt)) := bl_get s p hlt
      obtain ⟨c0, hc0⟩ : ∃ c0 : UInt8, s[p]'hlt = c0 := ⟨_, rfl⟩
      have hci : ((s[p]'hlt).toNat : Int) = (c0.toNat : Int) := by rw [hc0]
      cases hbl : blank c0
      · have HBL : Hid (blank (s[p]'hlt) = false) := by rw [hc0]; exact hbl
        unfold blank at hbl
        simp only [Bool.or_eq_false_iff, decide_eq_false_iff_not] at hbl
        obtain ⟨⟨⟨n32, n9⟩, n10⟩, n13⟩ := hbl
        have n32 : ((c0.toNat : Int) == 32) = false := by rw [beq_eq_false_iff_ne]; exact fun z => n32 (UInt8.toNat.inj (show c0.toNat = 32 by omega))
        have n9 : ((c0.toNat : Int) == 9) = false := by rw [beq_eq_false_iff_ne]; exact fun z => n9 (UInt8.toNat.inj (show c0.toNat = 9 by omega))
        have n10 : ((c0.toNat : Int) == 10) = false := by rw [beq_eq_false_iff_ne]; exact fun z => n10 (UInt8.toNat.inj (show c0.toNat = 10 by omega))
        have n13 : ((c0.toNat : Int) == 13) = false := by rw [beq_eq_false_iff_ne]; exact fun z => n13 (UInt8.toNat.inj (show c0.toNat = 13 by omega))
        have HSTOP : cmtAt s.data.toList p = false → SkipTo s.data.toList a p := fun z => ⟨hap, .inl (by omega), HC.out, fun _ => ⟨_, HG.out, HBL.out, z⟩⟩
        by_cases h45 : c0 = 45
        · have hcv : (c0.toNat : Int) = 45 := by rw [h45]; rfl
          by_cases hlt2 : p + 1 < s.size
          · have hlt2i : (p : Int) + 1 < s.size := by omega
            obtain ⟨d0, hd0⟩ : ∃ d0 : UInt8, s[p + 1]'hlt2 = d0 := ⟨_, rfl⟩
            have hdi : ((s[p + 1]'hlt2).toNat : Int) = (d0.toNat : Int) := by rw [hd0]
            have HG2 : Hid (s.data.toList[p + 1]? = some d0) := by show _ = _; rw [bl_get s (p + 1) hlt2, hd0]
            by_cases hd45 : d0 = 45
            · have hdv : (d0.toNat : Int) = 45 := by rw [hd45]; rfl
              have HCM : Hid (cmtAt s.data.toList p = true) := by
                show cmtAt s.data.toList p = true
                unfold cmtAt; rw [HG.out, HG2.out, hc0, h45, hd45]; rfl
              clear HSTOP h45 hd45 hd0 hc0
              go_wp2
              go_loop [1] (fun i => ∃ q : Nat, p ≤ q ∧ q ≤ s.size ∧ i = .int .i64 q ∧ Hid (q - p ≤ runN nlI (s.data.toList.drop p))) (fun i => s.size - (intOf i).toNat)
              case atStart => exact ⟨p, Nat.le_refl _, by omega, rfl, by show p - p ≤ _; omega⟩
              case round =>
                obtain ⟨q, hq1, hq2, rfl, HQ⟩ := hrel
                by_cases hql : q < s.size
                · have hqi : (q : Int) < s.size := by omega
                  have hst := runN_step nlI _ (q - p) _ HQ.out (get_at s p q hq1 hql)
                  by_cases h10 : ((s[q]'hql).toNat : Int) = 10
                  · have HE : Hid (p + runN nlI (s.data.toList.drop p) = q) := by
                      have := hst.2 (by unfold nlI; simp [h10])
                      show _ = _
                      omega
                    have hpq : p < q := by
                      rcases Nat.lt_or_ge p q with z | z
                      · exact z
                      · have e : p = q := by omega
                        subst e
                        rw [beq_eq_false_iff_ne] at n10
                        exact absurd (hci.symm.trans h10) n10
                    clear hst
                    go_wp2
                    go_round
                    case rel => exact ⟨q, by omega, by omega, rfl, fun acc r h => HC.out acc r (LexR.cmt HCM.out (by rw [HE.out]; exact h))⟩
                    case measure => simp [intOf]; omega
                  · have HE : Hid (q + 1 - p ≤ runN nlI (s.data.toList.drop p)) := by
                      have := hst.1 (by unfold nlI; simp [h10])
                      show _ ≤ _
                      omega
                    clear hst
                    go_wp2
                    go_round
                    case rel => exact ⟨q + 1, by omega, by omega, by go_num, HE.out⟩
                    case measure => simp [intOf]; omega
                · have HE : Hid (p + runN nlI (s.data.toList.drop p) = q) := by
                    have h1 := runN_le nlI (s.data.toList.drop p)
                    have h2 := HQ.out
                    rw [List.length_drop, hsl] at h1
                    show _ = _
                    omega
                  have hqi : ¬ (q : Int) < s.size := by omega
                  go_wp2
                  go_round
                  case rel => exact ⟨q, by omega, by omega, rfl, fun acc r h => HC.out acc r (LexR.cmt HCM.out (by rw [HE.out]; exact h))⟩
                  case measure => simp [intOf]; omega
            · have hdv : ¬ (d0.toNat : Int) = 45 := fun z => hd45 (UInt8.toNat.inj (show d0.toNat = 45 by omega))
              have HK : Hid (SkipTo s.data.toList a p) := HSTOP (by unfold cmtAt; rw [HG2.out]; simp [hd45])
              clear HSTOP h45 hd45 hd0 hc0
              go_wp2
              go_ret
              exact ⟨p, HK.out, hp, rfl, rfl⟩
          · have hlt2i : ¬ (p : Int) + 1 < s.size := by omega
            have HK : Hid (SkipTo s.data.toList a p) := HSTOP (by unfold cmtAt; rw [List.getElem?_eq_none (by omega : s.data.toList.length ≤ p + 1)]; simp)
            clear HSTOP h45 hc0
            go_wp2
            go_ret
            exact ⟨p, HK.out, hp, rfl, rfl⟩
        · have hcv : ¬ (c0.toNat : Int) = 45 := fun z => h45 (UInt8.toNat.inj (show c0.toNat = 45 by omega))
          have HK : Hid (SkipTo s.data.toList a p) := HSTOP (by unfold cmtAt; rw [HG.out, hc0]; simp [h45])
          clear HSTOP h45 hc0
          go_wp2
          go_ret
          exact ⟨p, HK.out, hp, rfl, rfl⟩
      · unfold blank at hbl
        simp only [Bool.or_eq_true, decide_eq_true_eq] at hbl
        have HBL : Hid (blank (s[p]'hlt) = true) := by
          show blank (s[p]'hlt) = true
          rw [hc0]; unfold blank; simp only [Bool.or_eq_true, decide_eq_true_eq]; exact hbl
        rcases hbl with ((h | h) | h) | h
        all_goals
          subst h
          go_wp2
          go_round
          case rel => exact ⟨p + 1, by omega, by omega, by go_num, fun acc r h => HC.out acc r (LexR.blank HG.out HBL.out h)⟩
          case measure => simp [intOf]; omega
    · have hlti : ¬ (p : Int) < s.size := by omega
      go_wp2
      go_ret
      exact ⟨p, ⟨hap, .inl (by omega), HC.out, fun h => by omega⟩, hp, rfl, rfl⟩
end Go.Proofs.YtcgnkcehjcednaaDoor
