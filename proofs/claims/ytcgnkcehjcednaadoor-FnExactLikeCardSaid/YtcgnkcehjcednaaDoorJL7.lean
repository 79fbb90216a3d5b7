import Derived.Test.YtcgnkcehjcednaaDoorJL6
namespace Go.Proofs.YtcgnkcehjcednaaDoor
open Go.ChangeShapes Go.WideShapes Go.ChangeAt Go.RowKit Go.Shelf
namespace Lk
set_option linter.unusedVariables false
set_option linter.unusedSimpArgs false
set_option maxRecDepth 100000
open Classical in
set_option maxHeartbeats 16000000 in
theorem like_spec_33 (n1 : Int) (s1 : ByteArray) (n2 : Int) (s2 : ByteArray) (w : World) (hs1 : s1.size ≤ 1048576) (hs2 : s2.size ≤ 1048576) (hv1 : vok 3 n1 s1 = true) (hv2 : vok 3 n2 s2 = true) :
    Calls Tryd.prog 14 #[.agg #[.int .i64 3, .int .i64 n1, .string s1], .agg #[.int .i64 3, .int .i64 n2, .string s2]] w fun e w' => e = .returned (likeV (likeR 3 n1 s1 3 n2 s2)) ∧ Below w.heap.size w w' := by
  have bw0 : Below w.heap.size w (((w.alloc (.cells #[.int .i64 3, .int .i64 n1, .string s1] 26)).alloc (.cells #[.int .i64 3, .int .i64 n2, .string s2] 26)).alloc (.cells #[.int .i64 0, .int .i64 0, .string ⟨#[]⟩] 26)) := ((below_alloc w _).alloc (by simp) _).alloc (by simp; omega) _
  have HV1 : Hid (vok 3 n1 s1 = true) := hv1
  have HV2 : Hid (vok 3 n2 s2 = true) := hv2
  have HL : Hid (likeR 3 n1 s1 3 n2 s2 = if ¬ ((3 : Int) = 3 ∨ (3 : Int) = 0) ∨ ¬ ((3 : Int) = 3 ∨ (3 : Int) = 0) then (0, 0, 10) else if (3 : Int) = 0 ∨ (3 : Int) = 0 then (0, 0, 0) else (4, zB (decide (Mt (prt false ((chars s2).getD [])) ((chars s1).getD []))), 0)) := (by unfold likeR; rw [if_neg (by rw [hv1, hv2]; simp)] : likeR 3 n1 s1 3 n2 s2 = _)
  obtain ⟨cs1, hc1, hl1⟩ := vok_text hv1
  obtain ⟨cs2, hc2', hl2⟩ := vok_text hv2
  obtain ⟨r, hr⟩ : ∃ r : Bool, decide (Mt (prt false cs2) cs1) = r := ⟨_, rfl⟩
  have HR : Hid (likeR 3 n1 s1 3 n2 s2 = (4, zB r, 0)) := (by rw [HL.out, if_neg (by simp), if_neg (by simp), hc1, hc2', ← hr]; rfl : likeR 3 n1 s1 3 n2 s2 = (4, zB r, 0))
  have HM : Hid (decide (Mt (prt false cs2) cs1) = r) := hr
  have HC1 : Hid (chars s1 = some cs1) := hc1
  have HC2 : Hid (chars s2 = some cs2) := hc2'
  have HPL : Hid ((prt false cs2).length ≤ 256) := (by have := pcs_len false cs2; rw [prt_len]; omega : (prt false cs2).length ≤ 256)
  rw [HR.out]
  clear HL hc1 hc2' hr hv1 hv2
  obtain ⟨i0, hi, hz0, hz1', hz2'⟩ := info_parts info4
  obtain ⟨ps, hps⟩ : ∃ ps, prt false cs2 = ps := ⟨_, rfl⟩
  rw [hps] at HM HPL
  have hpl := HPL.out
  go_enter Tryd.func14, Tryd.ntmps14
  go_wp2_with fail
  refine (vok_spec 3 n1 s1 _ hs1).mono ?_
  rw [HV1.out]
  rintro e w1 ⟨rfl, hb⟩
  obtain ⟨hc, hf⟩ := bcell hb
  have bw1 : Below w.heap.size w w1 := bw0.trans (hb.mono (by simp; omega))
  have hx1 : w.heap.size + 1 + 1 < w1.heap.size := by have := hb.size; simp at this; omega
  have hz1 : w.heap.size + 1 < w1.heap.size := by omega
  have hy1 : w.heap.size < w1.heap.size := by omega
  go_wp2_with fail
  refine (vok_spec 3 n2 s2 _ hs2).mono ?_
  rw [HV2.out]
  rintro e w2 ⟨rfl, hb2⟩
  obtain ⟨hc2, hf2⟩ := bcell hb2
  have bw2 : Below w.heap.size w w2 := bw1.trans (hb2.mono bw1.size)
  have hx2 : w.heap.size + 1 + 1 < w2.heap.size := by have := hb2.size; omega
  have hz2 : w.heap.size + 1 < w2.heap.size := by omega
  have hy2 : w.heap.size < w2.heap.size := by omega
  go_wp2_with fail
  refine (chars_any s1 _ hs1).mono ?_
  intro e w3 hcp
  rcases hcp with ⟨ds, v3, hch, rfl, hown3, hb3⟩ | ⟨a, hch, rfl, hb3⟩
  rotate_left
  · exfalso; rw [HC1.out] at hch; cases hch
  obtain rfl : cs1 = ds := by rw [HC1.out] at hch; cases hch; rfl
  clear hch
  have R3 : RdI w3 v3 cs1 := RdI.of_own hown3
  obtain ⟨hc3, hf3⟩ := bcell hb3
  have bw3 : Below w.heap.size w w3 := chain bw2 hb3
  have hx3 : w.heap.size + 1 + 1 < w3.heap.size := by have := hb3.size; omega
  have hz3 : w.heap.size + 1 < w3.heap.size := by omega
  have hy3 : w.heap.size < w3.heap.size := by omega
  clear hown3
  go_wp2_with fail
  refine (chars_any s2 _ hs2).mono ?_
  intro e w4 hcp
  rcases hcp with ⟨ds, v4, hch, rfl, hown4, hb4⟩ | ⟨a, hch, rfl, hb4⟩
  rotate_left
  · exfalso; rw [HC2.out] at hch; cases hch
  obtain rfl : cs2 = ds := by rw [HC2.out] at hch; cases hch; rfl
  clear hch
  have R4 : RdI w4 v4 cs2 := RdI.of_own hown4
  have R3' : RdI w4 v3 cs1 := R3.below hb4 (Nat.le_refl _)
  obtain ⟨hc4, hf4⟩ := bcell hb4
  have bw4 : Below w.heap.size w w4 := chain bw3 hb4
  have hx4 : w.heap.size + 1 + 1 < w4.heap.size := by have := hb4.size; omega
  have hz4 : w.heap.size + 1 < w4.heap.size := by omega
  have hy4 : w.heap.size < w4.heap.size := by omega
  clear hown4 R3
  obtain ⟨a1, cap1, rfl, HT1⟩ := R3'
  have HT1' : Hid (∀ i (h : i < cs1.length), ∃ g, a1 = some ⟨g, 0, none⟩ ∧ g < w4.heap.size ∧ w4.cell? ⟨g, i, none⟩ = some (.int .i64 cs1[i])) := HT1
  clear HT1
  go_wp2_with (refine wpList_make_full _ rfl (.tmp 72) (.tmp 72) 61 rfl w.heap.size 4 i0 (.bool false) 1 Tryd.underlying61 hi hz0 hz1' .i64 .i64 _ _ (cs1.length + 1) rfl rfl (by omega) (by omega) (by rw [hz2']; omega) (by unfold maxLen; omega) (by omega) ?_; intro w5 hown5 hgrow5; rw [made_bools] at hown5; have c50 := row_cell (j := 0) hown5 (u := .bool false) (by simp [bools]); have f50 := hown5.frozenAt 0)
  have bw5 : Below w4.heap.size w4 w5 := (Below.refl _ _).grown hgrow5 (Nat.le_refl _) (fun k hk => by simp at hk)
  have ho5 := (hown5.stored 0 (.bool true)).1
  rw [bools_set] at ho5
  have B5 : RdB _ _ _ := RdB.of_own (by simp) ho5
  have bw5' : Below w4.heap.size w4 (w5.setCell ⟨w4.heap.size, 0, none⟩ (.bool true)) := bw5.setCell (Nat.le_refl _) _
  clear hown5 hgrow5 c50 f50 ho5 bw5
  obtain ⟨W5, hW5⟩ : ∃ W, w5.setCell ⟨w4.heap.size, 0, none⟩ (.bool true) = W := ⟨_, rfl⟩
  rw [hW5] at B5 bw5' ⊢
  refine (pattern_any cs2 _ _ (R4.below bw5' (Nat.le_refl _)) (by omega)).mono ?_
  rw [hps]
  rintro e w6 ⟨v6, rfl, ho6, hb6⟩
  have R6 : RdI w6 v6 ps := RdI.of_own ho6
  have B6 := B5.below hb6 (Nat.le_refl _)
  have bw46 : Below w4.heap.size w4 w6 := chain bw5' hb6
  have bw6 : Below w.heap.size w w6 := chain bw4 bw46
  have hx6 : w.heap.size + 1 + 1 < w6.heap.size := by have := bw46.size; omega
  obtain ⟨hc6, hf6⟩ := bcell bw46
  have HT6 : Hid (∀ i (h : i < cs1.length), ∃ g, a1 = some ⟨g, 0, none⟩ ∧ g < w6.heap.size ∧ w6.cell? ⟨g, i, none⟩ = some (.int .i64 cs1[i])) := (fun i h => by
    obtain ⟨g, e1, e2, e3⟩ := HT1'.out i h
    exact ⟨g, e1, Nat.lt_of_lt_of_le e2 bw46.size, (bw46.cell (p := ⟨g, i, none⟩) e2).trans e3⟩)
  obtain ⟨a6, cap6, rfl, HT2⟩ := R6
  have HT2' : Hid (∀ i (h : i < ps.length), ∃ g, a6 = some ⟨g, 0, none⟩ ∧ g < w6.heap.size ∧ w6.cell? ⟨g, i, none⟩ = some (.int .i64 ps[i])) := HT2
  have HB6 : Hid (RdB w6 (.slice (some ⟨w4.heap.size, 0, none⟩) (cs1.length + 1) (cs1.length + 1)) ((List.replicate (cs1.length + 1) false).set 0 true)) := B6
  clear HT2 HT1' B5 B6 bw5' ho6 hb6 R4
  go_wp2
  go_loopw [12, 79] (fun vn vk wr => ∃ (k : Nat) (bs : List Bool), vk = .int .i64 k ∧ k ≤ ps.length ∧ Hid (Tab cs1 (ps.take k).reverse bs) ∧ Hid (RdB wr vn bs) ∧ Below w6.heap.size w6 wr) (fun _ vk _ => ps.length - (intOf vk).toNat)
  case atStart => exact ⟨0, _, rfl, by omega, (by simpa using Tab.start cs1 : Tab cs1 (ps.take 0).reverse _), HB6, Below.refl _ _⟩
  case round =>
    obtain ⟨k, bs, rfl, hk, HTab, HRd, hbel⟩ := hrel
    generalize wr = wo at *
    have hbs := hbel.size
    obtain ⟨gn, rfl, hgn, hcn⟩ := HRd.out
    have hbl : bs.length = cs1.length + 1 := HTab.out.1
    have HCN : Hid (∀ i (h : i < bs.length), wo.cell? ⟨gn, i, none⟩ = some (.bool bs[i])) := hcn
    clear hcn
    rw [hbl]
    by_cases hlt : k < ps.length
    · have hlti : (k : Int) < ps.length := by omega
      obtain ⟨g6, rfl, hg6, hx⟩ := HT2'.out k hlt
      have cp : wo.cell? ⟨g6, k, none⟩ = some (.int .i64 ps[k]) := (hbel.cell (p := ⟨g6, k, none⟩) hg6).trans hx
      have hrev := take_rev hlt
      obtain ⟨p, hp⟩ : ∃ p, ps[k] = p := ⟨_, rfl⟩
      rw [hp] at cp hrev
      have HREV : Hid ((ps.take (k + 1)).reverse = p :: (ps.take k).reverse) := hrev
      clear hx hp hrev
      go_wp2_with (refine wpList_make_full _ rfl (.tmp 85) (.tmp 85) 61 rfl w6.heap.size 4 i0 (.bool false) 1 Tryd.underlying61 hi hz0 hz1' .i64 .i64 _ _ (cs1.length + 1) rfl rfl (by omega) (by omega) (by rw [hz2']; omega) (by unfold maxLen; omega) (by omega) ?_; intro w7 hown7 hgrow7; rw [made_bools] at hown7)
      have HB7 : Hid (Below wo.heap.size wo w7) := (Below.refl _ _).grown hgrow7 (Nat.le_refl _) (fun k hk => by simp at hk)
      have hb7 := HB7.out
      clear hgrow7
      go_loopw [16] (fun vj wz => ∃ (j : Nat) (ys : List Bool), vj = .int .i64 j ∧ j ≤ cs1.length + 1 ∧ Hid (Fil cs1 (p :: (ps.take k).reverse) j ys) ∧ wz.ownsRow w6.heap.size 4 1 (.slice (some ⟨wo.heap.size, 0, none⟩) (cs1.length + 1) (cs1.length + 1)) (cs1.length + 1) (bools ys) ∧ Below wo.heap.size wo wz) (fun vj _ => cs1.length + 1 - (intOf vj).toNat)
      case atStart => exact ⟨0, _, rfl, by omega, Fil.start _ _, hown7, hb7⟩
      case round =>
        clear hown7 hb7 HB7
        obtain ⟨j, ys, rfl, hj, HF, hoz, hbz⟩ := hrel
        generalize wr = wz at *
        have hyl : ys.length = cs1.length + 1 := HF.out.1
        by_cases hjl : j ≤ cs1.length
        · have hjli : (j : Int) ≤ cs1.length := by omega
          have cn : wz.cell? ⟨gn, j, none⟩ = some (.bool (bs[j]'(by omega))) := (hbz.cell (p := ⟨gn, j, none⟩) hgn).trans (HCN.out j (by omega))
          have hTj : bs[j]'(by omega) = decide (D cs1 (ps.take k).reverse j) := by have := HTab.out.2 j hjl; rw [List.getElem?_eq_getElem (by omega)] at this; simpa using this
          have cy : wz.cell? ⟨wo.heap.size, j, none⟩ = some (.bool (ys[j]'(by omega))) := row_cell hoz (by simp [bools, hyl] <;> omega)
          have fy := hoz.frozenAt j
          by_cases hp1 : p = -1
          · have e1 : (p == -1) = true := by simpa using hp1
            by_cases hn : bs[j]'(by omega) = true
            · have HS : Hid (Fil cs1 (p :: (ps.take k).reverse) (j + 1) (ys.set j true)) := HF.out.put hjl true (by rw [hn] at hTj; subst hp1; symm; rw [decide_eq_true_iff]; exact D_many.2 (.inl (by simpa using hTj.symm)))
              rw [hn] at cn
              clear hTj hn hp1 HF
              have HO : Hid (World.ownsRow (wz.setCell ⟨wo.heap.size, j, none⟩ (.bool true)) w6.heap.size 4 1 (.slice (some ⟨wo.heap.size, 0, none⟩) (cs1.length + 1) (cs1.length + 1)) (cs1.length + 1) (bools (ys.set j true))) := (by rw [← bools_set]; exact (hoz.stored j (.bool true)).1)
              go_wp2
              go_roundw
              case rel => exact ⟨j + 1, _, by go_num, by omega, HS, HO.out, hbz.setCell (Nat.le_refl _) _⟩
              case measure => simp [intOf]; omega
            · have hn' : bs[j]'(by omega) = false := by simpa using hn
              rw [hn'] at cn
              have hTn : ¬ D cs1 (ps.take k).reverse j := by rw [hn'] at hTj; simpa using hTj.symm
              clear hn hn' hTj
              by_cases hj0 : 0 < j
              · have hj0i : (0 : Int) < j := by omega
                obtain ⟨j', rfl⟩ : ∃ j', j = j' + 1 := ⟨j - 1, by omega⟩
                have cy1 : wz.cell? ⟨wo.heap.size, j', none⟩ = some (.bool (ys[j']'(by omega))) := row_cell hoz (by simp [bools, hyl] <;> omega)
                have hy1' : ys[j']'(by omega) = decide (D cs1 (p :: (ps.take k).reverse) j') := by have := HF.out.2.1 j' (by omega) (by omega); rw [List.getElem?_eq_getElem (by omega)] at this; simpa using this
                obtain ⟨b, hb⟩ : ∃ b, ys[j']'(by omega) = b := ⟨_, rfl⟩
                rw [hb] at cy1 hy1'
                have HS : Hid (Fil cs1 (p :: (ps.take k).reverse) (j' + 1 + 1) (ys.set (j' + 1) b)) := HF.out.put hjl b (by rw [hy1']; subst hp1; rw [decide_eq_decide, D_many (i := j' + 1)]; simp [hTn])
                have HO : Hid (World.ownsRow (wz.setCell ⟨wo.heap.size, j' + 1, none⟩ (.bool b)) w6.heap.size 4 1 (.slice (some ⟨wo.heap.size, 0, none⟩) (cs1.length + 1) (cs1.length + 1)) (cs1.length + 1) (bools (ys.set (j' + 1) b))) := (by rw [← bools_set]; exact (hoz.stored (j' + 1) (.bool b)).1)
                clear hTn hp1 HF hb hy1'
                go_wp2
                go_roundw
                case rel => exact ⟨j' + 1 + 1, _, by go_num, by omega, HS, HO.out, hbz.setCell (Nat.le_refl _) _⟩
                case measure => simp [intOf]; omega
              · have hj0i : ¬ (0 : Int) < j := by omega
                have HS : Hid (Fil cs1 (p :: (ps.take k).reverse) (j + 1) (ys.set j false)) := HF.out.put hjl false (by symm; rw [decide_eq_false_iff_not]; subst hp1; rw [D_many]; rintro (h | ⟨h, _⟩); exact hTn h; omega)
                have HO : Hid (World.ownsRow (wz.setCell ⟨wo.heap.size, j, none⟩ (.bool false)) w6.heap.size 4 1 (.slice (some ⟨wo.heap.size, 0, none⟩) (cs1.length + 1) (cs1.length + 1)) (cs1.length + 1) (bools (ys.set j false))) := (by rw [← bools_set]; exact (hoz.stored j (.bool false)).1)
                clear hTn hp1 HF
                go_wp2
                go_roundw
                case rel => exact ⟨j + 1, _, by go_num, by omega, HS, HO.out, hbz.setCell (Nat.le_refl _) _⟩
                case measure => simp [intOf]; omega
          · have e1 : (p == -1) = false := by simpa using hp1
            clear cn hTj
            by_cases hj0 : 0 < j
            · have hj0i : (0 : Int) < j := by omega
              obtain ⟨j', rfl⟩ : ∃ j', j = j' + 1 := ⟨j - 1, by omega⟩
              obtain ⟨gt, rfl, hgt, hxt⟩ := HT6.out j' (by omega)
              have ct : wz.cell? ⟨gt, j', none⟩ = some (.int .i64 (cs1[j']'(by omega))) := (hbz.cell (p := ⟨gt, j', none⟩) (Nat.lt_of_lt_of_le hgt hbs)).trans ((hbel.cell (p := ⟨gt, j', none⟩) hgt).trans hxt)
              have htg : cs1[j' + 1 - 1]? = some (cs1[j']'(by omega)) := by rw [Nat.add_sub_cancel]; exact List.getElem?_eq_getElem _
              obtain ⟨c, hcc⟩ : ∃ c, cs1[j']'(by omega) = c := ⟨_, rfl⟩
              rw [hcc] at ct htg
              clear hxt hcc
              have cn : wz.cell? ⟨gn, j', none⟩ = some (.bool (bs[j']'(by omega))) := (hbz.cell (p := ⟨gn, j', none⟩) hgn).trans (HCN.out j' (by omega))
              have hTj : bs[j']'(by omega) = decide (D cs1 (ps.take k).reverse j') := by have := HTab.out.2 j' (by omega); rw [List.getElem?_eq_getElem (by omega)] at this; simpa using this
              obtain ⟨b, hb⟩ : ∃ b, bs[j']'(by omega) = b := ⟨_, rfl⟩
              rw [hb] at cn hTj
              by_cases hm : p = -2 ∨ p = c
              · have HS : Hid (Fil cs1 (p :: (ps.take k).reverse) (j' + 1 + 1) (ys.set (j' + 1) b)) := HF.out.put hjl b (by rw [hTj, decide_eq_decide, D_one hp1 (by omega) htg hm]; simp)
                have HO : Hid (World.ownsRow (wz.setCell ⟨wo.heap.size, j' + 1, none⟩ (.bool b)) w6.heap.size 4 1 (.slice (some ⟨wo.heap.size, 0, none⟩) (cs1.length + 1) (cs1.length + 1)) (cs1.length + 1) (bools (ys.set (j' + 1) b))) := (by rw [← bools_set]; exact (hoz.stored (j' + 1) (.bool b)).1)
                clear hp1 HF hb hTj htg
                by_cases hm2 : p = -2
                · have e2 : (p == -2) = true := by simpa using hm2
                  clear hm hm2
                  go_wp2
                  go_roundw
                  case rel => exact ⟨j' + 1 + 1, _, by go_num, by omega, HS, HO.out, hbz.setCell (Nat.le_refl _) _⟩
                  case measure => simp [intOf]; omega
                · have e2 : (p == -2) = false := by simpa using hm2
                  have e3 : (p == c) = true := by simpa using hm.resolve_left hm2
                  clear hm hm2
                  go_wp2
                  go_roundw
                  case rel => exact ⟨j' + 1 + 1, _, by go_num, by omega, HS, HO.out, hbz.setCell (Nat.le_refl _) _⟩
                  case measure => simp [intOf]; omega
              · have e2 : (p == -2) = false := by simp at hm ⊢; exact hm.1
                have e3 : (p == c) = false := by simp at hm ⊢; exact hm.2
                have HS : Hid (Fil cs1 (p :: (ps.take k).reverse) (j' + 1 + 1) ys) := HF.out.skip hjl (D_not hp1 (by omega) htg (fun h => hm (.inl h)) (fun h => hm (.inr h)))
                clear hp1 HF hb hTj htg hm
                go_wp2
                go_roundw
                case rel => exact ⟨j' + 1 + 1, _, by go_num, by omega, HS, hoz, hbz⟩
                case measure => simp [intOf]; omega
            · have hj0i : ¬ (0 : Int) < j := by omega
              obtain rfl : j = 0 := by omega
              have HS : Hid (Fil cs1 (p :: (ps.take k).reverse) (0 + 1) ys) := HF.out.skip hjl (D_zero hp1)
              clear hp1 HF
              go_wp2
              go_roundw
              case rel => exact ⟨0 + 1, _, by go_num, by omega, HS, hoz, hbz⟩
              case measure => simp [intOf]
        · have hjli : ¬ (j : Int) ≤ cs1.length := by omega
          obtain rfl : j = cs1.length + 1 := by omega
          have HT' : Hid (Tab cs1 (ps.take (k + 1)).reverse ys) := (by rw [HREV.out]; exact HF.out.full : Tab cs1 (ps.take (k + 1)).reverse ys)
          have HRd' : Hid (RdB wz (.slice (some ⟨wo.heap.size, 0, none⟩) (cs1.length + 1) (cs1.length + 1)) ys) := RdB.of_own hyl hoz
          have hbo : Below w6.heap.size w6 wz := chain hbel hbz
          clear HF hoz
          go_wp2
          go_roundw
          case rel => exact ⟨k + 1, ys, by go_num, by omega, HT', HRd', hbo⟩
          case measure => simp [intOf]; omega
    · have hlti : ¬ (k : Int) < ps.length := by omega
      obtain rfl : k = ps.length := by omega
      have cn : wo.cell? ⟨gn, cs1.length, none⟩ = some (.bool r) := (HCN.out cs1.length (by omega)).trans (by
        have h1 := HTab.out.2 cs1.length (Nat.le_refl _)
        rw [List.getElem?_eq_getElem (by omega), List.take_length] at h1
        have h2 : bs[cs1.length]'(by omega) = decide (D cs1 ps.reverse cs1.length) := by simpa using h1
        rw [h2, ← HM.out]
        congr 2
        rw [decide_eq_decide]; exact D_iff cs1 ps)
      obtain ⟨hcw, hfw⟩ := bcell hbel
      have hxw : w.heap.size + 1 + 1 < wo.heap.size := by omega
      go_wp2_with fail
      refine (truth_any _ _).mono ?_
      rintro e w8 ⟨rfl, hb8⟩
      obtain ⟨hc8, hf8⟩ := bcell hb8
      have hx8 : w.heap.size + 1 + 1 < w8.heap.size := by have := hb8.size; omega
      have bw8 : Below w.heap.size w w8 := chain (chain bw6 hbel) hb8
      go_wp2
      refine bodyPost_ret (v := likeV (4, zB r, 0)) (by simp [results, Tryd.results14, go_sem, likeV, hc, hf, hx1, hc2, hf2, hx2, hc3, hf3, hx3, hc4, hf4, hx4, hc6, hf6, hx6, hcw, hfw, hxw, hc8, hf8, hx8]) rfl ⟨rfl, ?_⟩
      refine bw8.trans ?_
      (go_light; repeat (first | with_reducible exact Below.refl _ _ | (with_reducible refine Below.setCell ?_ ?_ _; rotate_left; (focus first | (simp; done) | (simp; omega) | omega)) | (with_reducible refine Below.alloc ?_ ?_ _; rotate_left; (focus first | (simp; done) | (simp; omega) | omega)) | with_reducible refine Below.drew ?_))
end Lk
end Go.Proofs.YtcgnkcehjcednaaDoor
