import Derived.Test.YtoieiegjhjedoaaSO1
namespace Go.Proofs.Ytoieiegjhjedoaa
open Go.ChangeShapes Go.WideShapes Go.ChangeAt Go.RowKit
set_option linter.unusedVariables false
set_option linter.unusedSimpArgs false
set_option maxRecDepth 100000
set_option maxHeartbeats 1400000 in
theorem order_any (ts : List XN) (g o cap B : Nat) (w : World) (hL : ts.length ≤ 400) (hB : w.cell? ⟨B, 0, none⟩ = some (.slice (some ⟨g, o, none⟩) ts.length cap)) (hBl : B < w.heap.size) (hg : g < w.heap.size)
    (hk : ∀ i (h : i < ts.length), ts[i].kids.length ≤ 1048576) (hN : ∀ i (h : i < ts.length), ∃ kv, w.cell? ⟨g, o + i * 8 + 7, none⟩ = some kv ∧ RI w kv ts[i].kids) :
    Calls Try.prog 55 #[.int .i64 ts.length, .func (.func 56) #[] #[.pointer (some ⟨B, 0, none⟩)]] w fun e w' => e = .returned (.bool (ordB ts)) ∧ Below w.heap.size w w' := by
  obtain ⟨i0, hi, hz0, hz1, hz2⟩ := info_parts info3
  go_enter Try.func55, Try.ntmps55
  go_wp2
  go_loopw [5, 10] (fun v iv wr => ∃ (k : Nat) (st : List Int), k ≤ ts.length ∧ iv = .int .i64 k ∧ st.length ≤ k ∧ wr.ownsRow w.heap.size 3 1 v st.length (st.map (Value.int .i64)) ∧ Hid (ordS ((ts.map XN.kids).drop k) k st = ordS (ts.map XN.kids) 0 []) ∧ Below w.heap.size w wr) (fun _ iv _ => ts.length - (intOf iv).toNat)
  case atStart => exact ⟨0, [], Nat.zero_le _, rfl, Nat.le_refl _, World.ownsRow_nil _ _ _ _, (by simp : ordS ((ts.map XN.kids).drop 0) 0 [] = ordS (ts.map XN.kids) 0 []), Below.refl _ _⟩
  case round =>
    obtain ⟨k, st, hkt, rfl, hsk, hown, HO, hbel⟩ := hrel
    have hbs := hbel.size
    by_cases hlt : k < ts.length
    · have hlti : (k : Int) < ts.length := by omega
      obtain ⟨kv, hNA, hR⟩ := hN k hlt
      have hB' := (hbel.cell (p := ⟨B, 0, none⟩) hBl).trans hB
      have c8 := (hbel.cell (p := ⟨g, o + k * 8 + 7, none⟩) hg).trans hNA
      have hcn := kidsOf_any ts.length k g o cap B kv wr hlt hB' c8
      have HO1 : Hid (ordS (ts[k].kids :: (ts.map XN.kids).drop (k + 1)) k st = ordS (ts.map XN.kids) 0 []) := (by
        have := HO.out
        rw [List.drop_eq_getElem_cons (by simpa using hlt)] at this
        simpa using this : ordS (ts[k].kids :: (ts.map XN.kids).drop (k + 1)) k st = ordS (ts.map XN.kids) 0 [])
      have hkl := hk k hlt
      have hR' := hR.below hbel
      obtain ⟨ka, kc, rfl, hkc⟩ := hR'
      clear HO hNA hR c8
      generalize ts[k].kids = ks at *
      have hri : (ks.length : Int) ≤ 1048576 := by omega
      have hsi : (st.length : Int) ≤ 400 := by omega
      have hwr : IntKind.i64.wrap ((st.length : Int) - ks.length) = (st.length : Int) - ks.length := by simp only [IntKind.wrap_i64, wrap64]; omega
      by_cases hA : st.length < ks.length
      · have hneg : (st.length : Int) - ks.length < 0 := by omega
        have HF : Hid (ordB ts = false) := ordB_none (HO1.out ▸ ordS_no (by omega))
        rcases own_shape hown with ⟨rfl, hn0⟩ | ⟨vg, vcap, rfl, hvc, hvm, hvg⟩
        · have hwn : IntKind.i64.wrap (-(ks.length : Int)) = -(ks.length : Int) := by simp only [IntKind.wrap_i64, wrap64]; omega
          have hng : -(ks.length : Int) < 0 := by omega
          have hpos : 0 < ks.length := by omega
          clear hwr hneg
          go_wp2_with (go_at_call 56; refine hcn.mono ?_; rintro e w5 ⟨rfl, hw5⟩; replace hw5 := hw5.symm; subst hw5)
          go_ret
          exact ⟨ret_b HF.out.symm, hbel⟩
        · go_wp2_with (go_at_call 56; refine hcn.mono ?_; rintro e w5 ⟨rfl, hw5⟩; replace hw5 := hw5.symm; subst hw5)
          go_ret
          exact ⟨ret_b HF.out.symm, hbel⟩
      · have hrest : ∃ r : Nat, st.length = r + ks.length := ⟨st.length - ks.length, by omega⟩
        obtain ⟨r, hr⟩ := hrest
        have hdr : st.length - ks.length = r := by omega
        have HO2 : Hid (ordS (ks :: (ts.map XN.kids).drop (k + 1)) k st = ordS (ts.map XN.kids) 0 []) := HO1
        have HY : Hid (st.drop r = ks → ordS ((ts.map XN.kids).drop (k + 1)) (k + 1) (st.take r ++ [(k : Int)]) = ordS (ts.map XN.kids) 0 []) := (fun h => by
          rw [← HO2.out, ordS_yes ⟨by omega, by rw [hdr]; exact h⟩, hdr] : st.drop r = ks → ordS ((ts.map XN.kids).drop (k + 1)) (k + 1) (st.take r ++ [(k : Int)]) = ordS (ts.map XN.kids) 0 [])
        have HNo : Hid (st.drop r ≠ ks → ordB ts = false) := (fun h => ordB_none (by rw [← HO2.out]; exact ordS_no (fun a => h (by have := a.2; rw [hdr] at this; exact this))) : st.drop r ≠ ks → ordB ts = false)
        clear HO1 HO2 hA hdr
        have hsub : (st.length : Int) - ks.length = (r : Int) := by omega
        rw [hsub] at hwr
        by_cases hk0 : ks.length = 0
        · have hks : ks = [] := List.length_eq_zero_iff.1 hk0
          subst hks
          have hrs : st.length = r := by simpa using hr
          have HY2 : Hid (ordS ((ts.map XN.kids).drop (k + 1)) (k + 1) (st ++ [(k : Int)]) = ordS (ts.map XN.kids) 0 []) := (by
            have := HY.out (by rw [← hrs, List.drop_length])
            rw [← hrs, List.take_length] at this
            exact this : ordS ((ts.map XN.kids).drop (k + 1)) (k + 1) (st ++ [(k : Int)]) = ordS (ts.map XN.kids) 0 [])
          clear HY HNo hwr hsub hr
          subst hrs
          have hl0 : ¬ (st.length : Int) < 0 := by omega
          rcases own_shape hown with ⟨rfl, hn0⟩ | ⟨vg, vcap, rfl, hvc, hvm, hvg⟩
          · have hst : st = [] := List.length_eq_zero_iff.1 hn0
            subst hst
            simp only [List.length_nil, List.map_nil] at hcn hown
            go_wp2_with (first | (go_at_call 56; refine hcn.mono ?_; rintro e w5 ⟨rfl, hw5⟩; replace hw5 := hw5.symm; subst hw5) | (go_at_call 62; refine (sEq _ _ [] [] _ (by simp) ⟨_, _, rfl, fun h => by simp at h⟩ ⟨_, _, rfl, fun h => by simp at h⟩).mono ?_; rintro e w6 ⟨rfl, hb6⟩; have bw6 : Below w.heap.size w w6 := hbel.trans (hb6.mono hbs); have ho6 := own_below hown hb6) | (at_builtin; refine wpList_append_own _ rfl (.tmp 33) (.tmp 35) 35 rfl w.heap.size 3 i0 (.int .i64 0) 1 8 Try.underlying35 hi hz0 hz1 hz2 rfl (by decide) _ _ _ rfl (ho6.alloc _) ⟨w6.heap.size, 0, none⟩ 1 1 [.int .i64 k] rfl rfl (cell_one_new _ _ _) (by intro u hu; simp at hu; subst hu; rfl) (by unfold maxLen; omega) (by omega) (by have := bw6.size; simp; omega) ?_; intro v' w1 hown' hgrow _))
            have B1 : Below w.heap.size w w1 := (bw6.alloc bw6.size _).grown hgrow (by have := bw6.size; simp; omega) (fun j hj => by cases hj)
            go_wp2
            go_roundw
            case rel => exact ⟨k + 1, [] ++ [(k : Int)], by omega, by go_num, by simp, by simpa using hown', HY2, B1⟩
            case measure => simp [intOf]; omega
          · by_cases hcap : vcap = st.length
            · subst hcap
              go_wp2_with (first | (go_at_call 56; refine hcn.mono ?_; rintro e w5 ⟨rfl, hw5⟩; replace hw5 := hw5.symm; subst hw5) | (go_at_call 62; refine (sEq _ _ [] [] _ (by simp) ⟨_, _, rfl, fun h => by simp at h⟩ ⟨_, _, rfl, fun h => by simp at h⟩).mono ?_; rintro e w6 ⟨rfl, hb6⟩; have bw6 : Below w.heap.size w w6 := hbel.trans (hb6.mono hbs); have ho6 := own_below hown hb6) | (at_builtin; refine wpList_append_own _ rfl (.tmp 33) (.tmp 35) 35 rfl w.heap.size 3 i0 (.int .i64 0) 1 8 Try.underlying35 hi hz0 hz1 hz2 rfl (by decide) _ _ _ rfl (ho6.alloc _) ⟨w6.heap.size, 0, none⟩ 1 1 [.int .i64 k] rfl rfl (cell_one_new _ _ _) (by intro u hu; simp at hu; subst hu; rfl) (by unfold maxLen; omega) (by omega) (by have := bw6.size; simp; omega) ?_; intro v' w1 hown' hgrow _))
              have B1 : Below w.heap.size w w1 := (bw6.alloc bw6.size _).grown hgrow (by have := bw6.size; simp; omega) (fun j hj => by have := (ho6.lt j hj).1; omega)
              go_wp2
              go_roundw
              case rel => exact ⟨k + 1, st ++ [(k : Int)], by omega, by go_num, by simp; omega, by simpa using hown', HY2, B1⟩
              case measure => simp [intOf]; omega
            · go_wp2_with (first | (go_at_call 56; refine hcn.mono ?_; rintro e w5 ⟨rfl, hw5⟩; replace hw5 := hw5.symm; subst hw5) | (go_at_call 62; refine (sEq _ _ [] [] _ (by simp) ⟨_, _, rfl, fun h => by simp at h⟩ ⟨_, _, rfl, fun h => by simp at h⟩).mono ?_; rintro e w6 ⟨rfl, hb6⟩; have bw6 : Below w.heap.size w w6 := hbel.trans (hb6.mono hbs); have ho6 := own_below hown hb6) | (at_builtin; refine wpList_append_own _ rfl (.tmp 33) (.tmp 35) 35 rfl w.heap.size 3 i0 (.int .i64 0) 1 8 Try.underlying35 hi hz0 hz1 hz2 rfl (by decide) _ _ _ rfl (ho6.alloc _) ⟨w6.heap.size, 0, none⟩ 1 1 [.int .i64 k] rfl rfl (cell_one_new _ _ _) (by intro u hu; simp at hu; subst hu; rfl) (by unfold maxLen; omega) (by omega) (by have := bw6.size; simp; omega) ?_; intro v' w1 hown' hgrow _))
              have B1 : Below w.heap.size w w1 := (bw6.alloc bw6.size _).grown hgrow (by have := bw6.size; simp; omega) (fun j hj => by have := (ho6.lt j hj).1; omega)
              go_wp2
              go_roundw
              case rel => exact ⟨k + 1, st ++ [(k : Int)], by omega, by go_num, by simp; omega, by simpa using hown', HY2, B1⟩
              case measure => simp [intOf]; omega
        · obtain ⟨kg, ko, rfl, hkg, hkcc⟩ := hkc (by omega)
          rcases own_shape hown with ⟨rfl, hn0⟩ | ⟨vg, vcap, rfl, hvc, hvm, hvg⟩
          · omega
          · have hne : ¬ vcap = r := by omega
            have hrl : (r : Int) ≤ st.length := by omega
            have hlen : st.length - r = ks.length := by omega
            have hEq := sEq (.slice (some ⟨vg, r, none⟩) ks.length (vcap - r)) (.slice (some ⟨kg, ko, none⟩) ks.length kc) (st.drop r) ks wr (by rw [List.length_drop]; omega) ⟨_, _, by rw [List.length_drop, hlen], fun _ => ⟨vg, r, rfl, hvg, fun j hj => by
              rw [List.length_drop] at hj
              exact own_cell hown (j := r + j) (by rw [List.getElem?_map, List.getElem?_eq_getElem (by omega), List.getElem_drop]; rfl)⟩⟩ ⟨_, _, rfl, fun _ => ⟨kg, ko, rfl, Nat.lt_of_lt_of_le hkg (Nat.le_refl _), hkcc⟩⟩
            have hownT := own_take hown (r := r) (by omega)
            clear hkcc hkc
            cases hq : (st.drop r == ks)
            · have HF : Hid (ordB ts = false) := HNo.out (by intro h; rw [h] at hq; simp at hq)
              rw [hq] at hEq
              clear HY HNo
              go_wp2_with (first | (go_at_call 56; refine hcn.mono ?_; rintro e w5 ⟨rfl, hw5⟩; replace hw5 := hw5.symm; subst hw5) | (go_at_call 62; refine hEq.mono ?_; rintro e w6 ⟨rfl, hb6⟩; have bw6 : Below w.heap.size w w6 := hbel.trans (hb6.mono hbs)))
              go_ret
              exact ⟨ret_b HF.out.symm, bw6⟩
            · have HY2 := HY.out (by simpa using hq)
              rw [hq] at hEq
              clear HY HNo
              go_wp2_with (first | (go_at_call 56; refine hcn.mono ?_; rintro e w5 ⟨rfl, hw5⟩; replace hw5 := hw5.symm; subst hw5) | (go_at_call 62; refine hEq.mono ?_; rintro e w6 ⟨rfl, hb6⟩; have bw6 : Below w.heap.size w w6 := hbel.trans (hb6.mono hbs)) | (at_builtin; refine wpList_append_own _ rfl (.tmp 33) (.tmp 35) 35 rfl w.heap.size 3 i0 (.int .i64 0) 1 8 Try.underlying35 hi hz0 hz1 hz2 rfl (by decide) _ _ _ rfl ((own_below hownT hb6).alloc _) ⟨w6.heap.size, 0, none⟩ 1 1 [.int .i64 k] rfl rfl (cell_one_new _ _ _) (by intro u hu; simp at hu; subst hu; rfl) (by unfold maxLen; omega) (by omega) (by have := bw6.size; simp; omega) ?_; intro v' w1 hown' hgrow _))
              have B1 : Below w.heap.size w w1 := (bw6.alloc bw6.size _).grown hgrow (by have := bw6.size; simp; omega) (fun j hj => by have := (hownT.lt j hj).1; omega)
              go_wp2
              go_roundw
              case rel => exact ⟨k + 1, st.take r ++ [(k : Int)], by omega, by go_num, by simp; omega, by simpa [List.map_take, Nat.min_eq_left (show r ≤ st.length by omega)] using hown', HY2, B1⟩
              case measure => simp [intOf]; omega
    · have hkn : k = ts.length := by omega
      subst hkn
      have hlti : ¬ (ts.length : Int) < ts.length := by omega
      have HE : Hid (ordB ts = decide ((st.length : Int) = 1)) := (ordB_some (by
        rw [← HO.out, List.drop_of_length_le (by simp)]; rfl) : ordB ts = decide ((st.length : Int) = 1))
      rcases own_shape hown with ⟨rfl, hn0⟩ | ⟨vg, vcap, rfl, hvc, hvm, hvg⟩
      · rw [hn0] at HE
        go_wp2
        go_ret
        exact ⟨ret_b (by rw [HE.out]; rfl), hbel⟩
      · go_wp2
        go_ret
        exact ⟨ret_b (by rw [HE.out]; rfl), hbel⟩
end Go.Proofs.Ytoieiegjhjedoaa
