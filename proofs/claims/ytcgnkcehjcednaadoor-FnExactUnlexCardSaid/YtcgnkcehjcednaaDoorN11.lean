import Derived.Test.YtcgnkcehjcednaaDoorN7
import Derived.Test.YtcgnkcehjcednaaDoorN9
import Derived.Test.YtcgnkcehjcednaaDoorN10
namespace Go.Proofs.YtcgnkcehjcednaaDoor
open Go.ChangeShapes Go.WideShapes Go.ChangeAt Go.RowKit Go.Shelf
set_option linter.unusedVariables false
set_option linter.unusedSimpArgs false
set_option maxRecDepth 100000
theorem join_snoc (x : List UInt8) : ∀ l : List (List UInt8), l ≠ [] → Lib.join (l ++ [x]) [32] = Lib.join l [32] ++ [32] ++ x
  | [], h => absurd rfl h
  | y :: r, _ => by
    rw [List.cons_append, Lib.join_cons, Lib.join_cons]
    simp [Lib.joinTail]
theorem bcells_app (a b : List UInt8) : bcells (a ++ b) = bcells a ++ bcells b := by simp [bcells]
theorem strCells_b (s : ByteArray) : Lib.strCells s = bcells s.data.toList := by simp [Lib.strCells, bcells]
theorem uText_zero (us : List TV) : uText (us.take 0) = [] := by simp [uText, uTexts, Lib.join, List.intercalate]
theorem uText_one (us : List TV) (h : 0 < us.length) : uText (us.take 1) = tokText us[0].1 us[0].2.1.data.toList := by
  have := uTexts_take us 0 h
  unfold uText
  rw [this]
  simp [uTexts, Lib.join_one]
theorem uText_succ (us : List TV) (k : Nat) (h : k < us.length) (hk : 0 < k) : uText (us.take (k + 1)) = uText (us.take k) ++ [32] ++ tokText us[k].1 us[k].2.1.data.toList := by
  unfold uText
  rw [uTexts_take us k h, List.map_append]
  exact join_snoc _ _ (by
    intro z
    have e : ((uTexts (us.take k)).map (·.data.toList)).length = k := by
      rw [List.length_map]; unfold uTexts; rw [List.length_map, List.length_take]; omega
    rw [z] at e; simp at e; omega)
theorem uText_small (us : List TV) (k : Nat) (h : ∀ t ∈ us, tokOK t.1 t.2.1.data.toList) : (uText (us.take k)).length ≤ (us.take k).length * 8001 := by
  have := join_len 8000 ((uTexts (us.take k)).map (·.data.toList)) (fun x hx => by
    obtain ⟨b, hb, rfl⟩ := List.mem_map.1 hx
    unfold uTexts at hb
    obtain ⟨t, ht, rfl⟩ := List.mem_map.1 hb
    exact tokOK_small t.1 t.2.1 (h t (List.mem_of_mem_take ht)))
  rw [List.length_map] at this
  have e : (uTexts (us.take k)).length = (us.take k).length := by simp [uTexts]
  rw [e] at this
  exact this
theorem cell_one_new1 (w : World) (o : Obj) (v : Value) (t : Nat) : ∀ (j : Nat) (u : Value), [v][j]? = some u → ((w.alloc o).alloc (.cells #[v] t)).cell? (({ block := w.heap.size + 1, off := 0 } : Addr).add j) = some u := by
  have h := cell_one_new (w.alloc o) v t
  have e : (w.alloc o).heap.size = w.heap.size + 1 := by simp
  rw [e] at h
  exact h
set_option maxHeartbeats 3200000 in
theorem unlexS_any (la : Option Addr) (lc : Nat) (us : List TV) (w : World) (hn : us.length ≤ maxLen) (hsz : ∀ t ∈ us, t.2.1.size ≤ 1048576) (hv : RT w (.slice la us.length lc) us) :
    Calls Tryd.prog 26 #[.slice la us.length lc] w fun e w' => e = .returned (.tuple #[.string (unlexR us).1, .int .i64 (unlexR us).2]) ∧ Below w.heap.size w w' := by
  unfold maxLen at hn
  obtain ⟨R, hR⟩ : ∃ R, R = unlexR us := ⟨_, rfl⟩
  rw [← hR]
  by_cases hbig : 2000 < us.length
  · have HR : Hid (R = (⟨#[]⟩, 1)) := by show R = _; rw [hR]; unfold unlexR; rw [if_pos (.inl hbig)]
    have hbi : (2000 : Int) < us.length := by omega
    clear hR
    go_enter Tryd.func26, Tryd.ntmps26
    go_wp2
    go_ret2
    refine ⟨?_, Below.refl _ _⟩
    rw [HR.out]; rfl
  · have hbi : ¬ (2000 : Int) < us.length := by omega
    obtain ⟨i0, hi, hz0, hz1, hz2⟩ := info_parts info5
    obtain ⟨a, cap, hsl, hcells⟩ := hv
    simp only [Value.slice.injEq] at hsl
    obtain ⟨rfl, _, rfl⟩ := hsl
    go_enter Tryd.func26, Tryd.ntmps26
    go_wp2
    go_loopw [14] (fun i wr => ∃ k : Nat, k ≤ us.length ∧ i = .int .i64 k ∧ Hid (∀ t ∈ us.take k, tokOK t.1 t.2.1.data.toList) ∧ Below w.heap.size w wr) (fun i _ => us.length - (intOf i).toNat)
    case atStart => exact ⟨0, Nat.zero_le _, rfl, fun t h => by simp at h, Below.refl _ _⟩
    case round =>
      obtain ⟨k, hk, rfl, HO, hbel⟩ := hrel
      have hbs := hbel.size
      by_cases hlt : k < us.length
      · have hlti : (k : Int) < us.length := by omega
        obtain ⟨g, rfl, hg, hgc⟩ := hcells (by omega)
        obtain ⟨a0, a1, a2⟩ := hgc k hlt
        have c0 := (hbel.cell (p := ⟨g, k * 3, none⟩) hg).trans a0
        have c1 := (hbel.cell (p := ⟨g, k * 3 + 1, none⟩) hg).trans a1
        have c2 := (hbel.cell (p := ⟨g, k * 3 + 2, none⟩) hg).trans a2
        have hin : us[k] ∈ us := List.getElem_mem hlt
        have hsx := hsz us[k] hin
        have htk : us.take (k + 1) = us.take k ++ [us[k]] := by rw [List.take_add_one, List.getElem?_eq_getElem hlt]; rfl
        have HNO : okB us[k].1 us[k].2.1.data.toList = false → Hid (R = (⟨#[]⟩, 1)) := fun z => by
          have hal : allOK us = false := by
            unfold allOK
            rw [List.all_eq_false]
            exact ⟨us[k], hin, by rw [z]; decide⟩
          show R = _
          rw [hR]; unfold unlexR; rw [if_pos (.inr hal)]
        have HYES : tokOK us[k].1 us[k].2.1.data.toList → Hid (∀ t ∈ us.take (k + 1), tokOK t.1 t.2.1.data.toList) := fun z t ht => by
          rw [htk] at ht
          rcases List.mem_append.1 ht with h | h
          · exact HO.out t h
          · rw [List.mem_singleton] at h; rw [h]; exact z
        clear a0 a1 a2 hgc hin
        obtain ⟨t, htt⟩ : ∃ t, us[k] = t := ⟨_, rfl⟩
        rw [htt] at c0 c1 c2 hsx HNO HYES
        clear htt htk
        obtain ⟨tk, tx, tp⟩ := t
        simp only at c0 c1 c2 hsx HNO HYES
        have hok := fun w => tokenOKS_any tk tp tx w hsx
        cases hb : okB tk tx.data.toList
        · have HR := HNO hb
          rw [hb] at hok
          clear HNO HYES hb
          go_wp2_with (go_at_call 62; refine (hok _).mono ?_; rintro e w1 ⟨rfl, hb1⟩)
          go_ret2
          refine ⟨?_, (hbel.alloc hbs _).trans (hb1.mono (by simp; omega))⟩
          rw [HR.out]; rfl
        · have HY := HYES ((okB_iff _ _).1 hb)
          rw [hb] at hok
          clear HNO HYES hb
          go_wp2_with (go_at_call 62; refine (hok _).mono ?_; rintro e w1 ⟨rfl, hb1⟩)
          go_roundw
          case rel => exact ⟨k + 1, by omega, by go_num, HY, (hbel.alloc hbs _).trans (hb1.mono (by simp; omega))⟩
          case measure => simp [intOf]; omega
      · have hkn : k = us.length := by omega
        subst hkn
        rw [List.take_length] at HO
        have hal : allOK us = true := by
          unfold allOK
          rw [List.all_eq_true]
          exact fun t ht => (okB_iff _ _).2 (HO.out t ht)
        have HR2 : Hid (R = if 8000 < (uText us).length then (⟨#[]⟩, 5) else (⟨(uText us).toArray⟩, 0)) := by
          show R = _
          rw [hR]; unfold unlexR; rw [if_neg (fun z => z.elim hbig (fun y => by rw [hal] at y; cases y))]
        clear hR hal
        have hlti : ¬ (us.length : Int) < us.length := by omega
        go_wp2
        go_loopw [6, 25] (fun v i wx => ∃ k : Nat, k ≤ us.length ∧ i = .int .i64 k ∧ wx.ownsRow w.heap.size 5 1 v (uText (us.take k)).length (bcells (uText (us.take k))) ∧ Below w.heap.size w wx) (fun _ i _ => us.length - (intOf i).toNat)
        case atStart =>
          refine ⟨0, Nat.zero_le _, rfl, ?_, hbel.alloc hbs _⟩
          rw [uText_zero]
          exact World.ownsRow_made wr #[] 0 hbs (by unfold maxLen; omega) (by simp)
        case round =>
          obtain ⟨k, hk, rfl, hown, hbx⟩ := hrel
          have hxs := hbx.size
          have hsm := uText_small us k HO.out
          have hsk : (us.take k).length ≤ 2000 := by rw [List.length_take]; omega
          by_cases hlt : k < us.length
          · have hlti2 : (k : Int) < us.length := by omega
            obtain ⟨g, rfl, hg, hgc⟩ := hcells (by omega)
            obtain ⟨a0, a1, a2⟩ := hgc k hlt
            have c0 := (hbx.cell (p := ⟨g, k * 3, none⟩) hg).trans a0
            have c1 := (hbx.cell (p := ⟨g, k * 3 + 1, none⟩) hg).trans a1
            have c2 := (hbx.cell (p := ⟨g, k * 3 + 2, none⟩) hg).trans a2
            have hin : us[k] ∈ us := List.getElem_mem hlt
            have hsx := hsz us[k] hin
            have hok1 := HO.out us[k] hin
            have hst := tokOK_small us[k].1 us[k].2.1 hok1
            have h1 := fun h => uText_one us h
            have h2 := uText_succ us k hlt
            have HU0 : k = 0 → Hid (uText (us.take (k + 1)) = tokText us[k].1 us[k].2.1.data.toList) := fun z => by subst z; exact h1 hlt
            have HUS : 0 < k → Hid (uText (us.take (k + 1)) = uText (us.take k) ++ [32] ++ tokText us[k].1 us[k].2.1.data.toList) := fun z => h2 z
            clear a0 a1 a2 hgc hin h1 h2 hok1
            obtain ⟨t, htt⟩ : ∃ t, us[k] = t := ⟨_, rfl⟩
            rw [htt] at c0 c1 c2 hsx hst HU0 HUS
            clear htt
            obtain ⟨tk, tx, tp⟩ := t
            simp only at c0 c1 c2 hsx hst HU0 HUS
            have htx := fun w => tokenTextS_any tk tp tx w hsx
            obtain ⟨X, hX⟩ : ∃ X : ByteArray, X = ⟨(tokText tk tx.data.toList).toArray⟩ := ⟨_, rfl⟩
            rw [← hX] at htx
            have hXd : tokText tk tx.data.toList = X.data.toList := by rw [hX]
            rw [hXd] at hst HU0 HUS
            have hXl : X.data.toList.length = X.size := by simp
            rw [hXl] at hst
            clear hX hXd hXl
            have hal : (uText (us.take k)).length ≤ 100000000 := by omega
            by_cases h0 : k = 0
            · have HU := HU0 h0
              subst h0
              rw [uText_zero] at hown
              clear HU0 HUS hsm hal
              go_wp2_with (first | (go_at_call 63; refine (htx _).mono ?_; rintro e w1 ⟨rfl, hb1⟩; have ho1 := own_below (hown.alloc _) hb1; have bw1 : Below w.heap.size w w1 := (hbx.alloc hxs _).trans (hb1.mono (by simp; omega)); have hzz : w.heap.size ≤ w1.heap.size := bw1.size; clear hb1) | (at_builtin; refine Lib.wpList_append_own_string _ rfl (.tmp 35) (.tmp 37) 44 9 rfl w.heap.size 5 i0 Tryd.underlying44 Tryd.underlying9 hi hz0 hz1 hz2 _ _ _ rfl ho1 X rfl (by simp; unfold maxLen; omega) (by simp; omega) hzz ?_; intro v' w3 hown' hgrow _))
              have HB3 : Hid (Below w.heap.size w w3) := bw1.grown hgrow hzz (fun k hk => (hown.lt k hk).1)
              have HO3 : Hid (w3.ownsRow w.heap.size 5 1 v' (uText (us.take (0 + 1))).length (bcells (uText (us.take (0 + 1))))) := by
                show w3.ownsRow w.heap.size 5 1 v' (uText (us.take (0 + 1))).length (bcells (uText (us.take (0 + 1))))
                rw [HU.out]
                rw [strCells_b] at hown'
                simpa [bcells] using hown'
              clear hown' hgrow
              go_roundw
              case rel => exact ⟨0 + 1, by omega, by go_num, HO3.out, HB3.out⟩
              case measure => simp [intOf]; omega
            · have HU := HUS (by omega)
              have h0i : (0 : Int) < k := by omega
              have h0n : 0 < k := by omega
              obtain ⟨acc, hacc⟩ : ∃ acc, uText (us.take k) = acc := ⟨_, rfl⟩
              rw [hacc] at hown HU hal
              clear HU0 HUS hsm hacc
              go_wp2_with (first | (at_builtin; refine wpList_append_own _ rfl (.tmp 32) (.tmp 33) 44 rfl w.heap.size 5 i0 (.int .u8 0) 1 1 Tryd.underlying44 hi hz0 hz1 hz2 rfl (by decide) _ acc.length (bcells acc) rfl ((hown.alloc _).alloc _) ⟨_, 0, none⟩ 1 1 [.int .u8 32] rfl rfl (cell_one_new1 _ _ _ _) (by intro u hu; simp at hu; subst hu; rfl) (by unfold maxLen; omega) (by omega) (by simp; omega) ?_; intro v1 w0 ho0 hg0 _; have bw0 : Below w.heap.size w w0 := ((hbx.alloc hxs _).alloc (by simp; omega) _).grown hg0 (by simp; omega) (fun k hk => (hown.lt k hk).1); have hz0w := bw0.size; have ld0 := World.cell?_of_block (a := ⟨wr.heap.size, 0, none⟩) (hg0.block wr.heap.size (by simp; omega) (fun z => by have := (hown.lt _ z.symm).2; omega)); have ld1 := World.cell?_of_block (a := ⟨wr.heap.size, 1, none⟩) (hg0.block wr.heap.size (by simp; omega) (fun z => by have := (hown.lt _ z.symm).2; omega)); have ld2 := World.cell?_of_block (a := ⟨wr.heap.size, 2, none⟩) (hg0.block wr.heap.size (by simp; omega) (fun z => by have := (hown.lt _ z.symm).2; omega))) | (go_at_call 63; refine (htx _).mono ?_; rintro e w1 ⟨rfl, hb1⟩; have ho1 := own_below ho0 hb1; have bw1 : Below w.heap.size w w1 := bw0.trans (hb1.mono hz0w); have hzz : w.heap.size ≤ w1.heap.size := bw1.size; clear hb1) | (at_builtin; refine Lib.wpList_append_own_string _ rfl (.tmp 35) (.tmp 37) 44 9 rfl w.heap.size 5 i0 Tryd.underlying44 Tryd.underlying9 hi hz0 hz1 hz2 _ _ _ rfl ho1 X rfl (by unfold maxLen; omega) (by omega) hzz ?_; intro v' w3 hown' hgrow _))
              have HB3 : Hid (Below w.heap.size w w3) := bw1.grown hgrow hzz (fun k hk => (ho0.lt k hk).1)
              have HO3 : Hid (w3.ownsRow w.heap.size 5 1 v' (uText (us.take (k + 1))).length (bcells (uText (us.take (k + 1))))) := by
                show w3.ownsRow w.heap.size 5 1 v' (uText (us.take (k + 1))).length (bcells (uText (us.take (k + 1))))
                rw [HU.out]
                rw [strCells_b] at hown'
                simpa [bcells, Nat.add_assoc, Nat.add_comm 1 X.size] using hown'
              clear hown' hgrow
              go_roundw
              case rel => exact ⟨k + 1, by omega, by go_num, HO3.out, HB3.out⟩
              case measure => simp [intOf]; omega
          · have hkn : k = us.length := by omega
            subst hkn
            rw [List.take_length] at hown hsm
            obtain ⟨la5, lc5, hu5⟩ := owns_slice hown
            subst hu5
            have hcv := conv_own _ _ _ _ hown
            have hll : (uText us).length ≤ 100000000 := by rw [List.take_length] at hsk; omega
            obtain ⟨T, hTd⟩ : ∃ T : ByteArray, T = ⟨(uText us).toArray⟩ := ⟨_, rfl⟩
            rw [← hTd] at hcv
            have HR3 : Hid (R = if 8000 < (uText us).length then (⟨#[]⟩, 5) else (T, 0)) := by show R = _; rw [HR2.out, hTd]
            clear HR2 hTd hown hsm
            generalize (uText us).length = L at *
            by_cases h8 : 8000 < L
            · have HR : Hid (R = (⟨#[]⟩, 5)) := by have := HR3.out; rw [if_pos h8] at this; exact this
              have h8i : (8000 : Int) < L := by omega
              clear HR3
              go_wp2
              go_ret2
              refine ⟨?_, hbx⟩
              rw [HR.out]; rfl
            · have HR : Hid (R = (T, 0)) := by have := HR3.out; rw [if_neg h8] at this; exact this
              have h8i : ¬ (8000 : Int) < L := by omega
              clear HR3
              go_wp2
              go_ret2
              refine ⟨?_, hbx⟩
              rw [HR.out]; rfl
end Go.Proofs.YtcgnkcehjcednaaDoor
