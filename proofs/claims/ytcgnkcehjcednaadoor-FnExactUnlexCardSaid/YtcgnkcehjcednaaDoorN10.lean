import Derived.Test.YtcgnkcehjcednaaDoorN2
import Derived.Test.YtcgnkcehjcednaaDoorZ1
namespace Go.Proofs.YtcgnkcehjcednaaDoor
open Go.ChangeShapes Go.WideShapes Go.ChangeAt Go.RowKit Go.Shelf
set_option linter.unusedVariables false
set_option linter.unusedSimpArgs false
set_option maxRecDepth 100000
abbrev TV := Int × ByteArray × Int
noncomputable def allOK (us : List TV) : Bool := us.all (fun t => okB t.1 t.2.1.data.toList)
def uTexts (us : List TV) : List ByteArray := us.map fun t => ⟨(tokText t.1 t.2.1.data.toList).toArray⟩
def uText (us : List TV) : List UInt8 := Lib.join ((uTexts us).map (·.data.toList)) [32]
/-- What Unlex answers: text and code. -/
noncomputable def unlexR (us : List TV) : ByteArray × Int := if 2000 < us.length ∨ allOK us = false then (⟨#[]⟩, 1) else if 8000 < (uText us).length then (⟨#[]⟩, 5) else (⟨(uText us).toArray⟩, 0)
theorem join_len (B : Nat) : ∀ l : List (List UInt8), (∀ x ∈ l, x.length ≤ B) → (Lib.join l [32]).length ≤ l.length * (B + 1)
  | [], _ => by simp [Lib.join, List.intercalate]
  | [x], h => by rw [Lib.join_one]; have := h x (by simp); simp; omega
  | x :: y :: r, h => by
    have ih := join_len B (y :: r) (fun z hz => h z (List.mem_cons_of_mem _ hz))
    have hj : Lib.join (x :: y :: r) [32] = x ++ 32 :: Lib.join (y :: r) [32] := by
      rw [Lib.join_cons, Lib.join_cons]; simp [Lib.joinTail]
    have hx := h x (by simp)
    rw [hj]
    simp only [List.length_append, List.length_cons] at ih ⊢
    rw [Nat.add_mul (r.length + 1) 1 (B + 1)]
    omega
theorem info9 : (Tryd.prog.info? 9).map (fun i => (i.zero, i.size, i.bytes)) = some (some (.string ByteArray.empty), 1, 16) := by kernel_rfl
theorem uTexts_take (us : List TV) (k : Nat) (h : k < us.length) : uTexts (us.take (k + 1)) = uTexts (us.take k) ++ [⟨(tokText us[k].1 us[k].2.1.data.toList).toArray⟩] := by
  unfold uTexts
  rw [List.take_add_one, List.getElem?_eq_getElem h, List.map_append]; rfl
set_option maxHeartbeats 3200000 in
theorem unlex_any (la : Option Addr) (lc : Nat) (us : List TV) (w : World) (hn : us.length ≤ maxLen) (hsz : ∀ t ∈ us, t.2.1.size ≤ 1048576) (hv : RT w (.slice la us.length lc) us) (hT : Tabs w) (hM : ML w) :
    Calls Tryd.prog 28 #[.slice la us.length lc] w fun e w' => e = .returned (.tuple #[.string (unlexR us).1, .int .i64 (unlexR us).2]) ∧ Below w.heap.size w w' := by
  unfold maxLen at hn
  obtain ⟨R, hR⟩ : ∃ R, R = unlexR us := ⟨_, rfl⟩
  rw [← hR]
  by_cases hbig : 2000 < us.length
  · have HR : Hid (R = (⟨#[]⟩, 1)) := by show R = _; rw [hR]; unfold unlexR; rw [if_pos (.inl hbig)]
    have hbi : (2000 : Int) < us.length := by omega
    clear hR
    go_enter Tryd.func28, Tryd.ntmps28
    go_wp2
    go_ret2
    refine ⟨?_, Below.refl _ _⟩
    rw [HR.out]; rfl
  · have hbi : ¬ (2000 : Int) < us.length := by omega
    obtain ⟨i0, hi, hz0, hz1, hz2⟩ := info_parts info9
    obtain ⟨a, cap, hsl, hcells⟩ := hv
    simp only [Value.slice.injEq] at hsl
    obtain ⟨rfl, _, rfl⟩ := hsl
    go_enter Tryd.func28, Tryd.ntmps28
    go_wp2
    go_loopw [4, 13] (fun v i wr => ∃ k : Nat, k ≤ us.length ∧ i = .int .i64 k ∧ Hid (∀ t ∈ us.take k, tokOK t.1 t.2.1.data.toList) ∧ wr.ownsRow w.heap.size 9 1 v k ((uTexts (us.take k)).map Value.string) ∧ Below w.heap.size w wr) (fun _ i _ => us.length - (intOf i).toNat)
    case atStart => exact ⟨0, Nat.zero_le _, rfl, fun t h => by simp at h, World.ownsRow_nil _ _ _ _, Below.refl _ _⟩
    case round =>
      obtain ⟨k, hk, rfl, HO, hown, hbel⟩ := hrel
      have hbs := hbel.size
      by_cases hlt : k < us.length
      · have hlti : (k : Int) < us.length := by omega
        obtain ⟨g, rfl, hg, hgc⟩ := hcells (by omega)
        obtain ⟨a0, a1, a2⟩ := hgc k hlt
        have c0 := (hbel.cell (p := ⟨g, k * 3, none⟩) hg).trans a0
        have c1 := (hbel.cell (p := ⟨g, k * 3 + 1, none⟩) hg).trans a1
        have c2 := (hbel.cell (p := ⟨g, k * 3 + 2, none⟩) hg).trans a2
        have hts := uTexts_take us k hlt
        have hin : us[k] ∈ us := List.getElem_mem hlt
        have hsx := hsz us[k] hin
        have htk : us.take (k + 1) = us.take k ++ [us[k]] := by rw [List.take_add_one, List.getElem?_eq_getElem hlt]; rfl
        have HNO : okB us[k].1 us[k].2.1.data.toList = false → Hid (R = (⟨#[]⟩, 1)) := fun z => by
          have hal : allOK us = false := by
            unfold allOK
            rw [List.all_eq_false]
            exact ⟨us[k], hin, by rw [z]; decide⟩
          show R = _
          rw [hR]; unfold unlexR; rw [if_pos (.inr hal)]
        have HYES : tokOK us[k].1 us[k].2.1.data.toList → Hid (∀ t ∈ us.take (k + 1), tokOK t.1 t.2.1.data.toList) := fun z t ht => by
          rw [htk] at ht
          rcases List.mem_append.1 ht with h | h
          · exact HO.out t h
          · rw [List.mem_singleton] at h; rw [h]; exact z
        clear a0 a1 a2 hgc hin
        obtain ⟨t, htt⟩ : ∃ t, us[k] = t := ⟨_, rfl⟩
        rw [htt] at c0 c1 c2 hts hsx HNO HYES
        clear htt htk
        obtain ⟨tk, tx, tp⟩ := t
        simp only at c0 c1 c2 hts hsx HNO HYES
        have hok := fun w hT hM => tokenOK_any tk tp tx w hsx hT hM
        have htx := fun w hM => tokenText_any tk tp tx w hsx hM
        have hTa : ∀ o, Tabs (wr.alloc o) := fun o => tabs_below hT (hbel.alloc hbs o)
        have hMa : ∀ o, ML (wr.alloc o) := fun o => hM.below (hbel.alloc hbs o)
        cases hb : okB tk tx.data.toList
        · have HR := HNO hb
          rw [hb] at hok
          clear HNO HYES hb
          go_wp2_with (go_at_call 47; refine (hok _ (hTa _) (hMa _)).mono ?_; rintro e w1 ⟨rfl, hb1⟩)
          go_ret2
          refine ⟨?_, (hbel.alloc hbs _).trans (hb1.mono (by simp; omega))⟩
          rw [HR.out]; rfl
        · have HY := HYES ((okB_iff _ _).1 hb)
          rw [hb] at hok
          clear HNO HYES hb
          obtain ⟨X, hX⟩ : ∃ X : ByteArray, X = ⟨(tokText tk tx.data.toList).toArray⟩ := ⟨_, rfl⟩
          rw [← hX] at htx hts
          have HTS : Hid (uTexts (us.take (k + 1)) = uTexts (us.take k) ++ [X]) := hts
          clear hX hts
          go_wp2_with (first | (go_at_call 47; refine (hok _ (hTa _) (hMa _)).mono ?_; rintro e w1 ⟨rfl, hb1⟩; obtain ⟨hc1, hf1⟩ := bcell hb1; have hz1w : wr.heap.size < w1.heap.size := (by have := hb1.size; simp at this; omega); have bw1 : Below w.heap.size w w1 := (hbel.alloc hbs _).trans (hb1.mono (by simp; omega)); have ho1 := own_below (hown.alloc _) hb1; have hM1 := hM.below bw1; clear hb1) | (go_at_call 48; refine (htx _ hM1).mono ?_; rintro e w2 ⟨rfl, hb2⟩; have hz2w : wr.heap.size < w2.heap.size := (by have := hb2.size; omega); have bw2 : Below w.heap.size w w2 := bw1.trans (hb2.mono (by omega)); have ho2 := own_below ho1 hb2; clear hb2) | (at_builtin; refine wpList_append_own _ rfl (.tmp 20) (.tmp 23) 86 rfl w.heap.size 9 i0 (.string ByteArray.empty) 1 16 Tryd.underlying86 hi hz0 hz1 hz2 rfl (by decide) _ k ((uTexts (us.take k)).map Value.string) rfl (ho2.alloc _) ⟨_, 0, none⟩ 1 1 [.string X] rfl rfl (cell_one_new _ _ _) (by intro u hu; simp at hu; subst hu; rfl) (by unfold maxLen; omega) (by omega) (by simp; omega) ?_; intro v' w3 hown' hgrow _))
          have HB3 : Hid (Below w.heap.size w w3) := (bw2.alloc (by omega) _).grown hgrow (by simp; omega) (fun k hk => (hown.lt k hk).1)
          have HO3 : Hid (w3.ownsRow w.heap.size 9 1 v' (k + 1) ((uTexts (us.take (k + 1))).map Value.string)) := by
            show w3.ownsRow w.heap.size 9 1 v' (k + 1) ((uTexts (us.take (k + 1))).map Value.string)
            rw [HTS.out]; simpa using hown'
          clear hown' hgrow
          go_roundw
          case rel => exact ⟨k + 1, by omega, by go_num, HY, HO3.out, HB3.out⟩
          case measure => simp [intOf]; omega
      · have hkn : k = us.length := by omega
        subst hkn
        rw [List.take_length] at hown HO
        have hal : allOK us = true := by
          unfold allOK
          rw [List.all_eq_true]
          exact fun t ht => (okB_iff _ _).2 (HO.out t ht)
        have htl : (uTexts us).length = us.length := by simp [uTexts]
        have hlen : (uText us).length ≤ us.length * 8001 := by
          have := join_len 8000 ((uTexts us).map (·.data.toList)) (fun x hx => by
            obtain ⟨b, hb, rfl⟩ := List.mem_map.1 hx
            unfold uTexts at hb
            obtain ⟨t, ht, rfl⟩ := List.mem_map.1 hb
            exact tokOK_small t.1 t.2.1 (HO.out t ht))
          rw [List.length_map, htl] at this
          exact this
        have hR2 : R = if 8000 < (uText us).length then (⟨#[]⟩, 5) else (⟨(uText us).toArray⟩, 0) := by
          rw [hR]; unfold unlexR; rw [if_neg (fun z => z.elim hbig (fun y => by rw [hal] at y; cases y))]
        have hj : Calls Tryd.prog 65 #[u4, .string ⟨#[32]⟩] wr fun e w' => e = .returned (.string ⟨(uText us).toArray⟩) ∧ Below wr.heap.size wr w' := by
          rcases hown.2 with ⟨rfl, h0⟩ | ⟨g, cap, cur, rfl, hg1, hg2, hg3, hg4, hg5, hg6⟩
          · have hnil : us = [] := List.eq_nil_of_length_eq_zero h0
            refine (Tryd.strings_Join_none none 0 ⟨#[32]⟩ wr).mono ?_
            rintro e w' ⟨rfl, rfl⟩
            exact ⟨by rw [hnil]; rfl, Below.refl _ _⟩
          · have hjj := Tryd.strings_Join g 0 cap (uTexts us) ⟨#[32]⟩ wr (fun j x hx => by
              have hjl : j < (uTexts us).length := (List.getElem?_eq_some_iff.1 hx).1
              have := hown.cellAt j (by omega)
              rw [Nat.zero_add, this, List.getElem?_map, hx]; rfl) (hown.lt g rfl).2 (by omega) (by omega) (by show (uText us).length ≤ _; omega)
            rw [htl] at hjj
            exact hjj
        obtain ⟨T, hTd⟩ : ∃ T : ByteArray, T = ⟨(uText us).toArray⟩ := ⟨_, rfl⟩
        rw [← hTd] at hj hR2
        have hTs : T.size = (uText us).length := by rw [hTd]; simp [ByteArray.size]
        rw [← hTs] at hR2 hlen
        clear hR hal htl hTd hTs hown
        have hlti : ¬ (us.length : Int) < us.length := by omega
        by_cases h8 : 8000 < T.size
        · have HR : Hid (R = (⟨#[]⟩, 5)) := by rw [if_pos h8] at hR2; exact hR2
          have h8i : (8000 : Int) < T.size := by omega
          clear hR2
          go_wp2_with (go_at_call 65; refine hj.mono ?_; rintro e w1 ⟨rfl, hb1⟩)
          go_ret2
          refine ⟨?_, hbel.trans (hb1.mono hbs)⟩
          rw [HR.out]; rfl
        · have HR : Hid (R = (T, 0)) := by rw [if_neg h8] at hR2; exact hR2
          have h8i : ¬ (8000 : Int) < T.size := by omega
          clear hR2
          go_wp2_with (go_at_call 65; refine hj.mono ?_; rintro e w1 ⟨rfl, hb1⟩)
          go_ret2
          refine ⟨?_, hbel.trans (hb1.mono hbs)⟩
          rw [HR.out]; rfl
end Go.Proofs.YtcgnkcehjcednaaDoor
