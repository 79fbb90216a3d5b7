import Derived.Test.YtfgjleifhjegkaaDoorKK
import Derived.Test.YtfgjleifhjegkaaDoorNG
namespace Go.Proofs.YtfgjleifhjegkaaDoor
open Go.ChangeShapes Go.WideShapes Go.ChangeAt Go.RowKit
set_option linter.unusedVariables false
set_option linter.unusedSimpArgs false
set_option maxRecDepth 100000
/-- What an encoder answers, with the bytes as they lie. -/
def BytQ (L : List VA → List Int) (M : Nat) (us : List VA) (w : World) (e : Ending) (w' : World) : Prop := ∃ (v : Value) (c : Int) (l : List Int), e = .returned (.tuple #[v, .int .i64 c]) ∧ YOut 5 w.heap.size w' v l ∧ BytC L M us l c ∧ Below w.heap.size w w'
theorem BytQ.p {L : List VA → List Int} {M : Nat} {us : List VA} {w : World} {e : Ending} {w' : World} (h : BytQ L M us w e w') : BytP L M us w e w' := by
  obtain ⟨v, c, l, h1, h2, h3, h4⟩ := h
  exact ⟨v, c, l, h1, h2.rsw, h3, h4⟩
theorem wkey_part (b0 : Nat) (oa : Option Addr) (oc : Nat) (xs : List Int) (t : VA) (w : World) (h0 : b0 ≤ w.heap.size) (hx : xs.length ≤ 90000000) (hv : vok t.k t.n t.s = true) (hs : t.s.size ≤ 1048576) (h1 : -9223372036854775808 ≤ t.n) (h2 : t.n ≤ 9223372036854775807) (HY : YOut 5 b0 w (.slice oa xs.length oc) xs) :
    Calls Tryd.prog 33 #[.slice oa xs.length oc, .agg #[.int .i64 t.k, .int .i64 t.n, .string t.s]] w fun e w' => Onto b0 w (xs ++ keyP t.k t.n t.s) e w' := by
  obtain ⟨k, n, s⟩ := t
  simp only at *
  rcases vokK hv with rfl | rfl | rfl | rfl | ⟨rfl, a, b⟩ | ⟨rfl, a, b⟩
  · exact kpo0 b0 oa oc xs n s w h0 hx HY
  · exact kpo1 b0 oa oc xs n s w h0 hx h1 h2 HY
  · exact kpo2 b0 oa oc xs n s w h0 hx h1 h2 HY
  · exact kpo3 b0 oa oc xs n s w h0 hx hs HY
  · exact kpo4 b0 oa oc xs n s w h0 hx a b HY
  · exact kpo5 b0 oa oc xs n s w h0 hx a b HY
set_option maxHeartbeats 16000000 in
theorem wkey (a : Option Addr) (ca : Nat) (us : List VA) (w0 w : World) (oa : Option Addr) (oc : Nat) (x0 : List Int) (hb : BVS 1048576 us) (hg : GoV us) (hT : Tabs w0) (ha : RS 3 CV 0 w0 (.slice a us.length ca) us) (h0 : Below w0.heap.size w0 w) (HY0 : YOut 5 w0.heap.size w (.slice oa x0.length oc) x0) (hx0 : x0.length ≤ 1) (hL : us.length ≤ 16 → keyL us = x0 ++ us.flatMap fun t => keyP t.k t.n t.s) :
    Calls Tryd.prog 32 #[.slice a us.length ca, .slice oa x0.length oc, .func (Fn.func 33) #[] #[], .int .i64 120] w fun e w' => BytQ keyL 120 us w0 e w' := by
  have hn := hb.1
  have HZ : Hid (∀ t ∈ us, BV 1048576 t) := hb.2
  have HG : Hid (GoV us) := hg
  have HT := hid hT
  have HL := hid hL
  have HYS := hid HY0
  clear hb hg hT hL HY0
  obtain ⟨a', ca', he, hva⟩ := ha
  simp only [Value.slice.injEq] at he
  obtain ⟨rfl, _, rfl⟩ := he
  go_enter Tryd.func32, Tryd.ntmps32
  by_cases h16 : us.length ≤ 16
  rotate_left
  · have h16i : (16 : Int) < us.length := by omega
    have HF : Hid (BytC keyL 120 us [] 1) := .inl ⟨by simp [valsB]; omega, rfl, rfl⟩
    go_wp2
    refine bodyPost_ret (v := .tuple #[.slice none 0 0, .int .i64 1]) (by simp [results, Tryd.results32, go_sem]) rfl ⟨_, 1, [], rfl, ⟨rfl, .inl ⟨rfl, rfl⟩⟩, HF.out, h0⟩
  have h16i : ¬ (16 : Int) < us.length := by omega
  have HLE := hid (HL.out h16)
  clear HL
  go_wp2
  go_loopw [1, 17] (fun v iv wr => ∃ (k : Nat) (acc : List Int) (oa : Option Addr) (oc : Nat), k ≤ us.length ∧ iv = .int .i64 k ∧ v = .slice oa acc.length oc ∧ acc.length ≤ 1 + 2097200 * k ∧ Hid (∀ t ∈ us.take k, vok t.k t.n t.s = true) ∧ Hid (acc = x0 ++ (us.take k).flatMap fun t => keyP t.k t.n t.s) ∧ Hid (YOut 5 w0.heap.size wr (.slice oa acc.length oc) acc) ∧ Below w0.heap.size w0 wr) (fun _ iv _ => us.length - (intOf iv).toNat)
  case atStart => exact ⟨0, x0, _, _, Nat.zero_le _, rfl, rfl, by omega, (by simp : ∀ t ∈ us.take 0, vok t.k t.n t.s = true), (by simp : x0 = x0 ++ (us.take 0).flatMap fun t => keyP t.k t.n t.s), HYS, h0⟩
  case round =>
    clear HYS h0
    obtain ⟨k, acc, oa, oc, hk, rfl, rfl, hal, HO, HA, HY, hb⟩ := hrel
    have hbs := hb.size
    by_cases hlt : k < us.length
    · have hlti : (k : Int) < us.length := by omega
      obtain ⟨g, o, rfl, _, hg, hgc⟩ := hva (by omega)
      obtain ⟨cs, hC, hcell⟩ := hgc k hlt
      have hB := HZ.out us[k] (List.getElem_mem hlt)
      have hN := HG.out us[k] (List.getElem_mem hlt)
      have HMEM : Hid (us[k] ∈ us) := List.getElem_mem hlt
      have HS : Hid ((x0 ++ (us.take (k + 1)).flatMap fun t => keyP t.k t.n t.s) = acc ++ keyP us[k].k us[k].n us[k].s) := (by rw [HA.out, flat_step hlt]; simp : (x0 ++ (us.take (k + 1)).flatMap fun t => keyP t.k t.n t.s) = acc ++ keyP us[k].k us[k].n us[k].s)
      have HO2 : Hid (vok us[k].k us[k].n us[k].s = true → ∀ t ∈ us.take (k + 1), vok t.k t.n t.s = true) := (fun hv t ht => by
        rw [List.take_add_one, List.getElem?_eq_getElem hlt] at ht
        rcases List.mem_append.1 ht with ht | ht
        · exact HO.out t ht
        · rw [List.mem_singleton.1 (by simpa using ht : t ∈ [us[k]])]; exact hv : vok us[k].k us[k].n us[k].s = true → ∀ t ∈ us.take (k + 1), vok t.k t.n t.s = true)
      obtain ⟨goal, hgoal⟩ : ∃ l, l = (x0 ++ (us.take (k + 1)).flatMap fun t => keyP t.k t.n t.s) := ⟨_, rfl⟩
      have HGO := hid hgoal
      rw [← hgoal] at HS
      clear hgoal hgc hva HA HO
      generalize hx : us[k] = t at *
      clear hx
      unfold CV at hC
      subst hC
      unfold BV at hB
      have c0 : wr.cell? ⟨g, o + k * 3, none⟩ = some (.int .i64 t.k) := (hb.cell (p := ⟨g, o + k * 3, none⟩) hg).trans (hcell 0 (by omega))
      have c1 : wr.cell? ⟨g, o + k * 3 + 1, none⟩ = some (.int .i64 t.n) := (hb.cell (p := ⟨g, o + k * 3 + 1, none⟩) hg).trans (hcell 1 (by omega))
      have c2 : wr.cell? ⟨g, o + k * 3 + 2, none⟩ = some (.string t.s) := (hb.cell (p := ⟨g, o + k * 3 + 2, none⟩) hg).trans (hcell 2 (by omega))
      clear hcell
      have bwA : Below w0.heap.size w0 (wr.alloc (.cells #[.int .i64 t.k, .int .i64 t.n, .string t.s] 39)) := hb.alloc hbs _
      have hvi := vok_impl t.k t.n t.s (wr.alloc (.cells #[.int .i64 t.k, .int .i64 t.n, .string t.s] 39)) hB (tabs_below HT.out bwA)
      have HYA : Hid (YOut 5 w0.heap.size (wr.alloc (.cells #[.int .i64 t.k, .int .i64 t.n, .string t.s] 39)) (.slice oa acc.length oc) acc) := World.ownsRow.alloc HY.out _
      have HBA := hid (blk_new wr [.int .i64 t.k, .int .i64 t.n, .string t.s] 39)
      have hpl : vok t.k t.n t.s = true → (keyP t.k t.n t.s).length ≤ 2097160 := fun hv => (keyP_len t.k t.n t.s hB).2
      obtain ⟨pl, hple⟩ : ∃ l, l = keyP t.k t.n t.s := ⟨_, rfl⟩
      have HPL := hid hple
      rw [← hple] at hpl HS
      clear hple HY
      cases hv : vok t.k t.n t.s
      · rw [hv] at hvi
        have hvf : valsB us = false := by
          cases hvb : valsB us
          · rfl
          · have := (valsB_at hvb).2 _ HMEM.out
            rw [hv] at this
            cases this
        have HF : Hid (BytC keyL 120 us [] 1) := .inl ⟨hvf, rfl, rfl⟩
        clear hvf
        clear hv hpl HO2
        go_wp2_with (go_at_call 54; fail)
        refine hvi.mono ?_
        rintro e w1 ⟨rfl, hb1⟩
        have bw1 : Below w0.heap.size w0 w1 := bwA.trans (hb1.mono bwA.size)
        clear hvi hb1
        go_wp2
        refine bodyPost_ret (v := .tuple #[.slice none 0 0, .int .i64 1]) (by simp [results, Tryd.results32, go_sem]) rfl ⟨_, 1, [], rfl, ⟨rfl, .inl ⟨rfl, rfl⟩⟩, HF.out, bw1⟩
      · rw [hv] at hvi
        have hpl2 := hpl hv
        have HO3 := hid (HO2.out hv)
        have HVT := hid hv
        clear hv hpl HO2
        go_wp2_with (go_at_call 54; fail)
        refine hvi.mono ?_
        rintro e w1 ⟨rfl, hb1⟩
        have bw1 : Below w0.heap.size w0 w1 := bwA.trans (hb1.mono bwA.size)
        have HY1 := hid (HYA.out.below hb1)
        have HB1 := hid (HBA.out.below hb1 (by simp))
        have d0 : w1.cell? ⟨wr.heap.size, 0, none⟩ = some (.int .i64 t.k) := (HB1.out 0 (by simp)).1
        have d1 : w1.cell? ⟨wr.heap.size, 1, none⟩ = some (.int .i64 t.n) := (HB1.out 1 (by simp)).1
        have d2 : w1.cell? ⟨wr.heap.size, 2, none⟩ = some (.string t.s) := (HB1.out 2 (by simp)).1
        have hpo := wkey_part w0.heap.size oa oc acc t w1 bw1.size (by omega) HVT.out hB hN.1 hN.2 HY1.out
        rw [← HPL.out] at hpo
        clear hvi hb1 bwA HYA HBA c0 c1 c2 hN
        go_wp2_with (go_at_call 33; fail)
        refine hpo.mono ?_
        rintro e w2 ⟨⟨v2, rfl, hy2⟩, hb2⟩
        have b2 : Below w0.heap.size w0 w2 := bw1.trans hb2
        have HR := hid hy2
        obtain ⟨oa2, oc2, rfl⟩ := hy2.form
        have hl2 : (acc ++ pl).length ≤ acc.length + pl.length := by simp
        obtain ⟨acc2, hac⟩ : ∃ l, l = acc ++ pl := ⟨_, rfl⟩
        rw [← hac] at HR hl2 ⊢
        rw [← hac] at HS
        clear hy2 hb2 hpo hac bw1 HY1 HB1 d0 d1 d2
        go_wp2
        go_roundw
        case rel => exact ⟨k + 1, acc2, oa2, oc2, by omega, by go_num, rfl, by omega, HO3, (HS.out.symm.trans HGO.out), HR, b2⟩
        case measure => simp [intOf]; omega
    · have hke : k = us.length := by omega
      subst hke
      have HV : Hid (valsB us = true) := (by
        unfold valsB
        rw [Bool.and_eq_true, decide_eq_true_eq, List.all_eq_true]
        exact ⟨h16, fun t ht => HO.out t (by rw [List.take_of_length_le (Nat.le_refl _)]; exact ht)⟩ : valsB us = true)
      have HE : Hid (keyL us = acc) := (by rw [HLE.out, HA.out, List.take_of_length_le (Nat.le_refl _)] : keyL us = acc)
      have hlti : ¬ ((us.length : Nat) : Int) < us.length := by omega
      clear HA HO hva
      by_cases hM : 120 < acc.length
      · have hMi : (120 : Int) < acc.length := by omega
        have HF : Hid (BytC keyL 120 us [] 5) := .inr (.inl ⟨HV.out, by rw [HE.out]; exact hM, rfl, rfl⟩)
        go_wp2
        refine bodyPost_ret (v := .tuple #[.slice none 0 0, .int .i64 5]) (by simp [results, Tryd.results32, go_sem]) rfl ⟨_, 5, [], rfl, ⟨rfl, .inl ⟨rfl, rfl⟩⟩, HF.out, hb⟩
      · have hMi : ¬ (120 : Int) < acc.length := by omega
        have HF : Hid (BytC keyL 120 us acc 0) := .inr (.inr ⟨HV.out, by rw [HE.out]; omega, HE.out.symm, rfl⟩)
        go_wp2
        refine bodyPost_ret (v := .tuple #[.slice oa acc.length oc, .int .i64 0]) (by simp [results, Tryd.results32, go_sem]) rfl ⟨_, 0, acc, rfl, HY.out, HF.out, hb⟩
set_option maxHeartbeats 4000000 in
theorem key_implQ (a : Option Addr) (ca : Nat) (us : List VA) (w : World) (hb : BVS 1048576 us) (hg : GoV us) (hT : Tabs w) (ha : RS 3 CV 0 w (.slice a us.length ca) us) :
    Calls Tryd.prog 11 #[.slice a us.length ca] w fun e w' => BytQ keyL 120 us w e w' := by
  have h := wkey a ca us w w none 0 [] hb hg hT ha (Below.refl _ _) ⟨rfl, .inl ⟨rfl, rfl⟩⟩ (by simp) (fun _ => by simp [keyL])
  clear hb hg hT ha
  go_enter Tryd.func11, Tryd.ntmps11
  go_wp2_with (go_at_call 32; fail)
  refine h.mono ?_
  rintro e w' ⟨v, c, l, rfl, h1, h2, h3⟩
  have H1 := hid h1
  have H2 := hid h2
  clear h h1 h2
  go_wp2
  refine bodyPost_ret (v := .tuple #[v, .int .i64 c]) (by simp [results, Tryd.results11, go_sem]) rfl ⟨v, c, l, rfl, H1.out, H2.out, h3⟩
theorem key_impl (a : Option Addr) (ca : Nat) (us : List VA) (w : World) (hb : BVS 1048576 us) (hg : GoV us) (hT : Tabs w) (ha : RS 3 CV 0 w (.slice a us.length ca) us) :
    Calls Tryd.prog 11 #[.slice a us.length ca] w fun e w' => BytP keyL 120 us w e w' := (key_implQ a ca us w hb hg hT ha).mono fun e w' h => h.p
end Go.Proofs.YtfgjleifhjegkaaDoor
