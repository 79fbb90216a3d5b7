import Derived.Test.YtfgjleifhjegkaaDoorKPT
import Derived.Test.YtfgjleifhjegkaaDoorKW
namespace Go.Proofs.YtfgjleifhjegkaaDoor
open Go.ChangeShapes Go.WideShapes Go.ChangeAt Go.RowKit
set_option linter.unusedVariables false
set_option linter.unusedSimpArgs false
set_option maxRecDepth 100000
/-- Numbers that are Go's. -/
def GoV (us : List VA) : Prop := ∀ t ∈ us, -9223372036854775808 ≤ t.n ∧ t.n ≤ 9223372036854775807
theorem vokK {k n : Int} {s : ByteArray} (h : vok k n s = true) : k = 0 ∨ k = 1 ∨ k = 2 ∨ k = 3 ∨ (k = 4 ∧ 0 ≤ n ∧ n ≤ 1) ∨ (k = 5 ∧ -719162 ≤ n ∧ n ≤ 2932896) := by
  unfold vok at h
  by_cases h0 : k = 0
  · exact .inl h0
  by_cases h1 : k = 1
  · exact .inr (.inl h1)
  by_cases h2 : k = 2
  · exact .inr (.inr (.inl h2))
  by_cases h3 : k = 3
  · exact .inr (.inr (.inr (.inl h3)))
  by_cases h4 : k = 4
  · simp only [h0, h1, h2, h3, h4, if_true, if_false, Bool.and_eq_true, decide_eq_true_eq] at h
    simp at h
    exact .inr (.inr (.inr (.inr (.inl ⟨h4, h.2.1, h.2.2⟩))))
  by_cases h5 : k = 5
  · simp [h5] at h
    exact .inr (.inr (.inr (.inr (.inr ⟨h5, h.2.1, h.2.2⟩))))
  · simp [h0, h1, h2, h3, h4, h5] at h
def BytC (L : List VA → List Int) (M : Nat) (us : List VA) (l : List Int) (c : Int) : Prop :=
  (valsB us = false ∧ l = [] ∧ c = 1) ∨ (valsB us = true ∧ M < (L us).length ∧ l = [] ∧ c = 5) ∨ (valsB us = true ∧ (L us).length ≤ M ∧ l = L us ∧ c = 0)
theorem bytC_eq {L : List VA → List Int} {M : Nat} {us : List VA} {l l' : List Int} {c c' : Int} (h : BytC L M us l c) (h' : BytC L M us l' c') : l = l' ∧ c = c' := by
  rcases h with ⟨a, rfl, rfl⟩ | ⟨a, b, rfl, rfl⟩ | ⟨a, b, rfl, rfl⟩ <;> rcases h' with ⟨a', rfl, rfl⟩ | ⟨a', b', rfl, rfl⟩ | ⟨a', b', rfl, rfl⟩ <;> first | exact ⟨rfl, rfl⟩ | (exfalso; omega) | (rw [a] at a'; cases a')
theorem bytC_len {L : List VA → List Int} {M : Nat} {us : List VA} {l : List Int} {c : Int} (h : BytC L M us l c) : l.length ≤ M := by
  rcases h with ⟨a, rfl, rfl⟩ | ⟨a, b, rfl, rfl⟩ | ⟨a, b, rfl, rfl⟩
  · simp
  · simp
  · exact b
def BytP (L : List VA → List Int) (M : Nat) (us : List VA) (w : World) (e : Ending) (w' : World) : Prop := ∃ (v : Value) (c : Int) (l : List Int), e = .returned (.tuple #[v, .int .i64 c]) ∧ RSW 1 CY w.heap.size w' v l ∧ BytC L M us l c ∧ Below w.heap.size w w'
theorem rsw_none {b : Nat} {w : World} {g c : Nat} : RSW 1 CY b w (.slice (some ⟨g, 0, none⟩) 0 c) [] := ⟨_, _, rfl, fun h => absurd h (by simp)⟩
theorem valsB_at {us : List VA} (h : valsB us = true) : us.length ≤ 16 ∧ ∀ t ∈ us, vok t.k t.n t.s = true := by
  unfold valsB at h
  rw [Bool.and_eq_true, decide_eq_true_eq, List.all_eq_true] at h
  exact h
theorem flat_step {f : VA → List Int} {us : List VA} {k : Nat} (h : k < us.length) : (us.take (k + 1)).flatMap f = (us.take k).flatMap f ++ f us[k] := by
  rw [List.take_add_one, List.getElem?_eq_getElem h, List.flatMap_append]
  simp only [Option.toList, List.flatMap_cons, List.flatMap_nil, List.append_nil]
/-- The bytes of a key. -/
def keyL (us : List VA) : List Int := us.flatMap fun t => keyP t.k t.n t.s
theorem key_part (t : VA) (w : World) (hv : vok t.k t.n t.s = true) (hs : t.s.size ≤ 1048576) (h0 : -9223372036854775808 ≤ t.n) (h1 : t.n ≤ 9223372036854775807) :
    Calls Tryd.prog 30 #[.agg #[.int .i64 t.k, .int .i64 t.n, .string t.s]] w fun e w' => (∃ v, e = .returned v ∧ YOut 5 w.heap.size w' v (keyP t.k t.n t.s)) ∧ Below w.heap.size w w' := by
  obtain ⟨k, n, s⟩ := t
  simp only at *
  rcases vokK hv with rfl | rfl | rfl | rfl | ⟨rfl, a, b⟩ | ⟨rfl, a, b⟩
  · exact kp_null 0 n s w (by decide) (by decide) (by decide) (by decide) (by decide)
  · exact kp_num1 n s w h0 h1
  · exact kp_num2 n s w h0 h1
  · exact kp_text n s w hs
  · exact kp_bool n s w a b
  · exact kp_date n s w a b
set_option maxHeartbeats 8000000 in
theorem key_spec (a : Option Addr) (ca : Nat) (us : List VA) (w : World) (hb : BVS 1048576 us) (hg : GoV us) (ha : RS 3 CV 0 w (.slice a us.length ca) us) :
    Calls Tryd.prog 9 #[.slice a us.length ca] w fun e w' => BytP keyL 120 us w e w' := by
  obtain ⟨i0, hi, hz0, hz1, hz2⟩ := info_parts infoU8
  have hn := hb.1
  have HZ : Hid (∀ t ∈ us, BV 1048576 t) := hb.2
  have HG : Hid (GoV us) := hg
  have hvs := valid_spec a ca us w hb ha
  clear hb hg
  obtain ⟨a', ca', he, hva⟩ := ha
  simp only [Value.slice.injEq] at he
  obtain ⟨rfl, _, rfl⟩ := he
  go_enter Tryd.func9, Tryd.ntmps9
  cases hvb : valsB us
  · rw [hvb] at hvs
    go_wp2_with (go_at_call 29; fail)
    refine hvs.mono ?_
    rintro e w1 ⟨rfl, hb1⟩
    clear hvs
    have HF : Hid (BytC keyL 120 us [] 1) := .inl ⟨hvb, rfl, rfl⟩
    clear hvb
    go_wp2
    refine bodyPost_ret (v := .tuple #[.slice (some ⟨w1.heap.size, 0, none⟩) 0 0, .int .i64 1]) (by simp [results, Tryd.results9, go_sem]) rfl ⟨_, 1, [], rfl, rsw_none, HF.out, hb1.alloc hb1.size _⟩
  rw [hvb] at hvs
  have HVT : Hid (valsB us = true) := hvb
  have HVA : Hid (∀ t ∈ us, vok t.k t.n t.s = true) := (valsB_at hvb).2
  have hn16 := (valsB_at hvb).1
  clear hvb
  go_wp2_with (go_at_call 29; fail)
  refine hvs.mono ?_
  rintro e w1 ⟨rfl, hb1⟩
  clear hvs
  have HY0 : Hid (YOut 5 w.heap.size (w1.alloc (.cells #[] 5)) (.slice (some ⟨w1.heap.size, 0, none⟩) 0 0) []) := (by
    have := YOut.made (ty := 5) (b := w.heap.size) w1 [] hb1.size (by simp)
    simpa using this : YOut 5 w.heap.size (w1.alloc (.cells #[] 5)) (.slice (some ⟨w1.heap.size, 0, none⟩) 0 0) [])
  have bw0 : Below w.heap.size w (w1.alloc (.cells #[] 5)) := hb1.alloc hb1.size _
  clear hb1
  go_wp2
  go_loopw [4, 14] (fun v iv wr => ∃ (k : Nat) (acc : List Int) (oa : Option Addr) (oc : Nat), k ≤ us.length ∧ iv = .int .i64 k ∧ v = .slice oa acc.length oc ∧ acc.length ≤ 2097160 * k ∧ Hid (acc = keyL (us.take k)) ∧ Hid (YOut 5 w.heap.size wr (.slice oa acc.length oc) acc) ∧ Below w.heap.size w wr) (fun _ iv _ => us.length - (intOf iv).toNat)
  case atStart => exact ⟨0, [], _, _, Nat.zero_le _, rfl, rfl, by simp, (by simp [keyL] : ([] : List Int) = keyL (us.take 0)), HY0, bw0⟩
  case round =>
    clear HY0 bw0
    obtain ⟨k, acc, oa, oc, hk, rfl, rfl, hal, HA, HY, hb⟩ := hrel
    have hbs := hb.size
    by_cases hlt : k < us.length
    · have hlti : (k : Int) < us.length := by omega
      obtain ⟨g, o, rfl, _, hg, hgc⟩ := hva (by omega)
      obtain ⟨cs, hC, hcell⟩ := hgc k hlt
      have hB := HZ.out us[k] (List.getElem_mem hlt)
      have hV := HVA.out us[k] (List.getElem_mem hlt)
      have hN := HG.out us[k] (List.getElem_mem hlt)
      have HS : Hid (keyL (us.take (k + 1)) = acc ++ keyP us[k].k us[k].n us[k].s) := (by rw [HA.out]; exact flat_step hlt : keyL (us.take (k + 1)) = acc ++ keyP us[k].k us[k].n us[k].s)
      clear hgc hva HA
      generalize hx : us[k] = t at *
      clear hx
      unfold CV at hC
      subst hC
      have c0 : wr.cell? ⟨g, o + k * 3, none⟩ = some (.int .i64 t.k) := (hb.cell (p := ⟨g, o + k * 3, none⟩) hg).trans (hcell 0 (by omega))
      have c1 : wr.cell? ⟨g, o + k * 3 + 1, none⟩ = some (.int .i64 t.n) := (hb.cell (p := ⟨g, o + k * 3 + 1, none⟩) hg).trans (hcell 1 (by omega))
      have c2 : wr.cell? ⟨g, o + k * 3 + 2, none⟩ = some (.string t.s) := (hb.cell (p := ⟨g, o + k * 3 + 2, none⟩) hg).trans (hcell 2 (by omega))
      clear hcell
      have bwA : Below w.heap.size w (wr.alloc (.cells #[.int .i64 t.k, .int .i64 t.n, .string t.s] 39)) := hb.alloc hbs _
      have hkp := key_part t (wr.alloc (.cells #[.int .i64 t.k, .int .i64 t.n, .string t.s] 39)) hV hB hN.1 hN.2
      have hkl := keyP_len t.k t.n t.s hB
      have HYA : Hid (YOut 5 w.heap.size (wr.alloc (.cells #[.int .i64 t.k, .int .i64 t.n, .string t.s] 39)) (.slice oa acc.length oc) acc) := World.ownsRow.alloc HY.out _
      obtain ⟨pl, hpl⟩ : ∃ l, l = keyP t.k t.n t.s := ⟨_, rfl⟩
      rw [← hpl] at hkp hkl HS
      clear hpl HY hN hV hB
      go_wp2_with (go_at_call 30; fail)
      refine hkp.mono ?_
      rintro e w1 ⟨⟨v1, rfl, hy1⟩, hb1⟩
      have bw1 : Below w.heap.size w w1 := bwA.trans (hb1.mono bwA.size)
      have HY1 := hid (HYA.out.below hb1)
      obtain ⟨g1, cap1, rfl, hg1, hg2, hc1⟩ := hy1.cells hkl.1
      have HC1 := hid hc1
      have HLT := hid (World.ownsRow.lt HY1.out)
      clear hkp hy1 hb1 HYA bwA hc1 c0 c1 c2
      go_wp2_with (first
          | (at_builtin
             refine wpList_append_own _ rfl (.tmp 18) (.tmp 20) 24 rfl w.heap.size 5 i0 (.int .u8 0) 1 1 Tryd.underlying24 hi hz0 hz1 hz2 rfl (by decide) _ _ _ rfl HY1.out ⟨g1, 0, none⟩ pl.length cap1 (pl.map (Value.int .u8)) rfl (by rw [List.length_map, Nat.mul_one]) HC1.out (oneU8 pl) (by unfold maxLen; omega) (by omega) bw1.size ?_
             intro v2 w2 hown2 hgrow2 hiff2
             clear hiff2
             have b2 : Below w.heap.size w w2 := bw1.grown hgrow2 bw1.size (fun j hj => (HLT.out j hj).1)
             have HR := hid (YOut.more hown2)
             obtain ⟨oa2, oc2, rfl⟩ := HR.out.form
             have hl2 : (acc ++ pl).length ≤ acc.length + pl.length := by simp
             obtain ⟨acc2, hac⟩ : ∃ l, l = acc ++ pl := ⟨_, rfl⟩
             rw [← hac] at HR hl2 ⊢
             rw [← hac] at HS
             clear hown2 hgrow2 hac HLT HC1 HY1 bw1))
      go_roundw
      case rel => exact ⟨k + 1, acc2, oa2, oc2, by omega, by go_num, rfl, by omega, HS.out.symm, HR, b2⟩
      case measure => simp [intOf]; omega
    · have hkn : k = us.length := by omega
      have HE : Hid (acc = keyL us) := (by rw [HA.out, List.take_of_length_le (by omega)] : acc = keyL us)
      have hlti : ¬ (k : Int) < us.length := by omega
      by_cases hbig : (120 : Int) < acc.length
      · have HF : Hid (BytC keyL 120 us [] 5) := .inr (.inl ⟨HVT.out, by rw [← HE.out]; omega, rfl, rfl⟩)
        clear HA HE
        go_wp2
        refine bodyPost_ret (v := .tuple #[.slice (some ⟨wr.heap.size, 0, none⟩) 0 0, .int .i64 5]) (by simp [results, Tryd.results9, go_sem]) rfl ⟨_, 5, [], rfl, rsw_none, HF.out, hb.alloc hbs _⟩
      · have HF : Hid (BytC keyL 120 us acc 0) := .inr (.inr ⟨HVT.out, by rw [← HE.out]; omega, HE.out, rfl⟩)
        clear HA HE
        go_wp2
        refine bodyPost_ret (v := .tuple #[.slice oa acc.length oc, .int .i64 0]) (by simp [results, Tryd.results9, go_sem]) rfl ⟨_, 0, acc, rfl, HY.out.rsw, HF.out, hb⟩
end Go.Proofs.YtfgjleifhjegkaaDoor
