import Derived.Test.YtfgjleifhjegkaaDoorKG
namespace Go.Proofs.YtfgjleifhjegkaaDoor
open Go.ChangeShapes Go.WideShapes Go.ChangeAt Go.RowKit
set_option linter.unusedVariables false
set_option linter.unusedSimpArgs false
set_option maxRecDepth 100000
theorem strNums_size (l : List Int) : (strOfNums l).size = l.length := by
  unfold strOfNums
  simp [ByteArray.size]
theorem ktx_txt : ∀ (xs : List Int) (l : List Int) (n : Nat), ktx xs = some (l, n) → l.length ≤ xs.length
  | [], l, n, h => by simp [ktx] at h
  | [_], l, n, h => by simp [ktx] at h
  | b :: c :: r, l, n, h => by
    by_cases hb : b = 0
    · subst hb
      by_cases hc : c = 1
      · subst hc
        rw [ktx_end] at h
        simp at h
        obtain ⟨rfl, _⟩ := h
        simp
      · rw [ktx_nought hc] at h
        obtain ⟨⟨l', n'⟩, h1, h2⟩ := Option.map_eq_some_iff.1 h
        have := ktx_txt r l' n' h1
        simp at h2
        obtain ⟨rfl, _⟩ := h2
        simp; omega
    · rw [ktx_plain hb] at h
      obtain ⟨⟨l', n'⟩, h1, h2⟩ := Option.map_eq_some_iff.1 h
      have := ktx_txt (c :: r) l' n' h1
      simp at h2 this
      obtain ⟨rfl, _⟩ := h2
      simp; omega
theorem byt_drop {xs : List Int} (h : Byt xs) (n : Nat) : Byt (xs.drop n) := fun x hx => h x (List.mem_of_mem_drop hx)
theorem byt_take {xs : List Int} (h : Byt xs) (n : Nat) : Byt (xs.take n) := fun x hx => h x (List.mem_of_mem_take hx)
theorem byt_head {xs : List Int} (h : Byt xs) : 0 ≤ xs.headD 0 ∧ xs.headD 0 ≤ 255 := by
  cases xs with
  | nil => simp
  | cons a r => exact h a (List.mem_cons_self ..)
theorem gst_good {xs : List Int} {v : VA} {n : Nat} (h : gst xs = some (v, n)) (hb : Byt xs) : v.s.size ≤ xs.length ∧ (-9223372036854775808 ≤ v.n ∧ v.n ≤ 9223372036854775807) ∧ 1 ≤ n := by
  unfold gst at h
  simp only at h
  have e8 : 256 ^ 8 = 18446744073709551616 := by decide
  have e4 : 256 ^ 4 = 4294967296 := by decide
  split at h
  · split at h
    · simp only [Option.some.injEq, Prod.mk.injEq] at h
      obtain ⟨rfl, rfl⟩ := h
      have h1 := numL_lt _ (byt_take (byt_drop hb 1) 8)
      rw [List.length_take, List.length_drop, Nat.min_eq_left (by omega), e8] at h1
      exact ⟨by simp [noS, ByteArray.size], by simp only; omega, by omega⟩
    · cases h
  split at h
  · obtain ⟨⟨l, m⟩, h1, h2⟩ := Option.map_eq_some_iff.1 h
    simp only [Prod.mk.injEq] at h2
    obtain ⟨rfl, rfl⟩ := h2
    have := ktx_txt _ _ _ h1
    rw [List.length_drop] at this
    exact ⟨by rw [strNums_size]; omega, by simp, by omega⟩
  split at h
  · split at h
    · simp only [Option.some.injEq, Prod.mk.injEq] at h
      obtain ⟨rfl, rfl⟩ := h
      have := byt_head (byt_drop hb 1)
      exact ⟨by simp [noS, ByteArray.size], by simp only; omega, by omega⟩
    · cases h
  split at h
  · split at h
    · simp only [Option.some.injEq, Prod.mk.injEq] at h
      obtain ⟨rfl, rfl⟩ := h
      have h1 := numL_lt _ (byt_take (byt_drop hb 1) 4)
      rw [List.length_take, List.length_drop, Nat.min_eq_left (by omega), e4] at h1
      exact ⟨by simp [noS, ByteArray.size], by simp only; omega, by omega⟩
    · cases h
  · simp only [Option.some.injEq, Prod.mk.injEq] at h
    obtain ⟨rfl, rfl⟩ := h
    exact ⟨by simp [noS, ByteArray.size], by simp, by omega⟩
theorem gus_good : ∀ (f : Nat) (xs : List Int), Byt xs → (gus f xs).length ≤ xs.length ∧ ∀ t ∈ gus f xs, t.s.size ≤ xs.length ∧ (-9223372036854775808 ≤ t.n ∧ t.n ≤ 9223372036854775807)
  | 0, xs, _ => by simp [gus]
  | f + 1, xs, hb => by
    by_cases hx : xs = []
    · subst hx; simp [gus]
    · cases h : gst xs with
      | none => rw [gus_none h]; simp
      | some p =>
        obtain ⟨v, n⟩ := p
        have hg := gst_good h hb
        have ih := gus_good f (xs.drop n) (byt_drop hb n)
        have hp : 0 < xs.length := List.length_pos_iff.2 hx
        rw [gus_some hx h]
        rw [List.length_drop] at ih
        refine ⟨by simp; omega, fun t ht => ?_⟩
        rcases List.mem_cons.1 ht with rfl | ht
        · exact ⟨hg.1, hg.2.1⟩
        · have := ih.2 t ht
          exact ⟨by omega, this.2⟩
theorem strI_byt (s : ByteArray) : Byt (strI s) := fun x hx => by
  unfold strI at hx
  obtain ⟨b, _, rfl⟩ := List.mem_map.1 hx
  have := b.toNat_lt
  simp at this
  omega
theorem keyP_byt {k n : Int} {s : ByteArray} (hv : vok k n s = true) : Byt (keyP k n s) := by
  rcases vokK hv with rfl | rfl | rfl | rfl | ⟨rfl, a, b⟩ | ⟨rfl, a, b⟩
  · intro x hx; simp [keyP] at hx; omega
  · intro x hx
    simp [keyP] at hx
    rcases hx with rfl | hx
    · omega
    · exact beL_byt _ _ x hx
  · intro x hx
    simp [keyP] at hx
    rcases hx with rfl | hx
    · omega
    · exact beL_byt _ _ x hx
  · intro x hx
    simp [keyP] at hx
    rcases hx with rfl | hx | rfl | rfl
    · omega
    · unfold escL at hx
      obtain ⟨y, hy, hxy⟩ := List.mem_flatMap.1 hx
      have := strI_byt s y hy
      unfold esc1 at hxy
      split at hxy
      · simp at hxy; omega
      · simp at hxy; omega
    · omega
    · omega
  · intro x hx; simp [keyP] at hx; omega
  · intro x hx
    simp [keyP] at hx
    rcases hx with rfl | hx
    · omega
    · exact beL_byt _ _ x hx
theorem keyL_byt {us : List VA} (h : ∀ t ∈ us, vok t.k t.n t.s = true) : Byt (keyL us) := fun x hx => by
  unfold keyL at hx
  obtain ⟨t, ht, hxt⟩ := List.mem_flatMap.1 hx
  exact keyP_byt (h t ht) x hxt
/-- What KeyValues tells. -/
def KvC (xs : List Int) (us : List VA) (c : Int) : Prop :=
  (valsB us = true ∧ GoV us ∧ (keyL us).length ≤ 120 ∧ keyL us = xs ∧ c = 0) ∨ ((∀ vs, valsB vs = true → GoV vs → (keyL vs).length ≤ 120 → keyL vs ≠ xs) ∧ us = [] ∧ c = 28)
theorem key_inj {us vs : List VA} (h1 : valsB us = true) (g1 : GoV us) (h2 : valsB vs = true) (g2 : GoV vs) (he : keyL us = keyL vs) : us = vs := by
  have e1 := gus_key us (keyL us).length (valsB_at h1).2 g1 (Nat.le_refl _)
  have e2 := gus_key vs (keyL us).length (valsB_at h2).2 g2 (by rw [he]; exact Nat.le_refl _)
  rw [← e1, ← e2, he]
theorem kvC_eq {xs : List Int} {us us' : List VA} {c c' : Int} (h : KvC xs us c) (h' : KvC xs us' c') : us = us' ∧ c = c' := by
  rcases h with ⟨a1, a2, a3, a4, rfl⟩ | ⟨a1, rfl, rfl⟩ <;> rcases h' with ⟨b1, b2, b3, b4, rfl⟩ | ⟨b1, rfl, rfl⟩
  · exact ⟨key_inj a1 a2 b1 b2 (a4.trans b4.symm), rfl⟩
  · exact absurd a4 (b1 us a1 a2 a3)
  · exact absurd b4 (a1 us' b1 b2 b3)
  · exact ⟨rfl, rfl⟩
def KvP (xs : List Int) (w : World) (e : Ending) (w' : World) : Prop := ∃ (v : Value) (c : Int) (us : List VA), e = .returned (.tuple #[v, .int .i64 c]) ∧ RSW 3 CV w.heap.size w' v us ∧ KvC xs us c ∧ Below w.heap.size w w'
theorem rsw_noneV {b : Nat} {w : World} {g c : Nat} : RSW 3 CV b w (.slice (some ⟨g, 0, none⟩) 0 c) [] := ⟨_, _, rfl, fun h => absurd h (by simp)⟩
set_option maxHeartbeats 8000000 in
theorem keyValues_spec (a : Option Addr) (ca : Nat) (xs : List Int) (w : World) (hn : xs.length ≤ 1048576) (hcap : xs.length ≤ ca) (hcm : ca ≤ 1048576) (hb : Byt xs) (hv : RS 1 CY 0 w (.slice a xs.length ca) xs) :
    Calls Tryd.prog 19 #[.slice a xs.length ca] w fun e w' => KvP xs w e w' := by
  by_cases hbig : (120 : Int) < xs.length
  · have HF : Hid (KvC xs [] 28) := .inr ⟨fun vs _ _ h e => by rw [e] at h; omega, rfl, rfl⟩
    clear hv hb
    go_enter Tryd.func19, Tryd.ntmps19
    go_wp2
    refine bodyPost_ret (v := .tuple #[.slice (some ⟨w.heap.size, 0, none⟩) 0 0, .int .i64 28]) (by simp [results, Tryd.results19, go_sem]) rfl ⟨_, 28, [], rfl, rsw_noneV, HF.out, below_alloc _ _⟩
  have hkg := keyGuess_spec a ca xs w hn hcap hcm hb hv
  have HX := hid hv
  have HB := hid hb
  have hgd := gus_good xs.length xs hb
  obtain ⟨us, hus⟩ : ∃ l, l = gus xs.length xs := ⟨_, rfl⟩
  rw [← hus] at hkg hgd
  have HUS : Hid (∀ vs, valsB vs = true → GoV vs → keyL vs = xs → us = vs) := (fun vs h1 h2 h3 => by
    rw [hus, ← h3]
    exact gus_key vs _ (valsB_at h1).2 h2 (by rw [h3]; exact Nat.le_refl _) : ∀ vs, valsB vs = true → GoV vs → keyL vs = xs → us = vs)
  have HBV : Hid (BVS 1048576 us) := ⟨by omega, fun t ht => by have := (hgd.2 t ht).1; unfold BV; omega⟩
  have HGO : Hid (GoV us) := (fun t ht => (hgd.2 t ht).2 : GoV us)
  clear hv hb hus hgd
  go_enter Tryd.func19, Tryd.ntmps19
  go_wp2_with (go_at_call 39; fail)
  refine hkg.mono ?_
  rintro e w1 ⟨⟨v1, rfl, hv1⟩, hb1⟩
  obtain ⟨oa, oc, rfl⟩ := hv1.form
  have HV1 := hid hv1
  have hks := key_spec oa oc us w1 HBV.out HGO.out ((hv1.rsw.rs (D := CV) id).mono liesV (Nat.zero_le _))
  clear hkg hv1
  go_wp2_with (go_at_call 9; fail)
  refine hks.mono ?_
  rintro e w2 ⟨v2, c2, l2, rfl, hr2, hc2, hb2⟩
  have bw2 : Below w.heap.size w w2 := hb1.trans (hb2.mono hb1.size)
  have HV2 := hid (HV1.out.below hb2)
  have HR2 := hid ((hr2.rs (D := CY) id).mono liesY (Nat.zero_le _))
  obtain ⟨ya, yc, rfl, _⟩ := hr2
  clear hks hb1 hb2 HV1
  rcases hc2 with ⟨hvb, rfl, rfl⟩ | ⟨hvb, hlen, rfl, rfl⟩ | ⟨hvb, hlen, rfl, rfl⟩
  · have HF : Hid (KvC xs [] 28) := .inr ⟨fun vs h1 h2 h3 h4 => (by rw [HUS.out vs h1 h2 h4, h1] at hvb; cases hvb), rfl, rfl⟩
    clear HUS hvb
    go_wp2
    refine bodyPost_ret (v := .tuple #[.slice (some ⟨w2.heap.size, 0, none⟩) 0 0, .int .i64 28]) (by simp [results, Tryd.results19, go_sem]) rfl ⟨_, 28, [], rfl, rsw_noneV, HF.out, bw2.alloc bw2.size _⟩
  · have HF : Hid (KvC xs [] 28) := .inr ⟨fun vs h1 h2 h3 h4 => by rw [HUS.out vs h1 h2 h4] at hlen; omega, rfl, rfl⟩
    clear HUS hvb hlen
    go_wp2
    refine bodyPost_ret (v := .tuple #[.slice (some ⟨w2.heap.size, 0, none⟩) 0 0, .int .i64 28]) (by simp [results, Tryd.results19, go_sem]) rfl ⟨_, 28, [], rfl, rsw_noneV, HF.out, bw2.alloc bw2.size _⟩
  · have hsm := same_spec ya a yc ca (keyL us) xs w2 HR2.out (HX.out.below liesY bw2) (keyL_byt (valsB_at hvb).2) HB.out
    by_cases heq : keyL us = xs
    · have HF : Hid (KvC xs us 0) := .inl ⟨hvb, HGO.out, hlen, heq, rfl⟩
      rw [decide_eq_true heq] at hsm
      clear HUS hvb hlen heq
      generalize keyL us = kl at *
      go_wp2_with (go_at_call 40; fail)
      refine hsm.mono ?_
      rintro e w3 ⟨rfl, hww⟩
      replace hww := hww.symm
      subst hww
      go_wp2
      refine bodyPost_ret (v := .tuple #[.slice oa us.length oc, .int .i64 0]) (by simp [results, Tryd.results19, go_sem]) rfl ⟨_, 0, us, rfl, ?_, HF.out, bw2⟩
      exact HV2.out.rsw
    · have HF : Hid (KvC xs [] 28) := .inr ⟨fun vs h1 h2 h3 h4 => heq (by rw [HUS.out vs h1 h2 h4]; exact h4), rfl, rfl⟩
      rw [decide_eq_false heq] at hsm
      clear HUS hvb hlen heq
      generalize keyL us = kl at *
      go_wp2_with (go_at_call 40; fail)
      refine hsm.mono ?_
      rintro e w3 ⟨rfl, hww⟩
      replace hww := hww.symm
      subst hww
      go_wp2
      refine bodyPost_ret (v := .tuple #[.slice (some ⟨w2.heap.size, 0, none⟩) 0 0, .int .i64 28]) (by simp [results, Tryd.results19, go_sem]) rfl ⟨_, 28, [], rfl, rsw_noneV, HF.out, bw2.alloc bw2.size _⟩
end Go.Proofs.YtfgjleifhjegkaaDoor
