import Derived.Test.YtfgjleifhjegkaaDoorIEQqr
import Derived.Test.YtfgjleifhjegkaaDoorIQqr
import Derived.Test.YtfgjleifhjegkaaDoorKIKqr
namespace Go.Proofs.YtfgjleifhjegkaaDoor
open Go.ChangeShapes Go.WideShapes Go.ChangeAt Go.RowKit
set_option linter.unusedVariables false
set_option linter.unusedSimpArgs false
set_option maxRecDepth 100000
set_option maxHeartbeats 8000000 in
theorem readBack_key (va a : Option Addr) (vc ca : Nat) (us : List VA) (xs : List Int) (w : World) (hb : BVS 1048576 us) (hg : GoV us) (hT : Tabs w) (hvs : RS 3 CV 0 w (.slice va us.length vc) us) (hx : RS 1 CY 0 w (.slice a xs.length ca) xs) (bx : Byt xs) :
    Calls Tryd.prog 42 #[.slice va us.length vc, .slice a xs.length ca, .func (Fn.func 11) #[] #[]] w fun e w' => RbP keyL 120 us xs (.slice va us.length vc) w e w' := by
  have hki := key_impl va vc us w hb hg hT hvs
  have HX := hid hx
  have HB := hid bx
  clear hb hg hT hvs hx bx
  go_enter Tryd.func42, Tryd.ntmps42
  go_wp2_with (go_at_call 11; fail)
  refine hki.mono ?_
  rintro e w2 ⟨v2, c2, l2, rfl, hr2, hc2, hb2⟩
  have HR2 := hid ((hr2.rs (D := CY) id).mono liesY (Nat.zero_le _))
  obtain ⟨ya, yc, rfl, _⟩ := hr2
  clear hki
  rcases hc2 with ⟨hvb, rfl, rfl⟩ | ⟨hvb, hlen, rfl, rfl⟩ | ⟨hvb, hlen, rfl, rfl⟩
  · have HF : Hid (RbP keyL 120 us xs (.slice va us.length vc) w (.returned (.tuple #[.slice none 0 0, .int .i64 28])) w2) := ⟨.inr ⟨fun h => (by rw [h.1] at hvb; exact absurd hvb (by decide)), rfl⟩, hb2⟩
    clear hvb HX HR2
    go_wp2
    refine bodyPost_ret (v := .tuple #[.slice none 0 0, .int .i64 28]) (by simp [results, Tryd.results42, go_sem]) rfl HF.out
  · have HF : Hid (RbP keyL 120 us xs (.slice va us.length vc) w (.returned (.tuple #[.slice none 0 0, .int .i64 28])) w2) := ⟨.inr ⟨fun h => by omega, rfl⟩, hb2⟩
    clear hvb HX HR2 hlen
    go_wp2
    refine bodyPost_ret (v := .tuple #[.slice none 0 0, .int .i64 28]) (by simp [results, Tryd.results42, go_sem]) rfl HF.out
  · have heq := equal_any ya a yc ca (keyL us) xs w2 HR2.out (HX.out.below liesY hb2) (keyL_byt (valsB_at hvb).2) HB.out
    have HF1 : Hid (keyL us = xs → RbP keyL 120 us xs (.slice va us.length vc) w (.returned (.tuple #[.slice va us.length vc, .int .i64 0])) w2) := (fun he => ⟨.inl ⟨hvb, hlen, he, rfl⟩, hb2⟩ : keyL us = xs → RbP keyL 120 us xs (.slice va us.length vc) w (.returned (.tuple #[.slice va us.length vc, .int .i64 0])) w2)
    have HF2 : Hid (keyL us ≠ xs → RbP keyL 120 us xs (.slice va us.length vc) w (.returned (.tuple #[.slice none 0 0, .int .i64 28])) w2) := (fun he => ⟨.inr ⟨fun h => he h.2.2, rfl⟩, hb2⟩ : keyL us ≠ xs → RbP keyL 120 us xs (.slice va us.length vc) w (.returned (.tuple #[.slice none 0 0, .int .i64 28])) w2)
    by_cases he : keyL us = xs
    · have HF := hid (HF1.out he)
      rw [decide_eq_true he] at heq
      clear HF1 HF2 he hvb hlen HX HR2
      generalize keyL us = kl at *
      go_wp2_with (go_at_call 63; refine heq.mono ?_; rintro e w3 ⟨rfl, hww⟩; replace hww := hww.symm; subst hww)
      refine bodyPost_ret (v := .tuple #[.slice va us.length vc, .int .i64 0]) (by simp [results, Tryd.results42, go_sem]) rfl HF.out
    · have HF := hid (HF2.out he)
      rw [decide_eq_false he] at heq
      clear HF1 HF2 he hvb hlen HX HR2
      generalize keyL us = kl at *
      go_wp2_with (go_at_call 63; refine heq.mono ?_; rintro e w3 ⟨rfl, hww⟩; replace hww := hww.symm; subst hww)
      refine bodyPost_ret (v := .tuple #[.slice none 0 0, .int .i64 28]) (by simp [results, Tryd.results42, go_sem]) rfl HF.out
theorem VOut.gq {b q : Nat} {w w' : World} {v : Value} {us : List VA} (h : VOut b w v us) (hg : GQ q w w') (hp : ∀ k, v.ownBlock = some k → k ≠ q) : VOut b w' v us := by
  refine World.ownsRow.kept h hg ?_
  by_cases ho : v.ownBlock = none
  · exact .inl ho
  · exact .inr fun e => hp q e rfl
theorem VOut.ne {b q : Nat} {w : World} {v u : Value} {us : List VA} {r : List Value} (h : VOut b w v us) (hB : Blk w q (u :: r)) (hu : ∀ k, u ≠ .int .i64 k) (hpos : 0 < us.length) : ∀ k, v.ownBlock = some k → k ≠ q := by
  intro k hk e
  subst e
  have hr := h.rsw
  obtain ⟨hl, h2⟩ := h
  rcases h2 with ⟨rfl, h0⟩ | ⟨g, cap, cur, rfl, hg1, hg2, hg3⟩
  · omega
  · have ho : w.ownsRow b 39 3 (.slice (some ⟨g, 0, none⟩) us.length cap) us.length (us.flatMap vcs) := ⟨hl, .inr ⟨g, cap, cur, rfl, hg1, hg2, hg3⟩⟩
    simp [Value.ownBlock] at hk
    subst hk
    have h0 := (hB 0 (by simp)).1
    have h1 := own_cell (j := 0) (u := .int .i64 us[0].k) ho (by
      have := flat3 us 0 hpos 0 (by omega)
      simpa [vcs] using this)
    rw [h0] at h1
    simp at h1
    exact hu _ h1
set_option maxHeartbeats 8000000 in
theorem keyValues_impl (a : Option Addr) (ca : Nat) (xs : List Int) (w : World) (hb : Byt xs) (hT : Tabs w) (hv : YS w.heap.size w (.slice a xs.length ca) xs) :
    Calls Tryd.prog 21 #[.slice a xs.length ca] w fun e w' => KvP xs w e w' := by
  obtain ⟨i0, hi, hz0, hz1, hz2⟩ := info_parts infoV
  by_cases hbig : (120 : Int) < xs.length
  · have HF : Hid (KvC xs [] 28) := .inr ⟨fun vs _ _ h e => by rw [e] at h; omega, rfl, rfl⟩
    clear hv hb
    go_enter Tryd.func21, Tryd.ntmps21
    go_wp2
    refine bodyPost_ret (v := .tuple #[.slice none 0 0, .int .i64 28]) (by simp [results, Tryd.results21, go_sem]) rfl ⟨_, 28, [], rfl, ⟨_, _, rfl, fun h => absurd h (by simp)⟩, HF.out, Below.refl _ _⟩
  have hgd := gkI_good xs.length xs hb
  have HUS : Hid (∀ vs, valsB vs = true → GoV vs → keyL vs = xs → gkI xs.length xs = vs) := (fun vs h1 h2 h3 => by
    rw [← h3]
    exact gkI_key vs _ (valsB_at h1).2 h2 (by rw [h3]; exact Nat.le_refl _) : ∀ vs, valsB vs = true → GoV vs → keyL vs = xs → gkI xs.length xs = vs)
  have HBV : Hid (BVS 1048576 (gkI xs.length xs)) := ⟨by omega, fun t ht => by have := (hgd.2 t ht).1; unfold BV; omega⟩
  have HGO : Hid (GoV (gkI xs.length xs)) := (fun t ht => (hgd.2 t ht).2 : GoV (gkI xs.length xs))
  have HGL : Hid ((gkI xs.length xs).length ≤ 120) := (by omega : (gkI xs.length xs).length ≤ 120)
  have HT := hid hT
  have HB := hid hb
  have HXS := hid hv
  have HK0 := hid (blk_new w [.slice a xs.length ca, .bool false] 59)
  have HV0 : Hid (YS w.heap.size (w.alloc (.cells #[.slice a xs.length ca, .bool false] 59)) (.slice a xs.length ca) xs) := hv.same (fun g j hg => (below_alloc w _).cell (p := ⟨g, j, none⟩) hg)
  clear hgd hT hb hv
  go_enter Tryd.func21, Tryd.ntmps21
  go_wp2
  go_loopw [5] (fun vv wr => ∃ (l1 : List Int) (f : Nat) (us : List VA) (oa : Option Addr) (oc : Nat) (rv : Value) (s1 : Bool), vv = .slice oa us.length oc ∧ l1.length ≤ f ∧ us.length + l1.length ≤ 120 ∧ Hid (VOut w.heap.size wr (.slice oa us.length oc) us) ∧ Hid (us = [] → oa = none) ∧ Hid (Blk wr w.heap.size [rv, .bool s1]) ∧ Hid (YS w.heap.size wr rv l1) ∧ Hid (Byt l1) ∧ Hid (gkI xs.length xs = us ++ gkI f l1) ∧ w.heap.size < wr.heap.size ∧ Below w.heap.size w wr) (fun _ wr => restN w.heap.size wr)
  case atStart => exact ⟨xs, xs.length, [], none, 0, _, _, rfl, Nat.le_refl _, by simp; omega, (⟨rfl, .inl ⟨rfl, rfl⟩⟩ : VOut w.heap.size _ (.slice none 0 0) []), (fun _ => rfl : ([] : List VA) = [] → (none : Option Addr) = none), HK0, HV0, HB, (by simp : gkI xs.length xs = [] ++ gkI xs.length xs), by simp, below_alloc _ _⟩
  case round =>
    clear HK0 HV0
    obtain ⟨l1, f, us, oa, oc, rv, s1, rfl, hlf, hul, HV, HN, HK, HY, HBL, HG, hsz, hbw⟩ := hrel
    have HRN := hid (restN_of HK.out HY.out)
    have k0 : wr.cell? ⟨w.heap.size, 0, none⟩ = some rv := (HK.out 0 (by simp)).1
    have hys := HY.out
    obtain ⟨ra, rc, rfl, hrc, hrb, hrd⟩ := hys
    clear hrd
    by_cases hl0 : 0 < l1.length
    · have hl0i : (0 : Int) < l1.length := by omega
      have hne : l1 ≠ [] := by intro e; subst e; simp at hl0
      rcases f with _ | f
      · omega
      have hkp := keyPart_any w.heap.size w.heap.size _ l1 s1 wr hsz (Nat.le_refl _) HK.out HY.out HBL.out (by omega) hne
      have HG2 : Hid (gkI xs.length xs = (us ++ [(pkI l1).1]) ++ gkI f (pkI l1).2) := (by rw [HG.out, gkI_cons hne]; simp : gkI xs.length xs = (us ++ [(pkI l1).1]) ++ gkI f (pkI l1).2)
      have hpl := pkI_len hne
      have HBL2 : Hid (Byt (pkI l1).2) := (pkI_good HBL.out).2.2
      have HNE : Hid (∀ k, (Value.slice oa us.length oc).ownBlock = some k → k ≠ w.heap.size) := (by
        by_cases hu : us = []
        · rw [HN.out hu]
          intro k hk
          simp [Value.ownBlock] at hk
        · exact HV.out.ne HK.out (fun k => by simp) (List.length_pos_iff.2 hu) : ∀ k, (Value.slice oa us.length oc).ownBlock = some k → k ≠ w.heap.size)
      generalize (pkI l1).1 = t at *
      generalize (pkI l1).2 = l2 at *
      go_wp2_with (go_at_call 41; fail)
      refine hkp.mono ?_
      rintro e w2 ⟨rv2, s2, rfl, hst⟩
      have hsz2 : w.heap.size < w2.heap.size := by have := hst.gq.size; omega
      have HS2 := hid hst
      have bw2 : Below w.heap.size w w2 := Below.gq hbw hst.gq (Nat.le_refl _) (by omega)
      have HV2 := hid (HV.out.gq hst.gq HNE.out)
      have HVA : Hid (VOut w.heap.size (w2.alloc (.cells #[.int .i64 t.k, .int .i64 t.n, .string t.s] 39)) (.slice oa us.length oc) us) := World.ownsRow.alloc HV2.out _
      have HCA : Hid (∀ j u, (vcs t)[j]? = some u → (w2.alloc (.cells #[.int .i64 t.k, .int .i64 t.n, .string t.s] 39)).cell? ((⟨w2.heap.size, 0, none⟩ : Addr).add j) = some u) := (blk_new w2 (vcs t) 39).cells
      have bwA : Below w.heap.size w (w2.alloc (.cells #[.int .i64 t.k, .int .i64 t.n, .string t.s] 39)) := bw2.alloc (by omega) _
      have HLT := hid (World.ownsRow.lt HV2.out)
      clear hkp hst HV HK HY k0 HG
      go_wp2_with (at_builtin; refine wpList_append_own _ rfl (.tmp 15) (.tmp 17) 27 rfl w.heap.size 39 i0 _ 3 32 Tryd.underlying27 hi hz0 hz1 hz2 rfl (by decide) _ _ _ rfl HVA.out ⟨_, 0, none⟩ 1 1 (vcs t) rfl rfl HCA.out (by intro u hu; simp [vcs] at hu; rcases hu with rfl | rfl | rfl <;> rfl) (by unfold maxLen; omega) (by omega) (by simp; omega) ?_; intro v3 w3 hown3 hgrow3 hiff3; clear hiff3)
      have b3 : Below w.heap.size w w3 := bwA.grown hgrow3 (by simp; omega) (fun j hj => (HLT.out j hj).1)
      have HK3 : Hid (Blk w3 w.heap.size [rv2, .bool s2]) := (HS2.out.blk.below (below_alloc _ _) hsz2).grown hgrow3 (by simp; omega) (fun e => (HNE.out _ e.symm) rfl)
      have HY3 : Hid (YS w.heap.size w3 rv2 l2) := (HS2.out.ys.gq (GQ.alloc w.heap.size w2 _) (Nat.le_refl _) hsz2).same (fun g j hg => World.cell?_of_block (a := ⟨g, j, none⟩) (hgrow3.block g (by simp; omega) (fun e => by have := (HLT.out _ e.symm).1; omega)))
      have hs3 : w.heap.size < w3.heap.size := by have := hgrow3.size; simp at this; omega
      have HR := hid (VOut.push hown3)
      obtain ⟨oa3, oc3, rfl⟩ := HR.out.form
      have hl3 : (us ++ [t]).length = us.length + 1 := by simp
      have HNN : Hid (us ++ [t] = [] → oa3 = none) := (fun e => by simp at e : us ++ [t] = [] → oa3 = none)
      have HN3 := hid (restN_of HK3.out HY3.out)
      obtain ⟨us3, hus⟩ : ∃ z, z = us ++ [t] := ⟨_, rfl⟩
      rw [← hus] at HR HG2 hl3 HNN ⊢
      clear hown3 hgrow3 HV2 HVA HCA HS2 HLT hus bwA
      go_wp2
      go_roundw
      case rel => exact ⟨l2, f, us3, oa3, oc3, rv2, s2, rfl, by omega, by omega, HR, HNN, HK3, HY3, HBL2, HG2, hs3, b3⟩
      case measure => rw [HN3.out, HRN.out]; exact hpl
    · have hl0i : ¬ (0 : Int) < l1.length := by omega
      have hnil : l1 = [] := List.eq_nil_of_length_eq_zero (by omega)
      have HE : Hid (us = gkI xs.length xs) := (by rw [HG.out, hnil, gkI_nil, List.append_nil] : us = gkI xs.length xs)
      rw [← HE.out] at HBV HGO HUS
      have hrb2 := readBack_key oa a oc ca us xs wr HBV.out HGO.out (tabs_below HT.out hbw) ((HV.out.rsw.rs (D := CV) id).mono liesV (Nat.zero_le _)) ((HXS.out.same (fun g j hg => hbw.cell (p := ⟨g, j, none⟩) hg)).rs (by omega)) HB.out
      clear HG HK HY HBL HN hnil HE
      go_wp2_with (go_at_call 42; fail)
      refine hrb2.mono ?_
      rintro e w2 ⟨hcase, hb2⟩
      have bw2 : Below w.heap.size w w2 := hbw.trans (hb2.mono (by omega))
      have HV2 := hid (HV.out.below hb2)
      clear hrb2
      rcases hcase with ⟨h1, h2, h3, rfl⟩ | ⟨hno, rfl⟩
      · have HF : Hid (KvC xs us 0) := .inl ⟨h1, HGO.out, h2, h3, rfl⟩
        clear h1 h2 h3 HUS
        go_wp2
        refine bodyPost_ret (v := .tuple #[.slice oa us.length oc, .int .i64 0]) (by simp [results, Tryd.results21, go_sem]) rfl ⟨_, 0, us, rfl, HV2.out.rsw, HF.out, bw2⟩
      · have HF : Hid (KvC xs [] 28) := .inr ⟨fun vs h1 h2 h3 h4 => hno (by
          have := HUS.out vs h1 h2 h4
          rw [this]; exact ⟨h1, h3, h4⟩), rfl, rfl⟩
        clear hno HUS
        go_wp2
        refine bodyPost_ret (v := .tuple #[.slice none 0 0, .int .i64 28]) (by simp [results, Tryd.results21, go_sem]) rfl ⟨_, 28, [], rfl, ⟨_, _, rfl, fun h => absurd h (by simp)⟩, HF.out, bw2⟩
end Go.Proofs.YtfgjleifhjegkaaDoor
