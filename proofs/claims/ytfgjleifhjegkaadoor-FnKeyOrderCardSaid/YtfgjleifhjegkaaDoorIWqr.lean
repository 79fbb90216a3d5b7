import Derived.Test.YtfgjleifhjegkaaDoorIEQqr
import Derived.Test.YtfgjleifhjegkaaDoorVGqr
import Derived.Test.YtfgjleifhjegkaaDoorNC
import Derived.Test.YtfgjleifhjegkaaDoorKIRqr
namespace Go.Proofs.YtfgjleifhjegkaaDoor
open Go.ChangeShapes Go.WideShapes Go.ChangeAt Go.RowKit
set_option linter.unusedVariables false
set_option linter.unusedSimpArgs false
set_option maxRecDepth 100000
set_option maxHeartbeats 8000000 in
theorem readBack_row (va a : Option Addr) (vc ca : Nat) (us : List VA) (xs : List Int) (w : World) (hb : BVS 1048576 us) (hg : GoV us) (hT : Tabs w) (hvs : RS 3 CV 0 w (.slice va us.length vc) us) (hx : RS 1 CY 0 w (.slice a xs.length ca) xs) (bx : Byt xs) :
    Calls Tryd.prog 42 #[.slice va us.length vc, .slice a xs.length ca, .func (Fn.func 18) #[] #[]] w fun e w' => RbP rowL 4000 us xs (.slice va us.length vc) w e w' := by
  have hki := row_impl va vc us w hb hg hT hvs
  have HX := hid hx
  have HB := hid bx
  have HGV := hid hg
  clear hb hg hT hvs hx bx
  go_enter Tryd.func42, Tryd.ntmps42
  go_wp2_with (go_at_call 18; fail)
  refine hki.mono ?_
  rintro e w2 ⟨v2, c2, l2, rfl, hr2, hc2, hb2⟩
  have HR2 := hid ((hr2.rs (D := CY) id).mono liesY (Nat.zero_le _))
  obtain ⟨ya, yc, rfl, _⟩ := hr2
  clear hki
  rcases hc2 with ⟨hvb, rfl, rfl⟩ | ⟨hvb, hlen, rfl, rfl⟩ | ⟨hvb, hlen, rfl, rfl⟩
  · have HF : Hid (RbP rowL 4000 us xs (.slice va us.length vc) w (.returned (.tuple #[.slice none 0 0, .int .i64 28])) w2) := ⟨.inr ⟨fun h => (by rw [h.1] at hvb; exact absurd hvb (by decide)), rfl⟩, hb2⟩
    clear hvb HX HR2
    go_wp2
    refine bodyPost_ret (v := .tuple #[.slice none 0 0, .int .i64 28]) (by simp [results, Tryd.results42, go_sem]) rfl HF.out
  · have HF : Hid (RbP rowL 4000 us xs (.slice va us.length vc) w (.returned (.tuple #[.slice none 0 0, .int .i64 28])) w2) := ⟨.inr ⟨fun h => by omega, rfl⟩, hb2⟩
    clear hvb HX HR2 hlen
    go_wp2
    refine bodyPost_ret (v := .tuple #[.slice none 0 0, .int .i64 28]) (by simp [results, Tryd.results42, go_sem]) rfl HF.out
  · have heq := equal_any ya a yc ca (rowL us) xs w2 HR2.out (HX.out.below liesY hb2) (rowL_byt hvb HGV.out hlen) HB.out
    have HF1 : Hid (rowL us = xs → RbP rowL 4000 us xs (.slice va us.length vc) w (.returned (.tuple #[.slice va us.length vc, .int .i64 0])) w2) := (fun he => ⟨.inl ⟨hvb, hlen, he, rfl⟩, hb2⟩ : rowL us = xs → RbP rowL 4000 us xs (.slice va us.length vc) w (.returned (.tuple #[.slice va us.length vc, .int .i64 0])) w2)
    have HF2 : Hid (rowL us ≠ xs → RbP rowL 4000 us xs (.slice va us.length vc) w (.returned (.tuple #[.slice none 0 0, .int .i64 28])) w2) := (fun he => ⟨.inr ⟨fun h => he h.2.2, rfl⟩, hb2⟩ : rowL us ≠ xs → RbP rowL 4000 us xs (.slice va us.length vc) w (.returned (.tuple #[.slice none 0 0, .int .i64 28])) w2)
    by_cases he : rowL us = xs
    · have HF := hid (HF1.out he)
      rw [decide_eq_true he] at heq
      clear HF1 HF2 he hvb hlen HX HR2
      generalize rowL us = kl at *
      go_wp2_with (go_at_call 63; refine heq.mono ?_; rintro e w3 ⟨rfl, hww⟩; replace hww := hww.symm; subst hww)
      refine bodyPost_ret (v := .tuple #[.slice va us.length vc, .int .i64 0]) (by simp [results, Tryd.results42, go_sem]) rfl HF.out
    · have HF := hid (HF2.out he)
      rw [decide_eq_false he] at heq
      clear HF1 HF2 he hvb hlen HX HR2
      generalize rowL us = kl at *
      go_wp2_with (go_at_call 63; refine heq.mono ?_; rintro e w3 ⟨rfl, hww⟩; replace hww := hww.symm; subst hww)
      refine bodyPost_ret (v := .tuple #[.slice none 0 0, .int .i64 28]) (by simp [results, Tryd.results42, go_sem]) rfl HF.out
set_option maxHeartbeats 8000000 in
theorem rowValues_impl (a : Option Addr) (ca : Nat) (xs : List Int) (w : World) (hn : xs.length ≤ 1048576) (hb : Byt xs) (hT : Tabs w) (hv : YS w.heap.size w (.slice a xs.length ca) xs) :
    Calls Tryd.prog 24 #[.slice a xs.length ca] w fun e w' => RvP xs w e w' := by
  obtain ⟨i0, hi, hz0, hz1, hz2⟩ := info_parts infoV
  obtain ⟨cn, l0, hcn, hl0, hcb, hb0, hus0, hbv0, hgo0⟩ := row_start hb hn
  have HB0 := hid hb0
  have HUS := hid hus0
  have HBV := hid hbv0
  have HGO := hid hgo0
  clear hb0 hus0 hbv0 hgo0
  have HT := hid hT
  have HB := hid hb
  have HXS := hid hv
  have hnb := number_any w.heap.size w.heap.size (.slice a xs.length ca) xs false 1 (w.alloc (.cells #[.slice a xs.length ca, .bool false] 59)) (by simp) (Nat.le_refl _) (blk_new w [.slice a xs.length ca, .bool false] 59) (hv.same (fun g j hg => (below_alloc w _).cell (p := ⟨g, j, none⟩) hg)) hb
  unfold NbP at hnb
  rw [hcn, hl0] at hnb
  clear hT hb hv hcn hl0
  go_enter Tryd.func24, Tryd.ntmps24
  go_wp2_with (go_at_call 44; fail)
  refine hnb.mono ?_
  rintro e w1 ⟨rv1, s0, rfl, hg1, hk1, hv1⟩
  have HK1 := hid hk1
  have HV1 := hid hv1
  have hs1 : w.heap.size < w1.heap.size := by have := hg1.size; simp at this; omega
  have bw1 : Below w.heap.size w w1 := Below.gq (below_alloc w _) hg1 (Nat.le_refl _) (by simp)
  clear hnb hg1 hk1 hv1
  go_wp2
  go_loopw [5, 9] (fun vv iv wr => ∃ (k : Nat) (l1 : List Int) (us : List VA) (oa : Option Addr) (oc : Nat) (rv : Value) (s1 : Bool), vv = .slice oa us.length oc ∧ iv = .int .i64 (k : Int) ∧ k ≤ cn ∧ us.length = k ∧ Hid (VOut w.heap.size wr (.slice oa us.length oc) us) ∧ Hid (us = [] → oa = none) ∧ Hid (Blk wr w.heap.size [rv, .bool s1]) ∧ Hid (YS w.heap.size wr rv l1) ∧ Hid (Byt l1) ∧ Hid (grI cn l0 = us ++ grI (cn - k) l1) ∧ w.heap.size < wr.heap.size ∧ Below w.heap.size w wr) (fun _ iv _ => cn - (intOf iv).toNat)
  case atStart => exact ⟨0, l0, [], none, 0, rv1, s0, rfl, rfl, Nat.zero_le _, rfl, (⟨rfl, .inl ⟨rfl, rfl⟩⟩ : VOut w.heap.size _ (.slice none 0 0) []), (fun _ => rfl : ([] : List VA) = [] → (none : Option Addr) = none), HK1, HV1, HB0, (by simp : grI cn l0 = [] ++ grI (cn - 0) l0), hs1, bw1⟩
  case round =>
    clear HK1 HV1 HB0 hs1 bw1
    obtain ⟨k, l1, us, oa, oc, rv, s1, rfl, rfl, hkc, huk, HV, HN, HK, HY, HBL, HG, hsz, hbw⟩ := hrel
    by_cases hlt : k < cn
    · have hlti : (k : Int) < cn := by omega
      obtain ⟨t, l2, hbl2, hgs, hkp⟩ := rowPart_step w.heap.size w.heap.size rv l1 s1 wr hsz (Nat.le_refl _) HK.out HY.out HBL.out
      have HG2 : Hid (grI cn l0 = (us ++ [t]) ++ grI (cn - (k + 1)) l2) := grI_on hlt hgs HG.out
      have HBL2 : Hid (Byt l2) := hbl2
      clear hbl2 hgs
      have HNE : Hid (∀ k, (Value.slice oa us.length oc).ownBlock = some k → k ≠ w.heap.size) := (by
        by_cases hu : us = []
        · rw [HN.out hu]
          intro k hk
          simp [Value.ownBlock] at hk
        · have hys := HY.out
          obtain ⟨ra, rc, rfl, _⟩ := hys
          exact HV.out.ne HK.out (fun k => by simp) (List.length_pos_iff.2 hu) : ∀ k, (Value.slice oa us.length oc).ownBlock = some k → k ≠ w.heap.size)
      go_wp2_with (go_at_call 45; fail)
      refine hkp.mono ?_
      rintro e w2 ⟨rv2, s2, rfl, hst⟩
      have hsz2 : w.heap.size < w2.heap.size := by have := hst.gq.size; omega
      have HS2 := hid hst
      have bw2 : Below w.heap.size w w2 := Below.gq hbw hst.gq (Nat.le_refl _) (by omega)
      have HV2 := hid (HV.out.gq hst.gq HNE.out)
      have HVA : Hid (VOut w.heap.size (w2.alloc (.cells #[.int .i64 t.k, .int .i64 t.n, .string t.s] 39)) (.slice oa us.length oc) us) := World.ownsRow.alloc HV2.out _
      have HCA : Hid (∀ j u, (vcs t)[j]? = some u → (w2.alloc (.cells #[.int .i64 t.k, .int .i64 t.n, .string t.s] 39)).cell? ((⟨w2.heap.size, 0, none⟩ : Addr).add j) = some u) := (blk_new w2 (vcs t) 39).cells
      have bwA : Below w.heap.size w (w2.alloc (.cells #[.int .i64 t.k, .int .i64 t.n, .string t.s] 39)) := bw2.alloc (by omega) _
      have HLT := hid (World.ownsRow.lt HV2.out)
      have HUK := hid huk
      have hub : us.length ≤ 255 := by omega
      clear hkp hst HV HK HY HG huk
      go_wp2_with (at_builtin; refine wpList_append_own _ rfl (.tmp 11) (.tmp 13) 27 rfl w.heap.size 39 i0 _ 3 32 Tryd.underlying27 hi hz0 hz1 hz2 rfl (by decide) _ _ _ rfl HVA.out ⟨_, 0, none⟩ 1 1 (vcs t) rfl rfl HCA.out (by intro u hu; simp [vcs] at hu; rcases hu with rfl | rfl | rfl <;> rfl) (by unfold maxLen; omega) (by omega) (by simp; omega) ?_; intro v3 w3 hown3 hgrow3 hiff3; clear hiff3)
      have b3 : Below w.heap.size w w3 := bwA.grown hgrow3 (by simp; omega) (fun j hj => (HLT.out j hj).1)
      have HK3 : Hid (Blk w3 w.heap.size [rv2, .bool s2]) := (HS2.out.blk.below (below_alloc _ _) hsz2).grown hgrow3 (by simp; omega) (fun e => (HNE.out _ e.symm) rfl)
      have HY3 : Hid (YS w.heap.size w3 rv2 l2) := (HS2.out.ys.gq (GQ.alloc w.heap.size w2 _) (Nat.le_refl _) hsz2).same (fun g j hg => World.cell?_of_block (a := ⟨g, j, none⟩) (hgrow3.block g (by simp; omega) (fun e => by have := (HLT.out _ e.symm).1; omega)))
      have hs3 : w.heap.size < w3.heap.size := by have := hgrow3.size; simp at this; omega
      have HR := hid (VOut.push hown3)
      obtain ⟨oa3, oc3, rfl⟩ := HR.out.form
      have HL3 : Hid ((us ++ [t]).length = k + 1) := (by rw [List.length_append, HUK.out]; rfl : (us ++ [t]).length = k + 1)
      have HNN : Hid (us ++ [t] = [] → oa3 = none) := (fun e => by simp at e : us ++ [t] = [] → oa3 = none)
      obtain ⟨us3, hus⟩ : ∃ z, z = us ++ [t] := ⟨_, rfl⟩
      rw [← hus] at HR HG2 HL3 HNN ⊢
      clear hown3 hgrow3 HV2 HVA HCA HS2 HLT hus bwA
      go_wp2
      go_roundw
      case rel => exact ⟨k + 1, l2, us3, oa3, oc3, rv2, s2, rfl, by go_num, by omega, HL3.out, HR, HNN, HK3, HY3, HBL2, HG2, hs3, b3⟩
      case measure => simp [intOf]; omega
    · have hkn : k = cn := by omega
      have hlti : ¬ (k : Int) < cn := by omega
      have HE : Hid (us = grI cn l0) := (by rw [HG.out, hkn, Nat.sub_self, grI_zero, List.append_nil] : us = grI cn l0)
      rw [← HE.out] at HBV HGO HUS
      have hrb2 := readBack_row oa a oc ca us xs wr HBV.out HGO.out (tabs_below HT.out hbw) ((HV.out.rsw.rs (D := CV) id).mono liesV (Nat.zero_le _)) ((HXS.out.same (fun g j hg => hbw.cell (p := ⟨g, j, none⟩) hg)).rs (by omega)) HB.out
      clear HG HK HY HBL HN HE hkn huk
      go_wp2_with (go_at_call 42; fail)
      refine hrb2.mono ?_
      rintro e w2 ⟨hcase, hb2⟩
      have bw2 : Below w.heap.size w w2 := hbw.trans (hb2.mono (by omega))
      have HV2 := hid (HV.out.below hb2)
      clear hrb2
      rcases hcase with ⟨h1, h2, h3, rfl⟩ | ⟨hno, rfl⟩
      · have HF : Hid (RvC xs us 0) := .inl ⟨h1, HGO.out, h2, h3, rfl⟩
        clear h1 h2 h3 HUS
        go_wp2
        refine bodyPost_ret (v := .tuple #[.slice oa us.length oc, .int .i64 0]) (by simp [results, Tryd.results24, go_sem]) rfl ⟨_, 0, us, rfl, HV2.out.rsw, HF.out, bw2⟩
      · have HF : Hid (RvC xs [] 28) := .inr ⟨fun vs h1 h2 h3 h4 => hno (by
          have := HUS.out vs h1 h2 h3 h4
          rw [this]; exact ⟨h1, h3, h4⟩), rfl, rfl⟩
        clear hno HUS
        go_wp2
        refine bodyPost_ret (v := .tuple #[.slice none 0 0, .int .i64 28]) (by simp [results, Tryd.results24, go_sem]) rfl ⟨_, 28, [], rfl, ⟨_, _, rfl, fun h => absurd h (by simp)⟩, HF.out, bw2⟩
end Go.Proofs.YtfgjleifhjegkaaDoor
