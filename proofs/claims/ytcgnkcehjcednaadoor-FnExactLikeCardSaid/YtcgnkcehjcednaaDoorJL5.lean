import Derived.Test.YtcgnkcehjcednaaDoorJL3
import Derived.Test.YtcgnkcehjcednaaDoorJU1
import Derived.Deep.RegionWith
namespace Go.Proofs.YtcgnkcehjcednaaDoor
open Go.ChangeShapes Go.WideShapes Go.ChangeAt Go.RowKit Go.Shelf
namespace Lk
set_option linter.unusedVariables false
set_option linter.unusedSimpArgs false
set_option maxRecDepth 100000
theorem undrew {W w' : World} (hb : Below W.drew.heap.size W.drew w') : Below W.heap.size W w' := (Below.refl W.heap.size W).drew.trans hb
theorem chain {w W w' : World} (h : Below w.heap.size w W) (hb : Below W.heap.size W w') : Below w.heap.size w w' := h.trans (hb.mono h.size)
theorem RdT.below {w w' : World} {v : Value} {t : List Int} (h : RdT w v t) (hb : Below w.heap.size w w') : RdT w' v t := by
  obtain ⟨a, cap, rfl, hc⟩ := h
  refine ⟨a, cap, rfl, fun i hi => ?_⟩
  obtain ⟨g, e, hg, hx⟩ := hc i hi
  exact ⟨g, e, Nat.lt_of_lt_of_le hg hb.size, (hb.cell (p := ⟨g, i, none⟩) hg).trans hx⟩
theorem RdP.below {w w' : World} {v : Value} {t : List (Bool × Bool × Int)} (h : RdP w v t) (hb : Below w.heap.size w w') : RdP w' v t := by
  obtain ⟨a, cap, rfl, hc⟩ := h
  refine ⟨a, cap, rfl, fun i hi => ?_⟩
  obtain ⟨g, e, hg, h0, h1, h2⟩ := hc i hi
  exact ⟨g, e, Nat.lt_of_lt_of_le hg hb.size, (hb.cell (p := ⟨g, i * 3, none⟩) hg).trans h0, (hb.cell (p := ⟨g, i * 3 + 1, none⟩) hg).trans h1, (hb.cell (p := ⟨g, i * 3 + 2, none⟩) hg).trans h2⟩
theorem chF_nn (s : ByteArray) : ∀ (f pos : Nat) (l : List Int), chF s f pos = some l → ∀ c ∈ l, (0 : Int) ≤ c
  | 0, pos, l, h, c, hc => by
    unfold chF at h
    split at h
    · cases h
    · cases h; cases hc
  | f + 1, pos, l, h, c, hc => by
    unfold chF at h
    split at h
    · split at h
      · cases h
      · obtain ⟨r, hr, rfl⟩ := Option.map_eq_some_iff.1 h
        rcases List.mem_cons.1 hc with rfl | hc
        · omega
        · exact chF_nn s f _ r hr c hc
    · cases h; cases hc
theorem chars_nn {s : ByteArray} {cs : List Int} (h : chars s = some cs) : ∀ c ∈ cs, (0 : Int) ≤ c := chF_nn s s.size 0 cs h
theorem fits_any (k t : Int) (w : World) : Calls Tryd.prog 39 #[.int .i64 k, .int .i64 t] w fun e w' => e = .returned (.bool (k == t || k == 0)) ∧ w' = w := by
  go_enter Tryd.func39, Tryd.ntmps39
  go_wp2
  all_goals
    go_ret
    refine ⟨ret_bool ?_, rfl⟩
    go_light
    grind
open Classical in
/-- What Like answers: kind, number, code. -/
noncomputable def likeR (k1 n1 : Int) (s1 : ByteArray) (k2 n2 : Int) (s2 : ByteArray) : Int × Int × Int :=
  if vok k1 n1 s1 = false ∨ vok k2 n2 s2 = false then (0, 0, 1)
  else if ¬ (k1 = 3 ∨ k1 = 0) ∨ ¬ (k2 = 3 ∨ k2 = 0) then (0, 0, 10)
  else if k1 = 0 ∨ k2 = 0 then (0, 0, 0)
  else (4, zB (decide (Mt (prt false ((chars s2).getD [])) ((chars s1).getD []))), 0)
def likeV (r : Int × Int × Int) : Value := .tuple #[.agg #[.int .i64 r.1, .int .i64 r.2.1, .string ⟨#[]⟩], .int .i64 r.2.2]
theorem vok_text {n : Int} {s : ByteArray} (h : vok 3 n s = true) : ∃ cs, chars s = some cs ∧ cs.length ≤ 255 := by
  simp [vok] at h
  have h2 := h.2
  unfold textOK at h2
  cases e : chars s with
  | none => rw [e] at h2; cases h2
  | some cs => rw [e] at h2; exact ⟨cs, rfl, by simpa using h2⟩
theorem vok_range {k n : Int} {s : ByteArray} (h : vok k n s = true) : 0 ≤ k ∧ k ≤ 5 := by
  unfold vok at h
  by_cases e : k = 0 ∨ k = 1 ∨ k = 2 ∨ k = 3 ∨ k = 4 ∨ k = 5
  · omega
  · rw [if_neg (by omega), if_neg (by omega), if_neg (by omega), if_neg (by omega), if_neg (by omega), if_neg (by omega)] at h; cases h
open Classical in
set_option maxHeartbeats 16000000 in
theorem like_impl (k1 n1 : Int) (s1 : ByteArray) (k2 n2 : Int) (s2 : ByteArray) (w : World) (hs1 : s1.size ≤ 1048576) (hs2 : s2.size ≤ 1048576) (hT : Tabs w) :
    Calls Tryd.prog 16 #[.agg #[.int .i64 k1, .int .i64 n1, .string s1], .agg #[.int .i64 k2, .int .i64 n2, .string s2]] w fun e w' => e = .returned (likeV (likeR k1 n1 s1 k2 n2 s2)) ∧ Below w.heap.size w w' := by
  have bw0 : Below w.heap.size w (((w.alloc (.cells #[.int .i64 k1, .int .i64 n1, .string s1] 26)).alloc (.cells #[.int .i64 k2, .int .i64 n2, .string s2] 26)).alloc (.cells #[.int .i64 0, .int .i64 0, .string ⟨#[]⟩] 26)) := ((below_alloc w _).alloc (by simp) _).alloc (by simp; omega) _
  cases hv1 : vok k1 n1 s1 with
  | false =>
    have HV1 : Hid (vok k1 n1 s1 = false) := hv1
    have HR : Hid (likeR k1 n1 s1 k2 n2 s2 = (0, 0, 1)) := (by unfold likeR; rw [if_pos (.inl hv1)] : likeR k1 n1 s1 k2 n2 s2 = (0, 0, 1))
    rw [HR.out]
    clear hv1
    go_enter Tryd.func16, Tryd.ntmps16
    go_wp2_with fail
    refine (vok_impl k1 n1 s1 _ hs1 (tabs_below hT bw0)).mono ?_
    rw [HV1.out]
    rintro e w1 ⟨rfl, hb⟩
    obtain ⟨hc, hf⟩ := bcell hb
    have bw1 : Below w.heap.size w w1 := bw0.trans (hb.mono (by simp; omega))
    have hx1 : w.heap.size + 1 + 1 < w1.heap.size := by have := hb.size; simp at this; omega
    have hz1 : w.heap.size + 1 < w1.heap.size := by omega
    have hy1 : w.heap.size < w1.heap.size := by omega
    go_wp2
    refine bodyPost_ret (v := likeV (0, 0, 1)) (by simp [results, Tryd.results16, go_sem, likeV, hc, hf, hx1, hz1, hy1]) rfl ⟨rfl, ?_⟩
    refine bw1.trans ?_
    (go_light; repeat (first | with_reducible exact Below.refl _ _ | (with_reducible refine Below.setCell ?_ ?_ _; rotate_left; (focus first | (simp; done) | (simp; omega) | omega)) | (with_reducible refine Below.alloc ?_ ?_ _; rotate_left; (focus first | (simp; done) | (simp; omega) | omega)) | with_reducible refine Below.drew ?_))
  | true =>
  cases hv2 : vok k2 n2 s2 with
  | false =>
    have HV1 : Hid (vok k1 n1 s1 = true) := hv1
    have HV2 : Hid (vok k2 n2 s2 = false) := hv2
    have HR : Hid (likeR k1 n1 s1 k2 n2 s2 = (0, 0, 1)) := (by unfold likeR; rw [if_pos (.inr hv2)] : likeR k1 n1 s1 k2 n2 s2 = (0, 0, 1))
    rw [HR.out]
    clear hv1 hv2
    go_enter Tryd.func16, Tryd.ntmps16
    go_wp2_with fail
    refine (vok_impl k1 n1 s1 _ hs1 (tabs_below hT bw0)).mono ?_
    rw [HV1.out]
    rintro e w1 ⟨rfl, hb⟩
    obtain ⟨hc, hf⟩ := bcell hb
    have bw1 : Below w.heap.size w w1 := bw0.trans (hb.mono (by simp; omega))
    have hx1 : w.heap.size + 1 + 1 < w1.heap.size := by have := hb.size; simp at this; omega
    have hz1 : w.heap.size + 1 < w1.heap.size := by omega
    have hy1 : w.heap.size < w1.heap.size := by omega
    go_wp2_with fail
    refine (vok_impl k2 n2 s2 _ hs2 (tabs_below hT bw1)).mono ?_
    rw [HV2.out]
    rintro e w2 ⟨rfl, hb2⟩
    obtain ⟨hc2, hf2⟩ := bcell hb2
    have bw2 : Below w.heap.size w w2 := bw1.trans (hb2.mono bw1.size)
    have hx2 : w.heap.size + 1 + 1 < w2.heap.size := by have := hb2.size; omega
    have hz2 : w.heap.size + 1 < w2.heap.size := by omega
    have hy2 : w.heap.size < w2.heap.size := by omega
    go_wp2
    refine bodyPost_ret (v := likeV (0, 0, 1)) (by simp [results, Tryd.results16, go_sem, likeV, hc, hf, hx1, hz1, hy1, hc2, hf2, hx2, hz2, hy2]) rfl ⟨rfl, ?_⟩
    refine bw2.trans ?_
    (go_light; repeat (first | with_reducible exact Below.refl _ _ | (with_reducible refine Below.setCell ?_ ?_ _; rotate_left; (focus first | (simp; done) | (simp; omega) | omega)) | (with_reducible refine Below.alloc ?_ ?_ _; rotate_left; (focus first | (simp; done) | (simp; omega) | omega)) | with_reducible refine Below.drew ?_))
  | true =>
  have HV1 : Hid (vok k1 n1 s1 = true) := hv1
  have HV2 : Hid (vok k2 n2 s2 = true) := hv2
  have HL : Hid (likeR k1 n1 s1 k2 n2 s2 = if ¬ (k1 = 3 ∨ k1 = 0) ∨ ¬ (k2 = 3 ∨ k2 = 0) then (0, 0, 10) else if k1 = 0 ∨ k2 = 0 then (0, 0, 0) else (4, zB (decide (Mt (prt false ((chars s2).getD [])) ((chars s1).getD []))), 0)) := (by unfold likeR; rw [if_neg (by rw [hv1, hv2]; simp)] : likeR k1 n1 s1 k2 n2 s2 = _)
  have HQ1 : Hid (k1 = 3 → ∃ cs, chars s1 = some cs ∧ cs.length ≤ 255) := (fun e => vok_text (n := n1) (by rw [← e]; exact hv1))
  have HQ2 : Hid (k2 = 3 → ∃ cs, chars s2 = some cs ∧ cs.length ≤ 255) := (fun e => vok_text (n := n2) (by rw [← e]; exact hv2))
  clear hv1 hv2
  by_cases t1 : k1 = 3 ∨ k1 = 0
  · have e1 : (k1 == 3 || k1 == 0) = true := by simpa using t1
    by_cases t2 : k2 = 3 ∨ k2 = 0
    · have e2 : (k2 == 3 || k2 == 0) = true := by simpa using t2
      by_cases z1 : k1 = 0
      · have HR : Hid (likeR k1 n1 s1 k2 n2 s2 = (0, 0, 0)) := (by rw [HL.out, if_neg (by simp [t1, t2]), if_pos (.inl z1)] : likeR k1 n1 s1 k2 n2 s2 = (0, 0, 0))
        rw [HR.out]
        have y1 : (k1 == 0) = true := by simpa using z1
        clear t1 t2 z1 HL HQ1 HQ2
        go_enter Tryd.func16, Tryd.ntmps16
        go_wp2_with fail
        refine (vok_impl k1 n1 s1 _ hs1 (tabs_below hT bw0)).mono ?_
        rw [HV1.out]
        rintro e w1 ⟨rfl, hb⟩
        obtain ⟨hc, hf⟩ := bcell hb
        have bw1 : Below w.heap.size w w1 := bw0.trans (hb.mono (by simp; omega))
        have hx1 : w.heap.size + 1 + 1 < w1.heap.size := by have := hb.size; simp at this; omega
        have hz1 : w.heap.size + 1 < w1.heap.size := by omega
        have hy1 : w.heap.size < w1.heap.size := by omega
        go_wp2_with fail
        refine (vok_impl k2 n2 s2 _ hs2 (tabs_below hT bw1)).mono ?_
        rw [HV2.out]
        rintro e w2 ⟨rfl, hb2⟩
        obtain ⟨hc2, hf2⟩ := bcell hb2
        have bw2 : Below w.heap.size w w2 := bw1.trans (hb2.mono bw1.size)
        have hx2 : w.heap.size + 1 + 1 < w2.heap.size := by have := hb2.size; omega
        have hz2 : w.heap.size + 1 < w2.heap.size := by omega
        have hy2 : w.heap.size < w2.heap.size := by omega
        go_wp2_with (go_at_call 39; refine (fits_any _ _ _).mono ?_; (try rw [e1]); (try rw [e2]); rintro e w' ⟨rfl, rfl⟩)
        refine bodyPost_ret (v := likeV (0, 0, 0)) (by simp [results, Tryd.results16, go_sem, likeV, hc, hf, hx1, hz1, hy1, hc2, hf2, hx2, hz2, hy2]) rfl ⟨rfl, ?_⟩
        refine bw2.trans ?_
        (go_light; repeat (first | with_reducible exact Below.refl _ _ | (with_reducible refine Below.setCell ?_ ?_ _; rotate_left; (focus first | (simp; done) | (simp; omega) | omega)) | (with_reducible refine Below.alloc ?_ ?_ _; rotate_left; (focus first | (simp; done) | (simp; omega) | omega)) | with_reducible refine Below.drew ?_))
      · have y1 : (k1 == 0) = false := by simpa using z1
        by_cases z2 : k2 = 0
        · have HR : Hid (likeR k1 n1 s1 k2 n2 s2 = (0, 0, 0)) := (by rw [HL.out, if_neg (by simp [t1, t2]), if_pos (.inr z2)] : likeR k1 n1 s1 k2 n2 s2 = (0, 0, 0))
          rw [HR.out]
          have y2 : (k2 == 0) = true := by simpa using z2
          clear t1 t2 z1 z2 HL HQ1 HQ2
          go_enter Tryd.func16, Tryd.ntmps16
          go_wp2_with fail
          refine (vok_impl k1 n1 s1 _ hs1 (tabs_below hT bw0)).mono ?_
          rw [HV1.out]
          rintro e w1 ⟨rfl, hb⟩
          obtain ⟨hc, hf⟩ := bcell hb
          have bw1 : Below w.heap.size w w1 := bw0.trans (hb.mono (by simp; omega))
          have hx1 : w.heap.size + 1 + 1 < w1.heap.size := by have := hb.size; simp at this; omega
          have hz1 : w.heap.size + 1 < w1.heap.size := by omega
          have hy1 : w.heap.size < w1.heap.size := by omega
          go_wp2_with fail
          refine (vok_impl k2 n2 s2 _ hs2 (tabs_below hT bw1)).mono ?_
          rw [HV2.out]
          rintro e w2 ⟨rfl, hb2⟩
          obtain ⟨hc2, hf2⟩ := bcell hb2
          have bw2 : Below w.heap.size w w2 := bw1.trans (hb2.mono bw1.size)
          have hx2 : w.heap.size + 1 + 1 < w2.heap.size := by have := hb2.size; omega
          have hz2 : w.heap.size + 1 < w2.heap.size := by omega
          have hy2 : w.heap.size < w2.heap.size := by omega
          go_wp2_with (go_at_call 39; refine (fits_any _ _ _).mono ?_; (try rw [e1]); (try rw [e2]); rintro e w' ⟨rfl, rfl⟩)
          refine bodyPost_ret (v := likeV (0, 0, 0)) (by simp [results, Tryd.results16, go_sem, likeV, hc, hf, hx1, hz1, hy1, hc2, hf2, hx2, hz2, hy2]) rfl ⟨rfl, ?_⟩
          refine bw2.trans ?_
          (go_light; repeat (first | with_reducible exact Below.refl _ _ | (with_reducible refine Below.setCell ?_ ?_ _; rotate_left; (focus first | (simp; done) | (simp; omega) | omega)) | (with_reducible refine Below.alloc ?_ ?_ _; rotate_left; (focus first | (simp; done) | (simp; omega) | omega)) | with_reducible refine Below.drew ?_))
        · have y2 : (k2 == 0) = false := by simpa using z2
          obtain rfl : k1 = 3 := t1.resolve_right z1
          obtain rfl : k2 = 3 := t2.resolve_right z2
          obtain ⟨cs1, hc1, hl1⟩ := HQ1.out rfl
          obtain ⟨cs2, hc2', hl2⟩ := HQ2.out rfl
          obtain ⟨r, hr⟩ : ∃ r : Bool, decide (Mt ((pcs false cs2).map part) cs1) = r := ⟨_, rfl⟩
          have HR : Hid (likeR 3 n1 s1 3 n2 s2 = (4, zB r, 0)) := (by rw [HL.out, if_neg (by simp), if_neg (by simp), hc1, hc2', ← hr]; rfl : likeR 3 n1 s1 3 n2 s2 = (4, zB r, 0))
          have HM : Hid (decide (Mt ((pcs false cs2).map part) cs1) = r) := hr
          have HC1 : Hid (chars s1 = some cs1) := hc1
          have HC2 : Hid (chars s2 = some cs2) := hc2'
          have HN1 : Hid (∀ c ∈ cs1, (0 : Int) ≤ c) := chars_nn hc1
          have HN2 : Hid (∀ x ∈ pcs false cs2, (0 : Int) ≤ x.2.2) := pcs_nn false cs2 (chars_nn hc2')
          have hp2 := pcs_len false cs2
          rw [HR.out]
          clear t1 t2 z1 z2 HL HQ1 HQ2 hc1 hc2' hr y1 y2
          go_enter Tryd.func16, Tryd.ntmps16
          go_wp2_with fail
          refine (vok_impl 3 n1 s1 _ hs1 (tabs_below hT bw0)).mono ?_
          rw [HV1.out]
          rintro e w1 ⟨rfl, hb⟩
          obtain ⟨hc, hf⟩ := bcell hb
          have bw1 : Below w.heap.size w w1 := bw0.trans (hb.mono (by simp; omega))
          have hx1 : w.heap.size + 1 + 1 < w1.heap.size := by have := hb.size; simp at this; omega
          have hz1 : w.heap.size + 1 < w1.heap.size := by omega
          have hy1 : w.heap.size < w1.heap.size := by omega
          go_wp2_with fail
          refine (vok_impl 3 n2 s2 _ hs2 (tabs_below hT bw1)).mono ?_
          rw [HV2.out]
          rintro e w2 ⟨rfl, hb2⟩
          obtain ⟨hc2, hf2⟩ := bcell hb2
          have bw2 : Below w.heap.size w w2 := bw1.trans (hb2.mono bw1.size)
          have hx2 : w.heap.size + 1 + 1 < w2.heap.size := by have := hb2.size; omega
          have hz2 : w.heap.size + 1 < w2.heap.size := by omega
          have hy2 : w.heap.size < w2.heap.size := by omega
          go_wp2_with (go_at_call 39; refine (fits_any _ _ _).mono ?_; (try rw [e1]); (try rw [e2]); rintro e w' ⟨rfl, rfl⟩)
          go_region_with (first
            | (go_at_call 42; refine (charsOf_any _ cs1 _ hs1 HC1.out).mono ?_; rintro e wA ⟨vA, rfl, hoA, hbA⟩; (first | (replace hbA := undrew hbA) | skip); have RA := RdT.of_own hoA; obtain ⟨hcA, hfA⟩ := bcell hbA; have bwA := chain (by assumption) hbA; have hxA : w.heap.size + 1 + 1 < wA.heap.size := (by have := hbA.size; omega); have hzA : w.heap.size + 1 < wA.heap.size := (by omega); have hyA : w.heap.size < wA.heap.size := (by omega))
            | (go_at_call 43; refine (pieces_any _ cs2 _ hs2 HC2.out).mono ?_; rintro e wB ⟨vB, rfl, hoB, hbB⟩; (first | (replace hbB := undrew hbB) | skip); have RB := RdP.of_own hoB; obtain ⟨hcB, hfB⟩ := bcell hbB; have bwB := chain (by assumption) hbB; have hxB : w.heap.size + 1 + 1 < wB.heap.size := (by have := hbB.size; omega); have hzB : w.heap.size + 1 < wB.heap.size := (by omega); have hyB : w.heap.size < wB.heap.size := (by omega))
            | (go_at_call 41; refine (matches_any cs1 (pcs false cs2) _ _ _ (by first | exact RA | exact RA.below hbB) (by first | exact RB | exact RB.below hbA) HN1.out HN2.out (by omega) (by omega)).mono ?_; rw [HM.out]; rintro e wM ⟨rfl, hbM⟩; obtain ⟨hcM, hfM⟩ := bcell hbM; have bwM := chain (by assumption) hbM; have hxM : w.heap.size + 1 + 1 < wM.heap.size := (by have := hbM.size; omega); have hzM : w.heap.size + 1 < wM.heap.size := (by omega); have hyM : w.heap.size < wM.heap.size := (by omega))
            | (go_at_call 40; refine (boolValue_any _ _).mono ?_; rintro e wV ⟨rfl, hbV⟩; obtain ⟨hcV, hfV⟩ := bcell hbV; have bwV := chain (by assumption) hbV; have hxV : w.heap.size + 1 + 1 < wV.heap.size := (by have := hbV.size; omega); have hzV : w.heap.size + 1 < wV.heap.size := (by omega); have hyV : w.heap.size < wV.heap.size := (by omega)))
          all_goals
            go_wp2
            refine bodyPost_ret (v := likeV (4, zB r, 0)) (by simp [results, Tryd.results16, go_sem, likeV, hc, hf, hx1, hz1, hy1, hc2, hf2, hx2, hz2, hy2, hcA, hfA, hxA, hcB, hfB, hxB, hcM, hfM, hxM, hcV, hfV, hxV]) rfl ⟨rfl, ?_⟩
            refine bwV.trans ?_
            (go_light; repeat (first | with_reducible exact Below.refl _ _ | (with_reducible refine Below.setCell ?_ ?_ _; rotate_left; (focus first | (simp; done) | (simp; omega) | omega)) | (with_reducible refine Below.alloc ?_ ?_ _; rotate_left; (focus first | (simp; done) | (simp; omega) | omega)) | with_reducible refine Below.drew ?_))
    · have e2 : (k2 == 3 || k2 == 0) = false := by simpa using t2
      have HR : Hid (likeR k1 n1 s1 k2 n2 s2 = (0, 0, 10)) := (by rw [HL.out, if_pos (.inr t2)] : likeR k1 n1 s1 k2 n2 s2 = (0, 0, 10))
      rw [HR.out]
      clear t1 t2 HL HQ1 HQ2
      go_enter Tryd.func16, Tryd.ntmps16
      go_wp2_with fail
      refine (vok_impl k1 n1 s1 _ hs1 (tabs_below hT bw0)).mono ?_
      rw [HV1.out]
      rintro e w1 ⟨rfl, hb⟩
      obtain ⟨hc, hf⟩ := bcell hb
      have bw1 : Below w.heap.size w w1 := bw0.trans (hb.mono (by simp; omega))
      have hx1 : w.heap.size + 1 + 1 < w1.heap.size := by have := hb.size; simp at this; omega
      have hz1 : w.heap.size + 1 < w1.heap.size := by omega
      have hy1 : w.heap.size < w1.heap.size := by omega
      go_wp2_with fail
      refine (vok_impl k2 n2 s2 _ hs2 (tabs_below hT bw1)).mono ?_
      rw [HV2.out]
      rintro e w2 ⟨rfl, hb2⟩
      obtain ⟨hc2, hf2⟩ := bcell hb2
      have bw2 : Below w.heap.size w w2 := bw1.trans (hb2.mono bw1.size)
      have hx2 : w.heap.size + 1 + 1 < w2.heap.size := by have := hb2.size; omega
      have hz2 : w.heap.size + 1 < w2.heap.size := by omega
      have hy2 : w.heap.size < w2.heap.size := by omega
      go_wp2_with (go_at_call 39; refine (fits_any _ _ _).mono ?_; (first | rw [e1] | rw [e2]); rintro e w' ⟨rfl, rfl⟩)
      refine bodyPost_ret (v := likeV (0, 0, 10)) (by simp [results, Tryd.results16, go_sem, likeV, hc, hf, hx1, hz1, hy1, hc2, hf2, hx2, hz2, hy2]) rfl ⟨rfl, ?_⟩
      refine bw2.trans ?_
      (go_light; repeat (first | with_reducible exact Below.refl _ _ | (with_reducible refine Below.setCell ?_ ?_ _; rotate_left; (focus first | (simp; done) | (simp; omega) | omega)) | (with_reducible refine Below.alloc ?_ ?_ _; rotate_left; (focus first | (simp; done) | (simp; omega) | omega)) | with_reducible refine Below.drew ?_))
  · have e1 : (k1 == 3 || k1 == 0) = false := by simpa using t1
    have HR : Hid (likeR k1 n1 s1 k2 n2 s2 = (0, 0, 10)) := (by rw [HL.out, if_pos (.inl t1)] : likeR k1 n1 s1 k2 n2 s2 = (0, 0, 10))
    rw [HR.out]
    clear t1 HL HQ1 HQ2
    go_enter Tryd.func16, Tryd.ntmps16
    go_wp2_with fail
    refine (vok_impl k1 n1 s1 _ hs1 (tabs_below hT bw0)).mono ?_
    rw [HV1.out]
    rintro e w1 ⟨rfl, hb⟩
    obtain ⟨hc, hf⟩ := bcell hb
    have bw1 : Below w.heap.size w w1 := bw0.trans (hb.mono (by simp; omega))
    have hx1 : w.heap.size + 1 + 1 < w1.heap.size := by have := hb.size; simp at this; omega
    have hz1 : w.heap.size + 1 < w1.heap.size := by omega
    have hy1 : w.heap.size < w1.heap.size := by omega
    go_wp2_with fail
    refine (vok_impl k2 n2 s2 _ hs2 (tabs_below hT bw1)).mono ?_
    rw [HV2.out]
    rintro e w2 ⟨rfl, hb2⟩
    obtain ⟨hc2, hf2⟩ := bcell hb2
    have bw2 : Below w.heap.size w w2 := bw1.trans (hb2.mono bw1.size)
    have hx2 : w.heap.size + 1 + 1 < w2.heap.size := by have := hb2.size; omega
    have hz2 : w.heap.size + 1 < w2.heap.size := by omega
    have hy2 : w.heap.size < w2.heap.size := by omega
    go_wp2_with (go_at_call 39; refine (fits_any _ _ _).mono ?_; rw [e1]; rintro e w' ⟨rfl, rfl⟩)
    refine bodyPost_ret (v := likeV (0, 0, 10)) (by simp [results, Tryd.results16, go_sem, likeV, hc, hf, hx1, hz1, hy1, hc2, hf2, hx2, hz2, hy2]) rfl ⟨rfl, ?_⟩
    refine bw2.trans ?_
    (go_light; repeat (first | with_reducible exact Below.refl _ _ | (with_reducible refine Below.setCell ?_ ?_ _; rotate_left; (focus first | (simp; done) | (simp; omega) | omega)) | (with_reducible refine Below.alloc ?_ ?_ _; rotate_left; (focus first | (simp; done) | (simp; omega) | omega)) | with_reducible refine Below.drew ?_))

end Lk
end Go.Proofs.YtcgnkcehjcednaaDoor
