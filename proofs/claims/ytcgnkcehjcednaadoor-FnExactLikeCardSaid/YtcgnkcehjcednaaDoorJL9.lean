import Derived.Test.YtcgnkcehjcednaaDoorJL8
import Derived.Test.YtcgnkcehjcednaaDoorJW5
import Derived.Test.YtcgnkcehjcednaaDoorJU1
import Derived.Deep.RegionWith
import Derived.Deep.CutRange
import Derived.Deep.DeepCutAuto
namespace Go.Proofs.YtcgnkcehjcednaaDoor
open Go.ChangeShapes Go.WideShapes Go.ChangeAt Go.RowKit Go.Shelf
set_option linter.unusedVariables false
set_option linter.unusedSimpArgs false
set_option maxRecDepth 100000
namespace LikeL
theorem chain {w W w' : World} (h : Below w.heap.size w W) (hb : Below W.heap.size W w') : Below w.heap.size w w' := h.trans (hb.mono h.size)
theorem undrew {W w' : World} (hb : Below W.drew.heap.size W.drew w') : Below W.heap.size W w' := (Below.refl W.heap.size W).drew.trans hb
theorem below_al {w W : World} (h : Below w.heap.size w W) (o : Obj) : Below w.heap.size w (W.alloc o) := h.alloc h.size o
theorem alloc_lt {W w' : World} {o : Obj} (hb : Below (W.alloc o).heap.size (W.alloc o) w') : W.heap.size < w'.heap.size := by have := hb.size; simp at this; omega
open Lk (like_spec like_impl likeR likeV)
/-- A block that holds a value. -/
structure HV (w : World) (b : Nat) (k n : Int) (s : ByteArray) : Prop where
  c0 : w.cell? ⟨b, 0, none⟩ = some (.int .i64 k)
  c1 : w.cell? ⟨b, 1, none⟩ = some (.int .i64 n)
  c2 : w.cell? ⟨b, 2, none⟩ = some (.string s)
  lt : b < w.heap.size
theorem HV.below {B : Nat} {w w' : World} {b : Nat} {k n : Int} {s : ByteArray} (h : HV w b k n s) (u : Below B w w') (hb : b < B) : HV w' b k n s :=
  ⟨(u.cell (p := ⟨b, 0, none⟩) hb).trans h.c0, (u.cell (p := ⟨b, 1, none⟩) hb).trans h.c1, (u.cell (p := ⟨b, 2, none⟩) hb).trans h.c2, Nat.lt_of_lt_of_le h.lt u.size⟩
theorem eqValue_same (k n : Int) (s : ByteArray) (w : World) : Calls Tryd.prog 17 #[.agg #[.int .i64 k, .int .i64 n, .string s], .agg #[.int .i64 k, .int .i64 n, .string s]] w fun e w' => e = .returned (.bool true) ∧ Below w.heap.size w w' := by
  go_enter Tryd.func17, Tryd.ntmps17
  go_wp2
  go_ret
  exact ⟨rfl, (below_alloc w _).alloc (by simp) _⟩
set_option maxHeartbeats 8000000 in
theorem walk (k0 n0 : Int) (s0 : ByteArray) (k1 n1 : Int) (s1 : ByteArray) (w : World) (hs0 : s0.size ≤ maxLen) (wk0 : (Lit.int .i64 k0).wf = true) (wn0 : (Lit.int .i64 n0).wf = true) (hs1 : s1.size ≤ maxLen) (wk1 : (Lit.int .i64 k1).wf = true) (wn1 : (Lit.int .i64 n1).wf = true) (hT : Tabs w) :
    Calls Tryd.prog 4 #[.agg #[.int .i64 k0, .int .i64 n0, .string s0], .agg #[.int .i64 k1, .int .i64 n1, .string s1]] w fun e w' => e = .returned (.bool true) ∧ Below w.heap.size w w' := by
  have bw0 : Below w.heap.size w ((w.alloc (.cells #[.int .i64 k0, .int .i64 n0, .string s0] 24)).alloc (.cells #[.int .i64 k1, .int .i64 n1, .string s1] 24)) := (below_alloc w _).alloc (by simp) _
  by_cases h0 : (s0.size : Int) ≤ 1048576
  · by_cases h1 : (s1.size : Int) ≤ 1048576 - s0.size
    · have g0 : s0.size ≤ 1048576 := by omega
      have g1 : s1.size ≤ 1048576 := by omega
      go_enter Tryd.func4, Tryd.ntmps4
      go_wp2_with fail
      refine (sz_yes k0 n0 1048576 s0 _ (by omega) (by omega) h0).mono ?_
      rintro e w1 ⟨rfl, hb1⟩
      obtain ⟨hc1, hf1⟩ := bcell hb1
      have bw1 : Below w.heap.size w w1 := chain bw0 hb1
      have hz1 : w.heap.size + 1 < w1.heap.size := by have := hb1.size; (try simp at this); omega
      have hy1 : w.heap.size < w1.heap.size := by omega
      go_wp2_with fail
      refine (sz_yes k1 n1 (1048576 - s0.size) s1 _ (by omega) (by omega) h1).mono ?_
      rintro e w2 ⟨rfl, hb2⟩
      obtain ⟨hc2, hf2⟩ := bcell hb2
      have bw2 : Below w.heap.size w w2 := chain bw1 hb2
      have hz2 : w.heap.size + 1 < w2.heap.size := by have := hb2.size; (try simp at this); omega
      have hy2 : w.heap.size < w2.heap.size := by omega
      obtain ⟨⟨r1, r2, r3⟩, hr⟩ : ∃ r, likeR k0 n0 s0 k1 n1 s1 = r := ⟨_, rfl⟩
      have HR : Hid (likeR k0 n0 s0 k1 n1 s1 = (r1, r2, r3)) := hr
      clear hr
      have HA : HV w2 w.heap.size k0 n0 s0 := ⟨by rw [hc2 _ _ hy1, hc1 _ _ (by simp; omega)]; simp [go_sem], by rw [hc2 _ _ hy1, hc1 _ _ (by simp; omega)]; simp [go_sem], by rw [hc2 _ _ hy1, hc1 _ _ (by simp; omega)]; simp [go_sem], hy2⟩
      have HB : HV w2 (w.heap.size + 1) k1 n1 s1 := ⟨by simp [hc2, hc1, hz1], by simp [hc2, hc1, hz1], by simp [hc2, hc1, hz1], hz2⟩
      go_upto_region 8 with fail
      go_cut [6, 7] from 20 to 27 (fun v6 v7 wx => ∃ g, v6 = .pointer (some ⟨g, 0, none⟩) ∧ v7 = .int .i64 r3 ∧ HV wx g r1 r2 ⟨#[]⟩ ∧ Below w2.heap.size w2 wx)
      case first =>
        go_region_with (first | (go_at_call 15; refine (toValue_any _ _ _ _).mono ?_; rintro e w' ⟨rfl, hb'⟩; (first | (replace hb' := undrew hb') | skip); obtain ⟨hc', hf'⟩ := bcell hb'; have bw' := chain (w := w2) (by first | assumption | exact Below.refl _ _ | exact Below.drew (Below.refl _ _) | exact Below.drew (by assumption) | exact below_al (Below.refl _ _) _ | exact below_al (by assumption) _ | exact below_al (Below.drew (Below.refl _ _)) _ | exact below_al (Below.drew (by assumption)) _) hb'; have hw' := bw'.size; (first | (have hq := alloc_lt hb') | (have hq := Nat.lt_of_lt_of_le hq hb'.size) | skip); (try simp only [World.drew_heap] at hq); have hz' : w.heap.size + 1 < w'.heap.size := (by omega); have hy' : w.heap.size < w'.heap.size := (by omega)) | (go_at_call 14; refine (like_spec k0 n0 s0 k1 n1 s1 _ g0 g1).mono ?_; rw [HR.out]; simp only [likeV]; rintro e w' ⟨rfl, hb'⟩; obtain ⟨hc', hf'⟩ := bcell hb'; have bw' := chain (w := w2) (by first | assumption | exact Below.refl _ _ | exact Below.drew (Below.refl _ _) | exact Below.drew (by assumption) | exact below_al (Below.refl _ _) _ | exact below_al (by assumption) _ | exact below_al (Below.drew (Below.refl _ _)) _ | exact below_al (Below.drew (by assumption)) _) hb'; have hw' := bw'.size; (first | (have hq := alloc_lt hb') | (have hq := Nat.lt_of_lt_of_le hq hb'.size) | skip); (try simp only [World.drew_heap] at hq); have hz' : w.heap.size + 1 < w'.heap.size := (by omega); have hy' : w.heap.size < w'.heap.size := (by omega)))
        all_goals
          go_wp2_with fail
          go_meet
          exact ⟨_, rfl, rfl, ⟨by simp [go_sem, *], by simp [go_sem, *], by simp [go_sem, *], by simp [*]⟩, by (go_light; repeat (first | assumption | with_reducible exact Below.refl _ _ | (with_reducible refine Below.setCell ?_ ?_ _; rotate_left; (focus first | (simp; done) | (simp; omega) | omega)) | (with_reducible refine Below.alloc ?_ ?_ _; rotate_left; (focus first | (simp; done) | (simp; omega) | omega)) | with_reducible refine Below.drew ?_))⟩
      case rest =>
        obtain ⟨g, rfl, rfl, HG, bwc⟩ := hcut
        have HAc := HA.below bwc hy2
        have HBc := HB.below bwc hz2
        have BW : Below w.heap.size w wc := chain bw2 bwc
        have TC : Tabs wc := tabs_below hT BW
        have hyc : w.heap.size < wc.heap.size := HAc.lt
        have hzc : w.heap.size + 1 < wc.heap.size := HBc.lt
        have HG' : Hid (HV wc g r1 r2 ⟨#[]⟩) := HG
        clear HA HB HG hb1 hb2 hc1 hf1 hc2 hf2 bw0 bw1 bw2 bwc hz1 hy1 hz2 hy2 hT
        obtain ⟨A0, A1, A2, _⟩ := HAc
        obtain ⟨B0, B1, B2, _⟩ := HBc
        go_upto_region 9 with fail
        go_cut [8, 9] from 28 to 35 (fun v8 v9 wx => ∃ g', v8 = .pointer (some ⟨g', 0, none⟩) ∧ v9 = .int .i64 r3 ∧ HV wx g' r1 r2 ⟨#[]⟩ ∧ Below wc.heap.size wc wx)
        case first =>
          go_region_with (first | (go_at_call 15; refine (toValue_any _ _ _ _).mono ?_; rintro e w' ⟨rfl, hb'⟩; (first | (replace hb' := undrew hb') | skip); obtain ⟨hc', hf'⟩ := bcell hb'; have bw' := chain (w := wc) (by first | assumption | exact Below.refl _ _ | exact Below.drew (Below.refl _ _) | exact Below.drew (by assumption) | exact below_al (Below.refl _ _) _ | exact below_al (by assumption) _ | exact below_al (Below.drew (Below.refl _ _)) _ | exact below_al (Below.drew (by assumption)) _) hb'; have hw' := bw'.size; (first | (have hq := alloc_lt hb') | (have hq := Nat.lt_of_lt_of_le hq hb'.size) | skip); (try simp only [World.drew_heap] at hq); have hz' : w.heap.size + 1 < w'.heap.size := (by omega); have hy' : w.heap.size < w'.heap.size := (by omega)) | (go_at_call 16; refine (like_impl k0 n0 s0 k1 n1 s1 _ g0 g1 (tabs_below TC (by first | assumption | exact below_al (by assumption) _))).mono ?_; rw [HR.out]; simp only [likeV]; rintro e w' ⟨rfl, hb'⟩; obtain ⟨hc', hf'⟩ := bcell hb'; have bw' := chain (w := wc) (by first | assumption | exact Below.refl _ _ | exact Below.drew (Below.refl _ _) | exact Below.drew (by assumption) | exact below_al (Below.refl _ _) _ | exact below_al (by assumption) _ | exact below_al (Below.drew (Below.refl _ _)) _ | exact below_al (Below.drew (by assumption)) _) hb'; have hw' := bw'.size; (first | (have hq := alloc_lt hb') | (have hq := Nat.lt_of_lt_of_le hq hb'.size) | skip); (try simp only [World.drew_heap] at hq); have hz' : w.heap.size + 1 < w'.heap.size := (by omega); have hy' : w.heap.size < w'.heap.size := (by omega)))
          all_goals
            go_wp2_with fail
            go_meet
            exact ⟨_, rfl, rfl, ⟨by simp [go_sem, *], by simp [go_sem, *], by simp [go_sem, *], by simp [*]⟩, by (go_light; repeat (first | assumption | with_reducible exact Below.refl _ _ | (with_reducible refine Below.setCell ?_ ?_ _; rotate_left; (focus first | (simp; done) | (simp; omega) | omega)) | (with_reducible refine Below.alloc ?_ ?_ _; rotate_left; (focus first | (simp; done) | (simp; omega) | omega)) | with_reducible refine Below.drew ?_))⟩
        case rest =>
          obtain ⟨g', rfl, rfl, HG2, bwd⟩ := hcut
          have HG1 := HG'.out.below bwd HG'.out.lt
          obtain ⟨a0, a1, a2, _⟩ := HG1
          obtain ⟨b0, b1, b2, _⟩ := HG2
          have bwe := chain BW bwd
          go_wp2_with fail
          refine (eqValue_same r1 r2 _ _).mono ?_
          rintro e w6 ⟨rfl, hb6⟩
          have bw6 := chain bwe hb6
          go_wp2
          go_ret
          exact ⟨rfl, bw6⟩
    · have h1' : 1048576 - (s0.size : Int) < s1.size := by omega
      clear h1
      go_enter Tryd.func4, Tryd.ntmps4
      go_wp2_with fail
      refine (sz_yes k0 n0 1048576 s0 _ (by omega) (by omega) h0).mono ?_
      rintro e w1 ⟨rfl, hb1⟩
      obtain ⟨hc1, hf1⟩ := bcell hb1
      have bw1 : Below w.heap.size w w1 := chain bw0 hb1
      have hz1 : w.heap.size + 1 < w1.heap.size := by have := hb1.size; (try simp at this); omega
      have hy1 : w.heap.size < w1.heap.size := by omega
      go_wp2_with fail
      refine (sz_no k1 n1 (1048576 - s0.size) s1 _ (by omega) (by omega) hs1 h1').mono ?_
      rintro e w2 ⟨rfl, hb2⟩
      obtain ⟨hc2, hf2⟩ := bcell hb2
      have bw2 : Below w.heap.size w w2 := chain bw1 hb2
      have hz2 : w.heap.size + 1 < w2.heap.size := by have := hb2.size; (try simp at this); omega
      have hy2 : w.heap.size < w2.heap.size := by omega
      go_wp2
      go_ret
      exact ⟨rfl, bw2⟩
  · have h0' : (1048576 : Int) < s0.size := by omega
    clear h0
    go_enter Tryd.func4, Tryd.ntmps4
    go_wp2_with fail
    refine (sz_no k0 n0 1048576 s0 _ (by omega) (by omega) hs0 h0').mono ?_
    rintro e w1 ⟨rfl, hb1⟩
    obtain ⟨hc1, hf1⟩ := bcell hb1
    have bw1 : Below w.heap.size w w1 := chain bw0 hb1
    have hz1 : w.heap.size + 1 < w1.heap.size := by have := hb1.size; (try simp at this); omega
    have hy1 : w.heap.size < w1.heap.size := by omega
    go_wp2
    go_ret
    exact ⟨rfl, bw1⟩
end LikeL
end Go.Proofs.YtcgnkcehjcednaaDoor
