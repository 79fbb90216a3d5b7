import Derived.Test.YtdcdoeolaongkaaGreatDoorC0
import Derived.Test.YtdcdoeolaongkaaGreatDoorW4
import Derived.Test.YtdcdoeolaongkaaGreatDoorVM
import Derived.Deep.RegionHeld3
import Derived.Test.YtdcdoeolaongkaaGreatDoorVD
namespace Go.Proofs.YtdcdoeolaongkaaGreatDoor.Ca
open Go.MapKept Go.ChangeMaps
open Go.ChangeShapes Go.WideShapes Go.ChangeAt Go.RowKit Go.Shelf
open Go.Proofs.YtdcdoeolaongkaaGreatDoor.Rd
set_option linter.unusedVariables false
set_option linter.unusedSimpArgs false
set_option maxRecDepth 100000
set_option maxHeartbeats 16000000 in
theorem callS_least_a (k0 n0 : Int) (s0 : ByteArray) (k1 n1 : Int) (s1 : ByteArray) (ar : List TA) (a : Option Addr) (cap : Nat) (w : World) (h8 : ar.length ≤ 8) (hr : RVO w (.slice a ar.length cap) ar) (hsz : ∀ t ∈ ar, t.2.2.size ≤ 1048576) (hv : Hid (∀ t ∈ ar, vok t.1 t.2.1 t.2.2 = true)) (hck : Hid (¬ Mp.ckK 12 (kindsA ar) < 0)) (hnn : Hid (∀ t ∈ ar, (t.1 == 0) = false)) (har : Hid (ar = [(k0, n0, s0), (k1, n1, s1)])) (c : Int) (hc : ¬ 0 < c) (hCO : ∀ W, Calls Tryz.prog 78 #[.agg #[.int .i64 k0, .int .i64 n0, .string s0], .agg #[.int .i64 k1, .int .i64 n1, .string s1]] W fun e w' => e = .returned (.tuple #[.int .i64 c, .int .i64 0]) ∧ Below W.heap.size W w') :
    Calls Tryz.prog 33 #[.int .i64 12, .slice a ar.length cap] w fun e w' => e = .returned (tV k0 n0 s0 0) ∧ Below w.heap.size w w' := by
  obtain ⟨i0, hi, hz0, hz1, hz2⟩ := info_parts info3
  have hrr := hr
  obtain ⟨a', cap', hsl, hcells⟩ := hr
  simp only [Value.slice.injEq] at hsl
  obtain ⟨rfl, _, rfl⟩ := hsl
  have h8i : ¬ (8 : Int) < ar.length := by omega
  have bw0 := below_alloc w (.cells #[.int .i64 0, .int .i64 0, .string ⟨#[]⟩] 29)
  have HCE : Hid _ := hcells
  clear hrr
  go_enter Tryz.func33, Tryz.ntmps33
  go_wp2
  generalize hW0 : w.alloc (.cells #[.int .i64 0, .int .i64 0, .string ⟨#[]⟩] 29) = W0 at *
  have hsE : W0.heap.size = w.heap.size + 1 := by rw [← hW0]; simp
  have HSE : Hid _ := hsE
  have hs0 : w.heap.size < W0.heap.size := by omega
  clear hsE
  have r0 : W0.cell? ⟨w.heap.size, 0, none⟩ = some (.int .i64 0) ∧ W0.cell? ⟨w.heap.size, 1, none⟩ = some (.int .i64 0) ∧ W0.cell? ⟨w.heap.size, 2, none⟩ = some (.string ⟨#[]⟩) ∧ W0.frozen? ⟨w.heap.size, 0, none⟩ = false ∧ W0.frozen? ⟨w.heap.size, 1, none⟩ = false ∧ W0.frozen? ⟨w.heap.size, 2, none⟩ = false := by
    rw [← hW0]; simp [go_sem]
  have HR0 : Hid _ := r0
  have HB0 : Hid (Below w.heap.size w W0) := bw0
  clear r0 bw0 hW0
  go_loopw [6, 8, 33] (fun kv _ i wr => ∃ k : Nat, k ≤ ar.length ∧ i = .int .i64 k ∧ OwnK W0.heap.size kv k (kindsA (ar.take k)) wr ∧ Below W0.heap.size W0 wr) (fun _ _ i _ => ar.length - (intOf i).toNat)
  case atStart =>
    refine ⟨0, Nat.zero_le _, rfl, ?_, (Below.refl _ _).alloc (Nat.le_refl _) _⟩
    rw [← HSE.out]
    exact World.ownsRow_made W0 #[] 0 (Nat.le_refl _) (by unfold maxLen; omega) (by simp)
  case round =>
    obtain ⟨k, hk, rfl, hoK, hbel⟩ := hrel
    have ho : wr.ownsRow W0.heap.size 3 1 _ k ((kindsA (ar.take k)).map (Value.int .i64)) := hoK
    clear hoK
    have hbs := hbel.size
    by_cases hlt : k < ar.length
    · have hlti : (k : Int) < ar.length := by omega
      obtain ⟨g, o, rfl, hgg, hgc⟩ := hcells (by omega)
      have bww : Below w.heap.size w wr := HB0.out.trans (hbel.mono (by omega))
      obtain ⟨c0, c1, c2⟩ := hgc k hlt
      have d0 := (bww.cell (p := ⟨g, o + k * 3, none⟩) hgg).trans c0
      have d1 := (bww.cell (p := ⟨g, o + k * 3 + 1, none⟩) hgg).trans c1
      have d2 := (bww.cell (p := ⟨g, o + k * 3 + 2, none⟩) hgg).trans c2
      have hsx := hsz ar[k] (List.getElem_mem hlt)
      have hvx := hv.out ar[k] (List.getElem_mem hlt)
      have HTK : Hid (ar.take (k + 1) = ar.take k ++ [ar[k]]) := take_snoc hlt
      clear c0 c1 c2 hgc hcells hsz HCE
      generalize ar[k] = t at *
      obtain ⟨tk, tn, ts⟩ := t
      simp only at d0 d1 d2 hsx
      have hVX := fun W => vok_spec tk tn ts W hsx
      rw [hvx] at hVX
      clear hvx
      go_wp2_with (first | (go_at_call 14; refine (hVX _).mono ?_; rintro e w1 ⟨rfl, hb1⟩; obtain ⟨hc1, hf1⟩ := bcell hb1; have hz1w : wr.heap.size < w1.heap.size := (by have := hb1.size; simp at this; omega); have bw1 : Below W0.heap.size W0 w1 := (hbel.alloc hbs _).trans (hb1.mono (by simp; omega)); have ho1 := own_below (ho.alloc _) hb1; have e0 : w1.cell? ⟨wr.heap.size, 0, none⟩ = some (.int .i64 tk) := (hc1 wr.heap.size 0 (by simp)).trans (by simp [go_sem])) | (at_builtin; refine wpList_append_own _ rfl (.tmp 41) (.tmp 44) 22 rfl W0.heap.size 3 i0 (.int .i64 0) 1 8 Tryz.underlying22 hi hz0 hz1 hz2 rfl (by decide) _ k ((kindsA (ar.take k)).map (Value.int .i64)) rfl (ho1.alloc _) ⟨w1.heap.size, 0, none⟩ 1 1 [.int .i64 tk] rfl rfl (cell_one_new _ _ _) (by intro u hu; simp at hu; subst hu; rfl) (by unfold maxLen; omega) (by omega) (by have := bw1.size; simp; omega) ?_; intro v' w2 hown' hgrow _; have bw2 : Below W0.heap.size W0 w2 := (bw1.alloc bw1.size _).grown hgrow (by have := bw1.size; simp; omega) (fun j hj => (ho1.lt j hj).1); have HOW : Hid (OwnK W0.heap.size v' (k + 1) (kindsA (ar.take (k + 1))) w2) := OwnK.of HTK.out hown'; clear hown' hgrow))
      go_roundw
      case rel => exact ⟨k + 1, by omega, by go_num, HOW.out, bw2⟩
      case measure => simp [intOf]; omega
    · have hkn : k = ar.length := by omega
      subst hkn
      have hlti : ¬ (ar.length : Int) < ar.length := by omega
      rw [List.take_length] at ho
      have hkl : (kindsA ar).length = ar.length := by simp [kindsA]
      rw [← hkl] at ho
      obtain ⟨ka, kc, rfl, hrio⟩ := own_rio ho
      clear ho
      have hck' := hck.out
      generalize hks : kindsA ar = ks at *
      have HKL : Hid (ks.length = ar.length) := hkl
      have bww : Below w.heap.size w wr := HB0.out.trans (hbel.mono (by omega))
      obtain ⟨q0, q1, q2, f0, f1, f2⟩ := HR0.out
      have hwr : w.heap.size < wr.heap.size := by omega
      have hn20 : ks.length ≤ 1048576 := by rw [hkl]; omega
      clear hkl hks HB0
      go_wp2_with (go_at_call 9; fail)
      have hKS := fun W h => Mp.callKind_spec 12 ks ka kc W hn20 h
      generalize Mp.ckK 12 ks = ck at *
      refine (hKS _ hrio).mono ?_
      rintro e w1 ⟨rfl, hb1⟩
      have b1 : Below W0.heap.size W0 w1 := hbel.trans (hb1.mono hbs)
      have hs1 := b1.size
      have bw1 : Below w.heap.size w w1 := bww.trans (hb1.mono bww.size)
      clear hKS hrio hbel hb1 bww
      have q0 := (b1.cell (p := ⟨w.heap.size, 0, none⟩) hs0).trans q0
      have q1 := (b1.cell (p := ⟨w.heap.size, 1, none⟩) hs0).trans q1
      have q2 := (b1.cell (p := ⟨w.heap.size, 2, none⟩) hs0).trans q2
      have f0 := (b1.frozen (p := ⟨w.heap.size, 0, none⟩) hs0).trans f0
      have f1 := (b1.frozen (p := ⟨w.heap.size, 1, none⟩) hs0).trans f1
      have f2 := (b1.frozen (p := ⟨w.heap.size, 2, none⟩) hs0).trans f2
      have hy1 : w.heap.size < w1.heap.size := by omega
      go_wp2
      go_loopw [13, 74] (fun _ i wr => ∃ k : Nat, k ≤ ar.length ∧ i = .int .i64 k ∧ Below w1.heap.size w1 wr) (fun _ i _ => ar.length - (intOf i).toNat)
      case atStart => exact ⟨0, Nat.zero_le _, rfl, Below.refl _ _⟩
      case round =>
        obtain ⟨k, hk2, rfl, hb2⟩ := hrel
        have hs2 := hb2.size
        have bw2 : Below w.heap.size w wr := bw1.trans (hb2.mono bw1.size)
        by_cases hlt : k < ar.length
        · have hlti : (k : Int) < ar.length := by omega
          obtain ⟨g, o, rfl, hgg, hgc⟩ := HCE.out (by omega)
          obtain ⟨c0, c1, c2⟩ := hgc k hlt
          have d0 := (bw2.cell (p := ⟨g, o + k * 3, none⟩) hgg).trans c0
          have d1 := (bw2.cell (p := ⟨g, o + k * 3 + 1, none⟩) hgg).trans c1
          have d2 := (bw2.cell (p := ⟨g, o + k * 3 + 2, none⟩) hgg).trans c2
          have hnz := hnn.out ar[k] (List.getElem_mem hlt)
          clear c0 c1 c2 hgc hcells HCE hsz
          generalize ar[k] = t at *
          obtain ⟨tk, tn, ts⟩ := t
          simp only at d0 d1 d2 hnz
          go_wp2
          go_roundw
          case rel => exact ⟨k + 1, by omega, by go_num, (by (go_light; repeat (first | with_reducible assumption | with_reducible exact Below.refl _ _ | (with_reducible refine Below.setCell ?_ ?_ _; rotate_left; (focus first | (simp; done) | (simp; omega) | omega)) | (with_reducible refine Below.alloc ?_ ?_ _; rotate_left; (focus first | (simp; done) | (simp; omega) | omega)) | with_reducible refine Below.drew ?_)))⟩
          case measure => simp [intOf]; omega
        · have hkn : k = ar.length := by omega
          subst hkn
          have hlti : ¬ (ar.length : Int) < ar.length := by omega
          have p0 := (hb2.cell (p := ⟨w.heap.size, 0, none⟩) hy1).trans q0
          have p1 := (hb2.cell (p := ⟨w.heap.size, 1, none⟩) hy1).trans q1
          have p2 := (hb2.cell (p := ⟨w.heap.size, 2, none⟩) hy1).trans q2
          have j0 := (hb2.frozen (p := ⟨w.heap.size, 0, none⟩) hy1).trans f0
          have j1 := (hb2.frozen (p := ⟨w.heap.size, 1, none⟩) hy1).trans f1
          have j2 := (hb2.frozen (p := ⟨w.heap.size, 2, none⟩) hy1).trans f2
          have hy2 : w.heap.size < wr.heap.size := by omega
          have hlen : ar.length = 2 := by rw [har.out]; rfl
          have hl0 : (0 : Int) < ar.length := by omega
          have hl1 : 2 < 2 ∨ (1 : Int) < ar.length := by omega
          have hl2 : 2 < 3 ∨ (2 : Int) < ar.length := by omega
          obtain ⟨g, o, rfl, hgg, hgc⟩ := HCE.out (by omega)
          have G0 : ar[0]'(by omega) = (k0, n0, s0) := by simp only [har.out]; rfl
          obtain ⟨c00, c01, c02⟩ := hgc 0 (by omega)
          rw [G0] at c00 c01 c02
          have x00 := (bw2.cell (p := ⟨g, o + 0 * 3, none⟩) hgg).trans c00
          have x01 := (bw2.cell (p := ⟨g, o + 0 * 3 + 1, none⟩) hgg).trans c01
          have x02 := (bw2.cell (p := ⟨g, o + 0 * 3 + 2, none⟩) hgg).trans c02
          simp only [Nat.zero_mul, Nat.add_zero, Nat.one_mul, (by decide : 2 * 3 = 6)] at x00 x01 x02
          clear c00 c01 c02 G0
          have G1 : ar[1]'(by omega) = (k1, n1, s1) := by simp only [har.out]; rfl
          obtain ⟨c10, c11, c12⟩ := hgc 1 (by omega)
          rw [G1] at c10 c11 c12
          have x10 := (bw2.cell (p := ⟨g, o + 1 * 3, none⟩) hgg).trans c10
          have x11 := (bw2.cell (p := ⟨g, o + 1 * 3 + 1, none⟩) hgg).trans c11
          have x12 := (bw2.cell (p := ⟨g, o + 1 * 3 + 2, none⟩) hgg).trans c12
          simp only [Nat.zero_mul, Nat.add_zero, Nat.one_mul, (by decide : 2 * 3 = 6)] at x10 x11 x12
          clear c10 c11 c12 G1
          clear hlen
          simp only [(by decide : (1 < 2) = True), (by decide : (2 < 2) = False), (by decide : (3 < 2) = False), (by decide : (1 < 3) = True), (by decide : (2 < 3) = True), (by decide : (3 < 3) = False), true_or, false_or] at hl1 hl2
          have hgw : g < wr.heap.size := by have := bw2.size; omega
          clear hgc hcells HCE hsz b1 hb2 q0 q1 q2 f0 f1 f2 HR0
          have hc0 : decide (0 < c) = false := by simpa using hc
          have HGK : Hid _ := hCO
          go_upto_region 56 with fail
          go_cut [19, 20] from 190 to 197 (fun v19 v20 wx => v19 = .int .i64 c ∧ (∃ c2, v20 = .int .i64 c2) ∧ Below w.heap.size w wx ∧ Below wr.heap.size wr wx ∧ wx.cell? ⟨wr.heap.size, 0, none⟩ = some (.int .i64 k0) ∧ wx.cell? ⟨wr.heap.size, 1, none⟩ = some (.int .i64 n0) ∧ wx.cell? ⟨wr.heap.size, 2, none⟩ = some (.string s0) ∧ wr.heap.size < wx.heap.size)
          case first =>
            go_region_held3 (fun W => W.cell? ⟨wr.heap.size, 0, none⟩ = some (.int .i64 k0) ∧ W.cell? ⟨wr.heap.size, 1, none⟩ = some (.int .i64 n0) ∧ W.cell? ⟨wr.heap.size, 2, none⟩ = some (.string s0) ∧ W.cell? ⟨g, o + 3, none⟩ = some (.int .i64 k1) ∧ W.cell? ⟨g, o + 3 + 1, none⟩ = some (.int .i64 n1) ∧ W.cell? ⟨g, o + 3 + 2, none⟩ = some (.string s1)) (go_keep) (first | (go_at_call 78; refine (HGK.out _).mono ?_; rintro e w3 ⟨rfl, hb3⟩; obtain ⟨hc3, hf3⟩ := bcell hb3; have hz3 := hb3.size; simp at hz3; have y0 : w3.cell? ⟨wr.heap.size, 0, none⟩ = some (.int .i64 k0) := (hc3 _ _ (by simp)).trans (by go_keep); have y1 : w3.cell? ⟨wr.heap.size, 1, none⟩ = some (.int .i64 n0) := (hc3 _ _ (by simp)).trans (by go_keep); have y2 : w3.cell? ⟨wr.heap.size, 2, none⟩ = some (.string s0) := (hc3 _ _ (by simp)).trans (by go_keep); have y3 : w3.cell? ⟨g, o + 3, none⟩ = some (.int .i64 k1) := (hc3 _ _ (by simp; omega)).trans (by go_keep); have y4 : w3.cell? ⟨g, o + 3 + 1, none⟩ = some (.int .i64 n1) := (hc3 _ _ (by simp; omega)).trans (by go_keep); have y5 : w3.cell? ⟨g, o + 3 + 2, none⟩ = some (.string s1) := (hc3 _ _ (by simp; omega)).trans (by go_keep); have br3 : Below wr.heap.size wr w3 := Below.trans (by (go_light; repeat (first | with_reducible assumption | with_reducible exact Below.refl _ _ | (with_reducible refine Below.setCell ?_ ?_ _; rotate_left; (focus first | (simp; done) | (simp; omega) | omega)) | (with_reducible refine Below.alloc ?_ ?_ _; rotate_left; (focus first | (simp; done) | (simp; omega) | omega)) | with_reducible refine Below.drew ?_))) (hb3.mono (by simp)); have bw3 : Below w.heap.size w w3 := bw2.trans (br3.mono bw2.size)))
            all_goals
              go_wp2_with fail
              go_meet
              exact ⟨rfl, ⟨_, rfl⟩, (by (go_light; repeat (first | with_reducible assumption | with_reducible exact Below.refl _ _ | (with_reducible refine Below.setCell ?_ ?_ _; rotate_left; (focus first | (simp; done) | (simp; omega) | omega)) | (with_reducible refine Below.alloc ?_ ?_ _; rotate_left; (focus first | (simp; done) | (simp; omega) | omega)) | with_reducible refine Below.drew ?_))), (by (go_light; repeat (first | with_reducible assumption | with_reducible exact Below.refl _ _ | (with_reducible refine Below.setCell ?_ ?_ _; rotate_left; (focus first | (simp; done) | (simp; omega) | omega)) | (with_reducible refine Below.alloc ?_ ?_ _; rotate_left; (focus first | (simp; done) | (simp; omega) | omega)) | with_reducible refine Below.drew ?_))), by simp [go_sem, *], by simp [go_sem, *], by simp [go_sem, *], (by first | (simp; omega) | omega)⟩
          case rest =>
            obtain ⟨rfl, ⟨c2, rfl⟩, bwc, brc, y0, y1, y2, hzc⟩ := hcut
            have z0 := (brc.cell (p := ⟨w.heap.size, 0, none⟩) hy2).trans p0
            have z1 := (brc.cell (p := ⟨w.heap.size, 1, none⟩) hy2).trans p1
            have z2 := (brc.cell (p := ⟨w.heap.size, 2, none⟩) hy2).trans p2
            have i0' := (brc.frozen (p := ⟨w.heap.size, 0, none⟩) hy2).trans j0
            have i1' := (brc.frozen (p := ⟨w.heap.size, 1, none⟩) hy2).trans j1
            have i2' := (brc.frozen (p := ⟨w.heap.size, 2, none⟩) hy2).trans j2
            have x3 := (brc.cell (p := ⟨g, o + 3, none⟩) hgw).trans x10
            have x4 := (brc.cell (p := ⟨g, o + 3 + 1, none⟩) hgw).trans x11
            have x5 := (brc.cell (p := ⟨g, o + 3 + 2, none⟩) hgw).trans x12
            have hy3 : w.heap.size < wc.heap.size := by omega
            clear brc p0 p1 p2 j0 j1 j2
            go_wp2
            refine bodyPost_ret (v := tV k0 n0 s0 0) (by simp [results, Tryz.results33, go_sem, tV, z0, z1, z2, i0', i1', i2', hy3, x3, x4, x5, y0, y1, y2]) rfl ⟨rfl, ?_⟩
            exact (by (go_light; repeat (first | with_reducible assumption | with_reducible exact Below.refl _ _ | (with_reducible refine Below.setCell ?_ ?_ _; rotate_left; (focus first | (simp; done) | (simp; omega) | omega)) | (with_reducible refine Below.alloc ?_ ?_ _; rotate_left; (focus first | (simp; done) | (simp; omega) | omega)) | with_reducible refine Below.drew ?_)))

set_option maxHeartbeats 16000000 in
theorem callS_least_b (k0 n0 : Int) (s0 : ByteArray) (k1 n1 : Int) (s1 : ByteArray) (ar : List TA) (a : Option Addr) (cap : Nat) (w : World) (h8 : ar.length ≤ 8) (hr : RVO w (.slice a ar.length cap) ar) (hsz : ∀ t ∈ ar, t.2.2.size ≤ 1048576) (hv : Hid (∀ t ∈ ar, vok t.1 t.2.1 t.2.2 = true)) (hck : Hid (¬ Mp.ckK 12 (kindsA ar) < 0)) (hnn : Hid (∀ t ∈ ar, (t.1 == 0) = false)) (har : Hid (ar = [(k0, n0, s0), (k1, n1, s1)])) (c : Int) (hc : 0 < c) (hCO : ∀ W, Calls Tryz.prog 78 #[.agg #[.int .i64 k0, .int .i64 n0, .string s0], .agg #[.int .i64 k1, .int .i64 n1, .string s1]] W fun e w' => e = .returned (.tuple #[.int .i64 c, .int .i64 0]) ∧ Below W.heap.size W w') :
    Calls Tryz.prog 33 #[.int .i64 12, .slice a ar.length cap] w fun e w' => e = .returned (tV k1 n1 s1 0) ∧ Below w.heap.size w w' := by
  obtain ⟨i0, hi, hz0, hz1, hz2⟩ := info_parts info3
  have hrr := hr
  obtain ⟨a', cap', hsl, hcells⟩ := hr
  simp only [Value.slice.injEq] at hsl
  obtain ⟨rfl, _, rfl⟩ := hsl
  have h8i : ¬ (8 : Int) < ar.length := by omega
  have bw0 := below_alloc w (.cells #[.int .i64 0, .int .i64 0, .string ⟨#[]⟩] 29)
  have HCE : Hid _ := hcells
  clear hrr
  go_enter Tryz.func33, Tryz.ntmps33
  go_wp2
  generalize hW0 : w.alloc (.cells #[.int .i64 0, .int .i64 0, .string ⟨#[]⟩] 29) = W0 at *
  have hsE : W0.heap.size = w.heap.size + 1 := by rw [← hW0]; simp
  have HSE : Hid _ := hsE
  have hs0 : w.heap.size < W0.heap.size := by omega
  clear hsE
  have r0 : W0.cell? ⟨w.heap.size, 0, none⟩ = some (.int .i64 0) ∧ W0.cell? ⟨w.heap.size, 1, none⟩ = some (.int .i64 0) ∧ W0.cell? ⟨w.heap.size, 2, none⟩ = some (.string ⟨#[]⟩) ∧ W0.frozen? ⟨w.heap.size, 0, none⟩ = false ∧ W0.frozen? ⟨w.heap.size, 1, none⟩ = false ∧ W0.frozen? ⟨w.heap.size, 2, none⟩ = false := by
    rw [← hW0]; simp [go_sem]
  have HR0 : Hid _ := r0
  have HB0 : Hid (Below w.heap.size w W0) := bw0
  clear r0 bw0 hW0
  go_loopw [6, 8, 33] (fun kv _ i wr => ∃ k : Nat, k ≤ ar.length ∧ i = .int .i64 k ∧ OwnK W0.heap.size kv k (kindsA (ar.take k)) wr ∧ Below W0.heap.size W0 wr) (fun _ _ i _ => ar.length - (intOf i).toNat)
  case atStart =>
    refine ⟨0, Nat.zero_le _, rfl, ?_, (Below.refl _ _).alloc (Nat.le_refl _) _⟩
    rw [← HSE.out]
    exact World.ownsRow_made W0 #[] 0 (Nat.le_refl _) (by unfold maxLen; omega) (by simp)
  case round =>
    obtain ⟨k, hk, rfl, hoK, hbel⟩ := hrel
    have ho : wr.ownsRow W0.heap.size 3 1 _ k ((kindsA (ar.take k)).map (Value.int .i64)) := hoK
    clear hoK
    have hbs := hbel.size
    by_cases hlt : k < ar.length
    · have hlti : (k : Int) < ar.length := by omega
      obtain ⟨g, o, rfl, hgg, hgc⟩ := hcells (by omega)
      have bww : Below w.heap.size w wr := HB0.out.trans (hbel.mono (by omega))
      obtain ⟨c0, c1, c2⟩ := hgc k hlt
      have d0 := (bww.cell (p := ⟨g, o + k * 3, none⟩) hgg).trans c0
      have d1 := (bww.cell (p := ⟨g, o + k * 3 + 1, none⟩) hgg).trans c1
      have d2 := (bww.cell (p := ⟨g, o + k * 3 + 2, none⟩) hgg).trans c2
      have hsx := hsz ar[k] (List.getElem_mem hlt)
      have hvx := hv.out ar[k] (List.getElem_mem hlt)
      have HTK : Hid (ar.take (k + 1) = ar.take k ++ [ar[k]]) := take_snoc hlt
      clear c0 c1 c2 hgc hcells hsz HCE
      generalize ar[k] = t at *
      obtain ⟨tk, tn, ts⟩ := t
      simp only at d0 d1 d2 hsx
      have hVX := fun W => vok_spec tk tn ts W hsx
      rw [hvx] at hVX
      clear hvx
      go_wp2_with (first | (go_at_call 14; refine (hVX _).mono ?_; rintro e w1 ⟨rfl, hb1⟩; obtain ⟨hc1, hf1⟩ := bcell hb1; have hz1w : wr.heap.size < w1.heap.size := (by have := hb1.size; simp at this; omega); have bw1 : Below W0.heap.size W0 w1 := (hbel.alloc hbs _).trans (hb1.mono (by simp; omega)); have ho1 := own_below (ho.alloc _) hb1; have e0 : w1.cell? ⟨wr.heap.size, 0, none⟩ = some (.int .i64 tk) := (hc1 wr.heap.size 0 (by simp)).trans (by simp [go_sem])) | (at_builtin; refine wpList_append_own _ rfl (.tmp 41) (.tmp 44) 22 rfl W0.heap.size 3 i0 (.int .i64 0) 1 8 Tryz.underlying22 hi hz0 hz1 hz2 rfl (by decide) _ k ((kindsA (ar.take k)).map (Value.int .i64)) rfl (ho1.alloc _) ⟨w1.heap.size, 0, none⟩ 1 1 [.int .i64 tk] rfl rfl (cell_one_new _ _ _) (by intro u hu; simp at hu; subst hu; rfl) (by unfold maxLen; omega) (by omega) (by have := bw1.size; simp; omega) ?_; intro v' w2 hown' hgrow _; have bw2 : Below W0.heap.size W0 w2 := (bw1.alloc bw1.size _).grown hgrow (by have := bw1.size; simp; omega) (fun j hj => (ho1.lt j hj).1); have HOW : Hid (OwnK W0.heap.size v' (k + 1) (kindsA (ar.take (k + 1))) w2) := OwnK.of HTK.out hown'; clear hown' hgrow))
      go_roundw
      case rel => exact ⟨k + 1, by omega, by go_num, HOW.out, bw2⟩
      case measure => simp [intOf]; omega
    · have hkn : k = ar.length := by omega
      subst hkn
      have hlti : ¬ (ar.length : Int) < ar.length := by omega
      rw [List.take_length] at ho
      have hkl : (kindsA ar).length = ar.length := by simp [kindsA]
      rw [← hkl] at ho
      obtain ⟨ka, kc, rfl, hrio⟩ := own_rio ho
      clear ho
      have hck' := hck.out
      generalize hks : kindsA ar = ks at *
      have HKL : Hid (ks.length = ar.length) := hkl
      have bww : Below w.heap.size w wr := HB0.out.trans (hbel.mono (by omega))
      obtain ⟨q0, q1, q2, f0, f1, f2⟩ := HR0.out
      have hwr : w.heap.size < wr.heap.size := by omega
      have hn20 : ks.length ≤ 1048576 := by rw [hkl]; omega
      clear hkl hks HB0
      go_wp2_with (go_at_call 9; fail)
      have hKS := fun W h => Mp.callKind_spec 12 ks ka kc W hn20 h
      generalize Mp.ckK 12 ks = ck at *
      refine (hKS _ hrio).mono ?_
      rintro e w1 ⟨rfl, hb1⟩
      have b1 : Below W0.heap.size W0 w1 := hbel.trans (hb1.mono hbs)
      have hs1 := b1.size
      have bw1 : Below w.heap.size w w1 := bww.trans (hb1.mono bww.size)
      clear hKS hrio hbel hb1 bww
      have q0 := (b1.cell (p := ⟨w.heap.size, 0, none⟩) hs0).trans q0
      have q1 := (b1.cell (p := ⟨w.heap.size, 1, none⟩) hs0).trans q1
      have q2 := (b1.cell (p := ⟨w.heap.size, 2, none⟩) hs0).trans q2
      have f0 := (b1.frozen (p := ⟨w.heap.size, 0, none⟩) hs0).trans f0
      have f1 := (b1.frozen (p := ⟨w.heap.size, 1, none⟩) hs0).trans f1
      have f2 := (b1.frozen (p := ⟨w.heap.size, 2, none⟩) hs0).trans f2
      have hy1 : w.heap.size < w1.heap.size := by omega
      go_wp2
      go_loopw [13, 74] (fun _ i wr => ∃ k : Nat, k ≤ ar.length ∧ i = .int .i64 k ∧ Below w1.heap.size w1 wr) (fun _ i _ => ar.length - (intOf i).toNat)
      case atStart => exact ⟨0, Nat.zero_le _, rfl, Below.refl _ _⟩
      case round =>
        obtain ⟨k, hk2, rfl, hb2⟩ := hrel
        have hs2 := hb2.size
        have bw2 : Below w.heap.size w wr := bw1.trans (hb2.mono bw1.size)
        by_cases hlt : k < ar.length
        · have hlti : (k : Int) < ar.length := by omega
          obtain ⟨g, o, rfl, hgg, hgc⟩ := HCE.out (by omega)
          obtain ⟨c0, c1, c2⟩ := hgc k hlt
          have d0 := (bw2.cell (p := ⟨g, o + k * 3, none⟩) hgg).trans c0
          have d1 := (bw2.cell (p := ⟨g, o + k * 3 + 1, none⟩) hgg).trans c1
          have d2 := (bw2.cell (p := ⟨g, o + k * 3 + 2, none⟩) hgg).trans c2
          have hnz := hnn.out ar[k] (List.getElem_mem hlt)
          clear c0 c1 c2 hgc hcells HCE hsz
          generalize ar[k] = t at *
          obtain ⟨tk, tn, ts⟩ := t
          simp only at d0 d1 d2 hnz
          go_wp2
          go_roundw
          case rel => exact ⟨k + 1, by omega, by go_num, (by (go_light; repeat (first | with_reducible assumption | with_reducible exact Below.refl _ _ | (with_reducible refine Below.setCell ?_ ?_ _; rotate_left; (focus first | (simp; done) | (simp; omega) | omega)) | (with_reducible refine Below.alloc ?_ ?_ _; rotate_left; (focus first | (simp; done) | (simp; omega) | omega)) | with_reducible refine Below.drew ?_)))⟩
          case measure => simp [intOf]; omega
        · have hkn : k = ar.length := by omega
          subst hkn
          have hlti : ¬ (ar.length : Int) < ar.length := by omega
          have p0 := (hb2.cell (p := ⟨w.heap.size, 0, none⟩) hy1).trans q0
          have p1 := (hb2.cell (p := ⟨w.heap.size, 1, none⟩) hy1).trans q1
          have p2 := (hb2.cell (p := ⟨w.heap.size, 2, none⟩) hy1).trans q2
          have j0 := (hb2.frozen (p := ⟨w.heap.size, 0, none⟩) hy1).trans f0
          have j1 := (hb2.frozen (p := ⟨w.heap.size, 1, none⟩) hy1).trans f1
          have j2 := (hb2.frozen (p := ⟨w.heap.size, 2, none⟩) hy1).trans f2
          have hy2 : w.heap.size < wr.heap.size := by omega
          have hlen : ar.length = 2 := by rw [har.out]; rfl
          have hl0 : (0 : Int) < ar.length := by omega
          have hl1 : 2 < 2 ∨ (1 : Int) < ar.length := by omega
          have hl2 : 2 < 3 ∨ (2 : Int) < ar.length := by omega
          obtain ⟨g, o, rfl, hgg, hgc⟩ := HCE.out (by omega)
          have G0 : ar[0]'(by omega) = (k0, n0, s0) := by simp only [har.out]; rfl
          obtain ⟨c00, c01, c02⟩ := hgc 0 (by omega)
          rw [G0] at c00 c01 c02
          have x00 := (bw2.cell (p := ⟨g, o + 0 * 3, none⟩) hgg).trans c00
          have x01 := (bw2.cell (p := ⟨g, o + 0 * 3 + 1, none⟩) hgg).trans c01
          have x02 := (bw2.cell (p := ⟨g, o + 0 * 3 + 2, none⟩) hgg).trans c02
          simp only [Nat.zero_mul, Nat.add_zero, Nat.one_mul, (by decide : 2 * 3 = 6)] at x00 x01 x02
          clear c00 c01 c02 G0
          have G1 : ar[1]'(by omega) = (k1, n1, s1) := by simp only [har.out]; rfl
          obtain ⟨c10, c11, c12⟩ := hgc 1 (by omega)
          rw [G1] at c10 c11 c12
          have x10 := (bw2.cell (p := ⟨g, o + 1 * 3, none⟩) hgg).trans c10
          have x11 := (bw2.cell (p := ⟨g, o + 1 * 3 + 1, none⟩) hgg).trans c11
          have x12 := (bw2.cell (p := ⟨g, o + 1 * 3 + 2, none⟩) hgg).trans c12
          simp only [Nat.zero_mul, Nat.add_zero, Nat.one_mul, (by decide : 2 * 3 = 6)] at x10 x11 x12
          clear c10 c11 c12 G1
          clear hlen
          simp only [(by decide : (1 < 2) = True), (by decide : (2 < 2) = False), (by decide : (3 < 2) = False), (by decide : (1 < 3) = True), (by decide : (2 < 3) = True), (by decide : (3 < 3) = False), true_or, false_or] at hl1 hl2
          have hgw : g < wr.heap.size := by have := bw2.size; omega
          clear hgc hcells HCE hsz b1 hb2 q0 q1 q2 f0 f1 f2 HR0
          have hc0 : decide (0 < c) = true := by simpa using hc
          have hc1 : (c != 0) = true := by simp; omega
          have HGK : Hid _ := hCO
          go_upto_region 56 with fail
          go_cut [19, 20] from 190 to 197 (fun v19 v20 wx => v19 = .int .i64 c ∧ (∃ c2, v20 = .int .i64 c2) ∧ Below w.heap.size w wx ∧ Below wr.heap.size wr wx ∧ wx.cell? ⟨wr.heap.size, 0, none⟩ = some (.int .i64 k0) ∧ wx.cell? ⟨wr.heap.size, 1, none⟩ = some (.int .i64 n0) ∧ wx.cell? ⟨wr.heap.size, 2, none⟩ = some (.string s0) ∧ wr.heap.size < wx.heap.size)
          case first =>
            go_region_held3 (fun W => W.cell? ⟨wr.heap.size, 0, none⟩ = some (.int .i64 k0) ∧ W.cell? ⟨wr.heap.size, 1, none⟩ = some (.int .i64 n0) ∧ W.cell? ⟨wr.heap.size, 2, none⟩ = some (.string s0) ∧ W.cell? ⟨g, o + 3, none⟩ = some (.int .i64 k1) ∧ W.cell? ⟨g, o + 3 + 1, none⟩ = some (.int .i64 n1) ∧ W.cell? ⟨g, o + 3 + 2, none⟩ = some (.string s1)) (go_keep) (first | (go_at_call 78; refine (HGK.out _).mono ?_; rintro e w3 ⟨rfl, hb3⟩; obtain ⟨hc3, hf3⟩ := bcell hb3; have hz3 := hb3.size; simp at hz3; have y0 : w3.cell? ⟨wr.heap.size, 0, none⟩ = some (.int .i64 k0) := (hc3 _ _ (by simp)).trans (by go_keep); have y1 : w3.cell? ⟨wr.heap.size, 1, none⟩ = some (.int .i64 n0) := (hc3 _ _ (by simp)).trans (by go_keep); have y2 : w3.cell? ⟨wr.heap.size, 2, none⟩ = some (.string s0) := (hc3 _ _ (by simp)).trans (by go_keep); have y3 : w3.cell? ⟨g, o + 3, none⟩ = some (.int .i64 k1) := (hc3 _ _ (by simp; omega)).trans (by go_keep); have y4 : w3.cell? ⟨g, o + 3 + 1, none⟩ = some (.int .i64 n1) := (hc3 _ _ (by simp; omega)).trans (by go_keep); have y5 : w3.cell? ⟨g, o + 3 + 2, none⟩ = some (.string s1) := (hc3 _ _ (by simp; omega)).trans (by go_keep); have br3 : Below wr.heap.size wr w3 := Below.trans (by (go_light; repeat (first | with_reducible assumption | with_reducible exact Below.refl _ _ | (with_reducible refine Below.setCell ?_ ?_ _; rotate_left; (focus first | (simp; done) | (simp; omega) | omega)) | (with_reducible refine Below.alloc ?_ ?_ _; rotate_left; (focus first | (simp; done) | (simp; omega) | omega)) | with_reducible refine Below.drew ?_))) (hb3.mono (by simp)); have bw3 : Below w.heap.size w w3 := bw2.trans (br3.mono bw2.size)))
            all_goals
              go_wp2_with fail
              go_meet
              exact ⟨rfl, ⟨_, rfl⟩, (by (go_light; repeat (first | with_reducible assumption | with_reducible exact Below.refl _ _ | (with_reducible refine Below.setCell ?_ ?_ _; rotate_left; (focus first | (simp; done) | (simp; omega) | omega)) | (with_reducible refine Below.alloc ?_ ?_ _; rotate_left; (focus first | (simp; done) | (simp; omega) | omega)) | with_reducible refine Below.drew ?_))), (by (go_light; repeat (first | with_reducible assumption | with_reducible exact Below.refl _ _ | (with_reducible refine Below.setCell ?_ ?_ _; rotate_left; (focus first | (simp; done) | (simp; omega) | omega)) | (with_reducible refine Below.alloc ?_ ?_ _; rotate_left; (focus first | (simp; done) | (simp; omega) | omega)) | with_reducible refine Below.drew ?_))), by simp [go_sem, *], by simp [go_sem, *], by simp [go_sem, *], (by first | (simp; omega) | omega)⟩
          case rest =>
            obtain ⟨rfl, ⟨c2, rfl⟩, bwc, brc, y0, y1, y2, hzc⟩ := hcut
            have z0 := (brc.cell (p := ⟨w.heap.size, 0, none⟩) hy2).trans p0
            have z1 := (brc.cell (p := ⟨w.heap.size, 1, none⟩) hy2).trans p1
            have z2 := (brc.cell (p := ⟨w.heap.size, 2, none⟩) hy2).trans p2
            have i0' := (brc.frozen (p := ⟨w.heap.size, 0, none⟩) hy2).trans j0
            have i1' := (brc.frozen (p := ⟨w.heap.size, 1, none⟩) hy2).trans j1
            have i2' := (brc.frozen (p := ⟨w.heap.size, 2, none⟩) hy2).trans j2
            have x3 := (brc.cell (p := ⟨g, o + 3, none⟩) hgw).trans x10
            have x4 := (brc.cell (p := ⟨g, o + 3 + 1, none⟩) hgw).trans x11
            have x5 := (brc.cell (p := ⟨g, o + 3 + 2, none⟩) hgw).trans x12
            have hy3 : w.heap.size < wc.heap.size := by omega
            clear brc p0 p1 p2 j0 j1 j2
            go_wp2
            refine bodyPost_ret (v := tV k1 n1 s1 0) (by simp [results, Tryz.results33, go_sem, tV, z0, z1, z2, i0', i1', i2', hy3, x3, x4, x5, y0, y1, y2]) rfl ⟨rfl, ?_⟩
            exact (by (go_light; repeat (first | with_reducible assumption | with_reducible exact Below.refl _ _ | (with_reducible refine Below.setCell ?_ ?_ _; rotate_left; (focus first | (simp; done) | (simp; omega) | omega)) | (with_reducible refine Below.alloc ?_ ?_ _; rotate_left; (focus first | (simp; done) | (simp; omega) | omega)) | with_reducible refine Below.drew ?_)))

set_option maxHeartbeats 16000000 in
theorem callS_greatest_0 (k0 n0 : Int) (s0 : ByteArray) (k1 n1 : Int) (s1 : ByteArray) (ar : List TA) (a : Option Addr) (cap : Nat) (w : World) (h8 : ar.length ≤ 8) (hr : RVO w (.slice a ar.length cap) ar) (hsz : ∀ t ∈ ar, t.2.2.size ≤ 1048576) (hv : Hid (∀ t ∈ ar, vok t.1 t.2.1 t.2.2 = true)) (hck : Hid (¬ Mp.ckK 13 (kindsA ar) < 0)) (hnn : Hid (∀ t ∈ ar, (t.1 == 0) = false)) (har : Hid (ar = [(k0, n0, s0), (k1, n1, s1)])) (c : Int) (hc : c = 0) (hCO : ∀ W, Calls Tryz.prog 78 #[.agg #[.int .i64 k0, .int .i64 n0, .string s0], .agg #[.int .i64 k1, .int .i64 n1, .string s1]] W fun e w' => e = .returned (.tuple #[.int .i64 c, .int .i64 0]) ∧ Below W.heap.size W w') :
    Calls Tryz.prog 33 #[.int .i64 13, .slice a ar.length cap] w fun e w' => e = .returned (tV k0 n0 s0 0) ∧ Below w.heap.size w w' := by
  obtain ⟨i0, hi, hz0, hz1, hz2⟩ := info_parts info3
  have hrr := hr
  obtain ⟨a', cap', hsl, hcells⟩ := hr
  simp only [Value.slice.injEq] at hsl
  obtain ⟨rfl, _, rfl⟩ := hsl
  have h8i : ¬ (8 : Int) < ar.length := by omega
  have bw0 := below_alloc w (.cells #[.int .i64 0, .int .i64 0, .string ⟨#[]⟩] 29)
  have HCE : Hid _ := hcells
  clear hrr
  go_enter Tryz.func33, Tryz.ntmps33
  go_wp2
  generalize hW0 : w.alloc (.cells #[.int .i64 0, .int .i64 0, .string ⟨#[]⟩] 29) = W0 at *
  have hsE : W0.heap.size = w.heap.size + 1 := by rw [← hW0]; simp
  have HSE : Hid _ := hsE
  have hs0 : w.heap.size < W0.heap.size := by omega
  clear hsE
  have r0 : W0.cell? ⟨w.heap.size, 0, none⟩ = some (.int .i64 0) ∧ W0.cell? ⟨w.heap.size, 1, none⟩ = some (.int .i64 0) ∧ W0.cell? ⟨w.heap.size, 2, none⟩ = some (.string ⟨#[]⟩) ∧ W0.frozen? ⟨w.heap.size, 0, none⟩ = false ∧ W0.frozen? ⟨w.heap.size, 1, none⟩ = false ∧ W0.frozen? ⟨w.heap.size, 2, none⟩ = false := by
    rw [← hW0]; simp [go_sem]
  have HR0 : Hid _ := r0
  have HB0 : Hid (Below w.heap.size w W0) := bw0
  clear r0 bw0 hW0
  go_loopw [6, 8, 33] (fun kv _ i wr => ∃ k : Nat, k ≤ ar.length ∧ i = .int .i64 k ∧ OwnK W0.heap.size kv k (kindsA (ar.take k)) wr ∧ Below W0.heap.size W0 wr) (fun _ _ i _ => ar.length - (intOf i).toNat)
  case atStart =>
    refine ⟨0, Nat.zero_le _, rfl, ?_, (Below.refl _ _).alloc (Nat.le_refl _) _⟩
    rw [← HSE.out]
    exact World.ownsRow_made W0 #[] 0 (Nat.le_refl _) (by unfold maxLen; omega) (by simp)
  case round =>
    obtain ⟨k, hk, rfl, hoK, hbel⟩ := hrel
    have ho : wr.ownsRow W0.heap.size 3 1 _ k ((kindsA (ar.take k)).map (Value.int .i64)) := hoK
    clear hoK
    have hbs := hbel.size
    by_cases hlt : k < ar.length
    · have hlti : (k : Int) < ar.length := by omega
      obtain ⟨g, o, rfl, hgg, hgc⟩ := hcells (by omega)
      have bww : Below w.heap.size w wr := HB0.out.trans (hbel.mono (by omega))
      obtain ⟨c0, c1, c2⟩ := hgc k hlt
      have d0 := (bww.cell (p := ⟨g, o + k * 3, none⟩) hgg).trans c0
      have d1 := (bww.cell (p := ⟨g, o + k * 3 + 1, none⟩) hgg).trans c1
      have d2 := (bww.cell (p := ⟨g, o + k * 3 + 2, none⟩) hgg).trans c2
      have hsx := hsz ar[k] (List.getElem_mem hlt)
      have hvx := hv.out ar[k] (List.getElem_mem hlt)
      have HTK : Hid (ar.take (k + 1) = ar.take k ++ [ar[k]]) := take_snoc hlt
      clear c0 c1 c2 hgc hcells hsz HCE
      generalize ar[k] = t at *
      obtain ⟨tk, tn, ts⟩ := t
      simp only at d0 d1 d2 hsx
      have hVX := fun W => vok_spec tk tn ts W hsx
      rw [hvx] at hVX
      clear hvx
      go_wp2_with (first | (go_at_call 14; refine (hVX _).mono ?_; rintro e w1 ⟨rfl, hb1⟩; obtain ⟨hc1, hf1⟩ := bcell hb1; have hz1w : wr.heap.size < w1.heap.size := (by have := hb1.size; simp at this; omega); have bw1 : Below W0.heap.size W0 w1 := (hbel.alloc hbs _).trans (hb1.mono (by simp; omega)); have ho1 := own_below (ho.alloc _) hb1; have e0 : w1.cell? ⟨wr.heap.size, 0, none⟩ = some (.int .i64 tk) := (hc1 wr.heap.size 0 (by simp)).trans (by simp [go_sem])) | (at_builtin; refine wpList_append_own _ rfl (.tmp 41) (.tmp 44) 22 rfl W0.heap.size 3 i0 (.int .i64 0) 1 8 Tryz.underlying22 hi hz0 hz1 hz2 rfl (by decide) _ k ((kindsA (ar.take k)).map (Value.int .i64)) rfl (ho1.alloc _) ⟨w1.heap.size, 0, none⟩ 1 1 [.int .i64 tk] rfl rfl (cell_one_new _ _ _) (by intro u hu; simp at hu; subst hu; rfl) (by unfold maxLen; omega) (by omega) (by have := bw1.size; simp; omega) ?_; intro v' w2 hown' hgrow _; have bw2 : Below W0.heap.size W0 w2 := (bw1.alloc bw1.size _).grown hgrow (by have := bw1.size; simp; omega) (fun j hj => (ho1.lt j hj).1); have HOW : Hid (OwnK W0.heap.size v' (k + 1) (kindsA (ar.take (k + 1))) w2) := OwnK.of HTK.out hown'; clear hown' hgrow))
      go_roundw
      case rel => exact ⟨k + 1, by omega, by go_num, HOW.out, bw2⟩
      case measure => simp [intOf]; omega
    · have hkn : k = ar.length := by omega
      subst hkn
      have hlti : ¬ (ar.length : Int) < ar.length := by omega
      rw [List.take_length] at ho
      have hkl : (kindsA ar).length = ar.length := by simp [kindsA]
      rw [← hkl] at ho
      obtain ⟨ka, kc, rfl, hrio⟩ := own_rio ho
      clear ho
      have hck' := hck.out
      generalize hks : kindsA ar = ks at *
      have HKL : Hid (ks.length = ar.length) := hkl
      have bww : Below w.heap.size w wr := HB0.out.trans (hbel.mono (by omega))
      obtain ⟨q0, q1, q2, f0, f1, f2⟩ := HR0.out
      have hwr : w.heap.size < wr.heap.size := by omega
      have hn20 : ks.length ≤ 1048576 := by rw [hkl]; omega
      clear hkl hks HB0
      go_wp2_with (go_at_call 9; fail)
      have hKS := fun W h => Mp.callKind_spec 13 ks ka kc W hn20 h
      generalize Mp.ckK 13 ks = ck at *
      refine (hKS _ hrio).mono ?_
      rintro e w1 ⟨rfl, hb1⟩
      have b1 : Below W0.heap.size W0 w1 := hbel.trans (hb1.mono hbs)
      have hs1 := b1.size
      have bw1 : Below w.heap.size w w1 := bww.trans (hb1.mono bww.size)
      clear hKS hrio hbel hb1 bww
      have q0 := (b1.cell (p := ⟨w.heap.size, 0, none⟩) hs0).trans q0
      have q1 := (b1.cell (p := ⟨w.heap.size, 1, none⟩) hs0).trans q1
      have q2 := (b1.cell (p := ⟨w.heap.size, 2, none⟩) hs0).trans q2
      have f0 := (b1.frozen (p := ⟨w.heap.size, 0, none⟩) hs0).trans f0
      have f1 := (b1.frozen (p := ⟨w.heap.size, 1, none⟩) hs0).trans f1
      have f2 := (b1.frozen (p := ⟨w.heap.size, 2, none⟩) hs0).trans f2
      have hy1 : w.heap.size < w1.heap.size := by omega
      go_wp2
      go_loopw [13, 74] (fun _ i wr => ∃ k : Nat, k ≤ ar.length ∧ i = .int .i64 k ∧ Below w1.heap.size w1 wr) (fun _ i _ => ar.length - (intOf i).toNat)
      case atStart => exact ⟨0, Nat.zero_le _, rfl, Below.refl _ _⟩
      case round =>
        obtain ⟨k, hk2, rfl, hb2⟩ := hrel
        have hs2 := hb2.size
        have bw2 : Below w.heap.size w wr := bw1.trans (hb2.mono bw1.size)
        by_cases hlt : k < ar.length
        · have hlti : (k : Int) < ar.length := by omega
          obtain ⟨g, o, rfl, hgg, hgc⟩ := HCE.out (by omega)
          obtain ⟨c0, c1, c2⟩ := hgc k hlt
          have d0 := (bw2.cell (p := ⟨g, o + k * 3, none⟩) hgg).trans c0
          have d1 := (bw2.cell (p := ⟨g, o + k * 3 + 1, none⟩) hgg).trans c1
          have d2 := (bw2.cell (p := ⟨g, o + k * 3 + 2, none⟩) hgg).trans c2
          have hnz := hnn.out ar[k] (List.getElem_mem hlt)
          clear c0 c1 c2 hgc hcells HCE hsz
          generalize ar[k] = t at *
          obtain ⟨tk, tn, ts⟩ := t
          simp only at d0 d1 d2 hnz
          go_wp2
          go_roundw
          case rel => exact ⟨k + 1, by omega, by go_num, (by (go_light; repeat (first | with_reducible assumption | with_reducible exact Below.refl _ _ | (with_reducible refine Below.setCell ?_ ?_ _; rotate_left; (focus first | (simp; done) | (simp; omega) | omega)) | (with_reducible refine Below.alloc ?_ ?_ _; rotate_left; (focus first | (simp; done) | (simp; omega) | omega)) | with_reducible refine Below.drew ?_)))⟩
          case measure => simp [intOf]; omega
        · have hkn : k = ar.length := by omega
          subst hkn
          have hlti : ¬ (ar.length : Int) < ar.length := by omega
          have p0 := (hb2.cell (p := ⟨w.heap.size, 0, none⟩) hy1).trans q0
          have p1 := (hb2.cell (p := ⟨w.heap.size, 1, none⟩) hy1).trans q1
          have p2 := (hb2.cell (p := ⟨w.heap.size, 2, none⟩) hy1).trans q2
          have j0 := (hb2.frozen (p := ⟨w.heap.size, 0, none⟩) hy1).trans f0
          have j1 := (hb2.frozen (p := ⟨w.heap.size, 1, none⟩) hy1).trans f1
          have j2 := (hb2.frozen (p := ⟨w.heap.size, 2, none⟩) hy1).trans f2
          have hy2 : w.heap.size < wr.heap.size := by omega
          have hlen : ar.length = 2 := by rw [har.out]; rfl
          have hl0 : (0 : Int) < ar.length := by omega
          have hl1 : 2 < 2 ∨ (1 : Int) < ar.length := by omega
          have hl2 : 2 < 3 ∨ (2 : Int) < ar.length := by omega
          obtain ⟨g, o, rfl, hgg, hgc⟩ := HCE.out (by omega)
          have G0 : ar[0]'(by omega) = (k0, n0, s0) := by simp only [har.out]; rfl
          obtain ⟨c00, c01, c02⟩ := hgc 0 (by omega)
          rw [G0] at c00 c01 c02
          have x00 := (bw2.cell (p := ⟨g, o + 0 * 3, none⟩) hgg).trans c00
          have x01 := (bw2.cell (p := ⟨g, o + 0 * 3 + 1, none⟩) hgg).trans c01
          have x02 := (bw2.cell (p := ⟨g, o + 0 * 3 + 2, none⟩) hgg).trans c02
          simp only [Nat.zero_mul, Nat.add_zero, Nat.one_mul, (by decide : 2 * 3 = 6)] at x00 x01 x02
          clear c00 c01 c02 G0
          have G1 : ar[1]'(by omega) = (k1, n1, s1) := by simp only [har.out]; rfl
          obtain ⟨c10, c11, c12⟩ := hgc 1 (by omega)
          rw [G1] at c10 c11 c12
          have x10 := (bw2.cell (p := ⟨g, o + 1 * 3, none⟩) hgg).trans c10
          have x11 := (bw2.cell (p := ⟨g, o + 1 * 3 + 1, none⟩) hgg).trans c11
          have x12 := (bw2.cell (p := ⟨g, o + 1 * 3 + 2, none⟩) hgg).trans c12
          simp only [Nat.zero_mul, Nat.add_zero, Nat.one_mul, (by decide : 2 * 3 = 6)] at x10 x11 x12
          clear c10 c11 c12 G1
          clear hlen
          simp only [(by decide : (1 < 2) = True), (by decide : (2 < 2) = False), (by decide : (3 < 2) = False), (by decide : (1 < 3) = True), (by decide : (2 < 3) = True), (by decide : (3 < 3) = False), true_or, false_or] at hl1 hl2
          have hgw : g < wr.heap.size := by have := bw2.size; omega
          clear hgc hcells HCE hsz b1 hb2 q0 q1 q2 f0 f1 f2 HR0
          subst hc
          have hc0 : decide ((0:Int) < 0) = false := by decide
          have HGK : Hid _ := hCO
          go_upto_region 56 with fail
          go_cut [19, 20] from 190 to 197 (fun v19 v20 wx => v19 = .int .i64 0 ∧ (∃ c2, v20 = .int .i64 c2) ∧ Below w.heap.size w wx ∧ Below wr.heap.size wr wx ∧ wx.cell? ⟨wr.heap.size, 0, none⟩ = some (.int .i64 k0) ∧ wx.cell? ⟨wr.heap.size, 1, none⟩ = some (.int .i64 n0) ∧ wx.cell? ⟨wr.heap.size, 2, none⟩ = some (.string s0) ∧ wr.heap.size < wx.heap.size)
          case first =>
            go_region_held3 (fun W => W.cell? ⟨wr.heap.size, 0, none⟩ = some (.int .i64 k0) ∧ W.cell? ⟨wr.heap.size, 1, none⟩ = some (.int .i64 n0) ∧ W.cell? ⟨wr.heap.size, 2, none⟩ = some (.string s0) ∧ W.cell? ⟨g, o + 3, none⟩ = some (.int .i64 k1) ∧ W.cell? ⟨g, o + 3 + 1, none⟩ = some (.int .i64 n1) ∧ W.cell? ⟨g, o + 3 + 2, none⟩ = some (.string s1)) (go_keep) (first | (go_at_call 78; refine (HGK.out _).mono ?_; rintro e w3 ⟨rfl, hb3⟩; obtain ⟨hc3, hf3⟩ := bcell hb3; have hz3 := hb3.size; simp at hz3; have y0 : w3.cell? ⟨wr.heap.size, 0, none⟩ = some (.int .i64 k0) := (hc3 _ _ (by simp)).trans (by go_keep); have y1 : w3.cell? ⟨wr.heap.size, 1, none⟩ = some (.int .i64 n0) := (hc3 _ _ (by simp)).trans (by go_keep); have y2 : w3.cell? ⟨wr.heap.size, 2, none⟩ = some (.string s0) := (hc3 _ _ (by simp)).trans (by go_keep); have y3 : w3.cell? ⟨g, o + 3, none⟩ = some (.int .i64 k1) := (hc3 _ _ (by simp; omega)).trans (by go_keep); have y4 : w3.cell? ⟨g, o + 3 + 1, none⟩ = some (.int .i64 n1) := (hc3 _ _ (by simp; omega)).trans (by go_keep); have y5 : w3.cell? ⟨g, o + 3 + 2, none⟩ = some (.string s1) := (hc3 _ _ (by simp; omega)).trans (by go_keep); have br3 : Below wr.heap.size wr w3 := Below.trans (by (go_light; repeat (first | with_reducible assumption | with_reducible exact Below.refl _ _ | (with_reducible refine Below.setCell ?_ ?_ _; rotate_left; (focus first | (simp; done) | (simp; omega) | omega)) | (with_reducible refine Below.alloc ?_ ?_ _; rotate_left; (focus first | (simp; done) | (simp; omega) | omega)) | with_reducible refine Below.drew ?_))) (hb3.mono (by simp)); have bw3 : Below w.heap.size w w3 := bw2.trans (br3.mono bw2.size)))
            all_goals
              go_wp2_with fail
              go_meet
              exact ⟨rfl, ⟨_, rfl⟩, (by (go_light; repeat (first | with_reducible assumption | with_reducible exact Below.refl _ _ | (with_reducible refine Below.setCell ?_ ?_ _; rotate_left; (focus first | (simp; done) | (simp; omega) | omega)) | (with_reducible refine Below.alloc ?_ ?_ _; rotate_left; (focus first | (simp; done) | (simp; omega) | omega)) | with_reducible refine Below.drew ?_))), (by (go_light; repeat (first | with_reducible assumption | with_reducible exact Below.refl _ _ | (with_reducible refine Below.setCell ?_ ?_ _; rotate_left; (focus first | (simp; done) | (simp; omega) | omega)) | (with_reducible refine Below.alloc ?_ ?_ _; rotate_left; (focus first | (simp; done) | (simp; omega) | omega)) | with_reducible refine Below.drew ?_))), by simp [go_sem, *], by simp [go_sem, *], by simp [go_sem, *], (by first | (simp; omega) | omega)⟩
          case rest =>
            obtain ⟨rfl, ⟨c2, rfl⟩, bwc, brc, y0, y1, y2, hzc⟩ := hcut
            have z0 := (brc.cell (p := ⟨w.heap.size, 0, none⟩) hy2).trans p0
            have z1 := (brc.cell (p := ⟨w.heap.size, 1, none⟩) hy2).trans p1
            have z2 := (brc.cell (p := ⟨w.heap.size, 2, none⟩) hy2).trans p2
            have i0' := (brc.frozen (p := ⟨w.heap.size, 0, none⟩) hy2).trans j0
            have i1' := (brc.frozen (p := ⟨w.heap.size, 1, none⟩) hy2).trans j1
            have i2' := (brc.frozen (p := ⟨w.heap.size, 2, none⟩) hy2).trans j2
            have x3 := (brc.cell (p := ⟨g, o + 3, none⟩) hgw).trans x10
            have x4 := (brc.cell (p := ⟨g, o + 3 + 1, none⟩) hgw).trans x11
            have x5 := (brc.cell (p := ⟨g, o + 3 + 2, none⟩) hgw).trans x12
            have hy3 : w.heap.size < wc.heap.size := by omega
            clear brc p0 p1 p2 j0 j1 j2
            go_wp2
            refine bodyPost_ret (v := tV k0 n0 s0 0) (by simp [results, Tryz.results33, go_sem, tV, z0, z1, z2, i0', i1', i2', hy3, x3, x4, x5, y0, y1, y2]) rfl ⟨rfl, ?_⟩
            exact (by (go_light; repeat (first | with_reducible assumption | with_reducible exact Below.refl _ _ | (with_reducible refine Below.setCell ?_ ?_ _; rotate_left; (focus first | (simp; done) | (simp; omega) | omega)) | (with_reducible refine Below.alloc ?_ ?_ _; rotate_left; (focus first | (simp; done) | (simp; omega) | omega)) | with_reducible refine Below.drew ?_)))

set_option maxHeartbeats 16000000 in
theorem callS_greatest_p (k0 n0 : Int) (s0 : ByteArray) (k1 n1 : Int) (s1 : ByteArray) (ar : List TA) (a : Option Addr) (cap : Nat) (w : World) (h8 : ar.length ≤ 8) (hr : RVO w (.slice a ar.length cap) ar) (hsz : ∀ t ∈ ar, t.2.2.size ≤ 1048576) (hv : Hid (∀ t ∈ ar, vok t.1 t.2.1 t.2.2 = true)) (hck : Hid (¬ Mp.ckK 13 (kindsA ar) < 0)) (hnn : Hid (∀ t ∈ ar, (t.1 == 0) = false)) (har : Hid (ar = [(k0, n0, s0), (k1, n1, s1)])) (c : Int) (hc : 0 < c) (hCO : ∀ W, Calls Tryz.prog 78 #[.agg #[.int .i64 k0, .int .i64 n0, .string s0], .agg #[.int .i64 k1, .int .i64 n1, .string s1]] W fun e w' => e = .returned (.tuple #[.int .i64 c, .int .i64 0]) ∧ Below W.heap.size W w') :
    Calls Tryz.prog 33 #[.int .i64 13, .slice a ar.length cap] w fun e w' => e = .returned (tV k0 n0 s0 0) ∧ Below w.heap.size w w' := by
  obtain ⟨i0, hi, hz0, hz1, hz2⟩ := info_parts info3
  have hrr := hr
  obtain ⟨a', cap', hsl, hcells⟩ := hr
  simp only [Value.slice.injEq] at hsl
  obtain ⟨rfl, _, rfl⟩ := hsl
  have h8i : ¬ (8 : Int) < ar.length := by omega
  have bw0 := below_alloc w (.cells #[.int .i64 0, .int .i64 0, .string ⟨#[]⟩] 29)
  have HCE : Hid _ := hcells
  clear hrr
  go_enter Tryz.func33, Tryz.ntmps33
  go_wp2
  generalize hW0 : w.alloc (.cells #[.int .i64 0, .int .i64 0, .string ⟨#[]⟩] 29) = W0 at *
  have hsE : W0.heap.size = w.heap.size + 1 := by rw [← hW0]; simp
  have HSE : Hid _ := hsE
  have hs0 : w.heap.size < W0.heap.size := by omega
  clear hsE
  have r0 : W0.cell? ⟨w.heap.size, 0, none⟩ = some (.int .i64 0) ∧ W0.cell? ⟨w.heap.size, 1, none⟩ = some (.int .i64 0) ∧ W0.cell? ⟨w.heap.size, 2, none⟩ = some (.string ⟨#[]⟩) ∧ W0.frozen? ⟨w.heap.size, 0, none⟩ = false ∧ W0.frozen? ⟨w.heap.size, 1, none⟩ = false ∧ W0.frozen? ⟨w.heap.size, 2, none⟩ = false := by
    rw [← hW0]; simp [go_sem]
  have HR0 : Hid _ := r0
  have HB0 : Hid (Below w.heap.size w W0) := bw0
  clear r0 bw0 hW0
  go_loopw [6, 8, 33] (fun kv _ i wr => ∃ k : Nat, k ≤ ar.length ∧ i = .int .i64 k ∧ OwnK W0.heap.size kv k (kindsA (ar.take k)) wr ∧ Below W0.heap.size W0 wr) (fun _ _ i _ => ar.length - (intOf i).toNat)
  case atStart =>
    refine ⟨0, Nat.zero_le _, rfl, ?_, (Below.refl _ _).alloc (Nat.le_refl _) _⟩
    rw [← HSE.out]
    exact World.ownsRow_made W0 #[] 0 (Nat.le_refl _) (by unfold maxLen; omega) (by simp)
  case round =>
    obtain ⟨k, hk, rfl, hoK, hbel⟩ := hrel
    have ho : wr.ownsRow W0.heap.size 3 1 _ k ((kindsA (ar.take k)).map (Value.int .i64)) := hoK
    clear hoK
    have hbs := hbel.size
    by_cases hlt : k < ar.length
    · have hlti : (k : Int) < ar.length := by omega
      obtain ⟨g, o, rfl, hgg, hgc⟩ := hcells (by omega)
      have bww : Below w.heap.size w wr := HB0.out.trans (hbel.mono (by omega))
      obtain ⟨c0, c1, c2⟩ := hgc k hlt
      have d0 := (bww.cell (p := ⟨g, o + k * 3, none⟩) hgg).trans c0
      have d1 := (bww.cell (p := ⟨g, o + k * 3 + 1, none⟩) hgg).trans c1
      have d2 := (bww.cell (p := ⟨g, o + k * 3 + 2, none⟩) hgg).trans c2
      have hsx := hsz ar[k] (List.getElem_mem hlt)
      have hvx := hv.out ar[k] (List.getElem_mem hlt)
      have HTK : Hid (ar.take (k + 1) = ar.take k ++ [ar[k]]) := take_snoc hlt
      clear c0 c1 c2 hgc hcells hsz HCE
      generalize ar[k] = t at *
      obtain ⟨tk, tn, ts⟩ := t
      simp only at d0 d1 d2 hsx
      have hVX := fun W => vok_spec tk tn ts W hsx
      rw [hvx] at hVX
      clear hvx
      go_wp2_with (first | (go_at_call 14; refine (hVX _).mono ?_; rintro e w1 ⟨rfl, hb1⟩; obtain ⟨hc1, hf1⟩ := bcell hb1; have hz1w : wr.heap.size < w1.heap.size := (by have := hb1.size; simp at this; omega); have bw1 : Below W0.heap.size W0 w1 := (hbel.alloc hbs _).trans (hb1.mono (by simp; omega)); have ho1 := own_below (ho.alloc _) hb1; have e0 : w1.cell? ⟨wr.heap.size, 0, none⟩ = some (.int .i64 tk) := (hc1 wr.heap.size 0 (by simp)).trans (by simp [go_sem])) | (at_builtin; refine wpList_append_own _ rfl (.tmp 41) (.tmp 44) 22 rfl W0.heap.size 3 i0 (.int .i64 0) 1 8 Tryz.underlying22 hi hz0 hz1 hz2 rfl (by decide) _ k ((kindsA (ar.take k)).map (Value.int .i64)) rfl (ho1.alloc _) ⟨w1.heap.size, 0, none⟩ 1 1 [.int .i64 tk] rfl rfl (cell_one_new _ _ _) (by intro u hu; simp at hu; subst hu; rfl) (by unfold maxLen; omega) (by omega) (by have := bw1.size; simp; omega) ?_; intro v' w2 hown' hgrow _; have bw2 : Below W0.heap.size W0 w2 := (bw1.alloc bw1.size _).grown hgrow (by have := bw1.size; simp; omega) (fun j hj => (ho1.lt j hj).1); have HOW : Hid (OwnK W0.heap.size v' (k + 1) (kindsA (ar.take (k + 1))) w2) := OwnK.of HTK.out hown'; clear hown' hgrow))
      go_roundw
      case rel => exact ⟨k + 1, by omega, by go_num, HOW.out, bw2⟩
      case measure => simp [intOf]; omega
    · have hkn : k = ar.length := by omega
      subst hkn
      have hlti : ¬ (ar.length : Int) < ar.length := by omega
      rw [List.take_length] at ho
      have hkl : (kindsA ar).length = ar.length := by simp [kindsA]
      rw [← hkl] at ho
      obtain ⟨ka, kc, rfl, hrio⟩ := own_rio ho
      clear ho
      have hck' := hck.out
      generalize hks : kindsA ar = ks at *
      have HKL : Hid (ks.length = ar.length) := hkl
      have bww : Below w.heap.size w wr := HB0.out.trans (hbel.mono (by omega))
      obtain ⟨q0, q1, q2, f0, f1, f2⟩ := HR0.out
      have hwr : w.heap.size < wr.heap.size := by omega
      have hn20 : ks.length ≤ 1048576 := by rw [hkl]; omega
      clear hkl hks HB0
      go_wp2_with (go_at_call 9; fail)
      have hKS := fun W h => Mp.callKind_spec 13 ks ka kc W hn20 h
      generalize Mp.ckK 13 ks = ck at *
      refine (hKS _ hrio).mono ?_
      rintro e w1 ⟨rfl, hb1⟩
      have b1 : Below W0.heap.size W0 w1 := hbel.trans (hb1.mono hbs)
      have hs1 := b1.size
      have bw1 : Below w.heap.size w w1 := bww.trans (hb1.mono bww.size)
      clear hKS hrio hbel hb1 bww
      have q0 := (b1.cell (p := ⟨w.heap.size, 0, none⟩) hs0).trans q0
      have q1 := (b1.cell (p := ⟨w.heap.size, 1, none⟩) hs0).trans q1
      have q2 := (b1.cell (p := ⟨w.heap.size, 2, none⟩) hs0).trans q2
      have f0 := (b1.frozen (p := ⟨w.heap.size, 0, none⟩) hs0).trans f0
      have f1 := (b1.frozen (p := ⟨w.heap.size, 1, none⟩) hs0).trans f1
      have f2 := (b1.frozen (p := ⟨w.heap.size, 2, none⟩) hs0).trans f2
      have hy1 : w.heap.size < w1.heap.size := by omega
      go_wp2
      go_loopw [13, 74] (fun _ i wr => ∃ k : Nat, k ≤ ar.length ∧ i = .int .i64 k ∧ Below w1.heap.size w1 wr) (fun _ i _ => ar.length - (intOf i).toNat)
      case atStart => exact ⟨0, Nat.zero_le _, rfl, Below.refl _ _⟩
      case round =>
        obtain ⟨k, hk2, rfl, hb2⟩ := hrel
        have hs2 := hb2.size
        have bw2 : Below w.heap.size w wr := bw1.trans (hb2.mono bw1.size)
        by_cases hlt : k < ar.length
        · have hlti : (k : Int) < ar.length := by omega
          obtain ⟨g, o, rfl, hgg, hgc⟩ := HCE.out (by omega)
          obtain ⟨c0, c1, c2⟩ := hgc k hlt
          have d0 := (bw2.cell (p := ⟨g, o + k * 3, none⟩) hgg).trans c0
          have d1 := (bw2.cell (p := ⟨g, o + k * 3 + 1, none⟩) hgg).trans c1
          have d2 := (bw2.cell (p := ⟨g, o + k * 3 + 2, none⟩) hgg).trans c2
          have hnz := hnn.out ar[k] (List.getElem_mem hlt)
          clear c0 c1 c2 hgc hcells HCE hsz
          generalize ar[k] = t at *
          obtain ⟨tk, tn, ts⟩ := t
          simp only at d0 d1 d2 hnz
          go_wp2
          go_roundw
          case rel => exact ⟨k + 1, by omega, by go_num, (by (go_light; repeat (first | with_reducible assumption | with_reducible exact Below.refl _ _ | (with_reducible refine Below.setCell ?_ ?_ _; rotate_left; (focus first | (simp; done) | (simp; omega) | omega)) | (with_reducible refine Below.alloc ?_ ?_ _; rotate_left; (focus first | (simp; done) | (simp; omega) | omega)) | with_reducible refine Below.drew ?_)))⟩
          case measure => simp [intOf]; omega
        · have hkn : k = ar.length := by omega
          subst hkn
          have hlti : ¬ (ar.length : Int) < ar.length := by omega
          have p0 := (hb2.cell (p := ⟨w.heap.size, 0, none⟩) hy1).trans q0
          have p1 := (hb2.cell (p := ⟨w.heap.size, 1, none⟩) hy1).trans q1
          have p2 := (hb2.cell (p := ⟨w.heap.size, 2, none⟩) hy1).trans q2
          have j0 := (hb2.frozen (p := ⟨w.heap.size, 0, none⟩) hy1).trans f0
          have j1 := (hb2.frozen (p := ⟨w.heap.size, 1, none⟩) hy1).trans f1
          have j2 := (hb2.frozen (p := ⟨w.heap.size, 2, none⟩) hy1).trans f2
          have hy2 : w.heap.size < wr.heap.size := by omega
          have hlen : ar.length = 2 := by rw [har.out]; rfl
          have hl0 : (0 : Int) < ar.length := by omega
          have hl1 : 2 < 2 ∨ (1 : Int) < ar.length := by omega
          have hl2 : 2 < 3 ∨ (2 : Int) < ar.length := by omega
          obtain ⟨g, o, rfl, hgg, hgc⟩ := HCE.out (by omega)
          have G0 : ar[0]'(by omega) = (k0, n0, s0) := by simp only [har.out]; rfl
          obtain ⟨c00, c01, c02⟩ := hgc 0 (by omega)
          rw [G0] at c00 c01 c02
          have x00 := (bw2.cell (p := ⟨g, o + 0 * 3, none⟩) hgg).trans c00
          have x01 := (bw2.cell (p := ⟨g, o + 0 * 3 + 1, none⟩) hgg).trans c01
          have x02 := (bw2.cell (p := ⟨g, o + 0 * 3 + 2, none⟩) hgg).trans c02
          simp only [Nat.zero_mul, Nat.add_zero, Nat.one_mul, (by decide : 2 * 3 = 6)] at x00 x01 x02
          clear c00 c01 c02 G0
          have G1 : ar[1]'(by omega) = (k1, n1, s1) := by simp only [har.out]; rfl
          obtain ⟨c10, c11, c12⟩ := hgc 1 (by omega)
          rw [G1] at c10 c11 c12
          have x10 := (bw2.cell (p := ⟨g, o + 1 * 3, none⟩) hgg).trans c10
          have x11 := (bw2.cell (p := ⟨g, o + 1 * 3 + 1, none⟩) hgg).trans c11
          have x12 := (bw2.cell (p := ⟨g, o + 1 * 3 + 2, none⟩) hgg).trans c12
          simp only [Nat.zero_mul, Nat.add_zero, Nat.one_mul, (by decide : 2 * 3 = 6)] at x10 x11 x12
          clear c10 c11 c12 G1
          clear hlen
          simp only [(by decide : (1 < 2) = True), (by decide : (2 < 2) = False), (by decide : (3 < 2) = False), (by decide : (1 < 3) = True), (by decide : (2 < 3) = True), (by decide : (3 < 3) = False), true_or, false_or] at hl1 hl2
          have hgw : g < wr.heap.size := by have := bw2.size; omega
          clear hgc hcells HCE hsz b1 hb2 q0 q1 q2 f0 f1 f2 HR0
          have hc0 : decide (0 < c) = true := by simpa using hc
          have HGK : Hid _ := hCO
          go_upto_region 56 with fail
          go_cut [19, 20] from 190 to 197 (fun v19 v20 wx => v19 = .int .i64 c ∧ (∃ c2, v20 = .int .i64 c2) ∧ Below w.heap.size w wx ∧ Below wr.heap.size wr wx ∧ wx.cell? ⟨wr.heap.size, 0, none⟩ = some (.int .i64 k0) ∧ wx.cell? ⟨wr.heap.size, 1, none⟩ = some (.int .i64 n0) ∧ wx.cell? ⟨wr.heap.size, 2, none⟩ = some (.string s0) ∧ wr.heap.size < wx.heap.size)
          case first =>
            go_region_held3 (fun W => W.cell? ⟨wr.heap.size, 0, none⟩ = some (.int .i64 k0) ∧ W.cell? ⟨wr.heap.size, 1, none⟩ = some (.int .i64 n0) ∧ W.cell? ⟨wr.heap.size, 2, none⟩ = some (.string s0) ∧ W.cell? ⟨g, o + 3, none⟩ = some (.int .i64 k1) ∧ W.cell? ⟨g, o + 3 + 1, none⟩ = some (.int .i64 n1) ∧ W.cell? ⟨g, o + 3 + 2, none⟩ = some (.string s1)) (go_keep) (first | (go_at_call 78; refine (HGK.out _).mono ?_; rintro e w3 ⟨rfl, hb3⟩; obtain ⟨hc3, hf3⟩ := bcell hb3; have hz3 := hb3.size; simp at hz3; have y0 : w3.cell? ⟨wr.heap.size, 0, none⟩ = some (.int .i64 k0) := (hc3 _ _ (by simp)).trans (by go_keep); have y1 : w3.cell? ⟨wr.heap.size, 1, none⟩ = some (.int .i64 n0) := (hc3 _ _ (by simp)).trans (by go_keep); have y2 : w3.cell? ⟨wr.heap.size, 2, none⟩ = some (.string s0) := (hc3 _ _ (by simp)).trans (by go_keep); have y3 : w3.cell? ⟨g, o + 3, none⟩ = some (.int .i64 k1) := (hc3 _ _ (by simp; omega)).trans (by go_keep); have y4 : w3.cell? ⟨g, o + 3 + 1, none⟩ = some (.int .i64 n1) := (hc3 _ _ (by simp; omega)).trans (by go_keep); have y5 : w3.cell? ⟨g, o + 3 + 2, none⟩ = some (.string s1) := (hc3 _ _ (by simp; omega)).trans (by go_keep); have br3 : Below wr.heap.size wr w3 := Below.trans (by (go_light; repeat (first | with_reducible assumption | with_reducible exact Below.refl _ _ | (with_reducible refine Below.setCell ?_ ?_ _; rotate_left; (focus first | (simp; done) | (simp; omega) | omega)) | (with_reducible refine Below.alloc ?_ ?_ _; rotate_left; (focus first | (simp; done) | (simp; omega) | omega)) | with_reducible refine Below.drew ?_))) (hb3.mono (by simp)); have bw3 : Below w.heap.size w w3 := bw2.trans (br3.mono bw2.size)))
            all_goals
              go_wp2_with fail
              go_meet
              exact ⟨rfl, ⟨_, rfl⟩, (by (go_light; repeat (first | with_reducible assumption | with_reducible exact Below.refl _ _ | (with_reducible refine Below.setCell ?_ ?_ _; rotate_left; (focus first | (simp; done) | (simp; omega) | omega)) | (with_reducible refine Below.alloc ?_ ?_ _; rotate_left; (focus first | (simp; done) | (simp; omega) | omega)) | with_reducible refine Below.drew ?_))), (by (go_light; repeat (first | with_reducible assumption | with_reducible exact Below.refl _ _ | (with_reducible refine Below.setCell ?_ ?_ _; rotate_left; (focus first | (simp; done) | (simp; omega) | omega)) | (with_reducible refine Below.alloc ?_ ?_ _; rotate_left; (focus first | (simp; done) | (simp; omega) | omega)) | with_reducible refine Below.drew ?_))), by simp [go_sem, *], by simp [go_sem, *], by simp [go_sem, *], (by first | (simp; omega) | omega)⟩
          case rest =>
            obtain ⟨rfl, ⟨c2, rfl⟩, bwc, brc, y0, y1, y2, hzc⟩ := hcut
            have z0 := (brc.cell (p := ⟨w.heap.size, 0, none⟩) hy2).trans p0
            have z1 := (brc.cell (p := ⟨w.heap.size, 1, none⟩) hy2).trans p1
            have z2 := (brc.cell (p := ⟨w.heap.size, 2, none⟩) hy2).trans p2
            have i0' := (brc.frozen (p := ⟨w.heap.size, 0, none⟩) hy2).trans j0
            have i1' := (brc.frozen (p := ⟨w.heap.size, 1, none⟩) hy2).trans j1
            have i2' := (brc.frozen (p := ⟨w.heap.size, 2, none⟩) hy2).trans j2
            have x3 := (brc.cell (p := ⟨g, o + 3, none⟩) hgw).trans x10
            have x4 := (brc.cell (p := ⟨g, o + 3 + 1, none⟩) hgw).trans x11
            have x5 := (brc.cell (p := ⟨g, o + 3 + 2, none⟩) hgw).trans x12
            have hy3 : w.heap.size < wc.heap.size := by omega
            clear brc p0 p1 p2 j0 j1 j2
            go_wp2
            refine bodyPost_ret (v := tV k0 n0 s0 0) (by simp [results, Tryz.results33, go_sem, tV, z0, z1, z2, i0', i1', i2', hy3, x3, x4, x5, y0, y1, y2]) rfl ⟨rfl, ?_⟩
            exact (by (go_light; repeat (first | with_reducible assumption | with_reducible exact Below.refl _ _ | (with_reducible refine Below.setCell ?_ ?_ _; rotate_left; (focus first | (simp; done) | (simp; omega) | omega)) | (with_reducible refine Below.alloc ?_ ?_ _; rotate_left; (focus first | (simp; done) | (simp; omega) | omega)) | with_reducible refine Below.drew ?_)))

set_option maxHeartbeats 16000000 in
theorem callS_greatest_b (k0 n0 : Int) (s0 : ByteArray) (k1 n1 : Int) (s1 : ByteArray) (ar : List TA) (a : Option Addr) (cap : Nat) (w : World) (h8 : ar.length ≤ 8) (hr : RVO w (.slice a ar.length cap) ar) (hsz : ∀ t ∈ ar, t.2.2.size ≤ 1048576) (hv : Hid (∀ t ∈ ar, vok t.1 t.2.1 t.2.2 = true)) (hck : Hid (¬ Mp.ckK 13 (kindsA ar) < 0)) (hnn : Hid (∀ t ∈ ar, (t.1 == 0) = false)) (har : Hid (ar = [(k0, n0, s0), (k1, n1, s1)])) (c : Int) (hc : c < 0) (hCO : ∀ W, Calls Tryz.prog 78 #[.agg #[.int .i64 k0, .int .i64 n0, .string s0], .agg #[.int .i64 k1, .int .i64 n1, .string s1]] W fun e w' => e = .returned (.tuple #[.int .i64 c, .int .i64 0]) ∧ Below W.heap.size W w') :
    Calls Tryz.prog 33 #[.int .i64 13, .slice a ar.length cap] w fun e w' => e = .returned (tV k1 n1 s1 0) ∧ Below w.heap.size w w' := by
  obtain ⟨i0, hi, hz0, hz1, hz2⟩ := info_parts info3
  have hrr := hr
  obtain ⟨a', cap', hsl, hcells⟩ := hr
  simp only [Value.slice.injEq] at hsl
  obtain ⟨rfl, _, rfl⟩ := hsl
  have h8i : ¬ (8 : Int) < ar.length := by omega
  have bw0 := below_alloc w (.cells #[.int .i64 0, .int .i64 0, .string ⟨#[]⟩] 29)
  have HCE : Hid _ := hcells
  clear hrr
  go_enter Tryz.func33, Tryz.ntmps33
  go_wp2
  generalize hW0 : w.alloc (.cells #[.int .i64 0, .int .i64 0, .string ⟨#[]⟩] 29) = W0 at *
  have hsE : W0.heap.size = w.heap.size + 1 := by rw [← hW0]; simp
  have HSE : Hid _ := hsE
  have hs0 : w.heap.size < W0.heap.size := by omega
  clear hsE
  have r0 : W0.cell? ⟨w.heap.size, 0, none⟩ = some (.int .i64 0) ∧ W0.cell? ⟨w.heap.size, 1, none⟩ = some (.int .i64 0) ∧ W0.cell? ⟨w.heap.size, 2, none⟩ = some (.string ⟨#[]⟩) ∧ W0.frozen? ⟨w.heap.size, 0, none⟩ = false ∧ W0.frozen? ⟨w.heap.size, 1, none⟩ = false ∧ W0.frozen? ⟨w.heap.size, 2, none⟩ = false := by
    rw [← hW0]; simp [go_sem]
  have HR0 : Hid _ := r0
  have HB0 : Hid (Below w.heap.size w W0) := bw0
  clear r0 bw0 hW0
  go_loopw [6, 8, 33] (fun kv _ i wr => ∃ k : Nat, k ≤ ar.length ∧ i = .int .i64 k ∧ OwnK W0.heap.size kv k (kindsA (ar.take k)) wr ∧ Below W0.heap.size W0 wr) (fun _ _ i _ => ar.length - (intOf i).toNat)
  case atStart =>
    refine ⟨0, Nat.zero_le _, rfl, ?_, (Below.refl _ _).alloc (Nat.le_refl _) _⟩
    rw [← HSE.out]
    exact World.ownsRow_made W0 #[] 0 (Nat.le_refl _) (by unfold maxLen; omega) (by simp)
  case round =>
    obtain ⟨k, hk, rfl, hoK, hbel⟩ := hrel
    have ho : wr.ownsRow W0.heap.size 3 1 _ k ((kindsA (ar.take k)).map (Value.int .i64)) := hoK
    clear hoK
    have hbs := hbel.size
    by_cases hlt : k < ar.length
    · have hlti : (k : Int) < ar.length := by omega
      obtain ⟨g, o, rfl, hgg, hgc⟩ := hcells (by omega)
      have bww : Below w.heap.size w wr := HB0.out.trans (hbel.mono (by omega))
      obtain ⟨c0, c1, c2⟩ := hgc k hlt
      have d0 := (bww.cell (p := ⟨g, o + k * 3, none⟩) hgg).trans c0
      have d1 := (bww.cell (p := ⟨g, o + k * 3 + 1, none⟩) hgg).trans c1
      have d2 := (bww.cell (p := ⟨g, o + k * 3 + 2, none⟩) hgg).trans c2
      have hsx := hsz ar[k] (List.getElem_mem hlt)
      have hvx := hv.out ar[k] (List.getElem_mem hlt)
      have HTK : Hid (ar.take (k + 1) = ar.take k ++ [ar[k]]) := take_snoc hlt
      clear c0 c1 c2 hgc hcells hsz HCE
      generalize ar[k] = t at *
      obtain ⟨tk, tn, ts⟩ := t
      simp only at d0 d1 d2 hsx
      have hVX := fun W => vok_spec tk tn ts W hsx
      rw [hvx] at hVX
      clear hvx
      go_wp2_with (first | (go_at_call 14; refine (hVX _).mono ?_; rintro e w1 ⟨rfl, hb1⟩; obtain ⟨hc1, hf1⟩ := bcell hb1; have hz1w : wr.heap.size < w1.heap.size := (by have := hb1.size; simp at this; omega); have bw1 : Below W0.heap.size W0 w1 := (hbel.alloc hbs _).trans (hb1.mono (by simp; omega)); have ho1 := own_below (ho.alloc _) hb1; have e0 : w1.cell? ⟨wr.heap.size, 0, none⟩ = some (.int .i64 tk) := (hc1 wr.heap.size 0 (by simp)).trans (by simp [go_sem])) | (at_builtin; refine wpList_append_own _ rfl (.tmp 41) (.tmp 44) 22 rfl W0.heap.size 3 i0 (.int .i64 0) 1 8 Tryz.underlying22 hi hz0 hz1 hz2 rfl (by decide) _ k ((kindsA (ar.take k)).map (Value.int .i64)) rfl (ho1.alloc _) ⟨w1.heap.size, 0, none⟩ 1 1 [.int .i64 tk] rfl rfl (cell_one_new _ _ _) (by intro u hu; simp at hu; subst hu; rfl) (by unfold maxLen; omega) (by omega) (by have := bw1.size; simp; omega) ?_; intro v' w2 hown' hgrow _; have bw2 : Below W0.heap.size W0 w2 := (bw1.alloc bw1.size _).grown hgrow (by have := bw1.size; simp; omega) (fun j hj => (ho1.lt j hj).1); have HOW : Hid (OwnK W0.heap.size v' (k + 1) (kindsA (ar.take (k + 1))) w2) := OwnK.of HTK.out hown'; clear hown' hgrow))
      go_roundw
      case rel => exact ⟨k + 1, by omega, by go_num, HOW.out, bw2⟩
      case measure => simp [intOf]; omega
    · have hkn : k = ar.length := by omega
      subst hkn
      have hlti : ¬ (ar.length : Int) < ar.length := by omega
      rw [List.take_length] at ho
      have hkl : (kindsA ar).length = ar.length := by simp [kindsA]
      rw [← hkl] at ho
      obtain ⟨ka, kc, rfl, hrio⟩ := own_rio ho
      clear ho
      have hck' := hck.out
      generalize hks : kindsA ar = ks at *
      have HKL : Hid (ks.length = ar.length) := hkl
      have bww : Below w.heap.size w wr := HB0.out.trans (hbel.mono (by omega))
      obtain ⟨q0, q1, q2, f0, f1, f2⟩ := HR0.out
      have hwr : w.heap.size < wr.heap.size := by omega
      have hn20 : ks.length ≤ 1048576 := by rw [hkl]; omega
      clear hkl hks HB0
      go_wp2_with (go_at_call 9; fail)
      have hKS := fun W h => Mp.callKind_spec 13 ks ka kc W hn20 h
      generalize Mp.ckK 13 ks = ck at *
      refine (hKS _ hrio).mono ?_
      rintro e w1 ⟨rfl, hb1⟩
      have b1 : Below W0.heap.size W0 w1 := hbel.trans (hb1.mono hbs)
      have hs1 := b1.size
      have bw1 : Below w.heap.size w w1 := bww.trans (hb1.mono bww.size)
      clear hKS hrio hbel hb1 bww
      have q0 := (b1.cell (p := ⟨w.heap.size, 0, none⟩) hs0).trans q0
      have q1 := (b1.cell (p := ⟨w.heap.size, 1, none⟩) hs0).trans q1
      have q2 := (b1.cell (p := ⟨w.heap.size, 2, none⟩) hs0).trans q2
      have f0 := (b1.frozen (p := ⟨w.heap.size, 0, none⟩) hs0).trans f0
      have f1 := (b1.frozen (p := ⟨w.heap.size, 1, none⟩) hs0).trans f1
      have f2 := (b1.frozen (p := ⟨w.heap.size, 2, none⟩) hs0).trans f2
      have hy1 : w.heap.size < w1.heap.size := by omega
      go_wp2
      go_loopw [13, 74] (fun _ i wr => ∃ k : Nat, k ≤ ar.length ∧ i = .int .i64 k ∧ Below w1.heap.size w1 wr) (fun _ i _ => ar.length - (intOf i).toNat)
      case atStart => exact ⟨0, Nat.zero_le _, rfl, Below.refl _ _⟩
      case round =>
        obtain ⟨k, hk2, rfl, hb2⟩ := hrel
        have hs2 := hb2.size
        have bw2 : Below w.heap.size w wr := bw1.trans (hb2.mono bw1.size)
        by_cases hlt : k < ar.length
        · have hlti : (k : Int) < ar.length := by omega
          obtain ⟨g, o, rfl, hgg, hgc⟩ := HCE.out (by omega)
          obtain ⟨c0, c1, c2⟩ := hgc k hlt
          have d0 := (bw2.cell (p := ⟨g, o + k * 3, none⟩) hgg).trans c0
          have d1 := (bw2.cell (p := ⟨g, o + k * 3 + 1, none⟩) hgg).trans c1
          have d2 := (bw2.cell (p := ⟨g, o + k * 3 + 2, none⟩) hgg).trans c2
          have hnz := hnn.out ar[k] (List.getElem_mem hlt)
          clear c0 c1 c2 hgc hcells HCE hsz
          generalize ar[k] = t at *
          obtain ⟨tk, tn, ts⟩ := t
          simp only at d0 d1 d2 hnz
          go_wp2
          go_roundw
          case rel => exact ⟨k + 1, by omega, by go_num, (by (go_light; repeat (first | with_reducible assumption | with_reducible exact Below.refl _ _ | (with_reducible refine Below.setCell ?_ ?_ _; rotate_left; (focus first | (simp; done) | (simp; omega) | omega)) | (with_reducible refine Below.alloc ?_ ?_ _; rotate_left; (focus first | (simp; done) | (simp; omega) | omega)) | with_reducible refine Below.drew ?_)))⟩
          case measure => simp [intOf]; omega
        · have hkn : k = ar.length := by omega
          subst hkn
          have hlti : ¬ (ar.length : Int) < ar.length := by omega
          have p0 := (hb2.cell (p := ⟨w.heap.size, 0, none⟩) hy1).trans q0
          have p1 := (hb2.cell (p := ⟨w.heap.size, 1, none⟩) hy1).trans q1
          have p2 := (hb2.cell (p := ⟨w.heap.size, 2, none⟩) hy1).trans q2
          have j0 := (hb2.frozen (p := ⟨w.heap.size, 0, none⟩) hy1).trans f0
          have j1 := (hb2.frozen (p := ⟨w.heap.size, 1, none⟩) hy1).trans f1
          have j2 := (hb2.frozen (p := ⟨w.heap.size, 2, none⟩) hy1).trans f2
          have hy2 : w.heap.size < wr.heap.size := by omega
          have hlen : ar.length = 2 := by rw [har.out]; rfl
          have hl0 : (0 : Int) < ar.length := by omega
          have hl1 : 2 < 2 ∨ (1 : Int) < ar.length := by omega
          have hl2 : 2 < 3 ∨ (2 : Int) < ar.length := by omega
          obtain ⟨g, o, rfl, hgg, hgc⟩ := HCE.out (by omega)
          have G0 : ar[0]'(by omega) = (k0, n0, s0) := by simp only [har.out]; rfl
          obtain ⟨c00, c01, c02⟩ := hgc 0 (by omega)
          rw [G0] at c00 c01 c02
          have x00 := (bw2.cell (p := ⟨g, o + 0 * 3, none⟩) hgg).trans c00
          have x01 := (bw2.cell (p := ⟨g, o + 0 * 3 + 1, none⟩) hgg).trans c01
          have x02 := (bw2.cell (p := ⟨g, o + 0 * 3 + 2, none⟩) hgg).trans c02
          simp only [Nat.zero_mul, Nat.add_zero, Nat.one_mul, (by decide : 2 * 3 = 6)] at x00 x01 x02
          clear c00 c01 c02 G0
          have G1 : ar[1]'(by omega) = (k1, n1, s1) := by simp only [har.out]; rfl
          obtain ⟨c10, c11, c12⟩ := hgc 1 (by omega)
          rw [G1] at c10 c11 c12
          have x10 := (bw2.cell (p := ⟨g, o + 1 * 3, none⟩) hgg).trans c10
          have x11 := (bw2.cell (p := ⟨g, o + 1 * 3 + 1, none⟩) hgg).trans c11
          have x12 := (bw2.cell (p := ⟨g, o + 1 * 3 + 2, none⟩) hgg).trans c12
          simp only [Nat.zero_mul, Nat.add_zero, Nat.one_mul, (by decide : 2 * 3 = 6)] at x10 x11 x12
          clear c10 c11 c12 G1
          clear hlen
          simp only [(by decide : (1 < 2) = True), (by decide : (2 < 2) = False), (by decide : (3 < 2) = False), (by decide : (1 < 3) = True), (by decide : (2 < 3) = True), (by decide : (3 < 3) = False), true_or, false_or] at hl1 hl2
          have hgw : g < wr.heap.size := by have := bw2.size; omega
          clear hgc hcells HCE hsz b1 hb2 q0 q1 q2 f0 f1 f2 HR0
          have hc0 : decide (0 < c) = false := by simp; omega
          have hc1 : (c != 0) = true := by simp; omega
          have HGK : Hid _ := hCO
          go_upto_region 56 with fail
          go_cut [19, 20] from 190 to 197 (fun v19 v20 wx => v19 = .int .i64 c ∧ (∃ c2, v20 = .int .i64 c2) ∧ Below w.heap.size w wx ∧ Below wr.heap.size wr wx ∧ wx.cell? ⟨wr.heap.size, 0, none⟩ = some (.int .i64 k0) ∧ wx.cell? ⟨wr.heap.size, 1, none⟩ = some (.int .i64 n0) ∧ wx.cell? ⟨wr.heap.size, 2, none⟩ = some (.string s0) ∧ wr.heap.size < wx.heap.size)
          case first =>
            go_region_held3 (fun W => W.cell? ⟨wr.heap.size, 0, none⟩ = some (.int .i64 k0) ∧ W.cell? ⟨wr.heap.size, 1, none⟩ = some (.int .i64 n0) ∧ W.cell? ⟨wr.heap.size, 2, none⟩ = some (.string s0) ∧ W.cell? ⟨g, o + 3, none⟩ = some (.int .i64 k1) ∧ W.cell? ⟨g, o + 3 + 1, none⟩ = some (.int .i64 n1) ∧ W.cell? ⟨g, o + 3 + 2, none⟩ = some (.string s1)) (go_keep) (first | (go_at_call 78; refine (HGK.out _).mono ?_; rintro e w3 ⟨rfl, hb3⟩; obtain ⟨hc3, hf3⟩ := bcell hb3; have hz3 := hb3.size; simp at hz3; have y0 : w3.cell? ⟨wr.heap.size, 0, none⟩ = some (.int .i64 k0) := (hc3 _ _ (by simp)).trans (by go_keep); have y1 : w3.cell? ⟨wr.heap.size, 1, none⟩ = some (.int .i64 n0) := (hc3 _ _ (by simp)).trans (by go_keep); have y2 : w3.cell? ⟨wr.heap.size, 2, none⟩ = some (.string s0) := (hc3 _ _ (by simp)).trans (by go_keep); have y3 : w3.cell? ⟨g, o + 3, none⟩ = some (.int .i64 k1) := (hc3 _ _ (by simp; omega)).trans (by go_keep); have y4 : w3.cell? ⟨g, o + 3 + 1, none⟩ = some (.int .i64 n1) := (hc3 _ _ (by simp; omega)).trans (by go_keep); have y5 : w3.cell? ⟨g, o + 3 + 2, none⟩ = some (.string s1) := (hc3 _ _ (by simp; omega)).trans (by go_keep); have br3 : Below wr.heap.size wr w3 := Below.trans (by (go_light; repeat (first | with_reducible assumption | with_reducible exact Below.refl _ _ | (with_reducible refine Below.setCell ?_ ?_ _; rotate_left; (focus first | (simp; done) | (simp; omega) | omega)) | (with_reducible refine Below.alloc ?_ ?_ _; rotate_left; (focus first | (simp; done) | (simp; omega) | omega)) | with_reducible refine Below.drew ?_))) (hb3.mono (by simp)); have bw3 : Below w.heap.size w w3 := bw2.trans (br3.mono bw2.size)))
            all_goals
              go_wp2_with fail
              go_meet
              exact ⟨rfl, ⟨_, rfl⟩, (by (go_light; repeat (first | with_reducible assumption | with_reducible exact Below.refl _ _ | (with_reducible refine Below.setCell ?_ ?_ _; rotate_left; (focus first | (simp; done) | (simp; omega) | omega)) | (with_reducible refine Below.alloc ?_ ?_ _; rotate_left; (focus first | (simp; done) | (simp; omega) | omega)) | with_reducible refine Below.drew ?_))), (by (go_light; repeat (first | with_reducible assumption | with_reducible exact Below.refl _ _ | (with_reducible refine Below.setCell ?_ ?_ _; rotate_left; (focus first | (simp; done) | (simp; omega) | omega)) | (with_reducible refine Below.alloc ?_ ?_ _; rotate_left; (focus first | (simp; done) | (simp; omega) | omega)) | with_reducible refine Below.drew ?_))), by simp [go_sem, *], by simp [go_sem, *], by simp [go_sem, *], (by first | (simp; omega) | omega)⟩
          case rest =>
            obtain ⟨rfl, ⟨c2, rfl⟩, bwc, brc, y0, y1, y2, hzc⟩ := hcut
            have z0 := (brc.cell (p := ⟨w.heap.size, 0, none⟩) hy2).trans p0
            have z1 := (brc.cell (p := ⟨w.heap.size, 1, none⟩) hy2).trans p1
            have z2 := (brc.cell (p := ⟨w.heap.size, 2, none⟩) hy2).trans p2
            have i0' := (brc.frozen (p := ⟨w.heap.size, 0, none⟩) hy2).trans j0
            have i1' := (brc.frozen (p := ⟨w.heap.size, 1, none⟩) hy2).trans j1
            have i2' := (brc.frozen (p := ⟨w.heap.size, 2, none⟩) hy2).trans j2
            have x3 := (brc.cell (p := ⟨g, o + 3, none⟩) hgw).trans x10
            have x4 := (brc.cell (p := ⟨g, o + 3 + 1, none⟩) hgw).trans x11
            have x5 := (brc.cell (p := ⟨g, o + 3 + 2, none⟩) hgw).trans x12
            have hy3 : w.heap.size < wc.heap.size := by omega
            clear brc p0 p1 p2 j0 j1 j2
            go_wp2
            refine bodyPost_ret (v := tV k1 n1 s1 0) (by simp [results, Tryz.results33, go_sem, tV, z0, z1, z2, i0', i1', i2', hy3, x3, x4, x5, y0, y1, y2]) rfl ⟨rfl, ?_⟩
            exact (by (go_light; repeat (first | with_reducible assumption | with_reducible exact Below.refl _ _ | (with_reducible refine Below.setCell ?_ ?_ _; rotate_left; (focus first | (simp; done) | (simp; omega) | omega)) | (with_reducible refine Below.alloc ?_ ?_ _; rotate_left; (focus first | (simp; done) | (simp; omega) | omega)) | with_reducible refine Below.drew ?_)))

end Go.Proofs.YtdcdoeolaongkaaGreatDoor.Ca
namespace Go.Proofs.YtdcdoeolaongkaaGreatDoor.Ca
open Go.MapKept Go.ChangeMaps
open Go.ChangeShapes Go.WideShapes Go.ChangeAt Go.RowKit Go.Shelf
open Go.Proofs.YtdcdoeolaongkaaGreatDoor.Rd
set_option linter.unusedVariables false
set_option linter.unusedSimpArgs false
set_option maxRecDepth 100000
set_option maxHeartbeats 16000000 in
theorem callS_nullif_yes (k0 n0 : Int) (s0 : ByteArray) (k1 n1 : Int) (s1 : ByteArray) (ar : List TA) (a : Option Addr) (cap : Nat) (w : World) (h8 : ar.length ≤ 8) (hr : RVO w (.slice a ar.length cap) ar) (hsz : ∀ t ∈ ar, t.2.2.size ≤ 1048576) (hv : Hid (∀ t ∈ ar, vok t.1 t.2.1 t.2.2 = true)) (hck : Hid (¬ Mp.ckK 6 (kindsA ar) < 0)) (har : Hid (ar = [(k0, n0, s0), (k1, n1, s1)])) (hCO : ∀ W, Calls Tryz.prog 74 #[.int .i64 7, .agg #[.int .i64 k0, .int .i64 n0, .string s0], .agg #[.int .i64 k1, .int .i64 n1, .string s1]] W fun e w' => e = .returned (.tuple #[.agg #[.int .i64 4, .int .i64 1, .string ⟨#[]⟩], .int .i64 0]) ∧ Below W.heap.size W w') :
    Calls Tryz.prog 33 #[.int .i64 6, .slice a ar.length cap] w fun e w' => e = .returned (tV 0 0 ⟨#[]⟩ 0) ∧ Below w.heap.size w w' := by
  obtain ⟨i0, hi, hz0, hz1, hz2⟩ := info_parts info3
  have hrr := hr
  obtain ⟨a', cap', hsl, hcells⟩ := hr
  simp only [Value.slice.injEq] at hsl
  obtain ⟨rfl, _, rfl⟩ := hsl
  have h8i : ¬ (8 : Int) < ar.length := by omega
  have bw0 := below_alloc w (.cells #[.int .i64 0, .int .i64 0, .string ⟨#[]⟩] 29)
  have HCE : Hid _ := hcells
  clear hrr
  go_enter Tryz.func33, Tryz.ntmps33
  go_wp2
  generalize hW0 : w.alloc (.cells #[.int .i64 0, .int .i64 0, .string ⟨#[]⟩] 29) = W0 at *
  have hsE : W0.heap.size = w.heap.size + 1 := by rw [← hW0]; simp
  have HSE : Hid _ := hsE
  have hs0 : w.heap.size < W0.heap.size := by omega
  clear hsE
  have r0 : W0.cell? ⟨w.heap.size, 0, none⟩ = some (.int .i64 0) ∧ W0.cell? ⟨w.heap.size, 1, none⟩ = some (.int .i64 0) ∧ W0.cell? ⟨w.heap.size, 2, none⟩ = some (.string ⟨#[]⟩) ∧ W0.frozen? ⟨w.heap.size, 0, none⟩ = false ∧ W0.frozen? ⟨w.heap.size, 1, none⟩ = false ∧ W0.frozen? ⟨w.heap.size, 2, none⟩ = false := by
    rw [← hW0]; simp [go_sem]
  have HR0 : Hid _ := r0
  have HB0 : Hid (Below w.heap.size w W0) := bw0
  clear r0 bw0 hW0
  go_loopw [6, 8, 33] (fun kv _ i wr => ∃ k : Nat, k ≤ ar.length ∧ i = .int .i64 k ∧ OwnK W0.heap.size kv k (kindsA (ar.take k)) wr ∧ Below W0.heap.size W0 wr) (fun _ _ i _ => ar.length - (intOf i).toNat)
  case atStart =>
    refine ⟨0, Nat.zero_le _, rfl, ?_, (Below.refl _ _).alloc (Nat.le_refl _) _⟩
    rw [← HSE.out]
    exact World.ownsRow_made W0 #[] 0 (Nat.le_refl _) (by unfold maxLen; omega) (by simp)
  case round =>
    obtain ⟨k, hk, rfl, hoK, hbel⟩ := hrel
    have ho : wr.ownsRow W0.heap.size 3 1 _ k ((kindsA (ar.take k)).map (Value.int .i64)) := hoK
    clear hoK
    have hbs := hbel.size
    by_cases hlt : k < ar.length
    · have hlti : (k : Int) < ar.length := by omega
      obtain ⟨g, o, rfl, hgg, hgc⟩ := hcells (by omega)
      have bww : Below w.heap.size w wr := HB0.out.trans (hbel.mono (by omega))
      obtain ⟨c0, c1, c2⟩ := hgc k hlt
      have d0 := (bww.cell (p := ⟨g, o + k * 3, none⟩) hgg).trans c0
      have d1 := (bww.cell (p := ⟨g, o + k * 3 + 1, none⟩) hgg).trans c1
      have d2 := (bww.cell (p := ⟨g, o + k * 3 + 2, none⟩) hgg).trans c2
      have hsx := hsz ar[k] (List.getElem_mem hlt)
      have hvx := hv.out ar[k] (List.getElem_mem hlt)
      have HTK : Hid (ar.take (k + 1) = ar.take k ++ [ar[k]]) := take_snoc hlt
      clear c0 c1 c2 hgc hcells hsz HCE
      generalize ar[k] = t at *
      obtain ⟨tk, tn, ts⟩ := t
      simp only at d0 d1 d2 hsx
      have hVX := fun W => vok_spec tk tn ts W hsx
      rw [hvx] at hVX
      clear hvx
      go_wp2_with (first | (go_at_call 14; refine (hVX _).mono ?_; rintro e w1 ⟨rfl, hb1⟩; obtain ⟨hc1, hf1⟩ := bcell hb1; have hz1w : wr.heap.size < w1.heap.size := (by have := hb1.size; simp at this; omega); have bw1 : Below W0.heap.size W0 w1 := (hbel.alloc hbs _).trans (hb1.mono (by simp; omega)); have ho1 := own_below (ho.alloc _) hb1; have e0 : w1.cell? ⟨wr.heap.size, 0, none⟩ = some (.int .i64 tk) := (hc1 wr.heap.size 0 (by simp)).trans (by simp [go_sem])) | (at_builtin; refine wpList_append_own _ rfl (.tmp 41) (.tmp 44) 22 rfl W0.heap.size 3 i0 (.int .i64 0) 1 8 Tryz.underlying22 hi hz0 hz1 hz2 rfl (by decide) _ k ((kindsA (ar.take k)).map (Value.int .i64)) rfl (ho1.alloc _) ⟨w1.heap.size, 0, none⟩ 1 1 [.int .i64 tk] rfl rfl (cell_one_new _ _ _) (by intro u hu; simp at hu; subst hu; rfl) (by unfold maxLen; omega) (by omega) (by have := bw1.size; simp; omega) ?_; intro v' w2 hown' hgrow _; have bw2 : Below W0.heap.size W0 w2 := (bw1.alloc bw1.size _).grown hgrow (by have := bw1.size; simp; omega) (fun j hj => (ho1.lt j hj).1); have HOW : Hid (OwnK W0.heap.size v' (k + 1) (kindsA (ar.take (k + 1))) w2) := OwnK.of HTK.out hown'; clear hown' hgrow))
      go_roundw
      case rel => exact ⟨k + 1, by omega, by go_num, HOW.out, bw2⟩
      case measure => simp [intOf]; omega
    · have hkn : k = ar.length := by omega
      subst hkn
      have hlti : ¬ (ar.length : Int) < ar.length := by omega
      rw [List.take_length] at ho
      have hkl : (kindsA ar).length = ar.length := by simp [kindsA]
      rw [← hkl] at ho
      obtain ⟨ka, kc, rfl, hrio⟩ := own_rio ho
      clear ho
      have hck' := hck.out
      generalize hks : kindsA ar = ks at *
      have HKL : Hid (ks.length = ar.length) := hkl
      have bww : Below w.heap.size w wr := HB0.out.trans (hbel.mono (by omega))
      obtain ⟨q0, q1, q2, f0, f1, f2⟩ := HR0.out
      have hwr : w.heap.size < wr.heap.size := by omega
      have hn20 : ks.length ≤ 1048576 := by rw [hkl]; omega
      clear hkl hks HB0
      go_wp2_with (go_at_call 9; fail)
      have hKS := fun W h => Mp.callKind_spec 6 ks ka kc W hn20 h
      generalize Mp.ckK 6 ks = ck at *
      refine (hKS _ hrio).mono ?_
      rintro e w1 ⟨rfl, hb1⟩
      have b1 : Below W0.heap.size W0 w1 := hbel.trans (hb1.mono hbs)
      have hs1 := b1.size
      have bw1 : Below w.heap.size w w1 := bww.trans (hb1.mono bww.size)
      clear hKS hrio hbel hb1 bww
      have q0 := (b1.cell (p := ⟨w.heap.size, 0, none⟩) hs0).trans q0
      have q1 := (b1.cell (p := ⟨w.heap.size, 1, none⟩) hs0).trans q1
      have q2 := (b1.cell (p := ⟨w.heap.size, 2, none⟩) hs0).trans q2
      have f0 := (b1.frozen (p := ⟨w.heap.size, 0, none⟩) hs0).trans f0
      have f1 := (b1.frozen (p := ⟨w.heap.size, 1, none⟩) hs0).trans f1
      have f2 := (b1.frozen (p := ⟨w.heap.size, 2, none⟩) hs0).trans f2
      have hy1 : w.heap.size < w1.heap.size := by omega
      have hlen : ar.length = 2 := by rw [har.out]; rfl
      have hl0 : (0 : Int) < ar.length := by omega
      have hl1 : (1 : Int) < ar.length := by omega
      obtain ⟨g, o, rfl, hgg, hgc⟩ := HCE.out (by omega)
      have G0 : ar[0]'(by omega) = (k0, n0, s0) := by simp only [har.out]; rfl
      obtain ⟨c00, c01, c02⟩ := hgc 0 (by omega)
      rw [G0] at c00 c01 c02
      have x00 := (bw1.cell (p := ⟨g, o + 0 * 3, none⟩) hgg).trans c00
      have x01 := (bw1.cell (p := ⟨g, o + 0 * 3 + 1, none⟩) hgg).trans c01
      have x02 := (bw1.cell (p := ⟨g, o + 0 * 3 + 2, none⟩) hgg).trans c02
      simp only [Nat.zero_mul, Nat.add_zero, Nat.one_mul, (by decide : 2 * 3 = 6)] at x00 x01 x02
      clear c00 c01 c02 G0
      have G1 : ar[1]'(by omega) = (k1, n1, s1) := by simp only [har.out]; rfl
      obtain ⟨c10, c11, c12⟩ := hgc 1 (by omega)
      rw [G1] at c10 c11 c12
      have x10 := (bw1.cell (p := ⟨g, o + 1 * 3, none⟩) hgg).trans c10
      have x11 := (bw1.cell (p := ⟨g, o + 1 * 3 + 1, none⟩) hgg).trans c11
      have x12 := (bw1.cell (p := ⟨g, o + 1 * 3 + 2, none⟩) hgg).trans c12
      simp only [Nat.zero_mul, Nat.add_zero, Nat.one_mul, (by decide : 2 * 3 = 6)] at x10 x11 x12
      clear c10 c11 c12 G1
      clear hlen
      have hgw : g < w1.heap.size := by have := bw1.size; omega
      clear hgc hcells HCE hsz HR0
      have HGK : Hid _ := hCO
      clear hCO
      go_upto_region 15 with fail
      go_cut [10, 11] from 55 to 64 (fun v10 v11 wx => ∃ b, v10 = .pointer (some ⟨b, 0, none⟩) ∧ (∃ c2, v11 = .int .i64 c2) ∧ w1.heap.size ≤ b ∧ b < wx.heap.size ∧ wx.cell? ⟨b, 0, none⟩ = some (.int .i64 4) ∧ wx.cell? ⟨b, 1, none⟩ = some (.int .i64 1) ∧ wx.cell? ⟨b, 2, none⟩ = some (.string ⟨#[]⟩) ∧ Below w1.heap.size w1 wx)
      case first =>
        have hne : w1.heap.size ≠ g := by omega
        go_region_held (fun W => W.cell? ⟨g, o, none⟩ = some (.int .i64 k0) ∧ W.cell? ⟨g, o + 1, none⟩ = some (.int .i64 n0) ∧ W.cell? ⟨g, o + 2, none⟩ = some (.string s0) ∧ W.cell? ⟨g, o + 3, none⟩ = some (.int .i64 k1) ∧ W.cell? ⟨g, o + 3 + 1, none⟩ = some (.int .i64 n1) ∧ W.cell? ⟨g, o + 3 + 2, none⟩ = some (.string s1)) (go_keep) (first | (go_at_call 74; refine (HGK.out _).mono ?_; rintro e w3 ⟨rfl, hb3⟩; obtain ⟨hc3, hf3⟩ := bcell hb3; have hz3 := hb3.size; simp at hz3; have hne3 : w3.heap.size ≠ g := (by omega); have y0 : w3.cell? ⟨g, o, none⟩ = some (.int .i64 k0) := (hc3 _ _ (by simp; omega)).trans (by go_keep); have y1 : w3.cell? ⟨g, o + 1, none⟩ = some (.int .i64 n0) := (hc3 _ _ (by simp; omega)).trans (by go_keep); have y2 : w3.cell? ⟨g, o + 2, none⟩ = some (.string s0) := (hc3 _ _ (by simp; omega)).trans (by go_keep); have y3 : w3.cell? ⟨g, o + 3, none⟩ = some (.int .i64 k1) := (hc3 _ _ (by simp; omega)).trans (by go_keep); have y4 : w3.cell? ⟨g, o + 3 + 1, none⟩ = some (.int .i64 n1) := (hc3 _ _ (by simp; omega)).trans (by go_keep); have y5 : w3.cell? ⟨g, o + 3 + 2, none⟩ = some (.string s1) := (hc3 _ _ (by simp; omega)).trans (by go_keep); have br3 : Below w1.heap.size w1 w3 := Below.trans (by (go_light; repeat (first | with_reducible assumption | with_reducible exact Below.refl _ _ | (with_reducible refine Below.setCell ?_ ?_ _; rotate_left; (focus first | (simp; done) | (simp; omega) | omega)) | (with_reducible refine Below.alloc ?_ ?_ _; rotate_left; (focus first | (simp; done) | (simp; omega) | omega)) | with_reducible refine Below.drew ?_))) (hb3.mono (by simp))))
        all_goals
          go_wp2_with fail
          go_meet
          first
            | exact ⟨w3.heap.size, rfl, ⟨_, rfl⟩, (by omega), (by first | (simp; done) | (simp; omega)), by simp [go_sem], by simp [go_sem], by simp [go_sem], (by (go_light; repeat (first | with_reducible assumption | with_reducible exact Below.refl _ _ | (with_reducible refine Below.setCell ?_ ?_ _; rotate_left; (focus first | (simp; done) | (simp; omega) | omega)) | (with_reducible refine Below.alloc ?_ ?_ _; rotate_left; (focus first | (simp; done) | (simp; omega) | omega)) | with_reducible refine Below.drew ?_)))⟩
            | exact ⟨w1.heap.size, rfl, ⟨_, rfl⟩, (by omega), (by first | (simp; done) | (simp; omega)), by simp [go_sem, hc3], by simp [go_sem, hc3], by simp [go_sem, hc3], (by (go_light; repeat (first | with_reducible assumption | with_reducible exact Below.refl _ _ | (with_reducible refine Below.setCell ?_ ?_ _; rotate_left; (focus first | (simp; done) | (simp; omega) | omega)) | (with_reducible refine Below.alloc ?_ ?_ _; rotate_left; (focus first | (simp; done) | (simp; omega) | omega)) | with_reducible refine Below.drew ?_)))⟩
      case rest =>
        obtain ⟨b, rfl, ⟨c2, rfl⟩, hb1, hb2, y0, y1, y2, brc⟩ := hcut
        have z0 := (brc.cell (p := ⟨w.heap.size, 0, none⟩) hy1).trans q0
        have z1 := (brc.cell (p := ⟨w.heap.size, 1, none⟩) hy1).trans q1
        have z2 := (brc.cell (p := ⟨w.heap.size, 2, none⟩) hy1).trans q2
        have i0' := (brc.frozen (p := ⟨w.heap.size, 0, none⟩) hy1).trans f0
        have i1' := (brc.frozen (p := ⟨w.heap.size, 1, none⟩) hy1).trans f1
        have i2' := (brc.frozen (p := ⟨w.heap.size, 2, none⟩) hy1).trans f2
        have x3 := (brc.cell (p := ⟨g, o, none⟩) hgw).trans x00
        have x4 := (brc.cell (p := ⟨g, o + 1, none⟩) hgw).trans x01
        have x5 := (brc.cell (p := ⟨g, o + 2, none⟩) hgw).trans x02
        have hy3 : w.heap.size < wc.heap.size := by omega
        have bwc : Below w.heap.size w wc := bw1.trans (brc.mono bw1.size)
        clear brc q0 q1 q2 f0 f1 f2
        go_wp2
        refine bodyPost_ret (v := tV 0 0 ⟨#[]⟩ 0) (by simp [results, Tryz.results33, go_sem, tV, z0, z1, z2, i0', i1', i2', hy3, x3, x4, x5]) rfl ⟨rfl, ?_⟩
        exact (by (go_light; repeat (first | with_reducible assumption | with_reducible exact Below.refl _ _ | (with_reducible refine Below.setCell ?_ ?_ _; rotate_left; (focus first | (simp; done) | (simp; omega) | omega)) | (with_reducible refine Below.alloc ?_ ?_ _; rotate_left; (focus first | (simp; done) | (simp; omega) | omega)) | with_reducible refine Below.drew ?_)))
set_option maxHeartbeats 16000000 in
theorem callS_nullif_no (k0 n0 : Int) (s0 : ByteArray) (k1 n1 : Int) (s1 : ByteArray) (ar : List TA) (a : Option Addr) (cap : Nat) (w : World) (h8 : ar.length ≤ 8) (hr : RVO w (.slice a ar.length cap) ar) (hsz : ∀ t ∈ ar, t.2.2.size ≤ 1048576) (hv : Hid (∀ t ∈ ar, vok t.1 t.2.1 t.2.2 = true)) (hck : Hid (¬ Mp.ckK 6 (kindsA ar) < 0)) (har : Hid (ar = [(k0, n0, s0), (k1, n1, s1)])) (hCO : ∀ W, Calls Tryz.prog 74 #[.int .i64 7, .agg #[.int .i64 k0, .int .i64 n0, .string s0], .agg #[.int .i64 k1, .int .i64 n1, .string s1]] W fun e w' => e = .returned (.tuple #[.agg #[.int .i64 4, .int .i64 0, .string ⟨#[]⟩], .int .i64 0]) ∧ Below W.heap.size W w') :
    Calls Tryz.prog 33 #[.int .i64 6, .slice a ar.length cap] w fun e w' => e = .returned (tV k0 n0 s0 0) ∧ Below w.heap.size w w' := by
  obtain ⟨i0, hi, hz0, hz1, hz2⟩ := info_parts info3
  have hrr := hr
  obtain ⟨a', cap', hsl, hcells⟩ := hr
  simp only [Value.slice.injEq] at hsl
  obtain ⟨rfl, _, rfl⟩ := hsl
  have h8i : ¬ (8 : Int) < ar.length := by omega
  have bw0 := below_alloc w (.cells #[.int .i64 0, .int .i64 0, .string ⟨#[]⟩] 29)
  have HCE : Hid _ := hcells
  clear hrr
  go_enter Tryz.func33, Tryz.ntmps33
  go_wp2
  generalize hW0 : w.alloc (.cells #[.int .i64 0, .int .i64 0, .string ⟨#[]⟩] 29) = W0 at *
  have hsE : W0.heap.size = w.heap.size + 1 := by rw [← hW0]; simp
  have HSE : Hid _ := hsE
  have hs0 : w.heap.size < W0.heap.size := by omega
  clear hsE
  have r0 : W0.cell? ⟨w.heap.size, 0, none⟩ = some (.int .i64 0) ∧ W0.cell? ⟨w.heap.size, 1, none⟩ = some (.int .i64 0) ∧ W0.cell? ⟨w.heap.size, 2, none⟩ = some (.string ⟨#[]⟩) ∧ W0.frozen? ⟨w.heap.size, 0, none⟩ = false ∧ W0.frozen? ⟨w.heap.size, 1, none⟩ = false ∧ W0.frozen? ⟨w.heap.size, 2, none⟩ = false := by
    rw [← hW0]; simp [go_sem]
  have HR0 : Hid _ := r0
  have HB0 : Hid (Below w.heap.size w W0) := bw0
  clear r0 bw0 hW0
  go_loopw [6, 8, 33] (fun kv _ i wr => ∃ k : Nat, k ≤ ar.length ∧ i = .int .i64 k ∧ OwnK W0.heap.size kv k (kindsA (ar.take k)) wr ∧ Below W0.heap.size W0 wr) (fun _ _ i _ => ar.length - (intOf i).toNat)
  case atStart =>
    refine ⟨0, Nat.zero_le _, rfl, ?_, (Below.refl _ _).alloc (Nat.le_refl _) _⟩
    rw [← HSE.out]
    exact World.ownsRow_made W0 #[] 0 (Nat.le_refl _) (by unfold maxLen; omega) (by simp)
  case round =>
    obtain ⟨k, hk, rfl, hoK, hbel⟩ := hrel
    have ho : wr.ownsRow W0.heap.size 3 1 _ k ((kindsA (ar.take k)).map (Value.int .i64)) := hoK
    clear hoK
    have hbs := hbel.size
    by_cases hlt : k < ar.length
    · have hlti : (k : Int) < ar.length := by omega
      obtain ⟨g, o, rfl, hgg, hgc⟩ := hcells (by omega)
      have bww : Below w.heap.size w wr := HB0.out.trans (hbel.mono (by omega))
      obtain ⟨c0, c1, c2⟩ := hgc k hlt
      have d0 := (bww.cell (p := ⟨g, o + k * 3, none⟩) hgg).trans c0
      have d1 := (bww.cell (p := ⟨g, o + k * 3 + 1, none⟩) hgg).trans c1
      have d2 := (bww.cell (p := ⟨g, o + k * 3 + 2, none⟩) hgg).trans c2
      have hsx := hsz ar[k] (List.getElem_mem hlt)
      have hvx := hv.out ar[k] (List.getElem_mem hlt)
      have HTK : Hid (ar.take (k + 1) = ar.take k ++ [ar[k]]) := take_snoc hlt
      clear c0 c1 c2 hgc hcells hsz HCE
      generalize ar[k] = t at *
      obtain ⟨tk, tn, ts⟩ := t
      simp only at d0 d1 d2 hsx
      have hVX := fun W => vok_spec tk tn ts W hsx
      rw [hvx] at hVX
      clear hvx
      go_wp2_with (first | (go_at_call 14; refine (hVX _).mono ?_; rintro e w1 ⟨rfl, hb1⟩; obtain ⟨hc1, hf1⟩ := bcell hb1; have hz1w : wr.heap.size < w1.heap.size := (by have := hb1.size; simp at this; omega); have bw1 : Below W0.heap.size W0 w1 := (hbel.alloc hbs _).trans (hb1.mono (by simp; omega)); have ho1 := own_below (ho.alloc _) hb1; have e0 : w1.cell? ⟨wr.heap.size, 0, none⟩ = some (.int .i64 tk) := (hc1 wr.heap.size 0 (by simp)).trans (by simp [go_sem])) | (at_builtin; refine wpList_append_own _ rfl (.tmp 41) (.tmp 44) 22 rfl W0.heap.size 3 i0 (.int .i64 0) 1 8 Tryz.underlying22 hi hz0 hz1 hz2 rfl (by decide) _ k ((kindsA (ar.take k)).map (Value.int .i64)) rfl (ho1.alloc _) ⟨w1.heap.size, 0, none⟩ 1 1 [.int .i64 tk] rfl rfl (cell_one_new _ _ _) (by intro u hu; simp at hu; subst hu; rfl) (by unfold maxLen; omega) (by omega) (by have := bw1.size; simp; omega) ?_; intro v' w2 hown' hgrow _; have bw2 : Below W0.heap.size W0 w2 := (bw1.alloc bw1.size _).grown hgrow (by have := bw1.size; simp; omega) (fun j hj => (ho1.lt j hj).1); have HOW : Hid (OwnK W0.heap.size v' (k + 1) (kindsA (ar.take (k + 1))) w2) := OwnK.of HTK.out hown'; clear hown' hgrow))
      go_roundw
      case rel => exact ⟨k + 1, by omega, by go_num, HOW.out, bw2⟩
      case measure => simp [intOf]; omega
    · have hkn : k = ar.length := by omega
      subst hkn
      have hlti : ¬ (ar.length : Int) < ar.length := by omega
      rw [List.take_length] at ho
      have hkl : (kindsA ar).length = ar.length := by simp [kindsA]
      rw [← hkl] at ho
      obtain ⟨ka, kc, rfl, hrio⟩ := own_rio ho
      clear ho
      have hck' := hck.out
      generalize hks : kindsA ar = ks at *
      have HKL : Hid (ks.length = ar.length) := hkl
      have bww : Below w.heap.size w wr := HB0.out.trans (hbel.mono (by omega))
      obtain ⟨q0, q1, q2, f0, f1, f2⟩ := HR0.out
      have hwr : w.heap.size < wr.heap.size := by omega
      have hn20 : ks.length ≤ 1048576 := by rw [hkl]; omega
      clear hkl hks HB0
      go_wp2_with (go_at_call 9; fail)
      have hKS := fun W h => Mp.callKind_spec 6 ks ka kc W hn20 h
      generalize Mp.ckK 6 ks = ck at *
      refine (hKS _ hrio).mono ?_
      rintro e w1 ⟨rfl, hb1⟩
      have b1 : Below W0.heap.size W0 w1 := hbel.trans (hb1.mono hbs)
      have hs1 := b1.size
      have bw1 : Below w.heap.size w w1 := bww.trans (hb1.mono bww.size)
      clear hKS hrio hbel hb1 bww
      have q0 := (b1.cell (p := ⟨w.heap.size, 0, none⟩) hs0).trans q0
      have q1 := (b1.cell (p := ⟨w.heap.size, 1, none⟩) hs0).trans q1
      have q2 := (b1.cell (p := ⟨w.heap.size, 2, none⟩) hs0).trans q2
      have f0 := (b1.frozen (p := ⟨w.heap.size, 0, none⟩) hs0).trans f0
      have f1 := (b1.frozen (p := ⟨w.heap.size, 1, none⟩) hs0).trans f1
      have f2 := (b1.frozen (p := ⟨w.heap.size, 2, none⟩) hs0).trans f2
      have hy1 : w.heap.size < w1.heap.size := by omega
      have hlen : ar.length = 2 := by rw [har.out]; rfl
      have hl0 : (0 : Int) < ar.length := by omega
      have hl1 : (1 : Int) < ar.length := by omega
      obtain ⟨g, o, rfl, hgg, hgc⟩ := HCE.out (by omega)
      have G0 : ar[0]'(by omega) = (k0, n0, s0) := by simp only [har.out]; rfl
      obtain ⟨c00, c01, c02⟩ := hgc 0 (by omega)
      rw [G0] at c00 c01 c02
      have x00 := (bw1.cell (p := ⟨g, o + 0 * 3, none⟩) hgg).trans c00
      have x01 := (bw1.cell (p := ⟨g, o + 0 * 3 + 1, none⟩) hgg).trans c01
      have x02 := (bw1.cell (p := ⟨g, o + 0 * 3 + 2, none⟩) hgg).trans c02
      simp only [Nat.zero_mul, Nat.add_zero, Nat.one_mul, (by decide : 2 * 3 = 6)] at x00 x01 x02
      clear c00 c01 c02 G0
      have G1 : ar[1]'(by omega) = (k1, n1, s1) := by simp only [har.out]; rfl
      obtain ⟨c10, c11, c12⟩ := hgc 1 (by omega)
      rw [G1] at c10 c11 c12
      have x10 := (bw1.cell (p := ⟨g, o + 1 * 3, none⟩) hgg).trans c10
      have x11 := (bw1.cell (p := ⟨g, o + 1 * 3 + 1, none⟩) hgg).trans c11
      have x12 := (bw1.cell (p := ⟨g, o + 1 * 3 + 2, none⟩) hgg).trans c12
      simp only [Nat.zero_mul, Nat.add_zero, Nat.one_mul, (by decide : 2 * 3 = 6)] at x10 x11 x12
      clear c10 c11 c12 G1
      clear hlen
      have hgw : g < w1.heap.size := by have := bw1.size; omega
      clear hgc hcells HCE hsz HR0
      have HGK : Hid _ := hCO
      clear hCO
      go_upto_region 15 with fail
      go_cut [10, 11] from 55 to 64 (fun v10 v11 wx => ∃ b, v10 = .pointer (some ⟨b, 0, none⟩) ∧ (∃ c2, v11 = .int .i64 c2) ∧ w1.heap.size ≤ b ∧ b < wx.heap.size ∧ wx.cell? ⟨b, 0, none⟩ = some (.int .i64 4) ∧ wx.cell? ⟨b, 1, none⟩ = some (.int .i64 0) ∧ wx.cell? ⟨b, 2, none⟩ = some (.string ⟨#[]⟩) ∧ Below w1.heap.size w1 wx)
      case first =>
        have hne : w1.heap.size ≠ g := by omega
        go_region_held (fun W => W.cell? ⟨g, o, none⟩ = some (.int .i64 k0) ∧ W.cell? ⟨g, o + 1, none⟩ = some (.int .i64 n0) ∧ W.cell? ⟨g, o + 2, none⟩ = some (.string s0) ∧ W.cell? ⟨g, o + 3, none⟩ = some (.int .i64 k1) ∧ W.cell? ⟨g, o + 3 + 1, none⟩ = some (.int .i64 n1) ∧ W.cell? ⟨g, o + 3 + 2, none⟩ = some (.string s1)) (go_keep) (first | (go_at_call 74; refine (HGK.out _).mono ?_; rintro e w3 ⟨rfl, hb3⟩; obtain ⟨hc3, hf3⟩ := bcell hb3; have hz3 := hb3.size; simp at hz3; have hne3 : w3.heap.size ≠ g := (by omega); have y0 : w3.cell? ⟨g, o, none⟩ = some (.int .i64 k0) := (hc3 _ _ (by simp; omega)).trans (by go_keep); have y1 : w3.cell? ⟨g, o + 1, none⟩ = some (.int .i64 n0) := (hc3 _ _ (by simp; omega)).trans (by go_keep); have y2 : w3.cell? ⟨g, o + 2, none⟩ = some (.string s0) := (hc3 _ _ (by simp; omega)).trans (by go_keep); have y3 : w3.cell? ⟨g, o + 3, none⟩ = some (.int .i64 k1) := (hc3 _ _ (by simp; omega)).trans (by go_keep); have y4 : w3.cell? ⟨g, o + 3 + 1, none⟩ = some (.int .i64 n1) := (hc3 _ _ (by simp; omega)).trans (by go_keep); have y5 : w3.cell? ⟨g, o + 3 + 2, none⟩ = some (.string s1) := (hc3 _ _ (by simp; omega)).trans (by go_keep); have br3 : Below w1.heap.size w1 w3 := Below.trans (by (go_light; repeat (first | with_reducible assumption | with_reducible exact Below.refl _ _ | (with_reducible refine Below.setCell ?_ ?_ _; rotate_left; (focus first | (simp; done) | (simp; omega) | omega)) | (with_reducible refine Below.alloc ?_ ?_ _; rotate_left; (focus first | (simp; done) | (simp; omega) | omega)) | with_reducible refine Below.drew ?_))) (hb3.mono (by simp))))
        all_goals
          go_wp2_with fail
          go_meet
          first
            | exact ⟨w3.heap.size, rfl, ⟨_, rfl⟩, (by omega), (by first | (simp; done) | (simp; omega)), by simp [go_sem], by simp [go_sem], by simp [go_sem], (by (go_light; repeat (first | with_reducible assumption | with_reducible exact Below.refl _ _ | (with_reducible refine Below.setCell ?_ ?_ _; rotate_left; (focus first | (simp; done) | (simp; omega) | omega)) | (with_reducible refine Below.alloc ?_ ?_ _; rotate_left; (focus first | (simp; done) | (simp; omega) | omega)) | with_reducible refine Below.drew ?_)))⟩
            | exact ⟨w1.heap.size, rfl, ⟨_, rfl⟩, (by omega), (by first | (simp; done) | (simp; omega)), by simp [go_sem, hc3], by simp [go_sem, hc3], by simp [go_sem, hc3], (by (go_light; repeat (first | with_reducible assumption | with_reducible exact Below.refl _ _ | (with_reducible refine Below.setCell ?_ ?_ _; rotate_left; (focus first | (simp; done) | (simp; omega) | omega)) | (with_reducible refine Below.alloc ?_ ?_ _; rotate_left; (focus first | (simp; done) | (simp; omega) | omega)) | with_reducible refine Below.drew ?_)))⟩
      case rest =>
        obtain ⟨b, rfl, ⟨c2, rfl⟩, hb1, hb2, y0, y1, y2, brc⟩ := hcut
        have z0 := (brc.cell (p := ⟨w.heap.size, 0, none⟩) hy1).trans q0
        have z1 := (brc.cell (p := ⟨w.heap.size, 1, none⟩) hy1).trans q1
        have z2 := (brc.cell (p := ⟨w.heap.size, 2, none⟩) hy1).trans q2
        have i0' := (brc.frozen (p := ⟨w.heap.size, 0, none⟩) hy1).trans f0
        have i1' := (brc.frozen (p := ⟨w.heap.size, 1, none⟩) hy1).trans f1
        have i2' := (brc.frozen (p := ⟨w.heap.size, 2, none⟩) hy1).trans f2
        have x3 := (brc.cell (p := ⟨g, o, none⟩) hgw).trans x00
        have x4 := (brc.cell (p := ⟨g, o + 1, none⟩) hgw).trans x01
        have x5 := (brc.cell (p := ⟨g, o + 2, none⟩) hgw).trans x02
        have hy3 : w.heap.size < wc.heap.size := by omega
        have bwc : Below w.heap.size w wc := bw1.trans (brc.mono bw1.size)
        clear brc q0 q1 q2 f0 f1 f2
        go_wp2
        refine bodyPost_ret (v := tV k0 n0 s0 0) (by simp [results, Tryz.results33, go_sem, tV, z0, z1, z2, i0', i1', i2', hy3, x3, x4, x5]) rfl ⟨rfl, ?_⟩
        exact (by (go_light; repeat (first | with_reducible assumption | with_reducible exact Below.refl _ _ | (with_reducible refine Below.setCell ?_ ?_ _; rotate_left; (focus first | (simp; done) | (simp; omega) | omega)) | (with_reducible refine Below.alloc ?_ ?_ _; rotate_left; (focus first | (simp; done) | (simp; omega) | omega)) | with_reducible refine Below.drew ?_)))
set_option maxHeartbeats 16000000 in
theorem callS_nullif_null (k0 n0 : Int) (s0 : ByteArray) (k1 n1 : Int) (s1 : ByteArray) (ar : List TA) (a : Option Addr) (cap : Nat) (w : World) (h8 : ar.length ≤ 8) (hr : RVO w (.slice a ar.length cap) ar) (hsz : ∀ t ∈ ar, t.2.2.size ≤ 1048576) (hv : Hid (∀ t ∈ ar, vok t.1 t.2.1 t.2.2 = true)) (hck : Hid (¬ Mp.ckK 6 (kindsA ar) < 0)) (har : Hid (ar = [(k0, n0, s0), (k1, n1, s1)])) (hCO : ∀ W, Calls Tryz.prog 74 #[.int .i64 7, .agg #[.int .i64 k0, .int .i64 n0, .string s0], .agg #[.int .i64 k1, .int .i64 n1, .string s1]] W fun e w' => e = .returned (.tuple #[.agg #[.int .i64 0, .int .i64 0, .string ⟨#[]⟩], .int .i64 0]) ∧ Below W.heap.size W w') :
    Calls Tryz.prog 33 #[.int .i64 6, .slice a ar.length cap] w fun e w' => e = .returned (tV k0 n0 s0 0) ∧ Below w.heap.size w w' := by
  obtain ⟨i0, hi, hz0, hz1, hz2⟩ := info_parts info3
  have hrr := hr
  obtain ⟨a', cap', hsl, hcells⟩ := hr
  simp only [Value.slice.injEq] at hsl
  obtain ⟨rfl, _, rfl⟩ := hsl
  have h8i : ¬ (8 : Int) < ar.length := by omega
  have bw0 := below_alloc w (.cells #[.int .i64 0, .int .i64 0, .string ⟨#[]⟩] 29)
  have HCE : Hid _ := hcells
  clear hrr
  go_enter Tryz.func33, Tryz.ntmps33
  go_wp2
  generalize hW0 : w.alloc (.cells #[.int .i64 0, .int .i64 0, .string ⟨#[]⟩] 29) = W0 at *
  have hsE : W0.heap.size = w.heap.size + 1 := by rw [← hW0]; simp
  have HSE : Hid _ := hsE
  have hs0 : w.heap.size < W0.heap.size := by omega
  clear hsE
  have r0 : W0.cell? ⟨w.heap.size, 0, none⟩ = some (.int .i64 0) ∧ W0.cell? ⟨w.heap.size, 1, none⟩ = some (.int .i64 0) ∧ W0.cell? ⟨w.heap.size, 2, none⟩ = some (.string ⟨#[]⟩) ∧ W0.frozen? ⟨w.heap.size, 0, none⟩ = false ∧ W0.frozen? ⟨w.heap.size, 1, none⟩ = false ∧ W0.frozen? ⟨w.heap.size, 2, none⟩ = false := by
    rw [← hW0]; simp [go_sem]
  have HR0 : Hid _ := r0
  have HB0 : Hid (Below w.heap.size w W0) := bw0
  clear r0 bw0 hW0
  go_loopw [6, 8, 33] (fun kv _ i wr => ∃ k : Nat, k ≤ ar.length ∧ i = .int .i64 k ∧ OwnK W0.heap.size kv k (kindsA (ar.take k)) wr ∧ Below W0.heap.size W0 wr) (fun _ _ i _ => ar.length - (intOf i).toNat)
  case atStart =>
    refine ⟨0, Nat.zero_le _, rfl, ?_, (Below.refl _ _).alloc (Nat.le_refl _) _⟩
    rw [← HSE.out]
    exact World.ownsRow_made W0 #[] 0 (Nat.le_refl _) (by unfold maxLen; omega) (by simp)
  case round =>
    obtain ⟨k, hk, rfl, hoK, hbel⟩ := hrel
    have ho : wr.ownsRow W0.heap.size 3 1 _ k ((kindsA (ar.take k)).map (Value.int .i64)) := hoK
    clear hoK
    have hbs := hbel.size
    by_cases hlt : k < ar.length
    · have hlti : (k : Int) < ar.length := by omega
      obtain ⟨g, o, rfl, hgg, hgc⟩ := hcells (by omega)
      have bww : Below w.heap.size w wr := HB0.out.trans (hbel.mono (by omega))
      obtain ⟨c0, c1, c2⟩ := hgc k hlt
      have d0 := (bww.cell (p := ⟨g, o + k * 3, none⟩) hgg).trans c0
      have d1 := (bww.cell (p := ⟨g, o + k * 3 + 1, none⟩) hgg).trans c1
      have d2 := (bww.cell (p := ⟨g, o + k * 3 + 2, none⟩) hgg).trans c2
      have hsx := hsz ar[k] (List.getElem_mem hlt)
      have hvx := hv.out ar[k] (List.getElem_mem hlt)
      have HTK : Hid (ar.take (k + 1) = ar.take k ++ [ar[k]]) := take_snoc hlt
      clear c0 c1 c2 hgc hcells hsz HCE
      generalize ar[k] = t at *
      obtain ⟨tk, tn, ts⟩ := t
      simp only at d0 d1 d2 hsx
      have hVX := fun W => vok_spec tk tn ts W hsx
      rw [hvx] at hVX
      clear hvx
      go_wp2_with (first | (go_at_call 14; refine (hVX _).mono ?_; rintro e w1 ⟨rfl, hb1⟩; obtain ⟨hc1, hf1⟩ := bcell hb1; have hz1w : wr.heap.size < w1.heap.size := (by have := hb1.size; simp at this; omega); have bw1 : Below W0.heap.size W0 w1 := (hbel.alloc hbs _).trans (hb1.mono (by simp; omega)); have ho1 := own_below (ho.alloc _) hb1; have e0 : w1.cell? ⟨wr.heap.size, 0, none⟩ = some (.int .i64 tk) := (hc1 wr.heap.size 0 (by simp)).trans (by simp [go_sem])) | (at_builtin; refine wpList_append_own _ rfl (.tmp 41) (.tmp 44) 22 rfl W0.heap.size 3 i0 (.int .i64 0) 1 8 Tryz.underlying22 hi hz0 hz1 hz2 rfl (by decide) _ k ((kindsA (ar.take k)).map (Value.int .i64)) rfl (ho1.alloc _) ⟨w1.heap.size, 0, none⟩ 1 1 [.int .i64 tk] rfl rfl (cell_one_new _ _ _) (by intro u hu; simp at hu; subst hu; rfl) (by unfold maxLen; omega) (by omega) (by have := bw1.size; simp; omega) ?_; intro v' w2 hown' hgrow _; have bw2 : Below W0.heap.size W0 w2 := (bw1.alloc bw1.size _).grown hgrow (by have := bw1.size; simp; omega) (fun j hj => (ho1.lt j hj).1); have HOW : Hid (OwnK W0.heap.size v' (k + 1) (kindsA (ar.take (k + 1))) w2) := OwnK.of HTK.out hown'; clear hown' hgrow))
      go_roundw
      case rel => exact ⟨k + 1, by omega, by go_num, HOW.out, bw2⟩
      case measure => simp [intOf]; omega
    · have hkn : k = ar.length := by omega
      subst hkn
      have hlti : ¬ (ar.length : Int) < ar.length := by omega
      rw [List.take_length] at ho
      have hkl : (kindsA ar).length = ar.length := by simp [kindsA]
      rw [← hkl] at ho
      obtain ⟨ka, kc, rfl, hrio⟩ := own_rio ho
      clear ho
      have hck' := hck.out
      generalize hks : kindsA ar = ks at *
      have HKL : Hid (ks.length = ar.length) := hkl
      have bww : Below w.heap.size w wr := HB0.out.trans (hbel.mono (by omega))
      obtain ⟨q0, q1, q2, f0, f1, f2⟩ := HR0.out
      have hwr : w.heap.size < wr.heap.size := by omega
      have hn20 : ks.length ≤ 1048576 := by rw [hkl]; omega
      clear hkl hks HB0
      go_wp2_with (go_at_call 9; fail)
      have hKS := fun W h => Mp.callKind_spec 6 ks ka kc W hn20 h
      generalize Mp.ckK 6 ks = ck at *
      refine (hKS _ hrio).mono ?_
      rintro e w1 ⟨rfl, hb1⟩
      have b1 : Below W0.heap.size W0 w1 := hbel.trans (hb1.mono hbs)
      have hs1 := b1.size
      have bw1 : Below w.heap.size w w1 := bww.trans (hb1.mono bww.size)
      clear hKS hrio hbel hb1 bww
      have q0 := (b1.cell (p := ⟨w.heap.size, 0, none⟩) hs0).trans q0
      have q1 := (b1.cell (p := ⟨w.heap.size, 1, none⟩) hs0).trans q1
      have q2 := (b1.cell (p := ⟨w.heap.size, 2, none⟩) hs0).trans q2
      have f0 := (b1.frozen (p := ⟨w.heap.size, 0, none⟩) hs0).trans f0
      have f1 := (b1.frozen (p := ⟨w.heap.size, 1, none⟩) hs0).trans f1
      have f2 := (b1.frozen (p := ⟨w.heap.size, 2, none⟩) hs0).trans f2
      have hy1 : w.heap.size < w1.heap.size := by omega
      have hlen : ar.length = 2 := by rw [har.out]; rfl
      have hl0 : (0 : Int) < ar.length := by omega
      have hl1 : (1 : Int) < ar.length := by omega
      obtain ⟨g, o, rfl, hgg, hgc⟩ := HCE.out (by omega)
      have G0 : ar[0]'(by omega) = (k0, n0, s0) := by simp only [har.out]; rfl
      obtain ⟨c00, c01, c02⟩ := hgc 0 (by omega)
      rw [G0] at c00 c01 c02
      have x00 := (bw1.cell (p := ⟨g, o + 0 * 3, none⟩) hgg).trans c00
      have x01 := (bw1.cell (p := ⟨g, o + 0 * 3 + 1, none⟩) hgg).trans c01
      have x02 := (bw1.cell (p := ⟨g, o + 0 * 3 + 2, none⟩) hgg).trans c02
      simp only [Nat.zero_mul, Nat.add_zero, Nat.one_mul, (by decide : 2 * 3 = 6)] at x00 x01 x02
      clear c00 c01 c02 G0
      have G1 : ar[1]'(by omega) = (k1, n1, s1) := by simp only [har.out]; rfl
      obtain ⟨c10, c11, c12⟩ := hgc 1 (by omega)
      rw [G1] at c10 c11 c12
      have x10 := (bw1.cell (p := ⟨g, o + 1 * 3, none⟩) hgg).trans c10
      have x11 := (bw1.cell (p := ⟨g, o + 1 * 3 + 1, none⟩) hgg).trans c11
      have x12 := (bw1.cell (p := ⟨g, o + 1 * 3 + 2, none⟩) hgg).trans c12
      simp only [Nat.zero_mul, Nat.add_zero, Nat.one_mul, (by decide : 2 * 3 = 6)] at x10 x11 x12
      clear c10 c11 c12 G1
      clear hlen
      have hgw : g < w1.heap.size := by have := bw1.size; omega
      clear hgc hcells HCE hsz HR0
      have HGK : Hid _ := hCO
      clear hCO
      go_upto_region 15 with fail
      go_cut [10, 11] from 55 to 64 (fun v10 v11 wx => ∃ b, v10 = .pointer (some ⟨b, 0, none⟩) ∧ (∃ c2, v11 = .int .i64 c2) ∧ w1.heap.size ≤ b ∧ b < wx.heap.size ∧ wx.cell? ⟨b, 0, none⟩ = some (.int .i64 0) ∧ wx.cell? ⟨b, 1, none⟩ = some (.int .i64 0) ∧ wx.cell? ⟨b, 2, none⟩ = some (.string ⟨#[]⟩) ∧ Below w1.heap.size w1 wx)
      case first =>
        have hne : w1.heap.size ≠ g := by omega
        go_region_held (fun W => W.cell? ⟨g, o, none⟩ = some (.int .i64 k0) ∧ W.cell? ⟨g, o + 1, none⟩ = some (.int .i64 n0) ∧ W.cell? ⟨g, o + 2, none⟩ = some (.string s0) ∧ W.cell? ⟨g, o + 3, none⟩ = some (.int .i64 k1) ∧ W.cell? ⟨g, o + 3 + 1, none⟩ = some (.int .i64 n1) ∧ W.cell? ⟨g, o + 3 + 2, none⟩ = some (.string s1)) (go_keep) (first | (go_at_call 74; refine (HGK.out _).mono ?_; rintro e w3 ⟨rfl, hb3⟩; obtain ⟨hc3, hf3⟩ := bcell hb3; have hz3 := hb3.size; simp at hz3; have hne3 : w3.heap.size ≠ g := (by omega); have y0 : w3.cell? ⟨g, o, none⟩ = some (.int .i64 k0) := (hc3 _ _ (by simp; omega)).trans (by go_keep); have y1 : w3.cell? ⟨g, o + 1, none⟩ = some (.int .i64 n0) := (hc3 _ _ (by simp; omega)).trans (by go_keep); have y2 : w3.cell? ⟨g, o + 2, none⟩ = some (.string s0) := (hc3 _ _ (by simp; omega)).trans (by go_keep); have y3 : w3.cell? ⟨g, o + 3, none⟩ = some (.int .i64 k1) := (hc3 _ _ (by simp; omega)).trans (by go_keep); have y4 : w3.cell? ⟨g, o + 3 + 1, none⟩ = some (.int .i64 n1) := (hc3 _ _ (by simp; omega)).trans (by go_keep); have y5 : w3.cell? ⟨g, o + 3 + 2, none⟩ = some (.string s1) := (hc3 _ _ (by simp; omega)).trans (by go_keep); have br3 : Below w1.heap.size w1 w3 := Below.trans (by (go_light; repeat (first | with_reducible assumption | with_reducible exact Below.refl _ _ | (with_reducible refine Below.setCell ?_ ?_ _; rotate_left; (focus first | (simp; done) | (simp; omega) | omega)) | (with_reducible refine Below.alloc ?_ ?_ _; rotate_left; (focus first | (simp; done) | (simp; omega) | omega)) | with_reducible refine Below.drew ?_))) (hb3.mono (by simp))))
        all_goals
          go_wp2_with fail
          go_meet
          first
            | exact ⟨w3.heap.size, rfl, ⟨_, rfl⟩, (by omega), (by first | (simp; done) | (simp; omega)), by simp [go_sem], by simp [go_sem], by simp [go_sem], (by (go_light; repeat (first | with_reducible assumption | with_reducible exact Below.refl _ _ | (with_reducible refine Below.setCell ?_ ?_ _; rotate_left; (focus first | (simp; done) | (simp; omega) | omega)) | (with_reducible refine Below.alloc ?_ ?_ _; rotate_left; (focus first | (simp; done) | (simp; omega) | omega)) | with_reducible refine Below.drew ?_)))⟩
            | exact ⟨w1.heap.size, rfl, ⟨_, rfl⟩, (by omega), (by first | (simp; done) | (simp; omega)), by simp [go_sem, hc3], by simp [go_sem, hc3], by simp [go_sem, hc3], (by (go_light; repeat (first | with_reducible assumption | with_reducible exact Below.refl _ _ | (with_reducible refine Below.setCell ?_ ?_ _; rotate_left; (focus first | (simp; done) | (simp; omega) | omega)) | (with_reducible refine Below.alloc ?_ ?_ _; rotate_left; (focus first | (simp; done) | (simp; omega) | omega)) | with_reducible refine Below.drew ?_)))⟩
      case rest =>
        obtain ⟨b, rfl, ⟨c2, rfl⟩, hb1, hb2, y0, y1, y2, brc⟩ := hcut
        have z0 := (brc.cell (p := ⟨w.heap.size, 0, none⟩) hy1).trans q0
        have z1 := (brc.cell (p := ⟨w.heap.size, 1, none⟩) hy1).trans q1
        have z2 := (brc.cell (p := ⟨w.heap.size, 2, none⟩) hy1).trans q2
        have i0' := (brc.frozen (p := ⟨w.heap.size, 0, none⟩) hy1).trans f0
        have i1' := (brc.frozen (p := ⟨w.heap.size, 1, none⟩) hy1).trans f1
        have i2' := (brc.frozen (p := ⟨w.heap.size, 2, none⟩) hy1).trans f2
        have x3 := (brc.cell (p := ⟨g, o, none⟩) hgw).trans x00
        have x4 := (brc.cell (p := ⟨g, o + 1, none⟩) hgw).trans x01
        have x5 := (brc.cell (p := ⟨g, o + 2, none⟩) hgw).trans x02
        have hy3 : w.heap.size < wc.heap.size := by omega
        have bwc : Below w.heap.size w wc := bw1.trans (brc.mono bw1.size)
        clear brc q0 q1 q2 f0 f1 f2
        go_wp2
        refine bodyPost_ret (v := tV k0 n0 s0 0) (by simp [results, Tryz.results33, go_sem, tV, z0, z1, z2, i0', i1', i2', hy3, x3, x4, x5]) rfl ⟨rfl, ?_⟩
        exact (by (go_light; repeat (first | with_reducible assumption | with_reducible exact Below.refl _ _ | (with_reducible refine Below.setCell ?_ ?_ _; rotate_left; (focus first | (simp; done) | (simp; omega) | omega)) | (with_reducible refine Below.alloc ?_ ?_ _; rotate_left; (focus first | (simp; done) | (simp; omega) | omega)) | with_reducible refine Below.drew ?_)))
end Go.Proofs.YtdcdoeolaongkaaGreatDoor.Ca
namespace Go.Proofs.YtdcdoeolaongkaaGreatDoor.Ca
open Go.MapKept Go.ChangeMaps
open Go.ChangeShapes Go.WideShapes Go.ChangeAt Go.RowKit Go.Shelf
open Go.Proofs.YtdcdoeolaongkaaGreatDoor.Rd
set_option linter.unusedVariables false
set_option linter.unusedSimpArgs false
set_option maxRecDepth 100000
set_option maxHeartbeats 16000000 in
theorem callS_trim (k0 n0 : Int) (s0 : ByteArray) (ar : List TA) (a : Option Addr) (cap : Nat) (w : World) (h8 : ar.length ≤ 8) (hr : RVO w (.slice a ar.length cap) ar) (hsz : ∀ t ∈ ar, t.2.2.size ≤ 1048576) (hv : Hid (∀ t ∈ ar, vok t.1 t.2.1 t.2.2 = true)) (hck : Hid (¬ Mp.ckK 11 (kindsA ar) < 0)) (hnn : Hid (∀ t ∈ ar, (t.1 == 0) = false)) (har : Hid (ar = [(k0, n0, s0)])) (hs : s0.size ≤ 1048576) :
    Calls Tryz.prog 33 #[.int .i64 11, .slice a ar.length cap] w fun e w' => e = .returned (tV 3 0 ⟨(Lib.trimB s0.data.toList 32).toArray⟩ 0) ∧ Below w.heap.size w w' := by
  obtain ⟨i0, hi, hz0, hz1, hz2⟩ := info_parts info3
  have hrr := hr
  obtain ⟨a', cap', hsl, hcells⟩ := hr
  simp only [Value.slice.injEq] at hsl
  obtain ⟨rfl, _, rfl⟩ := hsl
  have h8i : ¬ (8 : Int) < ar.length := by omega
  have bw0 := below_alloc w (.cells #[.int .i64 0, .int .i64 0, .string ⟨#[]⟩] 29)
  have HCE : Hid _ := hcells
  clear hrr
  go_enter Tryz.func33, Tryz.ntmps33
  go_wp2
  generalize hW0 : w.alloc (.cells #[.int .i64 0, .int .i64 0, .string ⟨#[]⟩] 29) = W0 at *
  have hsE : W0.heap.size = w.heap.size + 1 := by rw [← hW0]; simp
  have HSE : Hid _ := hsE
  have hs0 : w.heap.size < W0.heap.size := by omega
  clear hsE
  have r0 : W0.cell? ⟨w.heap.size, 0, none⟩ = some (.int .i64 0) ∧ W0.cell? ⟨w.heap.size, 1, none⟩ = some (.int .i64 0) ∧ W0.cell? ⟨w.heap.size, 2, none⟩ = some (.string ⟨#[]⟩) ∧ W0.frozen? ⟨w.heap.size, 0, none⟩ = false ∧ W0.frozen? ⟨w.heap.size, 1, none⟩ = false ∧ W0.frozen? ⟨w.heap.size, 2, none⟩ = false := by
    rw [← hW0]; simp [go_sem]
  have HR0 : Hid _ := r0
  have HB0 : Hid (Below w.heap.size w W0) := bw0
  clear r0 bw0 hW0
  go_loopw [6, 8, 33] (fun kv _ i wr => ∃ k : Nat, k ≤ ar.length ∧ i = .int .i64 k ∧ OwnK W0.heap.size kv k (kindsA (ar.take k)) wr ∧ Below W0.heap.size W0 wr) (fun _ _ i _ => ar.length - (intOf i).toNat)
  case atStart =>
    refine ⟨0, Nat.zero_le _, rfl, ?_, (Below.refl _ _).alloc (Nat.le_refl _) _⟩
    rw [← HSE.out]
    exact World.ownsRow_made W0 #[] 0 (Nat.le_refl _) (by unfold maxLen; omega) (by simp)
  case round =>
    obtain ⟨k, hk, rfl, hoK, hbel⟩ := hrel
    have ho : wr.ownsRow W0.heap.size 3 1 _ k ((kindsA (ar.take k)).map (Value.int .i64)) := hoK
    clear hoK
    have hbs := hbel.size
    by_cases hlt : k < ar.length
    · have hlti : (k : Int) < ar.length := by omega
      obtain ⟨g, o, rfl, hgg, hgc⟩ := hcells (by omega)
      have bww : Below w.heap.size w wr := HB0.out.trans (hbel.mono (by omega))
      obtain ⟨c0, c1, c2⟩ := hgc k hlt
      have d0 := (bww.cell (p := ⟨g, o + k * 3, none⟩) hgg).trans c0
      have d1 := (bww.cell (p := ⟨g, o + k * 3 + 1, none⟩) hgg).trans c1
      have d2 := (bww.cell (p := ⟨g, o + k * 3 + 2, none⟩) hgg).trans c2
      have hsx := hsz ar[k] (List.getElem_mem hlt)
      have hvx := hv.out ar[k] (List.getElem_mem hlt)
      have HTK : Hid (ar.take (k + 1) = ar.take k ++ [ar[k]]) := take_snoc hlt
      clear c0 c1 c2 hgc hcells hsz HCE
      generalize ar[k] = t at *
      obtain ⟨tk, tn, ts⟩ := t
      simp only at d0 d1 d2 hsx
      have hVX := fun W => vok_spec tk tn ts W hsx
      rw [hvx] at hVX
      clear hvx
      go_wp2_with (first | (go_at_call 14; refine (hVX _).mono ?_; rintro e w1 ⟨rfl, hb1⟩; obtain ⟨hc1, hf1⟩ := bcell hb1; have hz1w : wr.heap.size < w1.heap.size := (by have := hb1.size; simp at this; omega); have bw1 : Below W0.heap.size W0 w1 := (hbel.alloc hbs _).trans (hb1.mono (by simp; omega)); have ho1 := own_below (ho.alloc _) hb1; have e0 : w1.cell? ⟨wr.heap.size, 0, none⟩ = some (.int .i64 tk) := (hc1 wr.heap.size 0 (by simp)).trans (by simp [go_sem])) | (at_builtin; refine wpList_append_own _ rfl (.tmp 41) (.tmp 44) 22 rfl W0.heap.size 3 i0 (.int .i64 0) 1 8 Tryz.underlying22 hi hz0 hz1 hz2 rfl (by decide) _ k ((kindsA (ar.take k)).map (Value.int .i64)) rfl (ho1.alloc _) ⟨w1.heap.size, 0, none⟩ 1 1 [.int .i64 tk] rfl rfl (cell_one_new _ _ _) (by intro u hu; simp at hu; subst hu; rfl) (by unfold maxLen; omega) (by omega) (by have := bw1.size; simp; omega) ?_; intro v' w2 hown' hgrow _; have bw2 : Below W0.heap.size W0 w2 := (bw1.alloc bw1.size _).grown hgrow (by have := bw1.size; simp; omega) (fun j hj => (ho1.lt j hj).1); have HOW : Hid (OwnK W0.heap.size v' (k + 1) (kindsA (ar.take (k + 1))) w2) := OwnK.of HTK.out hown'; clear hown' hgrow))
      go_roundw
      case rel => exact ⟨k + 1, by omega, by go_num, HOW.out, bw2⟩
      case measure => simp [intOf]; omega
    · have hkn : k = ar.length := by omega
      subst hkn
      have hlti : ¬ (ar.length : Int) < ar.length := by omega
      rw [List.take_length] at ho
      have hkl : (kindsA ar).length = ar.length := by simp [kindsA]
      rw [← hkl] at ho
      obtain ⟨ka, kc, rfl, hrio⟩ := own_rio ho
      clear ho
      have hck' := hck.out
      generalize hks : kindsA ar = ks at *
      have HKL : Hid (ks.length = ar.length) := hkl
      have bww : Below w.heap.size w wr := HB0.out.trans (hbel.mono (by omega))
      obtain ⟨q0, q1, q2, f0, f1, f2⟩ := HR0.out
      have hwr : w.heap.size < wr.heap.size := by omega
      have hn20 : ks.length ≤ 1048576 := by rw [hkl]; omega
      clear hkl hks HB0
      go_wp2_with (go_at_call 9; fail)
      have hKS := fun W h => Mp.callKind_spec 11 ks ka kc W hn20 h
      generalize Mp.ckK 11 ks = ck at *
      refine (hKS _ hrio).mono ?_
      rintro e w1 ⟨rfl, hb1⟩
      have b1 : Below W0.heap.size W0 w1 := hbel.trans (hb1.mono hbs)
      have hs1 := b1.size
      have bw1 : Below w.heap.size w w1 := bww.trans (hb1.mono bww.size)
      clear hKS hrio hbel hb1 bww
      have q0 := (b1.cell (p := ⟨w.heap.size, 0, none⟩) hs0).trans q0
      have q1 := (b1.cell (p := ⟨w.heap.size, 1, none⟩) hs0).trans q1
      have q2 := (b1.cell (p := ⟨w.heap.size, 2, none⟩) hs0).trans q2
      have f0 := (b1.frozen (p := ⟨w.heap.size, 0, none⟩) hs0).trans f0
      have f1 := (b1.frozen (p := ⟨w.heap.size, 1, none⟩) hs0).trans f1
      have f2 := (b1.frozen (p := ⟨w.heap.size, 2, none⟩) hs0).trans f2
      have hy1 : w.heap.size < w1.heap.size := by omega
      go_wp2
      go_loopw [13, 74] (fun _ i wr => ∃ k : Nat, k ≤ ar.length ∧ i = .int .i64 k ∧ Below w1.heap.size w1 wr) (fun _ i _ => ar.length - (intOf i).toNat)
      case atStart => exact ⟨0, Nat.zero_le _, rfl, Below.refl _ _⟩
      case round =>
        obtain ⟨k, hk2, rfl, hb2⟩ := hrel
        have hs2 := hb2.size
        have bw2 : Below w.heap.size w wr := bw1.trans (hb2.mono bw1.size)
        by_cases hlt : k < ar.length
        · have hlti : (k : Int) < ar.length := by omega
          obtain ⟨g, o, rfl, hgg, hgc⟩ := HCE.out (by omega)
          obtain ⟨c0, c1, c2⟩ := hgc k hlt
          have d0 := (bw2.cell (p := ⟨g, o + k * 3, none⟩) hgg).trans c0
          have d1 := (bw2.cell (p := ⟨g, o + k * 3 + 1, none⟩) hgg).trans c1
          have d2 := (bw2.cell (p := ⟨g, o + k * 3 + 2, none⟩) hgg).trans c2
          have hnz := hnn.out ar[k] (List.getElem_mem hlt)
          clear c0 c1 c2 hgc hcells HCE hsz
          generalize ar[k] = t at *
          obtain ⟨tk, tn, ts⟩ := t
          simp only at d0 d1 d2 hnz
          go_wp2
          go_roundw
          case rel => exact ⟨k + 1, by omega, by go_num, (by (go_light; repeat (first | with_reducible assumption | with_reducible exact Below.refl _ _ | (with_reducible refine Below.setCell ?_ ?_ _; rotate_left; (focus first | (simp; done) | (simp; omega) | omega)) | (with_reducible refine Below.alloc ?_ ?_ _; rotate_left; (focus first | (simp; done) | (simp; omega) | omega)) | with_reducible refine Below.drew ?_)))⟩
          case measure => simp [intOf]; omega
        · have hkn : k = ar.length := by omega
          subst hkn
          have hlti : ¬ (ar.length : Int) < ar.length := by omega
          have p0 := (hb2.cell (p := ⟨w.heap.size, 0, none⟩) hy1).trans q0
          have p1 := (hb2.cell (p := ⟨w.heap.size, 1, none⟩) hy1).trans q1
          have p2 := (hb2.cell (p := ⟨w.heap.size, 2, none⟩) hy1).trans q2
          have j0 := (hb2.frozen (p := ⟨w.heap.size, 0, none⟩) hy1).trans f0
          have j1 := (hb2.frozen (p := ⟨w.heap.size, 1, none⟩) hy1).trans f1
          have j2 := (hb2.frozen (p := ⟨w.heap.size, 2, none⟩) hy1).trans f2
          have hy2 : w.heap.size < wr.heap.size := by omega
          have hlen : ar.length = 1 := by rw [har.out]; rfl
          have hl0 : (0 : Int) < ar.length := by omega
          have hl1 : 1 < 2 ∨ (1 : Int) < ar.length := by omega
          have hl2 : 1 < 3 ∨ (2 : Int) < ar.length := by omega
          obtain ⟨g, o, rfl, hgg, hgc⟩ := HCE.out (by omega)
          have G0 : ar[0]'(by omega) = (k0, n0, s0) := by simp only [har.out]; rfl
          obtain ⟨c00, c01, c02⟩ := hgc 0 (by omega)
          rw [G0] at c00 c01 c02
          have x00 := (bw2.cell (p := ⟨g, o + 0 * 3, none⟩) hgg).trans c00
          have x01 := (bw2.cell (p := ⟨g, o + 0 * 3 + 1, none⟩) hgg).trans c01
          have x02 := (bw2.cell (p := ⟨g, o + 0 * 3 + 2, none⟩) hgg).trans c02
          simp only [Nat.zero_mul, Nat.add_zero, Nat.one_mul, (by decide : 2 * 3 = 6)] at x00 x01 x02
          clear c00 c01 c02 G0
          clear hlen
          simp only [(by decide : (1 < 2) = True), (by decide : (2 < 2) = False), (by decide : (3 < 2) = False), (by decide : (1 < 3) = True), (by decide : (2 < 3) = True), (by decide : (3 < 3) = False), true_or, false_or] at hl1 hl2
          have hgw : g < wr.heap.size := by have := bw2.size; omega
          clear hgc hcells HCE hsz b1 hb2 q0 q1 q2 f0 f1 f2 HR0
          obtain ⟨wq, hwq⟩ : ∃ x, x = wr := ⟨wr, rfl⟩
          subst hwq
          go_wp2
          go_loopw [18] (fun v wx => ∃ t : ByteArray, v = .string t ∧ t.size ≤ 1048576 ∧ Hid (Lib.trimB t.data.toList 32 = Lib.trimB s0.data.toList 32) ∧ Below w.heap.size w wx ∧ Below wq.heap.size wq wx) (fun v _ => Lib.strSize v)
          case atStart => exact ⟨s0, rfl, hs, rfl, (by (go_light; repeat (first | with_reducible assumption | with_reducible exact Below.refl _ _ | (with_reducible refine Below.setCell ?_ ?_ _; rotate_left; (focus first | (simp; done) | (simp; omega) | omega)) | (with_reducible refine Below.alloc ?_ ?_ _; rotate_left; (focus first | (simp; done) | (simp; omega) | omega)) | with_reducible refine Below.drew ?_))), (by (go_light; repeat (first | with_reducible assumption | with_reducible exact Below.refl _ _ | (with_reducible refine Below.setCell ?_ ?_ _; rotate_left; (focus first | (simp; done) | (simp; omega) | omega)) | (with_reducible refine Below.alloc ?_ ?_ _; rotate_left; (focus first | (simp; done) | (simp; omega) | omega)) | with_reducible refine Below.drew ?_)))⟩
          case round =>
            obtain ⟨t, rfl, htz, HT, bw3, br3⟩ := hrel
            by_cases h0 : 0 < t.size
            · have h0i : (0 : Int) < t.size := by omega
              by_cases h1 : t[0]'h0 = 32
              · have h1b : ((((t[0]'h0).toNat : Int)) == 32) = true := by rw [h1]; rfl
                have h1i : (1 : Int) ≤ t.size := by omega
                have HT2 : Hid (Lib.trimB (t.extract 1 t.size).data.toList 32 = Lib.trimB s0.data.toList 32) := (trim_left h0 h1).trans HT.out
                clear h1 HT
                go_wp2
                go_roundw
                case rel => exact ⟨t.extract 1 t.size, rfl, by rw [ByteArray.size_extract]; omega, HT2, bw3, br3⟩
                case measure => rw [Lib.strSize_string, Lib.strSize_string, ByteArray.size_extract]; omega
              · have h1b : ((((t[0]'h0).toNat : Int)) == 32) = false := by
                  rw [beq_eq_false_iff_ne]; intro e; exact h1 (UInt8.toNat_inj.1 (by have : (32 : UInt8).toNat = 32 := rfl; omega))
                have HF : Hid (∀ h : 0 < t.size, t[0]'h ≠ 32) := fun _ => h1
                clear h1
                go_wp2
                go_loopw [18] (fun v wx => ∃ t : ByteArray, v = .string t ∧ t.size ≤ 1048576 ∧ Hid (Lib.trimB t.data.toList 32 = Lib.trimB s0.data.toList 32) ∧ Hid (∀ h : 0 < t.size, t[0]'h ≠ 32) ∧ Below w.heap.size w wx ∧ Below wq.heap.size wq wx) (fun v _ => Lib.strSize v)
                case atStart => exact ⟨t, rfl, htz, HT, HF, bw3, br3⟩
                case round =>
                  obtain ⟨t, rfl, htz, HT, HF, bw3, br3⟩ := hrel
                  by_cases h0 : 0 < t.size
                  · have h0i : (0 : Int) < t.size := by omega
                    have hsub : IntKind.i64.wrap ((t.size : Int) - 1) = ((t.size - 1 : Nat) : Int) := by simp only [IntKind.wrap_i64, wrap64]; omega
                    have hlt1 : t.size - 1 < t.size := by omega
                    have hlti1 : ((t.size - 1 : Nat) : Int) < t.size := by omega
                    by_cases h1 : t[t.size - 1]'hlt1 = 32
                    · have h1b : ((((t[t.size - 1]'hlt1).toNat : Int)) == 32) = true := by rw [h1]; rfl
                      have HT2 : Hid (Lib.trimB (t.extract 0 (t.size - 1)).data.toList 32 = Lib.trimB s0.data.toList 32) := (trim_right h0 h1).trans HT.out
                      have HF2 : Hid (∀ h : 0 < (t.extract 0 (t.size - 1)).size, (t.extract 0 (t.size - 1))[0]'h ≠ 32) := (fun h => by
                        rw [ByteArray.getElem_extract]
                        exact HF.out (by omega) : ∀ h : 0 < (t.extract 0 (t.size - 1)).size, (t.extract 0 (t.size - 1))[0]'h ≠ 32)
                      clear h1 HT HF
                      go_wp2
                      go_roundw
                      case rel => exact ⟨t.extract 0 (t.size - 1), rfl, by rw [ByteArray.size_extract]; omega, HT2, HF2, bw3, br3⟩
                      case measure => rw [Lib.strSize_string, Lib.strSize_string, ByteArray.size_extract]; omega
                    · have h1b : ((((t[t.size - 1]'hlt1).toNat : Int)) == 32) = false := by
                        rw [beq_eq_false_iff_ne]; intro e; exact h1 (UInt8.toNat_inj.1 (by have : (32 : UInt8).toNat = 32 := rfl; omega))
                      have HE : Hid (Lib.trimB s0.data.toList 32 = t.data.toList) := (HT.out.symm.trans (trim_end HF.out (fun _ => h1)))
                      have z0 := (br3.cell (p := ⟨w.heap.size, 0, none⟩) hy2).trans p0
                      have z1 := (br3.cell (p := ⟨w.heap.size, 1, none⟩) hy2).trans p1
                      have z2 := (br3.cell (p := ⟨w.heap.size, 2, none⟩) hy2).trans p2
                      have i0' := (br3.frozen (p := ⟨w.heap.size, 0, none⟩) hy2).trans j0
                      have i1' := (br3.frozen (p := ⟨w.heap.size, 1, none⟩) hy2).trans j1
                      have i2' := (br3.frozen (p := ⟨w.heap.size, 2, none⟩) hy2).trans j2
                      have hy3 := Nat.lt_of_lt_of_le hy2 br3.size
                      clear HT HF
                      go_wp2
                      refine bodyPost_ret (v := tV 3 0 t 0) (by simp [results, Tryz.results33, go_sem, tV, z0, z1, z2, i0', i1', i2', hy3]) rfl ⟨by rw [HE.out], ?_⟩
                      exact (by (go_light; repeat (first | with_reducible assumption | with_reducible exact Below.refl _ _ | (with_reducible refine Below.setCell ?_ ?_ _; rotate_left; (focus first | (simp; done) | (simp; omega) | omega)) | (with_reducible refine Below.alloc ?_ ?_ _; rotate_left; (focus first | (simp; done) | (simp; omega) | omega)) | with_reducible refine Below.drew ?_)))
                  · have h0i : ¬ (0 : Int) < t.size := by omega
                    have HE : Hid (Lib.trimB s0.data.toList 32 = t.data.toList) := (HT.out.symm.trans (trim_end HF.out (fun h => absurd h h0)))
                    have z0 := (br3.cell (p := ⟨w.heap.size, 0, none⟩) hy2).trans p0
                    have z1 := (br3.cell (p := ⟨w.heap.size, 1, none⟩) hy2).trans p1
                    have z2 := (br3.cell (p := ⟨w.heap.size, 2, none⟩) hy2).trans p2
                    have i0' := (br3.frozen (p := ⟨w.heap.size, 0, none⟩) hy2).trans j0
                    have i1' := (br3.frozen (p := ⟨w.heap.size, 1, none⟩) hy2).trans j1
                    have i2' := (br3.frozen (p := ⟨w.heap.size, 2, none⟩) hy2).trans j2
                    have hy3 := Nat.lt_of_lt_of_le hy2 br3.size
                    clear HT HF
                    go_wp2
                    refine bodyPost_ret (v := tV 3 0 t 0) (by simp [results, Tryz.results33, go_sem, tV, z0, z1, z2, i0', i1', i2', hy3]) rfl ⟨by rw [HE.out], ?_⟩
                    exact (by (go_light; repeat (first | with_reducible assumption | with_reducible exact Below.refl _ _ | (with_reducible refine Below.setCell ?_ ?_ _; rotate_left; (focus first | (simp; done) | (simp; omega) | omega)) | (with_reducible refine Below.alloc ?_ ?_ _; rotate_left; (focus first | (simp; done) | (simp; omega) | omega)) | with_reducible refine Below.drew ?_)))
            · have h0i : ¬ (0 : Int) < t.size := by omega
              have HF : Hid (∀ h : 0 < t.size, t[0]'h ≠ 32) := fun h => absurd h h0
              clear h0
              go_wp2
              go_loopw [18] (fun v wx => ∃ t : ByteArray, v = .string t ∧ t.size ≤ 1048576 ∧ Hid (Lib.trimB t.data.toList 32 = Lib.trimB s0.data.toList 32) ∧ Hid (∀ h : 0 < t.size, t[0]'h ≠ 32) ∧ Below w.heap.size w wx ∧ Below wq.heap.size wq wx) (fun v _ => Lib.strSize v)
              case atStart => exact ⟨t, rfl, htz, HT, HF, bw3, br3⟩
              case round =>
                obtain ⟨t, rfl, htz, HT, HF, bw3, br3⟩ := hrel
                by_cases h0 : 0 < t.size
                · have h0i : (0 : Int) < t.size := by omega
                  have hsub : IntKind.i64.wrap ((t.size : Int) - 1) = ((t.size - 1 : Nat) : Int) := by simp only [IntKind.wrap_i64, wrap64]; omega
                  have hlt1 : t.size - 1 < t.size := by omega
                  have hlti1 : ((t.size - 1 : Nat) : Int) < t.size := by omega
                  by_cases h1 : t[t.size - 1]'hlt1 = 32
                  · have h1b : ((((t[t.size - 1]'hlt1).toNat : Int)) == 32) = true := by rw [h1]; rfl
                    have HT2 : Hid (Lib.trimB (t.extract 0 (t.size - 1)).data.toList 32 = Lib.trimB s0.data.toList 32) := (trim_right h0 h1).trans HT.out
                    have HF2 : Hid (∀ h : 0 < (t.extract 0 (t.size - 1)).size, (t.extract 0 (t.size - 1))[0]'h ≠ 32) := (fun h => by
                      rw [ByteArray.getElem_extract]
                      exact HF.out (by omega) : ∀ h : 0 < (t.extract 0 (t.size - 1)).size, (t.extract 0 (t.size - 1))[0]'h ≠ 32)
                    clear h1 HT HF
                    go_wp2
                    go_roundw
                    case rel => exact ⟨t.extract 0 (t.size - 1), rfl, by rw [ByteArray.size_extract]; omega, HT2, HF2, bw3, br3⟩
                    case measure => rw [Lib.strSize_string, Lib.strSize_string, ByteArray.size_extract]; omega
                  · have h1b : ((((t[t.size - 1]'hlt1).toNat : Int)) == 32) = false := by
                      rw [beq_eq_false_iff_ne]; intro e; exact h1 (UInt8.toNat_inj.1 (by have : (32 : UInt8).toNat = 32 := rfl; omega))
                    have HE : Hid (Lib.trimB s0.data.toList 32 = t.data.toList) := (HT.out.symm.trans (trim_end HF.out (fun _ => h1)))
                    have z0 := (br3.cell (p := ⟨w.heap.size, 0, none⟩) hy2).trans p0
                    have z1 := (br3.cell (p := ⟨w.heap.size, 1, none⟩) hy2).trans p1
                    have z2 := (br3.cell (p := ⟨w.heap.size, 2, none⟩) hy2).trans p2
                    have i0' := (br3.frozen (p := ⟨w.heap.size, 0, none⟩) hy2).trans j0
                    have i1' := (br3.frozen (p := ⟨w.heap.size, 1, none⟩) hy2).trans j1
                    have i2' := (br3.frozen (p := ⟨w.heap.size, 2, none⟩) hy2).trans j2
                    have hy3 := Nat.lt_of_lt_of_le hy2 br3.size
                    clear HT HF
                    go_wp2
                    refine bodyPost_ret (v := tV 3 0 t 0) (by simp [results, Tryz.results33, go_sem, tV, z0, z1, z2, i0', i1', i2', hy3]) rfl ⟨by rw [HE.out], ?_⟩
                    exact (by (go_light; repeat (first | with_reducible assumption | with_reducible exact Below.refl _ _ | (with_reducible refine Below.setCell ?_ ?_ _; rotate_left; (focus first | (simp; done) | (simp; omega) | omega)) | (with_reducible refine Below.alloc ?_ ?_ _; rotate_left; (focus first | (simp; done) | (simp; omega) | omega)) | with_reducible refine Below.drew ?_)))
                · have h0i : ¬ (0 : Int) < t.size := by omega
                  have HE : Hid (Lib.trimB s0.data.toList 32 = t.data.toList) := (HT.out.symm.trans (trim_end HF.out (fun h => absurd h h0)))
                  have z0 := (br3.cell (p := ⟨w.heap.size, 0, none⟩) hy2).trans p0
                  have z1 := (br3.cell (p := ⟨w.heap.size, 1, none⟩) hy2).trans p1
                  have z2 := (br3.cell (p := ⟨w.heap.size, 2, none⟩) hy2).trans p2
                  have i0' := (br3.frozen (p := ⟨w.heap.size, 0, none⟩) hy2).trans j0
                  have i1' := (br3.frozen (p := ⟨w.heap.size, 1, none⟩) hy2).trans j1
                  have i2' := (br3.frozen (p := ⟨w.heap.size, 2, none⟩) hy2).trans j2
                  have hy3 := Nat.lt_of_lt_of_le hy2 br3.size
                  clear HT HF
                  go_wp2
                  refine bodyPost_ret (v := tV 3 0 t 0) (by simp [results, Tryz.results33, go_sem, tV, z0, z1, z2, i0', i1', i2', hy3]) rfl ⟨by rw [HE.out], ?_⟩
                  exact (by (go_light; repeat (first | with_reducible assumption | with_reducible exact Below.refl _ _ | (with_reducible refine Below.setCell ?_ ?_ _; rotate_left; (focus first | (simp; done) | (simp; omega) | omega)) | (with_reducible refine Below.alloc ?_ ?_ _; rotate_left; (focus first | (simp; done) | (simp; omega) | omega)) | with_reducible refine Below.drew ?_)))


end Go.Proofs.YtdcdoeolaongkaaGreatDoor.Ca
namespace Go.Proofs.YtdcdoeolaongkaaGreatDoor.Ca
open Go.MapKept Go.ChangeMaps
open Go.ChangeShapes Go.WideShapes Go.ChangeAt Go.RowKit Go.Shelf
open Go.Proofs.YtdcdoeolaongkaaGreatDoor.Rd
set_option linter.unusedVariables false
set_option linter.unusedSimpArgs false
set_option maxRecDepth 100000
set_option maxHeartbeats 16000000 in
theorem callS_lower (k0 n0 : Int) (s0 : ByteArray) (ar : List TA) (a : Option Addr) (cap : Nat) (w : World) (h8 : ar.length ≤ 8) (hr : RVO w (.slice a ar.length cap) ar) (hsz : ∀ t ∈ ar, t.2.2.size ≤ 1048576) (hv : Hid (∀ t ∈ ar, vok t.1 t.2.1 t.2.2 = true)) (hck : Hid (¬ Mp.ckK 3 (kindsA ar) < 0)) (hnn : Hid (∀ t ∈ ar, (t.1 == 0) = false)) (har : Hid (ar = [(k0, n0, s0)])) (hs : s0.size ≤ 1048576) (cs : List Int) (hcs : Hid (chars s0 = some cs)) :
    Calls Tryz.prog 33 #[.int .i64 3, .slice a ar.length cap] w fun e w' => e = .returned (tV 3 0 ⟨(Lib.mapD (shiftF 65 90 32) s0.data.toList).toArray⟩ 0) ∧ Below w.heap.size w w' := by
  obtain ⟨i0, hi, hz0, hz1, hz2⟩ := info_parts info3
  have hrr := hr
  obtain ⟨a', cap', hsl, hcells⟩ := hr
  simp only [Value.slice.injEq] at hsl
  obtain ⟨rfl, _, rfl⟩ := hsl
  have h8i : ¬ (8 : Int) < ar.length := by omega
  have bw0 := below_alloc w (.cells #[.int .i64 0, .int .i64 0, .string ⟨#[]⟩] 29)
  have HCE : Hid _ := hcells
  clear hrr
  go_enter Tryz.func33, Tryz.ntmps33
  go_wp2
  generalize hW0 : w.alloc (.cells #[.int .i64 0, .int .i64 0, .string ⟨#[]⟩] 29) = W0 at *
  have hsE : W0.heap.size = w.heap.size + 1 := by rw [← hW0]; simp
  have HSE : Hid _ := hsE
  have hs0 : w.heap.size < W0.heap.size := by omega
  clear hsE
  have r0 : W0.cell? ⟨w.heap.size, 0, none⟩ = some (.int .i64 0) ∧ W0.cell? ⟨w.heap.size, 1, none⟩ = some (.int .i64 0) ∧ W0.cell? ⟨w.heap.size, 2, none⟩ = some (.string ⟨#[]⟩) ∧ W0.frozen? ⟨w.heap.size, 0, none⟩ = false ∧ W0.frozen? ⟨w.heap.size, 1, none⟩ = false ∧ W0.frozen? ⟨w.heap.size, 2, none⟩ = false := by
    rw [← hW0]; simp [go_sem]
  have HR0 : Hid _ := r0
  have HB0 : Hid (Below w.heap.size w W0) := bw0
  clear r0 bw0 hW0
  go_loopw [6, 8, 33] (fun kv _ i wr => ∃ k : Nat, k ≤ ar.length ∧ i = .int .i64 k ∧ OwnK W0.heap.size kv k (kindsA (ar.take k)) wr ∧ Below W0.heap.size W0 wr) (fun _ _ i _ => ar.length - (intOf i).toNat)
  case atStart =>
    refine ⟨0, Nat.zero_le _, rfl, ?_, (Below.refl _ _).alloc (Nat.le_refl _) _⟩
    rw [← HSE.out]
    exact World.ownsRow_made W0 #[] 0 (Nat.le_refl _) (by unfold maxLen; omega) (by simp)
  case round =>
    obtain ⟨k, hk, rfl, hoK, hbel⟩ := hrel
    have ho : wr.ownsRow W0.heap.size 3 1 _ k ((kindsA (ar.take k)).map (Value.int .i64)) := hoK
    clear hoK
    have hbs := hbel.size
    by_cases hlt : k < ar.length
    · have hlti : (k : Int) < ar.length := by omega
      obtain ⟨g, o, rfl, hgg, hgc⟩ := hcells (by omega)
      have bww : Below w.heap.size w wr := HB0.out.trans (hbel.mono (by omega))
      obtain ⟨c0, c1, c2⟩ := hgc k hlt
      have d0 := (bww.cell (p := ⟨g, o + k * 3, none⟩) hgg).trans c0
      have d1 := (bww.cell (p := ⟨g, o + k * 3 + 1, none⟩) hgg).trans c1
      have d2 := (bww.cell (p := ⟨g, o + k * 3 + 2, none⟩) hgg).trans c2
      have hsx := hsz ar[k] (List.getElem_mem hlt)
      have hvx := hv.out ar[k] (List.getElem_mem hlt)
      have HTK : Hid (ar.take (k + 1) = ar.take k ++ [ar[k]]) := take_snoc hlt
      clear c0 c1 c2 hgc hcells hsz HCE
      generalize ar[k] = t at *
      obtain ⟨tk, tn, ts⟩ := t
      simp only at d0 d1 d2 hsx
      have hVX := fun W => vok_spec tk tn ts W hsx
      rw [hvx] at hVX
      clear hvx
      go_wp2_with (first | (go_at_call 14; refine (hVX _).mono ?_; rintro e w1 ⟨rfl, hb1⟩; obtain ⟨hc1, hf1⟩ := bcell hb1; have hz1w : wr.heap.size < w1.heap.size := (by have := hb1.size; simp at this; omega); have bw1 : Below W0.heap.size W0 w1 := (hbel.alloc hbs _).trans (hb1.mono (by simp; omega)); have ho1 := own_below (ho.alloc _) hb1; have e0 : w1.cell? ⟨wr.heap.size, 0, none⟩ = some (.int .i64 tk) := (hc1 wr.heap.size 0 (by simp)).trans (by simp [go_sem])) | (at_builtin; refine wpList_append_own _ rfl (.tmp 41) (.tmp 44) 22 rfl W0.heap.size 3 i0 (.int .i64 0) 1 8 Tryz.underlying22 hi hz0 hz1 hz2 rfl (by decide) _ k ((kindsA (ar.take k)).map (Value.int .i64)) rfl (ho1.alloc _) ⟨w1.heap.size, 0, none⟩ 1 1 [.int .i64 tk] rfl rfl (cell_one_new _ _ _) (by intro u hu; simp at hu; subst hu; rfl) (by unfold maxLen; omega) (by omega) (by have := bw1.size; simp; omega) ?_; intro v' w2 hown' hgrow _; have bw2 : Below W0.heap.size W0 w2 := (bw1.alloc bw1.size _).grown hgrow (by have := bw1.size; simp; omega) (fun j hj => (ho1.lt j hj).1); have HOW : Hid (OwnK W0.heap.size v' (k + 1) (kindsA (ar.take (k + 1))) w2) := OwnK.of HTK.out hown'; clear hown' hgrow))
      go_roundw
      case rel => exact ⟨k + 1, by omega, by go_num, HOW.out, bw2⟩
      case measure => simp [intOf]; omega
    · have hkn : k = ar.length := by omega
      subst hkn
      have hlti : ¬ (ar.length : Int) < ar.length := by omega
      rw [List.take_length] at ho
      have hkl : (kindsA ar).length = ar.length := by simp [kindsA]
      rw [← hkl] at ho
      obtain ⟨ka, kc, rfl, hrio⟩ := own_rio ho
      clear ho
      have hck' := hck.out
      generalize hks : kindsA ar = ks at *
      have HKL : Hid (ks.length = ar.length) := hkl
      have bww : Below w.heap.size w wr := HB0.out.trans (hbel.mono (by omega))
      obtain ⟨q0, q1, q2, f0, f1, f2⟩ := HR0.out
      have hwr : w.heap.size < wr.heap.size := by omega
      have hn20 : ks.length ≤ 1048576 := by rw [hkl]; omega
      clear hkl hks HB0
      go_wp2_with (go_at_call 9; fail)
      have hKS := fun W h => Mp.callKind_spec 3 ks ka kc W hn20 h
      generalize Mp.ckK 3 ks = ck at *
      refine (hKS _ hrio).mono ?_
      rintro e w1 ⟨rfl, hb1⟩
      have b1 : Below W0.heap.size W0 w1 := hbel.trans (hb1.mono hbs)
      have hs1 := b1.size
      have bw1 : Below w.heap.size w w1 := bww.trans (hb1.mono bww.size)
      clear hKS hrio hbel hb1 bww
      have q0 := (b1.cell (p := ⟨w.heap.size, 0, none⟩) hs0).trans q0
      have q1 := (b1.cell (p := ⟨w.heap.size, 1, none⟩) hs0).trans q1
      have q2 := (b1.cell (p := ⟨w.heap.size, 2, none⟩) hs0).trans q2
      have f0 := (b1.frozen (p := ⟨w.heap.size, 0, none⟩) hs0).trans f0
      have f1 := (b1.frozen (p := ⟨w.heap.size, 1, none⟩) hs0).trans f1
      have f2 := (b1.frozen (p := ⟨w.heap.size, 2, none⟩) hs0).trans f2
      have hy1 : w.heap.size < w1.heap.size := by omega
      go_wp2
      go_loopw [13, 74] (fun _ i wr => ∃ k : Nat, k ≤ ar.length ∧ i = .int .i64 k ∧ Below w1.heap.size w1 wr) (fun _ i _ => ar.length - (intOf i).toNat)
      case atStart => exact ⟨0, Nat.zero_le _, rfl, Below.refl _ _⟩
      case round =>
        obtain ⟨k, hk2, rfl, hb2⟩ := hrel
        have hs2 := hb2.size
        have bw2 : Below w.heap.size w wr := bw1.trans (hb2.mono bw1.size)
        by_cases hlt : k < ar.length
        · have hlti : (k : Int) < ar.length := by omega
          obtain ⟨g, o, rfl, hgg, hgc⟩ := HCE.out (by omega)
          obtain ⟨c0, c1, c2⟩ := hgc k hlt
          have d0 := (bw2.cell (p := ⟨g, o + k * 3, none⟩) hgg).trans c0
          have d1 := (bw2.cell (p := ⟨g, o + k * 3 + 1, none⟩) hgg).trans c1
          have d2 := (bw2.cell (p := ⟨g, o + k * 3 + 2, none⟩) hgg).trans c2
          have hnz := hnn.out ar[k] (List.getElem_mem hlt)
          clear c0 c1 c2 hgc hcells HCE hsz
          generalize ar[k] = t at *
          obtain ⟨tk, tn, ts⟩ := t
          simp only at d0 d1 d2 hnz
          go_wp2
          go_roundw
          case rel => exact ⟨k + 1, by omega, by go_num, (by (go_light; repeat (first | with_reducible assumption | with_reducible exact Below.refl _ _ | (with_reducible refine Below.setCell ?_ ?_ _; rotate_left; (focus first | (simp; done) | (simp; omega) | omega)) | (with_reducible refine Below.alloc ?_ ?_ _; rotate_left; (focus first | (simp; done) | (simp; omega) | omega)) | with_reducible refine Below.drew ?_)))⟩
          case measure => simp [intOf]; omega
        · have hkn : k = ar.length := by omega
          subst hkn
          have hlti : ¬ (ar.length : Int) < ar.length := by omega
          have p0 := (hb2.cell (p := ⟨w.heap.size, 0, none⟩) hy1).trans q0
          have p1 := (hb2.cell (p := ⟨w.heap.size, 1, none⟩) hy1).trans q1
          have p2 := (hb2.cell (p := ⟨w.heap.size, 2, none⟩) hy1).trans q2
          have j0 := (hb2.frozen (p := ⟨w.heap.size, 0, none⟩) hy1).trans f0
          have j1 := (hb2.frozen (p := ⟨w.heap.size, 1, none⟩) hy1).trans f1
          have j2 := (hb2.frozen (p := ⟨w.heap.size, 2, none⟩) hy1).trans f2
          have hy2 : w.heap.size < wr.heap.size := by omega
          have hlen : ar.length = 1 := by rw [har.out]; rfl
          have hl0 : (0 : Int) < ar.length := by omega
          have hl1 : 1 < 2 ∨ (1 : Int) < ar.length := by omega
          have hl2 : 1 < 3 ∨ (2 : Int) < ar.length := by omega
          obtain ⟨g, o, rfl, hgg, hgc⟩ := HCE.out (by omega)
          have G0 : ar[0]'(by omega) = (k0, n0, s0) := by simp only [har.out]; rfl
          obtain ⟨c00, c01, c02⟩ := hgc 0 (by omega)
          rw [G0] at c00 c01 c02
          have x00 := (bw2.cell (p := ⟨g, o + 0 * 3, none⟩) hgg).trans c00
          have x01 := (bw2.cell (p := ⟨g, o + 0 * 3 + 1, none⟩) hgg).trans c01
          have x02 := (bw2.cell (p := ⟨g, o + 0 * 3 + 2, none⟩) hgg).trans c02
          simp only [Nat.zero_mul, Nat.add_zero, Nat.one_mul, (by decide : 2 * 3 = 6)] at x00 x01 x02
          clear c00 c01 c02 G0
          clear hlen
          simp only [(by decide : (1 < 2) = True), (by decide : (2 < 2) = False), (by decide : (3 < 2) = False), (by decide : (1 < 3) = True), (by decide : (2 < 3) = True), (by decide : (3 < 3) = False), true_or, false_or] at hl1 hl2
          have hgw : g < wr.heap.size := by have := bw2.size; omega
          clear hgc hcells HCE hsz b1 hb2 q0 q1 q2 f0 f1 f2 HR0
          go_wp2_with (go_at_call 76; fail)
          refine (caseL_any s0 _ hs).mono ?_
          rintro e w3 ⟨t, ht, rfl, hb3⟩
          have HT : Hid (t = ⟨(Lib.mapD (shiftF 65 90 32) s0.data.toList).toArray⟩) := map_text 65 90 32 (by omega) (by omega) (by omega) (by omega) hcs.out ht
          clear ht
          obtain ⟨hc3, hf3⟩ := bcell hb3
          have hz3 := hb3.size
          simp at hz3
          have hy3 : w.heap.size < w3.heap.size := by omega
          have bw3 : Below w.heap.size w w3 := Below.trans (by (go_light; repeat (first | with_reducible assumption | with_reducible exact Below.refl _ _ | (with_reducible refine Below.setCell ?_ ?_ _; rotate_left; (focus first | (simp; done) | (simp; omega) | omega)) | (with_reducible refine Below.alloc ?_ ?_ _; rotate_left; (focus first | (simp; done) | (simp; omega) | omega)) | with_reducible refine Below.drew ?_))) (hb3.mono (by simp; omega))
          have p0 : w3.cell? ⟨w.heap.size, 0, none⟩ = some (.int .i64 0) := (hc3 _ _ (by simp; omega)).trans (by simp [go_sem, p0, hy2])
          have p1 : w3.cell? ⟨w.heap.size, 1, none⟩ = some (.int .i64 0) := (hc3 _ _ (by simp; omega)).trans (by simp [go_sem, p1, hy2])
          have p2 : w3.cell? ⟨w.heap.size, 2, none⟩ = some (.string ⟨#[]⟩) := (hc3 _ _ (by simp; omega)).trans (by simp [go_sem, p2, hy2])
          have j0 : w3.frozen? ⟨w.heap.size, 0, none⟩ = false := (hf3 _ _ (by simp; omega)).trans (by simp [go_sem, j0, hy2])
          have j1 : w3.frozen? ⟨w.heap.size, 1, none⟩ = false := (hf3 _ _ (by simp; omega)).trans (by simp [go_sem, j1, hy2])
          have j2 : w3.frozen? ⟨w.heap.size, 2, none⟩ = false := (hf3 _ _ (by simp; omega)).trans (by simp [go_sem, j2, hy2])
          clear hb3 hc3 hf3
          go_wp2
          refine bodyPost_ret (v := tV 3 0 t 0) (by simp [results, Tryz.results33, go_sem, tV, p0, p1, p2, j0, j1, j2, hy3]) rfl ⟨by rw [HT.out], ?_⟩
          exact (by (go_light; repeat (first | with_reducible assumption | with_reducible exact Below.refl _ _ | (with_reducible refine Below.setCell ?_ ?_ _; rotate_left; (focus first | (simp; done) | (simp; omega) | omega)) | (with_reducible refine Below.alloc ?_ ?_ _; rotate_left; (focus first | (simp; done) | (simp; omega) | omega)) | with_reducible refine Below.drew ?_)))

set_option maxHeartbeats 16000000 in
theorem callS_upper (k0 n0 : Int) (s0 : ByteArray) (ar : List TA) (a : Option Addr) (cap : Nat) (w : World) (h8 : ar.length ≤ 8) (hr : RVO w (.slice a ar.length cap) ar) (hsz : ∀ t ∈ ar, t.2.2.size ≤ 1048576) (hv : Hid (∀ t ∈ ar, vok t.1 t.2.1 t.2.2 = true)) (hck : Hid (¬ Mp.ckK 4 (kindsA ar) < 0)) (hnn : Hid (∀ t ∈ ar, (t.1 == 0) = false)) (har : Hid (ar = [(k0, n0, s0)])) (hs : s0.size ≤ 1048576) (cs : List Int) (hcs : Hid (chars s0 = some cs)) :
    Calls Tryz.prog 33 #[.int .i64 4, .slice a ar.length cap] w fun e w' => e = .returned (tV 3 0 ⟨(Lib.mapD (shiftF 97 122 (-32)) s0.data.toList).toArray⟩ 0) ∧ Below w.heap.size w w' := by
  obtain ⟨i0, hi, hz0, hz1, hz2⟩ := info_parts info3
  have hrr := hr
  obtain ⟨a', cap', hsl, hcells⟩ := hr
  simp only [Value.slice.injEq] at hsl
  obtain ⟨rfl, _, rfl⟩ := hsl
  have h8i : ¬ (8 : Int) < ar.length := by omega
  have bw0 := below_alloc w (.cells #[.int .i64 0, .int .i64 0, .string ⟨#[]⟩] 29)
  have HCE : Hid _ := hcells
  clear hrr
  go_enter Tryz.func33, Tryz.ntmps33
  go_wp2
  generalize hW0 : w.alloc (.cells #[.int .i64 0, .int .i64 0, .string ⟨#[]⟩] 29) = W0 at *
  have hsE : W0.heap.size = w.heap.size + 1 := by rw [← hW0]; simp
  have HSE : Hid _ := hsE
  have hs0 : w.heap.size < W0.heap.size := by omega
  clear hsE
  have r0 : W0.cell? ⟨w.heap.size, 0, none⟩ = some (.int .i64 0) ∧ W0.cell? ⟨w.heap.size, 1, none⟩ = some (.int .i64 0) ∧ W0.cell? ⟨w.heap.size, 2, none⟩ = some (.string ⟨#[]⟩) ∧ W0.frozen? ⟨w.heap.size, 0, none⟩ = false ∧ W0.frozen? ⟨w.heap.size, 1, none⟩ = false ∧ W0.frozen? ⟨w.heap.size, 2, none⟩ = false := by
    rw [← hW0]; simp [go_sem]
  have HR0 : Hid _ := r0
  have HB0 : Hid (Below w.heap.size w W0) := bw0
  clear r0 bw0 hW0
  go_loopw [6, 8, 33] (fun kv _ i wr => ∃ k : Nat, k ≤ ar.length ∧ i = .int .i64 k ∧ OwnK W0.heap.size kv k (kindsA (ar.take k)) wr ∧ Below W0.heap.size W0 wr) (fun _ _ i _ => ar.length - (intOf i).toNat)
  case atStart =>
    refine ⟨0, Nat.zero_le _, rfl, ?_, (Below.refl _ _).alloc (Nat.le_refl _) _⟩
    rw [← HSE.out]
    exact World.ownsRow_made W0 #[] 0 (Nat.le_refl _) (by unfold maxLen; omega) (by simp)
  case round =>
    obtain ⟨k, hk, rfl, hoK, hbel⟩ := hrel
    have ho : wr.ownsRow W0.heap.size 3 1 _ k ((kindsA (ar.take k)).map (Value.int .i64)) := hoK
    clear hoK
    have hbs := hbel.size
    by_cases hlt : k < ar.length
    · have hlti : (k : Int) < ar.length := by omega
      obtain ⟨g, o, rfl, hgg, hgc⟩ := hcells (by omega)
      have bww : Below w.heap.size w wr := HB0.out.trans (hbel.mono (by omega))
      obtain ⟨c0, c1, c2⟩ := hgc k hlt
      have d0 := (bww.cell (p := ⟨g, o + k * 3, none⟩) hgg).trans c0
      have d1 := (bww.cell (p := ⟨g, o + k * 3 + 1, none⟩) hgg).trans c1
      have d2 := (bww.cell (p := ⟨g, o + k * 3 + 2, none⟩) hgg).trans c2
      have hsx := hsz ar[k] (List.getElem_mem hlt)
      have hvx := hv.out ar[k] (List.getElem_mem hlt)
      have HTK : Hid (ar.take (k + 1) = ar.take k ++ [ar[k]]) := take_snoc hlt
      clear c0 c1 c2 hgc hcells hsz HCE
      generalize ar[k] = t at *
      obtain ⟨tk, tn, ts⟩ := t
      simp only at d0 d1 d2 hsx
      have hVX := fun W => vok_spec tk tn ts W hsx
      rw [hvx] at hVX
      clear hvx
      go_wp2_with (first | (go_at_call 14; refine (hVX _).mono ?_; rintro e w1 ⟨rfl, hb1⟩; obtain ⟨hc1, hf1⟩ := bcell hb1; have hz1w : wr.heap.size < w1.heap.size := (by have := hb1.size; simp at this; omega); have bw1 : Below W0.heap.size W0 w1 := (hbel.alloc hbs _).trans (hb1.mono (by simp; omega)); have ho1 := own_below (ho.alloc _) hb1; have e0 : w1.cell? ⟨wr.heap.size, 0, none⟩ = some (.int .i64 tk) := (hc1 wr.heap.size 0 (by simp)).trans (by simp [go_sem])) | (at_builtin; refine wpList_append_own _ rfl (.tmp 41) (.tmp 44) 22 rfl W0.heap.size 3 i0 (.int .i64 0) 1 8 Tryz.underlying22 hi hz0 hz1 hz2 rfl (by decide) _ k ((kindsA (ar.take k)).map (Value.int .i64)) rfl (ho1.alloc _) ⟨w1.heap.size, 0, none⟩ 1 1 [.int .i64 tk] rfl rfl (cell_one_new _ _ _) (by intro u hu; simp at hu; subst hu; rfl) (by unfold maxLen; omega) (by omega) (by have := bw1.size; simp; omega) ?_; intro v' w2 hown' hgrow _; have bw2 : Below W0.heap.size W0 w2 := (bw1.alloc bw1.size _).grown hgrow (by have := bw1.size; simp; omega) (fun j hj => (ho1.lt j hj).1); have HOW : Hid (OwnK W0.heap.size v' (k + 1) (kindsA (ar.take (k + 1))) w2) := OwnK.of HTK.out hown'; clear hown' hgrow))
      go_roundw
      case rel => exact ⟨k + 1, by omega, by go_num, HOW.out, bw2⟩
      case measure => simp [intOf]; omega
    · have hkn : k = ar.length := by omega
      subst hkn
      have hlti : ¬ (ar.length : Int) < ar.length := by omega
      rw [List.take_length] at ho
      have hkl : (kindsA ar).length = ar.length := by simp [kindsA]
      rw [← hkl] at ho
      obtain ⟨ka, kc, rfl, hrio⟩ := own_rio ho
      clear ho
      have hck' := hck.out
      generalize hks : kindsA ar = ks at *
      have HKL : Hid (ks.length = ar.length) := hkl
      have bww : Below w.heap.size w wr := HB0.out.trans (hbel.mono (by omega))
      obtain ⟨q0, q1, q2, f0, f1, f2⟩ := HR0.out
      have hwr : w.heap.size < wr.heap.size := by omega
      have hn20 : ks.length ≤ 1048576 := by rw [hkl]; omega
      clear hkl hks HB0
      go_wp2_with (go_at_call 9; fail)
      have hKS := fun W h => Mp.callKind_spec 4 ks ka kc W hn20 h
      generalize Mp.ckK 4 ks = ck at *
      refine (hKS _ hrio).mono ?_
      rintro e w1 ⟨rfl, hb1⟩
      have b1 : Below W0.heap.size W0 w1 := hbel.trans (hb1.mono hbs)
      have hs1 := b1.size
      have bw1 : Below w.heap.size w w1 := bww.trans (hb1.mono bww.size)
      clear hKS hrio hbel hb1 bww
      have q0 := (b1.cell (p := ⟨w.heap.size, 0, none⟩) hs0).trans q0
      have q1 := (b1.cell (p := ⟨w.heap.size, 1, none⟩) hs0).trans q1
      have q2 := (b1.cell (p := ⟨w.heap.size, 2, none⟩) hs0).trans q2
      have f0 := (b1.frozen (p := ⟨w.heap.size, 0, none⟩) hs0).trans f0
      have f1 := (b1.frozen (p := ⟨w.heap.size, 1, none⟩) hs0).trans f1
      have f2 := (b1.frozen (p := ⟨w.heap.size, 2, none⟩) hs0).trans f2
      have hy1 : w.heap.size < w1.heap.size := by omega
      go_wp2
      go_loopw [13, 74] (fun _ i wr => ∃ k : Nat, k ≤ ar.length ∧ i = .int .i64 k ∧ Below w1.heap.size w1 wr) (fun _ i _ => ar.length - (intOf i).toNat)
      case atStart => exact ⟨0, Nat.zero_le _, rfl, Below.refl _ _⟩
      case round =>
        obtain ⟨k, hk2, rfl, hb2⟩ := hrel
        have hs2 := hb2.size
        have bw2 : Below w.heap.size w wr := bw1.trans (hb2.mono bw1.size)
        by_cases hlt : k < ar.length
        · have hlti : (k : Int) < ar.length := by omega
          obtain ⟨g, o, rfl, hgg, hgc⟩ := HCE.out (by omega)
          obtain ⟨c0, c1, c2⟩ := hgc k hlt
          have d0 := (bw2.cell (p := ⟨g, o + k * 3, none⟩) hgg).trans c0
          have d1 := (bw2.cell (p := ⟨g, o + k * 3 + 1, none⟩) hgg).trans c1
          have d2 := (bw2.cell (p := ⟨g, o + k * 3 + 2, none⟩) hgg).trans c2
          have hnz := hnn.out ar[k] (List.getElem_mem hlt)
          clear c0 c1 c2 hgc hcells HCE hsz
          generalize ar[k] = t at *
          obtain ⟨tk, tn, ts⟩ := t
          simp only at d0 d1 d2 hnz
          go_wp2
          go_roundw
          case rel => exact ⟨k + 1, by omega, by go_num, (by (go_light; repeat (first | with_reducible assumption | with_reducible exact Below.refl _ _ | (with_reducible refine Below.setCell ?_ ?_ _; rotate_left; (focus first | (simp; done) | (simp; omega) | omega)) | (with_reducible refine Below.alloc ?_ ?_ _; rotate_left; (focus first | (simp; done) | (simp; omega) | omega)) | with_reducible refine Below.drew ?_)))⟩
          case measure => simp [intOf]; omega
        · have hkn : k = ar.length := by omega
          subst hkn
          have hlti : ¬ (ar.length : Int) < ar.length := by omega
          have p0 := (hb2.cell (p := ⟨w.heap.size, 0, none⟩) hy1).trans q0
          have p1 := (hb2.cell (p := ⟨w.heap.size, 1, none⟩) hy1).trans q1
          have p2 := (hb2.cell (p := ⟨w.heap.size, 2, none⟩) hy1).trans q2
          have j0 := (hb2.frozen (p := ⟨w.heap.size, 0, none⟩) hy1).trans f0
          have j1 := (hb2.frozen (p := ⟨w.heap.size, 1, none⟩) hy1).trans f1
          have j2 := (hb2.frozen (p := ⟨w.heap.size, 2, none⟩) hy1).trans f2
          have hy2 : w.heap.size < wr.heap.size := by omega
          have hlen : ar.length = 1 := by rw [har.out]; rfl
          have hl0 : (0 : Int) < ar.length := by omega
          have hl1 : 1 < 2 ∨ (1 : Int) < ar.length := by omega
          have hl2 : 1 < 3 ∨ (2 : Int) < ar.length := by omega
          obtain ⟨g, o, rfl, hgg, hgc⟩ := HCE.out (by omega)
          have G0 : ar[0]'(by omega) = (k0, n0, s0) := by simp only [har.out]; rfl
          obtain ⟨c00, c01, c02⟩ := hgc 0 (by omega)
          rw [G0] at c00 c01 c02
          have x00 := (bw2.cell (p := ⟨g, o + 0 * 3, none⟩) hgg).trans c00
          have x01 := (bw2.cell (p := ⟨g, o + 0 * 3 + 1, none⟩) hgg).trans c01
          have x02 := (bw2.cell (p := ⟨g, o + 0 * 3 + 2, none⟩) hgg).trans c02
          simp only [Nat.zero_mul, Nat.add_zero, Nat.one_mul, (by decide : 2 * 3 = 6)] at x00 x01 x02
          clear c00 c01 c02 G0
          clear hlen
          simp only [(by decide : (1 < 2) = True), (by decide : (2 < 2) = False), (by decide : (3 < 2) = False), (by decide : (1 < 3) = True), (by decide : (2 < 3) = True), (by decide : (3 < 3) = False), true_or, false_or] at hl1 hl2
          have hgw : g < wr.heap.size := by have := bw2.size; omega
          clear hgc hcells HCE hsz b1 hb2 q0 q1 q2 f0 f1 f2 HR0
          go_wp2_with (go_at_call 76; fail)
          refine (caseU_any s0 _ hs).mono ?_
          rintro e w3 ⟨t, ht, rfl, hb3⟩
          have HT : Hid (t = ⟨(Lib.mapD (shiftF 97 122 (-32)) s0.data.toList).toArray⟩) := map_text 97 122 (-32) (by omega) (by omega) (by omega) (by omega) hcs.out ht
          clear ht
          obtain ⟨hc3, hf3⟩ := bcell hb3
          have hz3 := hb3.size
          simp at hz3
          have hy3 : w.heap.size < w3.heap.size := by omega
          have bw3 : Below w.heap.size w w3 := Below.trans (by (go_light; repeat (first | with_reducible assumption | with_reducible exact Below.refl _ _ | (with_reducible refine Below.setCell ?_ ?_ _; rotate_left; (focus first | (simp; done) | (simp; omega) | omega)) | (with_reducible refine Below.alloc ?_ ?_ _; rotate_left; (focus first | (simp; done) | (simp; omega) | omega)) | with_reducible refine Below.drew ?_))) (hb3.mono (by simp; omega))
          have p0 : w3.cell? ⟨w.heap.size, 0, none⟩ = some (.int .i64 0) := (hc3 _ _ (by simp; omega)).trans (by simp [go_sem, p0, hy2])
          have p1 : w3.cell? ⟨w.heap.size, 1, none⟩ = some (.int .i64 0) := (hc3 _ _ (by simp; omega)).trans (by simp [go_sem, p1, hy2])
          have p2 : w3.cell? ⟨w.heap.size, 2, none⟩ = some (.string ⟨#[]⟩) := (hc3 _ _ (by simp; omega)).trans (by simp [go_sem, p2, hy2])
          have j0 : w3.frozen? ⟨w.heap.size, 0, none⟩ = false := (hf3 _ _ (by simp; omega)).trans (by simp [go_sem, j0, hy2])
          have j1 : w3.frozen? ⟨w.heap.size, 1, none⟩ = false := (hf3 _ _ (by simp; omega)).trans (by simp [go_sem, j1, hy2])
          have j2 : w3.frozen? ⟨w.heap.size, 2, none⟩ = false := (hf3 _ _ (by simp; omega)).trans (by simp [go_sem, j2, hy2])
          clear hb3 hc3 hf3
          go_wp2
          refine bodyPost_ret (v := tV 3 0 t 0) (by simp [results, Tryz.results33, go_sem, tV, p0, p1, p2, j0, j1, j2, hy3]) rfl ⟨by rw [HT.out], ?_⟩
          exact (by (go_light; repeat (first | with_reducible assumption | with_reducible exact Below.refl _ _ | (with_reducible refine Below.setCell ?_ ?_ _; rotate_left; (focus first | (simp; done) | (simp; omega) | omega)) | (with_reducible refine Below.alloc ?_ ?_ _; rotate_left; (focus first | (simp; done) | (simp; omega) | omega)) | with_reducible refine Below.drew ?_)))

end Go.Proofs.YtdcdoeolaongkaaGreatDoor.Ca
namespace Go.Proofs.YtdcdoeolaongkaaGreatDoor.Ca
open Go.MapKept Go.ChangeMaps
open Go.ChangeShapes Go.WideShapes Go.ChangeAt Go.RowKit Go.Shelf
open Go.Proofs.YtdcdoeolaongkaaGreatDoor.Rd
set_option linter.unusedVariables false
set_option linter.unusedSimpArgs false
set_option maxRecDepth 100000
set_option maxHeartbeats 16000000 in
theorem callS_substr_neg (k0 n0 : Int) (s0 : ByteArray) (k1 n1 : Int) (s1 : ByteArray) (k2 n2 : Int) (s2 : ByteArray) (ar : List TA) (a : Option Addr) (cap : Nat) (w : World) (h8 : ar.length ≤ 8) (hr : RVO w (.slice a ar.length cap) ar) (hsz : ∀ t ∈ ar, t.2.2.size ≤ 1048576) (hv : Hid (∀ t ∈ ar, vok t.1 t.2.1 t.2.2 = true)) (hck : Hid (¬ Mp.ckK 5 (kindsA ar) < 0)) (hnn : Hid (∀ t ∈ ar, (t.1 == 0) = false)) (har : Hid (ar = [(k0, n0, s0), (k1, n1, s1), (k2, n2, s2)])) (hn : n2 < 0) :
    Calls Tryz.prog 33 #[.int .i64 5, .slice a ar.length cap] w fun e w' => e = .returned (tV 0 0 ⟨#[]⟩ 15) ∧ Below w.heap.size w w' := by
  obtain ⟨i0, hi, hz0, hz1, hz2⟩ := info_parts info3
  have hrr := hr
  obtain ⟨a', cap', hsl, hcells⟩ := hr
  simp only [Value.slice.injEq] at hsl
  obtain ⟨rfl, _, rfl⟩ := hsl
  have h8i : ¬ (8 : Int) < ar.length := by omega
  have bw0 := below_alloc w (.cells #[.int .i64 0, .int .i64 0, .string ⟨#[]⟩] 29)
  have HCE : Hid _ := hcells
  clear hrr
  go_enter Tryz.func33, Tryz.ntmps33
  go_wp2
  generalize hW0 : w.alloc (.cells #[.int .i64 0, .int .i64 0, .string ⟨#[]⟩] 29) = W0 at *
  have hsE : W0.heap.size = w.heap.size + 1 := by rw [← hW0]; simp
  have HSE : Hid _ := hsE
  have hs0 : w.heap.size < W0.heap.size := by omega
  clear hsE
  have r0 : W0.cell? ⟨w.heap.size, 0, none⟩ = some (.int .i64 0) ∧ W0.cell? ⟨w.heap.size, 1, none⟩ = some (.int .i64 0) ∧ W0.cell? ⟨w.heap.size, 2, none⟩ = some (.string ⟨#[]⟩) ∧ W0.frozen? ⟨w.heap.size, 0, none⟩ = false ∧ W0.frozen? ⟨w.heap.size, 1, none⟩ = false ∧ W0.frozen? ⟨w.heap.size, 2, none⟩ = false := by
    rw [← hW0]; simp [go_sem]
  have HR0 : Hid _ := r0
  have HB0 : Hid (Below w.heap.size w W0) := bw0
  clear r0 bw0 hW0
  go_loopw [6, 8, 33] (fun kv _ i wr => ∃ k : Nat, k ≤ ar.length ∧ i = .int .i64 k ∧ OwnK W0.heap.size kv k (kindsA (ar.take k)) wr ∧ Below W0.heap.size W0 wr) (fun _ _ i _ => ar.length - (intOf i).toNat)
  case atStart =>
    refine ⟨0, Nat.zero_le _, rfl, ?_, (Below.refl _ _).alloc (Nat.le_refl _) _⟩
    rw [← HSE.out]
    exact World.ownsRow_made W0 #[] 0 (Nat.le_refl _) (by unfold maxLen; omega) (by simp)
  case round =>
    obtain ⟨k, hk, rfl, hoK, hbel⟩ := hrel
    have ho : wr.ownsRow W0.heap.size 3 1 _ k ((kindsA (ar.take k)).map (Value.int .i64)) := hoK
    clear hoK
    have hbs := hbel.size
    by_cases hlt : k < ar.length
    · have hlti : (k : Int) < ar.length := by omega
      obtain ⟨g, o, rfl, hgg, hgc⟩ := hcells (by omega)
      have bww : Below w.heap.size w wr := HB0.out.trans (hbel.mono (by omega))
      obtain ⟨c0, c1, c2⟩ := hgc k hlt
      have d0 := (bww.cell (p := ⟨g, o + k * 3, none⟩) hgg).trans c0
      have d1 := (bww.cell (p := ⟨g, o + k * 3 + 1, none⟩) hgg).trans c1
      have d2 := (bww.cell (p := ⟨g, o + k * 3 + 2, none⟩) hgg).trans c2
      have hsx := hsz ar[k] (List.getElem_mem hlt)
      have hvx := hv.out ar[k] (List.getElem_mem hlt)
      have HTK : Hid (ar.take (k + 1) = ar.take k ++ [ar[k]]) := take_snoc hlt
      clear c0 c1 c2 hgc hcells hsz HCE
      generalize ar[k] = t at *
      obtain ⟨tk, tn, ts⟩ := t
      simp only at d0 d1 d2 hsx
      have hVX := fun W => vok_spec tk tn ts W hsx
      rw [hvx] at hVX
      clear hvx
      go_wp2_with (first | (go_at_call 14; refine (hVX _).mono ?_; rintro e w1 ⟨rfl, hb1⟩; obtain ⟨hc1, hf1⟩ := bcell hb1; have hz1w : wr.heap.size < w1.heap.size := (by have := hb1.size; simp at this; omega); have bw1 : Below W0.heap.size W0 w1 := (hbel.alloc hbs _).trans (hb1.mono (by simp; omega)); have ho1 := own_below (ho.alloc _) hb1; have e0 : w1.cell? ⟨wr.heap.size, 0, none⟩ = some (.int .i64 tk) := (hc1 wr.heap.size 0 (by simp)).trans (by simp [go_sem])) | (at_builtin; refine wpList_append_own _ rfl (.tmp 41) (.tmp 44) 22 rfl W0.heap.size 3 i0 (.int .i64 0) 1 8 Tryz.underlying22 hi hz0 hz1 hz2 rfl (by decide) _ k ((kindsA (ar.take k)).map (Value.int .i64)) rfl (ho1.alloc _) ⟨w1.heap.size, 0, none⟩ 1 1 [.int .i64 tk] rfl rfl (cell_one_new _ _ _) (by intro u hu; simp at hu; subst hu; rfl) (by unfold maxLen; omega) (by omega) (by have := bw1.size; simp; omega) ?_; intro v' w2 hown' hgrow _; have bw2 : Below W0.heap.size W0 w2 := (bw1.alloc bw1.size _).grown hgrow (by have := bw1.size; simp; omega) (fun j hj => (ho1.lt j hj).1); have HOW : Hid (OwnK W0.heap.size v' (k + 1) (kindsA (ar.take (k + 1))) w2) := OwnK.of HTK.out hown'; clear hown' hgrow))
      go_roundw
      case rel => exact ⟨k + 1, by omega, by go_num, HOW.out, bw2⟩
      case measure => simp [intOf]; omega
    · have hkn : k = ar.length := by omega
      subst hkn
      have hlti : ¬ (ar.length : Int) < ar.length := by omega
      rw [List.take_length] at ho
      have hkl : (kindsA ar).length = ar.length := by simp [kindsA]
      rw [← hkl] at ho
      obtain ⟨ka, kc, rfl, hrio⟩ := own_rio ho
      clear ho
      have hck' := hck.out
      generalize hks : kindsA ar = ks at *
      have HKL : Hid (ks.length = ar.length) := hkl
      have bww : Below w.heap.size w wr := HB0.out.trans (hbel.mono (by omega))
      obtain ⟨q0, q1, q2, f0, f1, f2⟩ := HR0.out
      have hwr : w.heap.size < wr.heap.size := by omega
      have hn20 : ks.length ≤ 1048576 := by rw [hkl]; omega
      clear hkl hks HB0
      go_wp2_with (go_at_call 9; fail)
      have hKS := fun W h => Mp.callKind_spec 5 ks ka kc W hn20 h
      generalize Mp.ckK 5 ks = ck at *
      refine (hKS _ hrio).mono ?_
      rintro e w1 ⟨rfl, hb1⟩
      have b1 : Below W0.heap.size W0 w1 := hbel.trans (hb1.mono hbs)
      have hs1 := b1.size
      have bw1 : Below w.heap.size w w1 := bww.trans (hb1.mono bww.size)
      clear hKS hrio hbel hb1 bww
      have q0 := (b1.cell (p := ⟨w.heap.size, 0, none⟩) hs0).trans q0
      have q1 := (b1.cell (p := ⟨w.heap.size, 1, none⟩) hs0).trans q1
      have q2 := (b1.cell (p := ⟨w.heap.size, 2, none⟩) hs0).trans q2
      have f0 := (b1.frozen (p := ⟨w.heap.size, 0, none⟩) hs0).trans f0
      have f1 := (b1.frozen (p := ⟨w.heap.size, 1, none⟩) hs0).trans f1
      have f2 := (b1.frozen (p := ⟨w.heap.size, 2, none⟩) hs0).trans f2
      have hy1 : w.heap.size < w1.heap.size := by omega
      go_wp2
      go_loopw [13, 74] (fun _ i wr => ∃ k : Nat, k ≤ ar.length ∧ i = .int .i64 k ∧ Below w1.heap.size w1 wr) (fun _ i _ => ar.length - (intOf i).toNat)
      case atStart => exact ⟨0, Nat.zero_le _, rfl, Below.refl _ _⟩
      case round =>
        obtain ⟨k, hk2, rfl, hb2⟩ := hrel
        have hs2 := hb2.size
        have bw2 : Below w.heap.size w wr := bw1.trans (hb2.mono bw1.size)
        by_cases hlt : k < ar.length
        · have hlti : (k : Int) < ar.length := by omega
          obtain ⟨g, o, rfl, hgg, hgc⟩ := HCE.out (by omega)
          obtain ⟨c0, c1, c2⟩ := hgc k hlt
          have d0 := (bw2.cell (p := ⟨g, o + k * 3, none⟩) hgg).trans c0
          have d1 := (bw2.cell (p := ⟨g, o + k * 3 + 1, none⟩) hgg).trans c1
          have d2 := (bw2.cell (p := ⟨g, o + k * 3 + 2, none⟩) hgg).trans c2
          have hnz := hnn.out ar[k] (List.getElem_mem hlt)
          clear c0 c1 c2 hgc hcells HCE hsz
          generalize ar[k] = t at *
          obtain ⟨tk, tn, ts⟩ := t
          simp only at d0 d1 d2 hnz
          go_wp2
          go_roundw
          case rel => exact ⟨k + 1, by omega, by go_num, (by (go_light; repeat (first | with_reducible assumption | with_reducible exact Below.refl _ _ | (with_reducible refine Below.setCell ?_ ?_ _; rotate_left; (focus first | (simp; done) | (simp; omega) | omega)) | (with_reducible refine Below.alloc ?_ ?_ _; rotate_left; (focus first | (simp; done) | (simp; omega) | omega)) | with_reducible refine Below.drew ?_)))⟩
          case measure => simp [intOf]; omega
        · have hkn : k = ar.length := by omega
          subst hkn
          have hlti : ¬ (ar.length : Int) < ar.length := by omega
          have p0 := (hb2.cell (p := ⟨w.heap.size, 0, none⟩) hy1).trans q0
          have p1 := (hb2.cell (p := ⟨w.heap.size, 1, none⟩) hy1).trans q1
          have p2 := (hb2.cell (p := ⟨w.heap.size, 2, none⟩) hy1).trans q2
          have j0 := (hb2.frozen (p := ⟨w.heap.size, 0, none⟩) hy1).trans f0
          have j1 := (hb2.frozen (p := ⟨w.heap.size, 1, none⟩) hy1).trans f1
          have j2 := (hb2.frozen (p := ⟨w.heap.size, 2, none⟩) hy1).trans f2
          have hy2 : w.heap.size < wr.heap.size := by omega
          have hlen : ar.length = 3 := by rw [har.out]; rfl
          have hl0 : (0 : Int) < ar.length := by omega
          have hl1 : 3 < 2 ∨ (1 : Int) < ar.length := by omega
          have hl2 : 3 < 3 ∨ (2 : Int) < ar.length := by omega
          obtain ⟨g, o, rfl, hgg, hgc⟩ := HCE.out (by omega)
          have G0 : ar[0]'(by omega) = (k0, n0, s0) := by simp only [har.out]; rfl
          obtain ⟨c00, c01, c02⟩ := hgc 0 (by omega)
          rw [G0] at c00 c01 c02
          have x00 := (bw2.cell (p := ⟨g, o + 0 * 3, none⟩) hgg).trans c00
          have x01 := (bw2.cell (p := ⟨g, o + 0 * 3 + 1, none⟩) hgg).trans c01
          have x02 := (bw2.cell (p := ⟨g, o + 0 * 3 + 2, none⟩) hgg).trans c02
          simp only [Nat.zero_mul, Nat.add_zero, Nat.one_mul, (by decide : 2 * 3 = 6)] at x00 x01 x02
          clear c00 c01 c02 G0
          have G1 : ar[1]'(by omega) = (k1, n1, s1) := by simp only [har.out]; rfl
          obtain ⟨c10, c11, c12⟩ := hgc 1 (by omega)
          rw [G1] at c10 c11 c12
          have x10 := (bw2.cell (p := ⟨g, o + 1 * 3, none⟩) hgg).trans c10
          have x11 := (bw2.cell (p := ⟨g, o + 1 * 3 + 1, none⟩) hgg).trans c11
          have x12 := (bw2.cell (p := ⟨g, o + 1 * 3 + 2, none⟩) hgg).trans c12
          simp only [Nat.zero_mul, Nat.add_zero, Nat.one_mul, (by decide : 2 * 3 = 6)] at x10 x11 x12
          clear c10 c11 c12 G1
          have G2 : ar[2]'(by omega) = (k2, n2, s2) := by simp only [har.out]; rfl
          obtain ⟨c20, c21, c22⟩ := hgc 2 (by omega)
          rw [G2] at c20 c21 c22
          have x20 := (bw2.cell (p := ⟨g, o + 2 * 3, none⟩) hgg).trans c20
          have x21 := (bw2.cell (p := ⟨g, o + 2 * 3 + 1, none⟩) hgg).trans c21
          have x22 := (bw2.cell (p := ⟨g, o + 2 * 3 + 2, none⟩) hgg).trans c22
          simp only [Nat.zero_mul, Nat.add_zero, Nat.one_mul, (by decide : 2 * 3 = 6)] at x20 x21 x22
          clear c20 c21 c22 G2
          clear hlen
          simp only [(by decide : (1 < 2) = True), (by decide : (2 < 2) = False), (by decide : (3 < 2) = False), (by decide : (1 < 3) = True), (by decide : (2 < 3) = True), (by decide : (3 < 3) = False), true_or, false_or] at hl1 hl2
          have hgw : g < wr.heap.size := by have := bw2.size; omega
          clear hgc hcells HCE hsz b1 hb2 q0 q1 q2 f0 f1 f2 HR0
          go_wp2
          refine bodyPost_ret (v := tV 0 0 ⟨#[]⟩ 15) (by simp [results, Tryz.results33, go_sem, tV, p0, p1, p2, j0, j1, j2, hy2]) rfl ⟨rfl, ?_⟩
          exact (by (go_light; repeat (first | with_reducible assumption | with_reducible exact Below.refl _ _ | (with_reducible refine Below.setCell ?_ ?_ _; rotate_left; (focus first | (simp; done) | (simp; omega) | omega)) | (with_reducible refine Below.alloc ?_ ?_ _; rotate_left; (focus first | (simp; done) | (simp; omega) | omega)) | with_reducible refine Below.drew ?_)))

set_option maxHeartbeats 16000000 in
theorem callS_substr (k0 n0 : Int) (s0 : ByteArray) (k1 n1 : Int) (s1 : ByteArray) (k2 n2 : Int) (s2 : ByteArray) (ar : List TA) (a : Option Addr) (cap : Nat) (w : World) (h8 : ar.length ≤ 8) (hr : RVO w (.slice a ar.length cap) ar) (hsz : ∀ t ∈ ar, t.2.2.size ≤ 1048576) (hv : Hid (∀ t ∈ ar, vok t.1 t.2.1 t.2.2 = true)) (hck : Hid (¬ Mp.ckK 5 (kindsA ar) < 0)) (hnn : Hid (∀ t ∈ ar, (t.1 == 0) = false)) (har : Hid (ar = [(k0, n0, s0), (k1, n1, s1), (k2, n2, s2)])) (hn : 0 ≤ n2) (t : ByteArray) (hS : ∀ W, Calls Tryz.prog 77 #[.string s0, .int .i64 n1, .int .i64 n2] W fun e w' => e = .returned (.string t) ∧ Below W.heap.size W w') :
    Calls Tryz.prog 33 #[.int .i64 5, .slice a ar.length cap] w fun e w' => e = .returned (tV 3 0 t 0) ∧ Below w.heap.size w w' := by
  obtain ⟨i0, hi, hz0, hz1, hz2⟩ := info_parts info3
  have hrr := hr
  obtain ⟨a', cap', hsl, hcells⟩ := hr
  simp only [Value.slice.injEq] at hsl
  obtain ⟨rfl, _, rfl⟩ := hsl
  have h8i : ¬ (8 : Int) < ar.length := by omega
  have bw0 := below_alloc w (.cells #[.int .i64 0, .int .i64 0, .string ⟨#[]⟩] 29)
  have HCE : Hid _ := hcells
  clear hrr
  go_enter Tryz.func33, Tryz.ntmps33
  go_wp2
  generalize hW0 : w.alloc (.cells #[.int .i64 0, .int .i64 0, .string ⟨#[]⟩] 29) = W0 at *
  have hsE : W0.heap.size = w.heap.size + 1 := by rw [← hW0]; simp
  have HSE : Hid _ := hsE
  have hs0 : w.heap.size < W0.heap.size := by omega
  clear hsE
  have r0 : W0.cell? ⟨w.heap.size, 0, none⟩ = some (.int .i64 0) ∧ W0.cell? ⟨w.heap.size, 1, none⟩ = some (.int .i64 0) ∧ W0.cell? ⟨w.heap.size, 2, none⟩ = some (.string ⟨#[]⟩) ∧ W0.frozen? ⟨w.heap.size, 0, none⟩ = false ∧ W0.frozen? ⟨w.heap.size, 1, none⟩ = false ∧ W0.frozen? ⟨w.heap.size, 2, none⟩ = false := by
    rw [← hW0]; simp [go_sem]
  have HR0 : Hid _ := r0
  have HB0 : Hid (Below w.heap.size w W0) := bw0
  clear r0 bw0 hW0
  go_loopw [6, 8, 33] (fun kv _ i wr => ∃ k : Nat, k ≤ ar.length ∧ i = .int .i64 k ∧ OwnK W0.heap.size kv k (kindsA (ar.take k)) wr ∧ Below W0.heap.size W0 wr) (fun _ _ i _ => ar.length - (intOf i).toNat)
  case atStart =>
    refine ⟨0, Nat.zero_le _, rfl, ?_, (Below.refl _ _).alloc (Nat.le_refl _) _⟩
    rw [← HSE.out]
    exact World.ownsRow_made W0 #[] 0 (Nat.le_refl _) (by unfold maxLen; omega) (by simp)
  case round =>
    obtain ⟨k, hk, rfl, hoK, hbel⟩ := hrel
    have ho : wr.ownsRow W0.heap.size 3 1 _ k ((kindsA (ar.take k)).map (Value.int .i64)) := hoK
    clear hoK
    have hbs := hbel.size
    by_cases hlt : k < ar.length
    · have hlti : (k : Int) < ar.length := by omega
      obtain ⟨g, o, rfl, hgg, hgc⟩ := hcells (by omega)
      have bww : Below w.heap.size w wr := HB0.out.trans (hbel.mono (by omega))
      obtain ⟨c0, c1, c2⟩ := hgc k hlt
      have d0 := (bww.cell (p := ⟨g, o + k * 3, none⟩) hgg).trans c0
      have d1 := (bww.cell (p := ⟨g, o + k * 3 + 1, none⟩) hgg).trans c1
      have d2 := (bww.cell (p := ⟨g, o + k * 3 + 2, none⟩) hgg).trans c2
      have hsx := hsz ar[k] (List.getElem_mem hlt)
      have hvx := hv.out ar[k] (List.getElem_mem hlt)
      have HTK : Hid (ar.take (k + 1) = ar.take k ++ [ar[k]]) := take_snoc hlt
      clear c0 c1 c2 hgc hcells hsz HCE
      generalize ar[k] = t at *
      obtain ⟨tk, tn, ts⟩ := t
      simp only at d0 d1 d2 hsx
      have hVX := fun W => vok_spec tk tn ts W hsx
      rw [hvx] at hVX
      clear hvx
      go_wp2_with (first | (go_at_call 14; refine (hVX _).mono ?_; rintro e w1 ⟨rfl, hb1⟩; obtain ⟨hc1, hf1⟩ := bcell hb1; have hz1w : wr.heap.size < w1.heap.size := (by have := hb1.size; simp at this; omega); have bw1 : Below W0.heap.size W0 w1 := (hbel.alloc hbs _).trans (hb1.mono (by simp; omega)); have ho1 := own_below (ho.alloc _) hb1; have e0 : w1.cell? ⟨wr.heap.size, 0, none⟩ = some (.int .i64 tk) := (hc1 wr.heap.size 0 (by simp)).trans (by simp [go_sem])) | (at_builtin; refine wpList_append_own _ rfl (.tmp 41) (.tmp 44) 22 rfl W0.heap.size 3 i0 (.int .i64 0) 1 8 Tryz.underlying22 hi hz0 hz1 hz2 rfl (by decide) _ k ((kindsA (ar.take k)).map (Value.int .i64)) rfl (ho1.alloc _) ⟨w1.heap.size, 0, none⟩ 1 1 [.int .i64 tk] rfl rfl (cell_one_new _ _ _) (by intro u hu; simp at hu; subst hu; rfl) (by unfold maxLen; omega) (by omega) (by have := bw1.size; simp; omega) ?_; intro v' w2 hown' hgrow _; have bw2 : Below W0.heap.size W0 w2 := (bw1.alloc bw1.size _).grown hgrow (by have := bw1.size; simp; omega) (fun j hj => (ho1.lt j hj).1); have HOW : Hid (OwnK W0.heap.size v' (k + 1) (kindsA (ar.take (k + 1))) w2) := OwnK.of HTK.out hown'; clear hown' hgrow))
      go_roundw
      case rel => exact ⟨k + 1, by omega, by go_num, HOW.out, bw2⟩
      case measure => simp [intOf]; omega
    · have hkn : k = ar.length := by omega
      subst hkn
      have hlti : ¬ (ar.length : Int) < ar.length := by omega
      rw [List.take_length] at ho
      have hkl : (kindsA ar).length = ar.length := by simp [kindsA]
      rw [← hkl] at ho
      obtain ⟨ka, kc, rfl, hrio⟩ := own_rio ho
      clear ho
      have hck' := hck.out
      generalize hks : kindsA ar = ks at *
      have HKL : Hid (ks.length = ar.length) := hkl
      have bww : Below w.heap.size w wr := HB0.out.trans (hbel.mono (by omega))
      obtain ⟨q0, q1, q2, f0, f1, f2⟩ := HR0.out
      have hwr : w.heap.size < wr.heap.size := by omega
      have hn20 : ks.length ≤ 1048576 := by rw [hkl]; omega
      clear hkl hks HB0
      go_wp2_with (go_at_call 9; fail)
      have hKS := fun W h => Mp.callKind_spec 5 ks ka kc W hn20 h
      generalize Mp.ckK 5 ks = ck at *
      refine (hKS _ hrio).mono ?_
      rintro e w1 ⟨rfl, hb1⟩
      have b1 : Below W0.heap.size W0 w1 := hbel.trans (hb1.mono hbs)
      have hs1 := b1.size
      have bw1 : Below w.heap.size w w1 := bww.trans (hb1.mono bww.size)
      clear hKS hrio hbel hb1 bww
      have q0 := (b1.cell (p := ⟨w.heap.size, 0, none⟩) hs0).trans q0
      have q1 := (b1.cell (p := ⟨w.heap.size, 1, none⟩) hs0).trans q1
      have q2 := (b1.cell (p := ⟨w.heap.size, 2, none⟩) hs0).trans q2
      have f0 := (b1.frozen (p := ⟨w.heap.size, 0, none⟩) hs0).trans f0
      have f1 := (b1.frozen (p := ⟨w.heap.size, 1, none⟩) hs0).trans f1
      have f2 := (b1.frozen (p := ⟨w.heap.size, 2, none⟩) hs0).trans f2
      have hy1 : w.heap.size < w1.heap.size := by omega
      go_wp2
      go_loopw [13, 74] (fun _ i wr => ∃ k : Nat, k ≤ ar.length ∧ i = .int .i64 k ∧ Below w1.heap.size w1 wr) (fun _ i _ => ar.length - (intOf i).toNat)
      case atStart => exact ⟨0, Nat.zero_le _, rfl, Below.refl _ _⟩
      case round =>
        obtain ⟨k, hk2, rfl, hb2⟩ := hrel
        have hs2 := hb2.size
        have bw2 : Below w.heap.size w wr := bw1.trans (hb2.mono bw1.size)
        by_cases hlt : k < ar.length
        · have hlti : (k : Int) < ar.length := by omega
          obtain ⟨g, o, rfl, hgg, hgc⟩ := HCE.out (by omega)
          obtain ⟨c0, c1, c2⟩ := hgc k hlt
          have d0 := (bw2.cell (p := ⟨g, o + k * 3, none⟩) hgg).trans c0
          have d1 := (bw2.cell (p := ⟨g, o + k * 3 + 1, none⟩) hgg).trans c1
          have d2 := (bw2.cell (p := ⟨g, o + k * 3 + 2, none⟩) hgg).trans c2
          have hnz := hnn.out ar[k] (List.getElem_mem hlt)
          clear c0 c1 c2 hgc hcells HCE hsz
          generalize ar[k] = t at *
          obtain ⟨tk, tn, ts⟩ := t
          simp only at d0 d1 d2 hnz
          go_wp2
          go_roundw
          case rel => exact ⟨k + 1, by omega, by go_num, (by (go_light; repeat (first | with_reducible assumption | with_reducible exact Below.refl _ _ | (with_reducible refine Below.setCell ?_ ?_ _; rotate_left; (focus first | (simp; done) | (simp; omega) | omega)) | (with_reducible refine Below.alloc ?_ ?_ _; rotate_left; (focus first | (simp; done) | (simp; omega) | omega)) | with_reducible refine Below.drew ?_)))⟩
          case measure => simp [intOf]; omega
        · have hkn : k = ar.length := by omega
          subst hkn
          have hlti : ¬ (ar.length : Int) < ar.length := by omega
          have p0 := (hb2.cell (p := ⟨w.heap.size, 0, none⟩) hy1).trans q0
          have p1 := (hb2.cell (p := ⟨w.heap.size, 1, none⟩) hy1).trans q1
          have p2 := (hb2.cell (p := ⟨w.heap.size, 2, none⟩) hy1).trans q2
          have j0 := (hb2.frozen (p := ⟨w.heap.size, 0, none⟩) hy1).trans f0
          have j1 := (hb2.frozen (p := ⟨w.heap.size, 1, none⟩) hy1).trans f1
          have j2 := (hb2.frozen (p := ⟨w.heap.size, 2, none⟩) hy1).trans f2
          have hy2 : w.heap.size < wr.heap.size := by omega
          have hlen : ar.length = 3 := by rw [har.out]; rfl
          have hl0 : (0 : Int) < ar.length := by omega
          have hl1 : 3 < 2 ∨ (1 : Int) < ar.length := by omega
          have hl2 : 3 < 3 ∨ (2 : Int) < ar.length := by omega
          obtain ⟨g, o, rfl, hgg, hgc⟩ := HCE.out (by omega)
          have G0 : ar[0]'(by omega) = (k0, n0, s0) := by simp only [har.out]; rfl
          obtain ⟨c00, c01, c02⟩ := hgc 0 (by omega)
          rw [G0] at c00 c01 c02
          have x00 := (bw2.cell (p := ⟨g, o + 0 * 3, none⟩) hgg).trans c00
          have x01 := (bw2.cell (p := ⟨g, o + 0 * 3 + 1, none⟩) hgg).trans c01
          have x02 := (bw2.cell (p := ⟨g, o + 0 * 3 + 2, none⟩) hgg).trans c02
          simp only [Nat.zero_mul, Nat.add_zero, Nat.one_mul, (by decide : 2 * 3 = 6)] at x00 x01 x02
          clear c00 c01 c02 G0
          have G1 : ar[1]'(by omega) = (k1, n1, s1) := by simp only [har.out]; rfl
          obtain ⟨c10, c11, c12⟩ := hgc 1 (by omega)
          rw [G1] at c10 c11 c12
          have x10 := (bw2.cell (p := ⟨g, o + 1 * 3, none⟩) hgg).trans c10
          have x11 := (bw2.cell (p := ⟨g, o + 1 * 3 + 1, none⟩) hgg).trans c11
          have x12 := (bw2.cell (p := ⟨g, o + 1 * 3 + 2, none⟩) hgg).trans c12
          simp only [Nat.zero_mul, Nat.add_zero, Nat.one_mul, (by decide : 2 * 3 = 6)] at x10 x11 x12
          clear c10 c11 c12 G1
          have G2 : ar[2]'(by omega) = (k2, n2, s2) := by simp only [har.out]; rfl
          obtain ⟨c20, c21, c22⟩ := hgc 2 (by omega)
          rw [G2] at c20 c21 c22
          have x20 := (bw2.cell (p := ⟨g, o + 2 * 3, none⟩) hgg).trans c20
          have x21 := (bw2.cell (p := ⟨g, o + 2 * 3 + 1, none⟩) hgg).trans c21
          have x22 := (bw2.cell (p := ⟨g, o + 2 * 3 + 2, none⟩) hgg).trans c22
          simp only [Nat.zero_mul, Nat.add_zero, Nat.one_mul, (by decide : 2 * 3 = 6)] at x20 x21 x22
          clear c20 c21 c22 G2
          clear hlen
          simp only [(by decide : (1 < 2) = True), (by decide : (2 < 2) = False), (by decide : (3 < 2) = False), (by decide : (1 < 3) = True), (by decide : (2 < 3) = True), (by decide : (3 < 3) = False), true_or, false_or] at hl1 hl2
          have hgw : g < wr.heap.size := by have := bw2.size; omega
          clear hgc hcells HCE hsz b1 hb2 q0 q1 q2 f0 f1 f2 HR0
          have hn0 : ¬ n2 < 0 := by omega
          have HGK : Hid _ := hS
          go_upto_region 41 with fail
          have hgw2 : wr.heap.size ≠ g := by omega
          have hy4 : wr.heap.size ≠ w.heap.size := by omega
          have hy5 : w.heap.size ≠ wr.heap.size := by omega
          have hx1 : wr.cell? ⟨g, o + 3 + 1, none⟩ = some (.int .i64 n1) := x11
          have hx2 : wr.cell? ⟨g, o + 6 + 1, none⟩ = some (.int .i64 n2) := x21
          have hwn : w.heap.size ≠ g := by omega
          have hgn : g ≠ w.heap.size := by omega
          go_region_held (fun W => W.cell? ⟨wr.heap.size, 2, none⟩ = some (.string s0) ∧ W.cell? ⟨g, o + 3 + 1, none⟩ = some (.int .i64 n1) ∧ W.cell? ⟨g, o + 6 + 1, none⟩ = some (.int .i64 n2)) (go_keep) (first | (go_at_call 77; refine (HGK.out _).mono ?_; rintro e w3 ⟨rfl, hb3⟩; obtain ⟨hc3, hf3⟩ := bcell hb3; have hz3 := hb3.size; simp at hz3; have y0 : w3.cell? ⟨wr.heap.size, 2, none⟩ = some (.string s0) := (hc3 _ _ (by simp)).trans (by go_keep); have y1 : w3.cell? ⟨g, o + 3 + 1, none⟩ = some (.int .i64 n1) := (hc3 _ _ (by simp; omega)).trans (by go_keep); have y2 : w3.cell? ⟨g, o + 6 + 1, none⟩ = some (.int .i64 n2) := (hc3 _ _ (by simp; omega)).trans (by go_keep); have hy3 : w.heap.size < w3.heap.size := (by omega); have bw3 : Below w.heap.size w w3 := Below.trans (by (go_light; repeat (first | with_reducible assumption | with_reducible exact Below.refl _ _ | (with_reducible refine Below.setCell ?_ ?_ _; rotate_left; (focus first | (simp; done) | (simp; omega) | omega)) | (with_reducible refine Below.alloc ?_ ?_ _; rotate_left; (focus first | (simp; done) | (simp; omega) | omega)) | with_reducible refine Below.drew ?_))) (hb3.mono (by simp; omega)); have p0 : w3.cell? ⟨w.heap.size, 0, none⟩ = some (.int .i64 0) := (hc3 _ _ (by simp; omega)).trans (by simp [go_sem, p0, hy2]); have p1 : w3.cell? ⟨w.heap.size, 1, none⟩ = some (.int .i64 0) := (hc3 _ _ (by simp; omega)).trans (by simp [go_sem, p1, hy2]); have p2 : w3.cell? ⟨w.heap.size, 2, none⟩ = some (.string ⟨#[]⟩) := (hc3 _ _ (by simp; omega)).trans (by simp [go_sem, p2, hy2]); have j0 : w3.frozen? ⟨w.heap.size, 0, none⟩ = false := (hf3 _ _ (by simp; omega)).trans (by simp [go_sem, j0, hy2]); have j1 : w3.frozen? ⟨w.heap.size, 1, none⟩ = false := (hf3 _ _ (by simp; omega)).trans (by simp [go_sem, j1, hy2]); have j2 : w3.frozen? ⟨w.heap.size, 2, none⟩ = false := (hf3 _ _ (by simp; omega)).trans (by simp [go_sem, j2, hy2])))
          all_goals
            go_wp2
            refine bodyPost_ret (v := tV 3 0 t 0) (by simp [results, Tryz.results33, go_sem, tV, p0, p1, p2, j0, j1, j2, hy2, hy3]) rfl ⟨rfl, ?_⟩
            exact (by (go_light; repeat (first | with_reducible assumption | with_reducible exact Below.refl _ _ | (with_reducible refine Below.setCell ?_ ?_ _; rotate_left; (focus first | (simp; done) | (simp; omega) | omega)) | (with_reducible refine Below.alloc ?_ ?_ _; rotate_left; (focus first | (simp; done) | (simp; omega) | omega)) | with_reducible refine Below.drew ?_)))

end Go.Proofs.YtdcdoeolaongkaaGreatDoor.Ca
