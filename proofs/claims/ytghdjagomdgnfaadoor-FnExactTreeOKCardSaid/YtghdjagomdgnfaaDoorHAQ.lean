import Derived.Test.YtghdjagomdgnfaaDoorHAH
import Derived.Test.YtghdjagomdgnfaaDoorHAI
namespace Go.Proofs.YtghdjagomdgnfaaDoor
open Go.ChangeShapes Go.WideShapes Go.ChangeAt Go.RowKit
set_option linter.unusedVariables false
set_option linter.unusedSimpArgs false
set_option maxRecDepth 100000
open K
/-- What a node's form asks of its fields. -/
def fldB (f : FD) (t : Nd) : Bool := alw f.nm t.name && alw f.ql t.qual && (decide (f.ln ≤ t.n) && decide (t.n ≤ f.mn)) && (decide (f.lm ≤ t.m) && decide (t.m ≤ f.mm)) && (t.op == 1 || noV t)
structure NodeH (w : World) (ts : List Nd) (t : Nd) (ops : List Int) (ka : Option Addr) (kc : Nat) (nv : Value) (f : FD) : Prop where
  hl : ops.length = t.kids.length
  hn : t.kids.length ≤ 1048576
  hs1 : t.name.size ≤ 1048576
  hs2 : t.qual.size ≤ 1048576
  hk : ∀ i (h : i < t.kids.length), ∃ (j : Nat) (hj : j < ts.length), t.kids[i] = (j : Int) ∧ ops[i]'(by omega) = ts[j].op ∧ 0 ≤ ts[j].op ∧ ts[j].op ≤ 64
  hK : RIK w (.slice ka t.kids.length kc) t.kids
  hN : RNK w nv ts
  hpn : f.kids.length ≤ 1048576
  hpm : ∀ p ∈ f.kids, 0 ≤ p.2.2 ∧ p.2.2 ≤ 9223372036854775807
set_option maxHeartbeats 8000000 in
theorem nodeOK_none (ts : List Nd) (t : Nd) (ops : List Int) (ka : Option Addr) (kc : Nat) (na : Option Addr) (nl nc : Nat) (f : FD) (w : World) (H : NodeH w ts t ops ka kc (.slice na nl nc) f)
    (hF : ∀ W, Calls Tryd.prog 55 #[ndV t (.slice ka t.kids.length kc)] W fun e w' => FormP f false W e w') :
    Calls Tryd.prog 33 #[ndV t (.slice ka t.kids.length kc), .slice na nl nc] w fun e w' => e = .returned (.bool false) ∧ Below w.heap.size w w' := by
  obtain ⟨hl, hn, hs1, hs2, hk, hK, hN, hpn, hpm⟩ := H
  have hA1 := fun W => allows_any f.nm t.name W hs1
  have hA2 := fun W => allows_any f.ql t.qual W hs2
  have hKF := fun W pv (h : Below w.heap.size w W) (hp : RP W pv f.kids) => kidsFit_any ts t.kids ops f.kids (.slice ka t.kids.length kc) (.slice na nl nc) pv W hl hn hpn hk (hK.below h) (hN.below h) hp hpm
  clear hk hK hN hpm hl
  generalize fit ops f.kids = ft at *
  obtain ⟨op, name, qual, n, m, vk, vn, vs, kids, pos⟩ := t
  obtain ⟨fnm, fql, fln, fmn, flm, fmm, fks⟩ := f
  simp only [ndV] at *
  have bw0 := below_alloc w (.cells #[.int .i64 op, .string name, .string qual, .int .i64 n, .int .i64 m, .int .i64 vk, .int .i64 vn, .string vs, .slice ka kids.length kc, .int .i64 pos] 46)
  generalize kids.length = kl at *
  go_enter Tryd.func33, Tryd.ntmps33
  go_wp2_with (go_at_call 55; fail)
  refine (hF _).mono ?_
  rintro e w1 ⟨pv, rfl, HP, hb1⟩
  obtain ⟨hc1, hf1⟩ := bcell hb1
  have hz1 : w.heap.size < w1.heap.size := (by have := hb1.size; simp at this; omega)
  have bw1 : Below w.heap.size w w1 := bw0.trans (hb1.mono (by simp))
  obtain ⟨pa, pcap, rfl, hpc⟩ := HP
  have HRP : Hid (RP w1 (.slice pa fks.length pcap) fks) := ⟨pa, pcap, rfl, hpc⟩
  have hbw := bw1.alloc bw1.size (.cells #[.int .i64 fnm, .int .i64 fql, .int .i64 fln, .int .i64 fmn, .int .i64 flm, .int .i64 fmm, .slice pa fks.length pcap] 79)
  have hKF2 := fun W (h : Below w.heap.size w W) (h1 : Below w1.heap.size w1 W) => hKF W (.slice pa fks.length pcap) h (HRP.out.below h1)
  have hCH2 := True.intro
  simp only [formV]
  clear hpc hb1 hKF
  generalize fks.length = pl at *
  go_wp2
  go_ret
  exact ⟨rfl, by (go_light; repeat (first | with_reducible assumption | with_reducible exact Below.refl _ _ | (with_reducible refine Below.setCell ?_ ?_ _; rotate_left; (focus first | (simp; done) | (simp; omega) | omega)) | (with_reducible refine Below.alloc ?_ ?_ _; rotate_left; (focus first | (simp; done) | (simp; omega) | omega)) | with_reducible refine Below.drew ?_))⟩
end Go.Proofs.YtghdjagomdgnfaaDoor
namespace Go.Proofs.YtghdjagomdgnfaaDoor
open Go.ChangeShapes Go.WideShapes Go.ChangeAt Go.RowKit
set_option linter.unusedVariables false
set_option linter.unusedSimpArgs false
set_option maxRecDepth 100000
open K
set_option maxHeartbeats 8000000 in
theorem nodeOK_bad (ts : List Nd) (t : Nd) (ops : List Int) (ka : Option Addr) (kc : Nat) (na : Option Addr) (nl nc : Nat) (f : FD) (w : World) (H : NodeH w ts t ops ka kc (.slice na nl nc) f)
    (hF : ∀ W, Calls Tryd.prog 55 #[ndV t (.slice ka t.kids.length kc)] W fun e w' => FormP f true W e w') (hfld : fldB f t = false) :
    Calls Tryd.prog 33 #[ndV t (.slice ka t.kids.length kc), .slice na nl nc] w fun e w' => e = .returned (.bool false) ∧ Below w.heap.size w w' := by
  obtain ⟨hl, hn, hs1, hs2, hk, hK, hN, hpn, hpm⟩ := H
  have hA1 := fun W => allows_any f.nm t.name W hs1
  have hA2 := fun W => allows_any f.ql t.qual W hs2
  have hKF := fun W pv (h : Below w.heap.size w W) (hp : RP W pv f.kids) => kidsFit_any ts t.kids ops f.kids (.slice ka t.kids.length kc) (.slice na nl nc) pv W hl hn hpn hk (hK.below h) (hN.below h) hp hpm
  have hfl := hfld
  unfold fldB at hfl
  clear hk hK hN hpm hl
  generalize fit ops f.kids = ft at *
  obtain ⟨op, name, qual, n, m, vk, vn, vs, kids, pos⟩ := t
  obtain ⟨fnm, fql, fln, fmn, flm, fmm, fks⟩ := f
  simp only [ndV] at *
  have bw0 := below_alloc w (.cells #[.int .i64 op, .string name, .string qual, .int .i64 n, .int .i64 m, .int .i64 vk, .int .i64 vn, .string vs, .slice ka kids.length kc, .int .i64 pos] 46)
  generalize kids.length = kl at *
  go_enter Tryd.func33, Tryd.ntmps33
  go_wp2_with (go_at_call 55; fail)
  refine (hF _).mono ?_
  rintro e w1 ⟨pv, rfl, HP, hb1⟩
  obtain ⟨hc1, hf1⟩ := bcell hb1
  have hz1 : w.heap.size < w1.heap.size := (by have := hb1.size; simp at this; omega)
  have bw1 : Below w.heap.size w w1 := bw0.trans (hb1.mono (by simp))
  obtain ⟨pa, pcap, rfl, hpc⟩ := HP
  have HRP : Hid (RP w1 (.slice pa fks.length pcap) fks) := ⟨pa, pcap, rfl, hpc⟩
  have hbw := bw1.alloc bw1.size (.cells #[.int .i64 fnm, .int .i64 fql, .int .i64 fln, .int .i64 fmn, .int .i64 flm, .int .i64 fmm, .slice pa fks.length pcap] 79)
  have hKF2 := fun W (h : Below w.heap.size w W) (h1 : Below w1.heap.size w1 W) => hKF W (.slice pa fks.length pcap) h (HRP.out.below h1)
  have hCH2 := True.intro
  simp only [formV]
  clear hpc hb1 hKF
  generalize fks.length = pl at *
  generalize alw fnm name = a1 at *
  generalize alw fql qual = a2 at *
  cases a1
  · go_wp2_with (go_at_call 56; fail)
    refine (hA1 _).mono ?_
    rintro e w5 ⟨rfl, rfl⟩
    go_wp2
    go_ret
    exact ⟨rfl, by (go_light; repeat (first | with_reducible assumption | with_reducible exact Below.refl _ _ | (with_reducible refine Below.setCell ?_ ?_ _; rotate_left; (focus first | (simp; done) | (simp; omega) | omega)) | (with_reducible refine Below.alloc ?_ ?_ _; rotate_left; (focus first | (simp; done) | (simp; omega) | omega)) | with_reducible refine Below.drew ?_))⟩
  cases a2
  · go_wp2_with (go_at_call 56; fail)
    refine (hA1 _).mono ?_
    rintro e w5 ⟨rfl, rfl⟩
    go_wp2_with (go_at_call 56; fail)
    refine (hA2 _).mono ?_
    rintro e w5 ⟨rfl, rfl⟩
    go_wp2
    go_ret
    exact ⟨rfl, by (go_light; repeat (first | with_reducible assumption | with_reducible exact Below.refl _ _ | (with_reducible refine Below.setCell ?_ ?_ _; rotate_left; (focus first | (simp; done) | (simp; omega) | omega)) | (with_reducible refine Below.alloc ?_ ?_ _; rotate_left; (focus first | (simp; done) | (simp; omega) | omega)) | with_reducible refine Below.drew ?_))⟩
  cases r1 : (decide (fln ≤ n) && decide (n ≤ fmn))
  · go_wp2_with (go_at_call 56; fail)
    refine (hA1 _).mono ?_
    rintro e w5 ⟨rfl, rfl⟩
    go_wp2_with (go_at_call 56; fail)
    refine (hA2 _).mono ?_
    rintro e w5 ⟨rfl, rfl⟩
    go_wp2_with (go_at_call 29; fail)
    refine (within_any _ _ _ _).mono ?_
    rintro e w5 ⟨rfl, rfl⟩
    rw [r1]
    go_wp2
    go_ret
    exact ⟨rfl, by (go_light; repeat (first | with_reducible assumption | with_reducible exact Below.refl _ _ | (with_reducible refine Below.setCell ?_ ?_ _; rotate_left; (focus first | (simp; done) | (simp; omega) | omega)) | (with_reducible refine Below.alloc ?_ ?_ _; rotate_left; (focus first | (simp; done) | (simp; omega) | omega)) | with_reducible refine Below.drew ?_))⟩
  cases r2 : (decide (flm ≤ m) && decide (m ≤ fmm))
  · go_wp2_with (go_at_call 56; fail)
    refine (hA1 _).mono ?_
    rintro e w5 ⟨rfl, rfl⟩
    go_wp2_with (go_at_call 56; fail)
    refine (hA2 _).mono ?_
    rintro e w5 ⟨rfl, rfl⟩
    go_wp2_with (go_at_call 29; fail)
    refine (within_any _ _ _ _).mono ?_
    rintro e w5 ⟨rfl, rfl⟩
    rw [r1]
    go_wp2_with (go_at_call 29; fail)
    refine (within_any _ _ _ _).mono ?_
    rintro e w5 ⟨rfl, rfl⟩
    rw [r2]
    go_wp2
    go_ret
    exact ⟨rfl, by (go_light; repeat (first | with_reducible assumption | with_reducible exact Below.refl _ _ | (with_reducible refine Below.setCell ?_ ?_ _; rotate_left; (focus first | (simp; done) | (simp; omega) | omega)) | (with_reducible refine Below.alloc ?_ ?_ _; rotate_left; (focus first | (simp; done) | (simp; omega) | omega)) | with_reducible refine Below.drew ?_))⟩
  have hnv : (op == 1 || noV ⟨op, name, qual, n, m, vk, vn, vs, kids, pos⟩) = false := by
    rw [r1, r2] at hfl
    simpa using hfl
  have h1 : (op == 1) = false := by
    cases h : (op == 1)
    · rfl
    · rw [h] at hnv; simp at hnv
  have h1' : (op != 1) = true := by simp [bne, h1]
  rw [h1] at hnv
  simp only [noV, noS, Bool.false_or] at hnv
  go_wp2_with (go_at_call 56; fail)
  refine (hA1 _).mono ?_
  rintro e w5 ⟨rfl, rfl⟩
  go_wp2_with (go_at_call 56; fail)
  refine (hA2 _).mono ?_
  rintro e w5 ⟨rfl, rfl⟩
  go_wp2_with (go_at_call 29; fail)
  refine (within_any _ _ _ _).mono ?_
  rintro e w5 ⟨rfl, rfl⟩
  rw [r1]
  go_wp2_with (go_at_call 29; fail)
  refine (within_any _ _ _ _).mono ?_
  rintro e w5 ⟨rfl, rfl⟩
  rw [r2]
  go_wp2
  all_goals first | (go_ret; exact ⟨rfl, by (go_light; repeat (first | with_reducible assumption | with_reducible exact Below.refl _ _ | (with_reducible refine Below.setCell ?_ ?_ _; rotate_left; (focus first | (simp; done) | (simp; omega) | omega)) | (with_reducible refine Below.alloc ?_ ?_ _; rotate_left; (focus first | (simp; done) | (simp; omega) | omega)) | with_reducible refine Below.drew ?_))⟩) | (exfalso; simp_all; done)
end Go.Proofs.YtghdjagomdgnfaaDoor
namespace Go.Proofs.YtghdjagomdgnfaaDoor
open Go.ChangeShapes Go.WideShapes Go.ChangeAt Go.RowKit
set_option linter.unusedVariables false
set_option linter.unusedSimpArgs false
set_option maxRecDepth 100000
open K
set_option maxHeartbeats 8000000 in
theorem nodeOK_good (ts : List Nd) (t : Nd) (ops : List Int) (ka : Option Addr) (kc : Nat) (na : Option Addr) (nl nc : Nat) (f : FD) (w : World) (H : NodeH w ts t ops ka kc (.slice na nl nc) f)
    (hF : ∀ W, Calls Tryd.prog 55 #[ndV t (.slice ka t.kids.length kc)] W fun e w' => FormP f true W e w') (hfld : fldB f t = true) (c : Bool) (hCH : fit ops f.kids = true → ∀ W, Below w.heap.size w W → Calls Tryd.prog 58 #[ndV t (.slice ka t.kids.length kc), .slice na nl nc] W fun e w' => e = .returned (.bool c) ∧ Below W.heap.size W w') :
    Calls Tryd.prog 33 #[ndV t (.slice ka t.kids.length kc), .slice na nl nc] w fun e w' => e = .returned (.bool (fit ops f.kids && c)) ∧ Below w.heap.size w w' := by
  obtain ⟨hl, hn, hs1, hs2, hk, hK, hN, hpn, hpm⟩ := H
  have hA1 := fun W => allows_any f.nm t.name W hs1
  have hA2 := fun W => allows_any f.ql t.qual W hs2
  have hKF := fun W pv (h : Below w.heap.size w W) (hp : RP W pv f.kids) => kidsFit_any ts t.kids ops f.kids (.slice ka t.kids.length kc) (.slice na nl nc) pv W hl hn hpn hk (hK.below h) (hN.below h) hp hpm
  have hfl := hfld
  unfold fldB at hfl
  simp only [Bool.and_eq_true] at hfl
  obtain ⟨⟨⟨⟨g1, g2⟩, g3⟩, g4⟩, g5⟩ := hfl
  rw [g1] at hA1
  rw [g2] at hA2
  have r1 : (decide (f.ln ≤ t.n) && decide (t.n ≤ f.mn)) = true := by simpa using g3
  have r2 : (decide (f.lm ≤ t.m) && decide (t.m ≤ f.mm)) = true := by simpa using g4
  clear hk hK hN hpm hl
  generalize fit ops f.kids = ft at *
  obtain ⟨op, name, qual, n, m, vk, vn, vs, kids, pos⟩ := t
  obtain ⟨fnm, fql, fln, fmn, flm, fmm, fks⟩ := f
  simp only [ndV] at *
  have bw0 := below_alloc w (.cells #[.int .i64 op, .string name, .string qual, .int .i64 n, .int .i64 m, .int .i64 vk, .int .i64 vn, .string vs, .slice ka kids.length kc, .int .i64 pos] 46)
  generalize kids.length = kl at *
  go_enter Tryd.func33, Tryd.ntmps33
  go_wp2_with (go_at_call 55; fail)
  refine (hF _).mono ?_
  rintro e w1 ⟨pv, rfl, HP, hb1⟩
  obtain ⟨hc1, hf1⟩ := bcell hb1
  have hz1 : w.heap.size < w1.heap.size := (by have := hb1.size; simp at this; omega)
  have bw1 : Below w.heap.size w w1 := bw0.trans (hb1.mono (by simp))
  obtain ⟨pa, pcap, rfl, hpc⟩ := HP
  have HRP : Hid (RP w1 (.slice pa fks.length pcap) fks) := ⟨pa, pcap, rfl, hpc⟩
  have hbw := bw1.alloc bw1.size (.cells #[.int .i64 fnm, .int .i64 fql, .int .i64 fln, .int .i64 fmn, .int .i64 flm, .int .i64 fmm, .slice pa fks.length pcap] 79)
  have hKF2 := fun W (h : Below w.heap.size w W) (h1 : Below w1.heap.size w1 W) => hKF W (.slice pa fks.length pcap) h (HRP.out.below h1)
  have hCH2 := True.intro
  simp only [formV]
  clear hpc hb1 hKF
  generalize fks.length = pl at *
  have hg5 : (op != 1) = false ∨ ((op != 1) = true ∧ vk = 0 ∧ vn = 0 ∧ vs.toList = []) := by
    cases ho : (op != 1)
    · exact .inl rfl
    · have ho' : (op == 1) = false := by simpa [bne] using ho
      rw [ho'] at g5
      refine .inr ⟨rfl, ?_⟩
      simpa [noV, noS, and_assoc] using g5
  clear hfld g1 g2 g3 g4 g5
  cases ft
  · rcases hg5 with h1 | ⟨h1, rfl, rfl, h3⟩
    · go_wp2_with (go_at_call 56; fail)
      refine (hA1 _).mono ?_
      rintro e w5 ⟨rfl, rfl⟩
      go_wp2_with (go_at_call 56; fail)
      refine (hA2 _).mono ?_
      rintro e w5 ⟨rfl, rfl⟩
      go_wp2_with (go_at_call 29; fail)
      refine (within_any _ _ _ _).mono ?_
      rintro e w5 ⟨rfl, rfl⟩
      rw [r1]
      go_wp2_with (go_at_call 29; fail)
      refine (within_any _ _ _ _).mono ?_
      rintro e w5 ⟨rfl, rfl⟩
      rw [r2]
      go_wp2_with (go_at_call 57; fail)
      refine (hKF2 _ ?_ ?_).mono ?_
      · exact hbw
      · exact below_alloc _ _
      rintro e w6 ⟨rfl, hb6⟩
      have hz6 : w.heap.size < w6.heap.size := (by have := hb6.size; simp at this; omega)
      have bw6 : Below w.heap.size w w6 := hbw.trans (hb6.mono (by simp; omega))
      clear hb6 hKF2 hbw HRP hc1 hf1
      go_wp2
      go_ret
      exact ⟨rfl, bw6⟩
    · go_wp2_with (go_at_call 56; fail)
      refine (hA1 _).mono ?_
      rintro e w5 ⟨rfl, rfl⟩
      go_wp2_with (go_at_call 56; fail)
      refine (hA2 _).mono ?_
      rintro e w5 ⟨rfl, rfl⟩
      go_wp2_with (go_at_call 29; fail)
      refine (within_any _ _ _ _).mono ?_
      rintro e w5 ⟨rfl, rfl⟩
      rw [r1]
      go_wp2_with (go_at_call 29; fail)
      refine (within_any _ _ _ _).mono ?_
      rintro e w5 ⟨rfl, rfl⟩
      rw [r2]
      go_wp2_with (go_at_call 57; fail)
      refine (hKF2 _ ?_ ?_).mono ?_
      · exact hbw
      · exact below_alloc _ _
      rintro e w6 ⟨rfl, hb6⟩
      have hz6 : w.heap.size < w6.heap.size := (by have := hb6.size; simp at this; omega)
      have bw6 : Below w.heap.size w w6 := hbw.trans (hb6.mono (by simp; omega))
      clear hb6 hKF2 hbw HRP hc1 hf1
      go_wp2
      go_ret
      exact ⟨rfl, bw6⟩
  · have hCH3 := hCH rfl
    rcases hg5 with h1 | ⟨h1, rfl, rfl, h3⟩
    · go_wp2_with (go_at_call 56; fail)
      refine (hA1 _).mono ?_
      rintro e w5 ⟨rfl, rfl⟩
      go_wp2_with (go_at_call 56; fail)
      refine (hA2 _).mono ?_
      rintro e w5 ⟨rfl, rfl⟩
      go_wp2_with (go_at_call 29; fail)
      refine (within_any _ _ _ _).mono ?_
      rintro e w5 ⟨rfl, rfl⟩
      rw [r1]
      go_wp2_with (go_at_call 29; fail)
      refine (within_any _ _ _ _).mono ?_
      rintro e w5 ⟨rfl, rfl⟩
      rw [r2]
      go_wp2_with (go_at_call 57; fail)
      refine (hKF2 _ ?_ ?_).mono ?_
      · exact hbw
      · exact below_alloc _ _
      rintro e w6 ⟨rfl, hb6⟩
      have hz6 : w.heap.size < w6.heap.size := (by have := hb6.size; simp at this; omega)
      have bw6 : Below w.heap.size w w6 := hbw.trans (hb6.mono (by simp; omega))
      have n0 : w6.cell? ⟨w.heap.size, 0, none⟩ = some (.int .i64 op) := (hb6.cell (p := ⟨w.heap.size, 0, none⟩) (by simp; omega)).trans (((below_alloc w1 _).cell (p := ⟨w.heap.size, 0, none⟩) hz1).trans ((hc1 w.heap.size 0 (by simp)).trans (by simp)))
      have n1 : w6.cell? ⟨w.heap.size, 1, none⟩ = some (.string name) := (hb6.cell (p := ⟨w.heap.size, 1, none⟩) (by simp; omega)).trans (((below_alloc w1 _).cell (p := ⟨w.heap.size, 1, none⟩) hz1).trans ((hc1 w.heap.size 1 (by simp)).trans (by simp)))
      have n2 : w6.cell? ⟨w.heap.size, 2, none⟩ = some (.string qual) := (hb6.cell (p := ⟨w.heap.size, 2, none⟩) (by simp; omega)).trans (((below_alloc w1 _).cell (p := ⟨w.heap.size, 2, none⟩) hz1).trans ((hc1 w.heap.size 2 (by simp)).trans (by simp)))
      have n3 : w6.cell? ⟨w.heap.size, 3, none⟩ = some (.int .i64 n) := (hb6.cell (p := ⟨w.heap.size, 3, none⟩) (by simp; omega)).trans (((below_alloc w1 _).cell (p := ⟨w.heap.size, 3, none⟩) hz1).trans ((hc1 w.heap.size 3 (by simp)).trans (by simp)))
      have n4 : w6.cell? ⟨w.heap.size, 4, none⟩ = some (.int .i64 m) := (hb6.cell (p := ⟨w.heap.size, 4, none⟩) (by simp; omega)).trans (((below_alloc w1 _).cell (p := ⟨w.heap.size, 4, none⟩) hz1).trans ((hc1 w.heap.size 4 (by simp)).trans (by simp)))
      have n5 : w6.cell? ⟨w.heap.size, 5, none⟩ = some (.int .i64 vk) := (hb6.cell (p := ⟨w.heap.size, 5, none⟩) (by simp; omega)).trans (((below_alloc w1 _).cell (p := ⟨w.heap.size, 5, none⟩) hz1).trans ((hc1 w.heap.size 5 (by simp)).trans (by simp)))
      have n6 : w6.cell? ⟨w.heap.size, 6, none⟩ = some (.int .i64 vn) := (hb6.cell (p := ⟨w.heap.size, 6, none⟩) (by simp; omega)).trans (((below_alloc w1 _).cell (p := ⟨w.heap.size, 6, none⟩) hz1).trans ((hc1 w.heap.size 6 (by simp)).trans (by simp)))
      have n7 : w6.cell? ⟨w.heap.size, 7, none⟩ = some (.string vs) := (hb6.cell (p := ⟨w.heap.size, 7, none⟩) (by simp; omega)).trans (((below_alloc w1 _).cell (p := ⟨w.heap.size, 7, none⟩) hz1).trans ((hc1 w.heap.size 7 (by simp)).trans (by simp)))
      have n8 : w6.cell? ⟨w.heap.size, 8, none⟩ = some (.slice ka kl kc) := (hb6.cell (p := ⟨w.heap.size, 8, none⟩) (by simp; omega)).trans (((below_alloc w1 _).cell (p := ⟨w.heap.size, 8, none⟩) hz1).trans ((hc1 w.heap.size 8 (by simp)).trans (by simp)))
      have n9 : w6.cell? ⟨w.heap.size, 9, none⟩ = some (.int .i64 pos) := (hb6.cell (p := ⟨w.heap.size, 9, none⟩) (by simp; omega)).trans (((below_alloc w1 _).cell (p := ⟨w.heap.size, 9, none⟩) hz1).trans ((hc1 w.heap.size 9 (by simp)).trans (by simp)))
      clear hb6 hKF2 hbw HRP hc1 hf1
      go_wp2_with (go_at_call 58; fail)
      refine (hCH3 _ bw6).mono ?_
      rintro e w7 ⟨rfl, hb7⟩
      have bw7 : Below w.heap.size w w7 := bw6.trans (hb7.mono bw6.size)
      clear hb7 hCH3 n0 n1 n2 n3 n4 n5 n6 n7 n8 n9
      go_wp2
      go_ret
      exact ⟨rfl, bw7⟩
    · go_wp2_with (go_at_call 56; fail)
      refine (hA1 _).mono ?_
      rintro e w5 ⟨rfl, rfl⟩
      go_wp2_with (go_at_call 56; fail)
      refine (hA2 _).mono ?_
      rintro e w5 ⟨rfl, rfl⟩
      go_wp2_with (go_at_call 29; fail)
      refine (within_any _ _ _ _).mono ?_
      rintro e w5 ⟨rfl, rfl⟩
      rw [r1]
      go_wp2_with (go_at_call 29; fail)
      refine (within_any _ _ _ _).mono ?_
      rintro e w5 ⟨rfl, rfl⟩
      rw [r2]
      go_wp2_with (go_at_call 57; fail)
      refine (hKF2 _ ?_ ?_).mono ?_
      · exact hbw
      · exact below_alloc _ _
      rintro e w6 ⟨rfl, hb6⟩
      have hz6 : w.heap.size < w6.heap.size := (by have := hb6.size; simp at this; omega)
      have bw6 : Below w.heap.size w w6 := hbw.trans (hb6.mono (by simp; omega))
      have n0 : w6.cell? ⟨w.heap.size, 0, none⟩ = some (.int .i64 op) := (hb6.cell (p := ⟨w.heap.size, 0, none⟩) (by simp; omega)).trans (((below_alloc w1 _).cell (p := ⟨w.heap.size, 0, none⟩) hz1).trans ((hc1 w.heap.size 0 (by simp)).trans (by simp)))
      have n1 : w6.cell? ⟨w.heap.size, 1, none⟩ = some (.string name) := (hb6.cell (p := ⟨w.heap.size, 1, none⟩) (by simp; omega)).trans (((below_alloc w1 _).cell (p := ⟨w.heap.size, 1, none⟩) hz1).trans ((hc1 w.heap.size 1 (by simp)).trans (by simp)))
      have n2 : w6.cell? ⟨w.heap.size, 2, none⟩ = some (.string qual) := (hb6.cell (p := ⟨w.heap.size, 2, none⟩) (by simp; omega)).trans (((below_alloc w1 _).cell (p := ⟨w.heap.size, 2, none⟩) hz1).trans ((hc1 w.heap.size 2 (by simp)).trans (by simp)))
      have n3 : w6.cell? ⟨w.heap.size, 3, none⟩ = some (.int .i64 n) := (hb6.cell (p := ⟨w.heap.size, 3, none⟩) (by simp; omega)).trans (((below_alloc w1 _).cell (p := ⟨w.heap.size, 3, none⟩) hz1).trans ((hc1 w.heap.size 3 (by simp)).trans (by simp)))
      have n4 : w6.cell? ⟨w.heap.size, 4, none⟩ = some (.int .i64 m) := (hb6.cell (p := ⟨w.heap.size, 4, none⟩) (by simp; omega)).trans (((below_alloc w1 _).cell (p := ⟨w.heap.size, 4, none⟩) hz1).trans ((hc1 w.heap.size 4 (by simp)).trans (by simp)))
      have n5 : w6.cell? ⟨w.heap.size, 5, none⟩ = some (.int .i64 0) := (hb6.cell (p := ⟨w.heap.size, 5, none⟩) (by simp; omega)).trans (((below_alloc w1 _).cell (p := ⟨w.heap.size, 5, none⟩) hz1).trans ((hc1 w.heap.size 5 (by simp)).trans (by simp)))
      have n6 : w6.cell? ⟨w.heap.size, 6, none⟩ = some (.int .i64 0) := (hb6.cell (p := ⟨w.heap.size, 6, none⟩) (by simp; omega)).trans (((below_alloc w1 _).cell (p := ⟨w.heap.size, 6, none⟩) hz1).trans ((hc1 w.heap.size 6 (by simp)).trans (by simp)))
      have n7 : w6.cell? ⟨w.heap.size, 7, none⟩ = some (.string vs) := (hb6.cell (p := ⟨w.heap.size, 7, none⟩) (by simp; omega)).trans (((below_alloc w1 _).cell (p := ⟨w.heap.size, 7, none⟩) hz1).trans ((hc1 w.heap.size 7 (by simp)).trans (by simp)))
      have n8 : w6.cell? ⟨w.heap.size, 8, none⟩ = some (.slice ka kl kc) := (hb6.cell (p := ⟨w.heap.size, 8, none⟩) (by simp; omega)).trans (((below_alloc w1 _).cell (p := ⟨w.heap.size, 8, none⟩) hz1).trans ((hc1 w.heap.size 8 (by simp)).trans (by simp)))
      have n9 : w6.cell? ⟨w.heap.size, 9, none⟩ = some (.int .i64 pos) := (hb6.cell (p := ⟨w.heap.size, 9, none⟩) (by simp; omega)).trans (((below_alloc w1 _).cell (p := ⟨w.heap.size, 9, none⟩) hz1).trans ((hc1 w.heap.size 9 (by simp)).trans (by simp)))
      clear hb6 hKF2 hbw HRP hc1 hf1
      go_wp2_with (go_at_call 58; fail)
      refine (hCH3 _ bw6).mono ?_
      rintro e w7 ⟨rfl, hb7⟩
      have bw7 : Below w.heap.size w w7 := bw6.trans (hb7.mono bw6.size)
      clear hb7 hCH3 n0 n1 n2 n3 n4 n5 n6 n7 n8 n9
      go_wp2
      go_ret
      exact ⟨rfl, bw7⟩
end Go.Proofs.YtghdjagomdgnfaaDoor
