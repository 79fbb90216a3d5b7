import Derived.Test.YtghdjagomdgnfaaDoorHAG
import Derived.Shelf.Abstract
namespace Go.Proofs.YtghdjagomdgnfaaDoor
open Go.ChangeShapes Go.WideShapes Go.ChangeAt Go.RowKit
set_option linter.unusedVariables false
set_option linter.unusedSimpArgs false
set_option maxRecDepth 100000
set_option maxHeartbeats 8000000 in
theorem formOf_70 (t : Nd) (f : FD) (ka : Option Addr) (kl kc : Nat) (w : World) (h0 : 1 ≤ t.op) (h1 : t.op ≤ 17) (hT : ∀ W, Calls Tryd.prog 70 #[ndV t (.slice ka kl kc)] W fun e w' => TabP f W e w') :
    Calls Tryd.prog 55 #[ndV t (.slice ka kl kc)] w fun e w' => FormP f true w e w' := by
  obtain ⟨op, name, qual, n, m, vk, vn, vs, kids, pos⟩ := t
  obtain ⟨nm, ql, ln, mn, lm, mm, fk⟩ := f
  simp only [ndV] at *
  have r0 : (decide (1 ≤ op) && decide (op ≤ 17)) = true := by simp; omega
  go_enter Tryd.func55, Tryd.ntmps55
  go_wp2_with (go_at_call 29; refine (within_any _ _ _ _).mono ?_; rintro e w1 ⟨rfl, rfl⟩; try rw [r0])
  refine (hT _).mono ?_
  rintro e w1 ⟨v, rfl, HP, hb1⟩
  have hz1 := hb1.size
  simp at hz1
  have B1 : Below w.heap.size w w1 := Below.trans (by (go_light; repeat (first | with_reducible assumption | with_reducible exact Below.refl _ _ | (with_reducible refine Below.setCell ?_ ?_ _; rotate_left; (focus first | (simp; done) | (simp; omega) | omega)) | (with_reducible refine Below.alloc ?_ ?_ _; rotate_left; (focus first | (simp; done) | (simp; omega) | omega)) | with_reducible refine Below.drew ?_))) (hb1.mono (by first | omega | (simp; done) | (simp; omega)))
  have hx1 : w.heap.size + 1 < w1.heap.size := by omega
  have Z1 : Z7 w1 (w.heap.size + 1) := (Z7.start _ _ (w.heap.size + 1) (by simp)).below hb1 (by first | omega | (simp; done) | (simp; omega))
  obtain ⟨pa, pcap, rfl, hpc⟩ := HP
  have HR : Hid (RPX (w.heap.size + 1 + 1) w1 (.slice pa fk.length pcap) fk) := ⟨pa, pcap, rfl, by simpa using hpc⟩
  clear hb1 hpc
  obtain ⟨c0, f0, c1, f1, c2, f2, c3, f3, c4, f4, c5, f5, c6, f6⟩ := Z1
  simp only [formV]
  go_wp2
  refine bodyPost_ret (v := .tuple #[formV ⟨nm, ql, ln, mn, lm, mm, fk⟩ (.slice pa fk.length pcap), .bool true]) (by simp [results, formV, Tryd.results55, go_sem, hx1, c0, f0, c1, f1, c2, f2, c3, f3, c4, f4, c5, f5, c6, f6]) rfl ⟨_, rfl, ?_, ?_⟩
  · refine RPX.rp (B := w.heap.size + 1 + 1) ?_
    repeat (first | with_reducible exact HR.out | (with_reducible refine RPX.set ?_ ?_; rotate_left; omega))
  · exact (by (go_light; repeat (first | with_reducible assumption | with_reducible exact Below.refl _ _ | (with_reducible refine Below.setCell ?_ ?_ _; rotate_left; (focus first | (simp; done) | (simp; omega) | omega)) | (with_reducible refine Below.alloc ?_ ?_ _; rotate_left; (focus first | (simp; done) | (simp; omega) | omega)) | with_reducible refine Below.drew ?_)))
set_option maxHeartbeats 8000000 in
theorem formOf_71 (t : Nd) (f : FD) (ka : Option Addr) (kl kc : Nat) (w : World) (h0 : 18 ≤ t.op) (h1 : t.op ≤ 33) (hT : ∀ W, Calls Tryd.prog 71 #[ndV t (.slice ka kl kc)] W fun e w' => TabP f W e w') :
    Calls Tryd.prog 55 #[ndV t (.slice ka kl kc)] w fun e w' => FormP f true w e w' := by
  obtain ⟨op, name, qual, n, m, vk, vn, vs, kids, pos⟩ := t
  obtain ⟨nm, ql, ln, mn, lm, mm, fk⟩ := f
  simp only [ndV] at *
  have r0 : (decide (1 ≤ op) && decide (op ≤ 17)) = false := by simp; omega
  have r1 : (decide (18 ≤ op) && decide (op ≤ 33)) = true := by simp; omega
  go_enter Tryd.func55, Tryd.ntmps55
  go_wp2_with (go_at_call 29; refine (within_any _ _ _ _).mono ?_; rintro e w1 ⟨rfl, rfl⟩; try rw [r0]; try rw [r1])
  refine (hT _).mono ?_
  rintro e w1 ⟨v, rfl, HP, hb1⟩
  have hz1 := hb1.size
  simp at hz1
  have B1 : Below w.heap.size w w1 := Below.trans (by (go_light; repeat (first | with_reducible assumption | with_reducible exact Below.refl _ _ | (with_reducible refine Below.setCell ?_ ?_ _; rotate_left; (focus first | (simp; done) | (simp; omega) | omega)) | (with_reducible refine Below.alloc ?_ ?_ _; rotate_left; (focus first | (simp; done) | (simp; omega) | omega)) | with_reducible refine Below.drew ?_))) (hb1.mono (by first | omega | (simp; done) | (simp; omega)))
  have hx1 : w.heap.size + 1 < w1.heap.size := by omega
  have Z1 : Z7 w1 (w.heap.size + 1) := (Z7.start _ _ (w.heap.size + 1) (by simp)).below hb1 (by first | omega | (simp; done) | (simp; omega))
  obtain ⟨pa, pcap, rfl, hpc⟩ := HP
  have HR : Hid (RPX (w.heap.size + 1 + 1) w1 (.slice pa fk.length pcap) fk) := ⟨pa, pcap, rfl, by simpa using hpc⟩
  clear hb1 hpc
  obtain ⟨c0, f0, c1, f1, c2, f2, c3, f3, c4, f4, c5, f5, c6, f6⟩ := Z1
  simp only [formV]
  go_wp2
  refine bodyPost_ret (v := .tuple #[formV ⟨nm, ql, ln, mn, lm, mm, fk⟩ (.slice pa fk.length pcap), .bool true]) (by simp [results, formV, Tryd.results55, go_sem, hx1, c0, f0, c1, f1, c2, f2, c3, f3, c4, f4, c5, f5, c6, f6]) rfl ⟨_, rfl, ?_, ?_⟩
  · refine RPX.rp (B := w.heap.size + 1 + 1) ?_
    repeat (first | with_reducible exact HR.out | (with_reducible refine RPX.set ?_ ?_; rotate_left; omega))
  · exact (by (go_light; repeat (first | with_reducible assumption | with_reducible exact Below.refl _ _ | (with_reducible refine Below.setCell ?_ ?_ _; rotate_left; (focus first | (simp; done) | (simp; omega) | omega)) | (with_reducible refine Below.alloc ?_ ?_ _; rotate_left; (focus first | (simp; done) | (simp; omega) | omega)) | with_reducible refine Below.drew ?_)))
set_option maxHeartbeats 8000000 in
theorem formOf_72 (t : Nd) (f : FD) (ka : Option Addr) (kl kc : Nat) (w : World) (h0 : 40 ≤ t.op) (h1 : t.op ≤ 54) (hT : ∀ W, Calls Tryd.prog 72 #[.int .i64 t.op] W fun e w' => TabP f W e w') :
    Calls Tryd.prog 55 #[ndV t (.slice ka kl kc)] w fun e w' => FormP f true w e w' := by
  obtain ⟨op, name, qual, n, m, vk, vn, vs, kids, pos⟩ := t
  obtain ⟨nm, ql, ln, mn, lm, mm, fk⟩ := f
  simp only [ndV] at *
  have r0 : (decide (1 ≤ op) && decide (op ≤ 17)) = false := by simp; omega
  have r1 : (decide (18 ≤ op) && decide (op ≤ 33)) = false := by simp; omega
  have r2 : (decide (40 ≤ op) && decide (op ≤ 54)) = true := by simp; omega
  go_enter Tryd.func55, Tryd.ntmps55
  go_wp2_with (go_at_call 29; refine (within_any _ _ _ _).mono ?_; rintro e w1 ⟨rfl, rfl⟩; try rw [r0]; try rw [r1]; try rw [r2])
  refine (hT _).mono ?_
  rintro e w1 ⟨v, rfl, HP, hb1⟩
  have hz1 := hb1.size
  simp at hz1
  have B1 : Below w.heap.size w w1 := Below.trans (by (go_light; repeat (first | with_reducible assumption | with_reducible exact Below.refl _ _ | (with_reducible refine Below.setCell ?_ ?_ _; rotate_left; (focus first | (simp; done) | (simp; omega) | omega)) | (with_reducible refine Below.alloc ?_ ?_ _; rotate_left; (focus first | (simp; done) | (simp; omega) | omega)) | with_reducible refine Below.drew ?_))) (hb1.mono (by first | omega | (simp; done) | (simp; omega)))
  have hx1 : w.heap.size + 1 < w1.heap.size := by omega
  have Z1 : Z7 w1 (w.heap.size + 1) := (Z7.start _ _ (w.heap.size + 1) (by simp)).below hb1 (by first | omega | (simp; done) | (simp; omega))
  obtain ⟨pa, pcap, rfl, hpc⟩ := HP
  have HR : Hid (RPX (w.heap.size + 1 + 1) w1 (.slice pa fk.length pcap) fk) := ⟨pa, pcap, rfl, by simpa using hpc⟩
  clear hb1 hpc
  obtain ⟨c0, f0, c1, f1, c2, f2, c3, f3, c4, f4, c5, f5, c6, f6⟩ := Z1
  simp only [formV]
  go_wp2
  refine bodyPost_ret (v := .tuple #[formV ⟨nm, ql, ln, mn, lm, mm, fk⟩ (.slice pa fk.length pcap), .bool true]) (by simp [results, formV, Tryd.results55, go_sem, hx1, c0, f0, c1, f1, c2, f2, c3, f3, c4, f4, c5, f5, c6, f6]) rfl ⟨_, rfl, ?_, ?_⟩
  · refine RPX.rp (B := w.heap.size + 1 + 1) ?_
    repeat (first | with_reducible exact HR.out | (with_reducible refine RPX.set ?_ ?_; rotate_left; omega))
  · exact (by (go_light; repeat (first | with_reducible assumption | with_reducible exact Below.refl _ _ | (with_reducible refine Below.setCell ?_ ?_ _; rotate_left; (focus first | (simp; done) | (simp; omega) | omega)) | (with_reducible refine Below.alloc ?_ ?_ _; rotate_left; (focus first | (simp; done) | (simp; omega) | omega)) | with_reducible refine Below.drew ?_)))
set_option maxHeartbeats 8000000 in
theorem formOf_73 (t : Nd) (f : FD) (ka : Option Addr) (kl kc : Nat) (w : World) (h0 : 55 ≤ t.op) (h1 : t.op ≤ 64) (hT : ∀ W, Calls Tryd.prog 73 #[.int .i64 t.op] W fun e w' => TabP f W e w') :
    Calls Tryd.prog 55 #[ndV t (.slice ka kl kc)] w fun e w' => FormP f true w e w' := by
  obtain ⟨op, name, qual, n, m, vk, vn, vs, kids, pos⟩ := t
  obtain ⟨nm, ql, ln, mn, lm, mm, fk⟩ := f
  simp only [ndV] at *
  have r0 : (decide (1 ≤ op) && decide (op ≤ 17)) = false := by simp; omega
  have r1 : (decide (18 ≤ op) && decide (op ≤ 33)) = false := by simp; omega
  have r2 : (decide (40 ≤ op) && decide (op ≤ 54)) = false := by simp; omega
  have r3 : (decide (55 ≤ op) && decide (op ≤ 64)) = true := by simp; omega
  go_enter Tryd.func55, Tryd.ntmps55
  go_wp2_with (go_at_call 29; refine (within_any _ _ _ _).mono ?_; rintro e w1 ⟨rfl, rfl⟩; try rw [r0]; try rw [r1]; try rw [r2]; try rw [r3])
  refine (hT _).mono ?_
  rintro e w1 ⟨v, rfl, HP, hb1⟩
  have hz1 := hb1.size
  simp at hz1
  have B1 : Below w.heap.size w w1 := Below.trans (by (go_light; repeat (first | with_reducible assumption | with_reducible exact Below.refl _ _ | (with_reducible refine Below.setCell ?_ ?_ _; rotate_left; (focus first | (simp; done) | (simp; omega) | omega)) | (with_reducible refine Below.alloc ?_ ?_ _; rotate_left; (focus first | (simp; done) | (simp; omega) | omega)) | with_reducible refine Below.drew ?_))) (hb1.mono (by first | omega | (simp; done) | (simp; omega)))
  have hx1 : w.heap.size + 1 < w1.heap.size := by omega
  have Z1 : Z7 w1 (w.heap.size + 1) := (Z7.start _ _ (w.heap.size + 1) (by simp)).below hb1 (by first | omega | (simp; done) | (simp; omega))
  obtain ⟨pa, pcap, rfl, hpc⟩ := HP
  have HR : Hid (RPX (w.heap.size + 1 + 1) w1 (.slice pa fk.length pcap) fk) := ⟨pa, pcap, rfl, by simpa using hpc⟩
  clear hb1 hpc
  obtain ⟨c0, f0, c1, f1, c2, f2, c3, f3, c4, f4, c5, f5, c6, f6⟩ := Z1
  simp only [formV]
  go_wp2
  refine bodyPost_ret (v := .tuple #[formV ⟨nm, ql, ln, mn, lm, mm, fk⟩ (.slice pa fk.length pcap), .bool true]) (by simp [results, formV, Tryd.results55, go_sem, hx1, c0, f0, c1, f1, c2, f2, c3, f3, c4, f4, c5, f5, c6, f6]) rfl ⟨_, rfl, ?_, ?_⟩
  · refine RPX.rp (B := w.heap.size + 1 + 1) ?_
    repeat (first | with_reducible exact HR.out | (with_reducible refine RPX.set ?_ ?_; rotate_left; omega))
  · exact (by (go_light; repeat (first | with_reducible assumption | with_reducible exact Below.refl _ _ | (with_reducible refine Below.setCell ?_ ?_ _; rotate_left; (focus first | (simp; done) | (simp; omega) | omega)) | (with_reducible refine Below.alloc ?_ ?_ _; rotate_left; (focus first | (simp; done) | (simp; omega) | omega)) | with_reducible refine Below.drew ?_)))
end Go.Proofs.YtghdjagomdgnfaaDoor
namespace Go.Proofs.YtghdjagomdgnfaaDoor
open Go.ChangeShapes Go.WideShapes Go.ChangeAt Go.RowKit
set_option linter.unusedVariables false
set_option linter.unusedSimpArgs false
set_option maxRecDepth 100000
open Go.Shelf
theorem nameByte_any (b : Int) (w : World) : Calls Tryd.prog 75 #[.int .u8 b] w fun e w' => e = .returned (.bool (decide (32 ≤ b) && decide (b ≤ 126))) ∧ w' = w := by
  go_enter Tryd.func75, Tryd.ntmps75
  go_wp2
  all_goals
    go_ret
    refine ⟨ret_b ?_, rfl⟩
    first | (simp_all; done) | (simp_all; omega)
theorem enters75 : ∀ args w, (callFunc 75 args).run Tryd.prog w = .ok (.enter 75 args) w := enters_of Tryd.func75 (by kernel_rfl) rfl
set_option maxHeartbeats 1600000 in
theorem ahead_any (s : ByteArray) (w : World) (hs : s.size ≤ 1048576) :
    Calls Tryd.prog 74 #[.string s, .func (.func 75) #[] #[]] w fun e w' => ∃ n : Nat, e = .returned (.int .i64 n) ∧ Hid (((n : Int) == s.size) = pr s) ∧ w' = w := by
  have eg := enters75
  go_enter Tryd.func74, Tryd.ntmps74
  go_wp2
  go_loopw [5] (fun i wr => ∃ k : Nat, k ≤ s.size ∧ i = .int .i64 k ∧ Hid (∀ m (h : m < s.size), m < k → 32 ≤ (s[m]'h).toNat ∧ (s[m]'h).toNat ≤ 126) ∧ wr = w) (fun i _ => s.size - (intOf i).toNat)
  case atStart => exact ⟨0, Nat.zero_le _, rfl, (fun m h hm => by omega : ∀ m (h : m < s.size), m < 0 → 32 ≤ (s[m]'h).toNat ∧ (s[m]'h).toNat ≤ 126), rfl⟩
  case round =>
    obtain ⟨k, hk, rfl, HA, hw⟩ := hrel
    subst hw
    by_cases hlt : k < s.size
    · have hlti : (k : Int) < s.size := by omega
      have hc' := fun w => nameByte_any ((s[k]'hlt).toNat : Int) w
      by_cases h1 : 32 ≤ (s[k]'hlt).toNat ∧ (s[k]'hlt).toNat ≤ 126
      · have hb : (decide (32 ≤ ((s[k]'hlt).toNat : Int)) && decide (((s[k]'hlt).toNat : Int) ≤ 126)) = true := by simp; omega
        rw [hb] at hc'
        have HA2 : Hid (∀ m (h : m < s.size), m < k + 1 → 32 ≤ (s[m]'h).toNat ∧ (s[m]'h).toNat ≤ 126) := (fun m h hm => by
          by_cases e : m = k
          · subst e; exact h1
          · exact HA.out m h (by omega) : ∀ m (h : m < s.size), m < k + 1 → 32 ≤ (s[m]'h).toNat ∧ (s[m]'h).toNat ≤ 126)
        clear HA h1 hb
        go_wp2_with (go_at_fn 75; refine (hc' _).mono ?_; rintro e w' ⟨rfl, rfl⟩)
        go_roundw
        case rel => exact ⟨k + 1, by omega, by go_num, HA2, by first | rfl | trivial⟩
        case measure => simp [intOf]; omega
      · have hb : (decide (32 ≤ ((s[k]'hlt).toNat : Int)) && decide (((s[k]'hlt).toNat : Int) ≤ 126)) = false := by simp; omega
        rw [hb] at hc'
        have HN : Hid (((k : Int) == s.size) = pr s) := (by
          rw [pr_no hlt (by omega)]
          simp; omega : ((k : Int) == s.size) = pr s)
        clear HA h1 hb
        go_wp2_with (go_at_fn 75; refine (hc' _).mono ?_; rintro e w' ⟨rfl, rfl⟩)
        go_ret
        exact ⟨k, rfl, HN, rfl⟩
    · have hlti : ¬ (k : Int) < s.size := by omega
      have HY : Hid ((((s.size : Nat) : Int) == s.size) = pr s) := (by
        rw [pr_yes (fun m h => HA.out m h (by omega))]
        simp : (((s.size : Nat) : Int) == s.size) = pr s)
      clear HA
      go_wp2
      go_ret
      exact ⟨s.size, rfl, HY, rfl⟩
/-- Whether a name may be there: 0 never, 1 perhaps, 2 always. -/
def alw (p : Int) (s : ByteArray) : Bool := if noS s then p != 2 else p != 0 && decide ((s.size : Int) ≤ 30) && pr s
theorem allows_any (p : Int) (s : ByteArray) (w : World) (hs : s.size ≤ 1048576) : Calls Tryd.prog 56 #[.int .i64 p, .string s] w fun e w' => e = .returned (.bool (alw p s)) ∧ w' = w := by
  by_cases h : s.toList = []
  · have h' : s.toList.isEmpty = true := by rw [h]; rfl
    have HR : Hid (alw p s = (p != 2)) := (by unfold alw noS; rw [h']; rfl : alw p s = (p != 2))
    go_enter Tryd.func56, Tryd.ntmps56
    go_wp2
    go_ret
    exact ⟨ret_b (by rw [HR.out]; try rfl), rfl⟩
  · have h' : s.toList.isEmpty = false := by simpa using h
    have HR : Hid (alw p s = (p != 0 && decide ((s.size : Int) ≤ 30) && pr s)) := (by unfold alw noS; rw [h']; rfl : alw p s = (p != 0 && decide ((s.size : Int) ≤ 30) && pr s))
    cases hp : (p != 0)
    · rw [hp] at HR
      go_enter Tryd.func56, Tryd.ntmps56
      go_wp2
      go_ret
      exact ⟨ret_b (by rw [HR.out]; try rfl), rfl⟩
    · rw [hp] at HR
      cases hq : decide ((s.size : Int) ≤ 30)
      · rw [hq] at HR
        go_enter Tryd.func56, Tryd.ntmps56
        go_wp2
        go_ret
        exact ⟨ret_b (by rw [HR.out]; try rfl), rfl⟩
      · rw [hq] at HR
        go_enter Tryd.func56, Tryd.ntmps56
        go_wp2_with (go_at_call 74; refine (ahead_any s _ hs).mono ?_; rintro e w' ⟨n, rfl, HN, rfl⟩)
        go_ret
        exact ⟨ret_b (by rw [HR.out, ← HN.out]; simp), rfl⟩
end Go.Proofs.YtghdjagomdgnfaaDoor
