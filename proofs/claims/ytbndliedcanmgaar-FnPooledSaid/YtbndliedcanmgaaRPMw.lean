import Derived.Test.YtbndliedcanmgaaRPMo
namespace Go.Proofs.YtbndliedcanmgaaR
open Go.ChangeShapes Go.WideShapes Go.ChangeAt Go.RowKit
set_option linter.unusedVariables false
set_option linter.unusedSimpArgs false
set_option maxRecDepth 100000
set_option maxHeartbeats 8000000 in
theorem markPr_any (g cap : Nat) (ps : List (Value × POut)) (k : Int) (w a0 : World) (B0 B : Nat) (hk : 0 ≤ k) (hk2 : k ≤ 1000) (hd : Dis ps) (hM : ∀ x ∈ ps, x.2.all.length ≤ 2400) (hn : ps.length ≤ 4000) (hb : Below B0 a0 w) (hB : B0 ≤ B) (hm : OM B w g ps k 0 0) :
    Calls Try.prog 13 #[.slice (some ⟨g, 0, none⟩) ps.length cap, .int .i64 k] w fun e w' => e = .returned (.int .i64 (k + kO ps ps.length)) ∧ Below B0 a0 w' ∧ OM B w' g ps k ps.length ps.length := by
  have HM0 := hid hm
  have HD := hid hd
  have HKL := hid (kO_le hM)
  have HML := hid hM
  clear hm hd hM
  go_enter Try.func13, Try.ntmps13
  go_wp2
  go_loopw [1, 5] (fun kv iv wr => ∃ i : Nat, i ≤ ps.length ∧ kv = .int .i64 (k + kO ps i) ∧ iv = .int .i64 i ∧ Hid (Below B0 a0 wr) ∧ Hid (OM B wr g ps k i i)) (fun _ iv _ => ps.length - (intOf iv).toNat)
  case atStart => exact ⟨0, Nat.zero_le _, by simp [kO], rfl, hb, HM0⟩
  case round =>
    clear HM0 hb
    obtain ⟨i, hi, rfl, rfl, HB, M⟩ := hrel
    have hkl := HKL.out i hi
    by_cases hlt : i < ps.length
    · have hlti : (i : Int) < ps.length := by omega
      obtain ⟨⟨⟨x, hx⟩, hf⟩, ⟨⟨y, hy⟩, hfy⟩⟩ := M.out.row i hlt
      have hh := M.out.hdr i hlt
      have hgl := M.out.lt
      have hBg := M.out.ge
      have M1 := hid (M.out.step hlt)
      have KON := hid (kO_on hlt)
      have hml := HML.out ps[i] (List.getElem_mem hlt)
      obtain ⟨oa, oc, hps, hown⟩ := M1.out.own i hlt
      have HPS := hid hps
      have HOWN := hid hown
      rw [hps] at hh
      have hkn : k + (kO ps i : Int) + 2 ≤ 20000000 := by omega
      have hk0 : 0 ≤ k + (kO ps i : Int) := by omega
      obtain ⟨kk, hkk⟩ : ∃ z : Int, k + (kO ps i : Int) = z := ⟨_, rfl⟩
      have HKK := hid hkk
      rw [hkk] at M1 HOWN hkn hk0 ⊢
      clear hkk hps hown hkl
      have HB2 : Hid (Below B0 a0 ((wr.setCell ⟨g, i * 3, none⟩ (.int .i64 kk)).setCell ⟨g, i * 3 + 1, none⟩ (.int .i64 (kk + 1)))) := (HB.out.setCell (show B0 ≤ (⟨g, i * 3, none⟩ : Addr).block by simp; omega) _).setCell (show B0 ≤ (⟨g, i * 3 + 1, none⟩ : Addr).block by simp; omega) _
      have hw1 : IntKind.i64.wrap (kk + 1) = kk + 1 := by simp only [IntKind.wrap_i64, wrap64]; omega
      have hw2 : IntKind.i64.wrap (kk + 1 + 1) = kk + 1 + 1 := by simp only [IntKind.wrap_i64, wrap64]; omega
      clear M HB
      go_wp2_with (go_at_call 26; fail)
      rcases Nat.eq_zero_or_pos ps[i].2.all.length with hz | hz
      · have M2 := hid (M1.out.same (fun _ => hz))
        have hko : (kk + 1 + 1 : Int) = k + (kO ps (i + 1) : Int) := by have := KON.out; have := HKK.out; omega
        rw [hz]
        refine (markIntS_none oa oc (kk + 1 + 1) _).mono ?_
        rintro e w' ⟨rfl, rfl⟩
        rw [hko]
        clear M1
        go_wp2
        go_roundw
        case rel => exact ⟨i + 1, by omega, rfl, by go_num, HB2, M2⟩
        case measure => simp [intOf]; omega
      · obtain ⟨b, rfl, hBb, hbl, hbg, hrm, _⟩ := HOWN.out hz
        refine (markIntS_any b 0 ps[i].2.all.length oc (kk + 1 + 1) _ a0 B0 (by omega) (by omega) HB2.out (by omega) (fun j hj => by rw [Nat.zero_add]; exact hrm j hj)).mono ?_
        rintro e w' ⟨rfl, hb', hmk⟩
        have hko : (kk + 1 + 1 + (ps[i].2.all.length : Int) : Int) = k + (kO ps (i + 1) : Int) := by have := KON.out; have := HKK.out; omega
        have e2 : kk + 1 + 1 = k + (kO ps i : Int) + 2 := by have := HKK.out; omega
        rw [e2] at hmk
        have M2 := hid (M1.out.nest HD.out hlt HPS.out hbg hmk)
        have HB3 := hid hb'
        rw [hko]
        clear M1 hmk hb' e2 hko
        go_wp2
        go_roundw
        case rel => exact ⟨i + 1, by omega, rfl, by go_num, HB3, M2⟩
        case measure => simp [intOf]; omega
    · have hin : i = ps.length := by omega
      subst hin
      have hlti : ¬ (ps.length : Int) < ps.length := by omega
      go_wp2
      go_ret
      exact ⟨rfl, HB.out, M.out⟩
theorem markPr_none (a : Option Addr) (cap : Nat) (k : Int) (w : World) :
    Calls Try.prog 13 #[.slice a 0 cap, .int .i64 k] w fun e w' => e = .returned (.int .i64 k) ∧ w' = w := by
  go_enter Try.func13, Try.ntmps13
  go_wp2
  go_loopw [1, 5] (fun kv iv wr => kv = .int .i64 k ∧ iv = .int .i64 0 ∧ wr = w) (fun _ _ _ => 0)
  case atStart => exact ⟨rfl, rfl, rfl⟩
  case round =>
    obtain ⟨rfl, rfl, hww⟩ := hrel
    replace hww := hww.symm
    subst hww
    go_wp2
    go_ret
    exact ⟨rfl, rfl⟩
set_option maxHeartbeats 8000000 in
theorem heldPr_any (g cap : Nat) (ps : List (Value × POut)) (k : Int) (w : World) (B : Nat) (hk : 0 ≤ k) (hk2 : k ≤ 1000) (hM : ∀ x ∈ ps, x.2.all.length ≤ 2400) (hn : ps.length ≤ 4000) (hm : OM B w g ps k ps.length ps.length) :
    Calls Try.prog 14 #[.slice (some ⟨g, 0, none⟩) ps.length cap, .int .i64 k] w fun e w' => e = .returned (.int .i64 (k + kO ps ps.length)) ∧ w' = w := by
  have HM0 := hid hm
  have HKL := hid (kO_le hM)
  have HML := hid hM
  clear hm hM
  go_enter Try.func14, Try.ntmps14
  go_wp2
  go_loopw [1, 5] (fun kv iv wr => ∃ i : Nat, i ≤ ps.length ∧ kv = .int .i64 (k + kO ps i) ∧ iv = .int .i64 i ∧ wr = w) (fun _ iv _ => ps.length - (intOf iv).toNat)
  case atStart => exact ⟨0, Nat.zero_le _, by simp [kO], rfl, rfl⟩
  case round =>
    obtain ⟨i, hi, rfl, rfl, hww⟩ := hrel
    replace hww := hww.symm
    subst hww
    have hkl := HKL.out i hi
    by_cases hlt : i < ps.length
    · have hlti : (i : Int) < ps.length := by omega
      obtain ⟨t0, t1⟩ := HM0.out.tld i hlt hlt
      have hh := HM0.out.hdr i hlt
      have KON := hid (kO_on hlt)
      have hml := HML.out ps[i] (List.getElem_mem hlt)
      obtain ⟨oa, oc, hps, hown⟩ := HM0.out.own i hlt
      have HOWN := hid hown
      rw [hps] at hh
      have hkn : k + (kO ps i : Int) + 2 ≤ 20000000 := by omega
      have hk0 : 0 ≤ k + (kO ps i : Int) := by omega
      obtain ⟨kk, hkk⟩ : ∃ z : Int, k + (kO ps i : Int) = z := ⟨_, rfl⟩
      have HKK := hid hkk
      rw [hkk] at t0 t1 HOWN hkn hk0 ⊢
      clear hkk hps hown hkl
      have hw1 : IntKind.i64.wrap (kk + 1) = kk + 1 := by simp only [IntKind.wrap_i64, wrap64]; omega
      have hw2 : IntKind.i64.wrap (kk + 1 + 1) = kk + 1 + 1 := by simp only [IntKind.wrap_i64, wrap64]; omega
      go_wp2_with (go_at_call 27; fail)
      rcases Nat.eq_zero_or_pos ps[i].2.all.length with hz | hz
      · have hko : (kk + 1 + 1 : Int) = k + (kO ps (i + 1) : Int) := by have := KON.out; have := HKK.out; omega
        rw [hz]
        refine (heldIntS_none oa oc (kk + 1 + 1) _).mono ?_
        rintro e w' ⟨rfl, rfl⟩
        have hneg : ¬ (kk + 1 + 1 : Int) < 0 := by omega
        rw [hko] at hneg ⊢
        clear hko
        go_wp2
        go_roundw
        case rel => exact ⟨i + 1, by omega, rfl, by go_num, by first | exact rfl | trivial⟩
        case measure => simp [intOf]; omega
      · obtain ⟨b, rfl, hBb, hbl, hbg, hrm, htl⟩ := HOWN.out hz
        have htl2 := htl hlt
        refine (heldIntS_any b 0 ps[i].2.all.length oc (kk + 1 + 1) _ (by omega) (by omega) (fun j hj => by rw [Nat.zero_add, htl2 j hj, show kk + 1 + 1 = kk + 2 by omega])).mono ?_
        rintro e w' ⟨rfl, hww⟩
        replace hww := hww.symm
        subst hww
        have hko : (kk + 1 + 1 + (ps[i].2.all.length : Int) : Int) = k + (kO ps (i + 1) : Int) := by have := KON.out; have := HKK.out; omega
        have hneg : ¬ (kk + 1 + 1 + (ps[i].2.all.length : Int) : Int) < 0 := by omega
        rw [hko] at hneg ⊢
        clear hko htl htl2 hrm
        go_wp2
        go_roundw
        case rel => exact ⟨i + 1, by omega, rfl, by go_num, by first | exact rfl | trivial⟩
        case measure => simp [intOf]; omega
    · have hin : i = ps.length := by omega
      subst hin
      have hlti : ¬ (ps.length : Int) < ps.length := by omega
      go_wp2
      go_ret
      exact ⟨rfl, rfl⟩
theorem heldPr_none (a : Option Addr) (cap : Nat) (k : Int) (w : World) :
    Calls Try.prog 14 #[.slice a 0 cap, .int .i64 k] w fun e w' => e = .returned (.int .i64 k) ∧ w' = w := by
  go_enter Try.func14, Try.ntmps14
  go_wp2
  go_loopw [1, 5] (fun kv iv wr => kv = .int .i64 k ∧ iv = .int .i64 0 ∧ wr = w) (fun _ _ _ => 0)
  case atStart => exact ⟨rfl, rfl, rfl⟩
  case round =>
    obtain ⟨rfl, rfl, hww⟩ := hrel
    replace hww := hww.symm
    subst hww
    go_wp2
    go_ret
    exact ⟨rfl, rfl⟩
end Go.Proofs.YtbndliedcanmgaaR
