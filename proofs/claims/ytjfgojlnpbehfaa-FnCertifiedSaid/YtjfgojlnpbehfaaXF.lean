import Derived.Test.YtjfgojlnpbehfaaXP
namespace Go.Proofs.Ytjfgojlnpbehfaa
open Go.ChangeShapes Go.WideShapes Go.ChangeAt Go.RowKit
set_option linter.unusedVariables false
set_option linter.unusedSimpArgs false
set_option maxRecDepth 100000
theorem deal_at {B : Nat} {w : World} {a : Option Addr} {n c : Nat} {us : List TI} (h : RS 4 CDl B w (.slice a n c) us) (hp : 0 < us.length) : ∃ g o, a = some ⟨g, o, none⟩ ∧ B ≤ g ∧ g < w.heap.size ∧ ∀ j (hj : j < us.length), (tabP us[j].reads ∧ tabP us[j].writes) ∧ w.cell? ⟨g, o + j * 4, none⟩ = some (.int .i64 us[j].bgn) ∧ w.cell? ⟨g, o + j * 4 + 1, none⟩ = some (.int .i64 us[j].com) ∧ w.cell? ⟨g, o + j * 4 + 2, none⟩ = some (.int .u64 (bitsOf us[j].reads : Nat)) ∧ w.cell? ⟨g, o + j * 4 + 3, none⟩ = some (.int .u64 (bitsOf us[j].writes : Nat)) := by
  obtain ⟨a', c', he, hh⟩ := h
  obtain ⟨g, o, e2, h1, h2, h3⟩ := hh hp
  simp only [Value.slice.injEq] at he
  refine ⟨g, o, he.1.trans e2, h1, h2, fun j hj => ?_⟩
  obtain ⟨cs, hc, hcell⟩ := h3 j hj
  obtain ⟨rfl, ht⟩ := hc
  exact ⟨ht, hcell 0 (by omega), hcell 1 (by omega), hcell 2 (by omega), hcell 3 (by omega)⟩
def dealA (t : TI) : Value := .agg #[.int .i64 t.bgn, .int .i64 t.com, .int .u64 (bitsOf t.reads : Nat), .int .u64 (bitsOf t.writes : Nat)]
set_option maxHeartbeats 4000000 in
theorem index_between (P : TI → Prop) (pv : Value) (a : Option Addr) (c : Nat) (us : List TI) (B : Nat) (w : World) (h : us.length ≤ 1000) (hr : RS 4 CDl B w (.slice a us.length c) us)
    (hcall : ∀ x ∈ us, ∀ W, Below w.heap.size w W → Calls Try.prog 29 #[pv, dealA x] W fun e w' => RB (P x) e ∧ Below W.heap.size W w') :
    Calls Try.prog 41 #[.slice a us.length c, .func (.func 29) #[pv] #[]] w fun e w' => ∃ k : Int, e = .returned (.int .i64 k) ∧ (0 ≤ k ↔ ∃ x ∈ us, P x) ∧ Below w.heap.size w w' := by
  have HR := hid hr
  have HC := hid hcall
  clear hr hcall
  go_enter Try.func41, Try.ntmps41
  go_wp2
  go_loopw [8] (fun iv wx => ∃ j : Nat, iv = .int .i64 (j : Int) ∧ j ≤ us.length ∧ Hid (∀ x ∈ us.take j, ¬ P x) ∧ Below w.heap.size w wx) (fun iv _ => us.length - (intOf iv).toNat)
  case atStart => exact ⟨0, rfl, Nat.zero_le _, (fun x h => by simp at h : ∀ x ∈ us.take 0, ¬ P x), Below.refl _ _⟩
  case round =>
    obtain ⟨j, rfl, hj, HA, hb⟩ := hrel
    by_cases hlt : j < us.length
    · have hlti : (j : Int) < us.length := by omega
      obtain ⟨g, o, rfl, _, hg, hc⟩ := deal_at (HR.out.below liesD hb) (by omega)
      obtain ⟨_, c0, c1, c2, c3⟩ := hc j hlt
      clear hc
      have HST := hid (fun z => take_step (P := fun x => ¬ P x) hlt HA.out z)
      have HM := hid (List.getElem_mem hlt)
      have hcx := HC.out us[j] (List.getElem_mem hlt) wr hb
      have hbs := hb.size
      clear HA
      unfold dealA at hcx
      generalize us[j] = x at *
      go_wp2_with (go_at_call 29; fail)
      refine hcx.mono ?_
      rintro e w1 ⟨⟨r, rfl, hr⟩, hb1⟩
      have bw1 : Below w.heap.size w w1 := hb.trans (hb1.mono hbs)
      clear hcx hb1
      rcases r with _ | _
      · have HV := hid (HST.out (fun z => by have := hr.2 z; cases this))
        clear hr HST
        go_wp2
        go_roundw
        case rel => exact ⟨j + 1, by go_num, by omega, HV, bw1⟩
        case measure => simp [intOf]; omega
      · have HV := hid (hr.1 rfl)
        clear hr HST
        go_wp2
        go_ret
        exact ⟨_, rfl, ⟨fun _ => ⟨x, HM.out, HV.out⟩, fun _ => by omega⟩, bw1⟩
    · have hje : j = us.length := by omega
      subst hje
      rw [List.take_length] at HA
      go_wp2
      go_ret
      exact ⟨-1, rfl, ⟨fun z => by omega, fun ⟨x, h1, h2⟩ => absurd h2 (HA.out x h1)⟩, hb⟩
theorem contains_between (P : TI → Prop) (pv : Value) (a : Option Addr) (c : Nat) (us : List TI) (B : Nat) (w : World) (h : us.length ≤ 1000) (hr : RS 4 CDl B w (.slice a us.length c) us)
    (hcall : ∀ x ∈ us, ∀ W, Below w.heap.size w W → Calls Try.prog 29 #[pv, dealA x] W fun e w' => RB (P x) e ∧ Below W.heap.size W w') :
    Calls Try.prog 28 #[.slice a us.length c, .func (.func 29) #[pv] #[]] w fun e w' => RB (∃ x ∈ us, P x) e ∧ Below w.heap.size w w' := by
  have HI := hid (index_between P pv a c us B w h hr hcall)
  clear hr hcall
  go_enter Try.func28, Try.ntmps28
  go_wp2_with (go_at_call 41; fail)
  refine HI.out.mono ?_
  rintro e w' ⟨k, rfl, hk, hb⟩
  have HK := hid hk
  have HB := hid hb
  clear hk hb HI
  go_wp2
  go_ret
  exact ⟨⟨decide (0 ≤ k), rfl, by rw [decide_eq_true_iff]; exact HK.out⟩, HB.out⟩
set_option maxHeartbeats 4000000 in
theorem index_leads (P : TI → Prop) (dv : Value) (a : Option Addr) (c : Nat) (us : List TI) (B : Nat) (w : World) (h : us.length ≤ 1000) (hr : RS 4 CDl B w (.slice a us.length c) us)
    (hcall : ∀ x ∈ us, ∀ W, Below w.heap.size w W → Calls Try.prog 42 #[dv, dealA x] W fun e w' => RB (P x) e ∧ Below W.heap.size W w') :
    Calls Try.prog 41 #[.slice a us.length c, .func (.func 42) #[dv] #[]] w fun e w' => ∃ k : Int, e = .returned (.int .i64 k) ∧ (0 ≤ k ↔ ∃ x ∈ us, P x) ∧ Below w.heap.size w w' := by
  have HR := hid hr
  have HC := hid hcall
  clear hr hcall
  go_enter Try.func41, Try.ntmps41
  go_wp2
  go_loopw [8] (fun iv wx => ∃ j : Nat, iv = .int .i64 (j : Int) ∧ j ≤ us.length ∧ Hid (∀ x ∈ us.take j, ¬ P x) ∧ Below w.heap.size w wx) (fun iv _ => us.length - (intOf iv).toNat)
  case atStart => exact ⟨0, rfl, Nat.zero_le _, (fun x h => by simp at h : ∀ x ∈ us.take 0, ¬ P x), Below.refl _ _⟩
  case round =>
    obtain ⟨j, rfl, hj, HA, hb⟩ := hrel
    by_cases hlt : j < us.length
    · have hlti : (j : Int) < us.length := by omega
      obtain ⟨g, o, rfl, _, hg, hc⟩ := deal_at (HR.out.below liesD hb) (by omega)
      obtain ⟨_, c0, c1, c2, c3⟩ := hc j hlt
      clear hc
      have HST := hid (fun z => take_step (P := fun x => ¬ P x) hlt HA.out z)
      have HM := hid (List.getElem_mem hlt)
      have hcx := HC.out us[j] (List.getElem_mem hlt) wr hb
      have hbs := hb.size
      clear HA
      unfold dealA at hcx
      generalize us[j] = x at *
      go_wp2_with (go_at_call 42; fail)
      refine hcx.mono ?_
      rintro e w1 ⟨⟨r, rfl, hr⟩, hb1⟩
      have bw1 : Below w.heap.size w w1 := hb.trans (hb1.mono hbs)
      clear hcx hb1
      rcases r with _ | _
      · have HV := hid (HST.out (fun z => by have := hr.2 z; cases this))
        clear hr HST
        go_wp2
        go_roundw
        case rel => exact ⟨j + 1, by go_num, by omega, HV, bw1⟩
        case measure => simp [intOf]; omega
      · have HV := hid (hr.1 rfl)
        clear hr HST
        go_wp2
        go_ret
        exact ⟨_, rfl, ⟨fun _ => ⟨x, HM.out, HV.out⟩, fun _ => by omega⟩, bw1⟩
    · have hje : j = us.length := by omega
      subst hje
      rw [List.take_length] at HA
      go_wp2
      go_ret
      exact ⟨-1, rfl, ⟨fun z => by omega, fun ⟨x, h1, h2⟩ => absurd h2 (HA.out x h1)⟩, hb⟩
theorem contains_leads (P : TI → Prop) (dv : Value) (a : Option Addr) (c : Nat) (us : List TI) (B : Nat) (w : World) (h : us.length ≤ 1000) (hr : RS 4 CDl B w (.slice a us.length c) us)
    (hcall : ∀ x ∈ us, ∀ W, Below w.heap.size w W → Calls Try.prog 42 #[dv, dealA x] W fun e w' => RB (P x) e ∧ Below W.heap.size W w') :
    Calls Try.prog 28 #[.slice a us.length c, .func (.func 42) #[dv] #[]] w fun e w' => RB (∃ x ∈ us, P x) e ∧ Below w.heap.size w w' := by
  have HI := hid (index_leads P dv a c us B w h hr hcall)
  clear hr hcall
  go_enter Try.func28, Try.ntmps28
  go_wp2_with (go_at_call 41; fail)
  refine HI.out.mono ?_
  rintro e w' ⟨k, rfl, hk, hb⟩
  have HK := hid hk
  have HB := hid hb
  clear hk hb HI
  go_wp2
  go_ret
  exact ⟨⟨decide (0 ≤ k), rfl, by rw [decide_eq_true_iff]; exact HK.out⟩, HB.out⟩
set_option maxHeartbeats 4000000 in
theorem index_led (P : TI → Prop) (b : Nat) (a : Option Addr) (c : Nat) (us : List TI) (B : Nat) (w : World) (h : us.length ≤ 1000) (hr : RS 4 CDl B w (.slice a us.length c) us)
    (hcall : ∀ x ∈ us, ∀ W, Below w.heap.size w W → Calls Try.prog 43 #[dealA x, .pointer (some ⟨b, 0, none⟩)] W fun e w' => RB (P x) e ∧ Below W.heap.size W w') :
    Calls Try.prog 41 #[.slice a us.length c, .func (.func 43) #[] #[.pointer (some ⟨b, 0, none⟩)]] w fun e w' => ∃ k : Int, e = .returned (.int .i64 k) ∧ (0 ≤ k ↔ ∃ x ∈ us, P x) ∧ Below w.heap.size w w' := by
  have HR := hid hr
  have HC := hid hcall
  clear hr hcall
  go_enter Try.func41, Try.ntmps41
  go_wp2
  go_loopw [8] (fun iv wx => ∃ j : Nat, iv = .int .i64 (j : Int) ∧ j ≤ us.length ∧ Hid (∀ x ∈ us.take j, ¬ P x) ∧ Below w.heap.size w wx) (fun iv _ => us.length - (intOf iv).toNat)
  case atStart => exact ⟨0, rfl, Nat.zero_le _, (fun x h => by simp at h : ∀ x ∈ us.take 0, ¬ P x), Below.refl _ _⟩
  case round =>
    obtain ⟨j, rfl, hj, HA, hb⟩ := hrel
    by_cases hlt : j < us.length
    · have hlti : (j : Int) < us.length := by omega
      obtain ⟨g, o, rfl, _, hg, hc⟩ := deal_at (HR.out.below liesD hb) (by omega)
      obtain ⟨_, c0, c1, c2, c3⟩ := hc j hlt
      clear hc
      have HST := hid (fun z => take_step (P := fun x => ¬ P x) hlt HA.out z)
      have HM := hid (List.getElem_mem hlt)
      have hcx := HC.out us[j] (List.getElem_mem hlt) wr hb
      have hbs := hb.size
      clear HA
      unfold dealA at hcx
      generalize us[j] = x at *
      go_wp2_with (go_at_call 43; fail)
      refine hcx.mono ?_
      rintro e w1 ⟨⟨r, rfl, hr⟩, hb1⟩
      have bw1 : Below w.heap.size w w1 := hb.trans (hb1.mono hbs)
      clear hcx hb1
      rcases r with _ | _
      · have HV := hid (HST.out (fun z => by have := hr.2 z; cases this))
        clear hr HST
        go_wp2
        go_roundw
        case rel => exact ⟨j + 1, by go_num, by omega, HV, bw1⟩
        case measure => simp [intOf]; omega
      · have HV := hid (hr.1 rfl)
        clear hr HST
        go_wp2
        go_ret
        exact ⟨_, rfl, ⟨fun _ => ⟨x, HM.out, HV.out⟩, fun _ => by omega⟩, bw1⟩
    · have hje : j = us.length := by omega
      subst hje
      rw [List.take_length] at HA
      go_wp2
      go_ret
      exact ⟨-1, rfl, ⟨fun z => by omega, fun ⟨x, h1, h2⟩ => absurd h2 (HA.out x h1)⟩, hb⟩
theorem contains_led (P : TI → Prop) (b : Nat) (a : Option Addr) (c : Nat) (us : List TI) (B : Nat) (w : World) (h : us.length ≤ 1000) (hr : RS 4 CDl B w (.slice a us.length c) us)
    (hcall : ∀ x ∈ us, ∀ W, Below w.heap.size w W → Calls Try.prog 43 #[dealA x, .pointer (some ⟨b, 0, none⟩)] W fun e w' => RB (P x) e ∧ Below W.heap.size W w') :
    Calls Try.prog 28 #[.slice a us.length c, .func (.func 43) #[] #[.pointer (some ⟨b, 0, none⟩)]] w fun e w' => RB (∃ x ∈ us, P x) e ∧ Below w.heap.size w w' := by
  have HI := hid (index_led P b a c us B w h hr hcall)
  clear hr hcall
  go_enter Try.func28, Try.ntmps28
  go_wp2_with (go_at_call 41; fail)
  refine HI.out.mono ?_
  rintro e w' ⟨k, rfl, hk, hb⟩
  have HK := hid hk
  have HB := hid hb
  clear hk hb HI
  go_wp2
  go_ret
  exact ⟨⟨decide (0 ≤ k), rfl, by rw [decide_eq_true_iff]; exact HK.out⟩, HB.out⟩
end Go.Proofs.Ytjfgojlnpbehfaa
