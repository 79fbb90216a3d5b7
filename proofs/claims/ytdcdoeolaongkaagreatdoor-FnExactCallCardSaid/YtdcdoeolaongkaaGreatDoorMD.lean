import Derived.Test.YtdcdoeolaongkaaGreatDoorMC
import Derived.Deep.QuietTactic
import Derived.Deep.RegionWith
import Derived.BigQuiet
namespace Go.Proofs.YtdcdoeolaongkaaGreatDoor.Mp
open Go.MapKept Go.ChangeMaps
open Go.ChangeShapes Go.WideShapes Go.ChangeAt Go.RowKit
open Go.Proofs.YtdcdoeolaongkaaGreatDoor.Ok
set_option linter.unusedVariables false
set_option linter.unusedSimpArgs false
set_option maxRecDepth 100000
def fitB (k want : Int) : Bool := k == want || k == 0
theorem fits_impl (k want : Int) (w : World) : Calls Tryz.prog 70 #[.int .i64 k, .int .i64 want] w fun e w' => e = .returned (.bool (fitB k want)) ∧ w' = w := by
  go_enter Tryz.func70, Tryz.ntmps70
  go_wp2
  all_goals
    go_ret
    refine ⟨ret_bool ?_, rfl⟩
    go_light
    try simp only [fitB]
    try grind
theorem fits_spec (k want : Int) (w : World) : Calls Tryz.prog 37 #[.int .i64 k, .int .i64 want] w fun e w' => e = .returned (.bool (fitB k want)) ∧ w' = w := by
  go_enter Tryz.func37, Tryz.ntmps37
  go_wp2
  all_goals
    go_ret
    refine ⟨ret_bool ?_, rfl⟩
    go_light
    try simp only [fitB]
    try grind
/-- The kinds fit the places that are wanted. -/
def allFit : List Int → List Int → Bool
  | [], [] => true
  | k :: ks, x :: ws => fitB k x && allFit ks ws
  | _, _ => false
def takeK (r : Int) (ws ks : List Int) : Int := if allFit ks ws then r else -1
theorem allFit_len : ∀ {ks ws : List Int}, ks.length ≠ ws.length → allFit ks ws = false
  | [], [], h => absurd rfl h
  | [], _ :: _, _ => rfl
  | _ :: _, [], _ => rfl
  | k :: ks, x :: ws, h => by simp only [allFit, allFit_len (ks := ks) (ws := ws) (by simpa using h), Bool.and_false]
theorem allFit_no : ∀ {ks ws : List Int} (i : Nat) (h1 : i < ks.length) (h2 : i < ws.length), fitB ks[i] ws[i] = false → allFit ks ws = false
  | k :: ks, x :: ws, 0, _, _, h => by simp at h; simp [allFit, h]
  | k :: ks, x :: ws, i + 1, h1, h2, h => by
    simp at h1 h2 h
    simp [allFit, allFit_no i h1 h2 h]
theorem allFit_yes : ∀ {ks ws : List Int} (hl : ks.length = ws.length), (∀ i (h1 : i < ks.length) (h2 : i < ws.length), fitB ks[i] ws[i] = true) → allFit ks ws = true
  | [], [], _, _ => rfl
  | k :: ks, x :: ws, hl, h => by
    have h0 := h 0 (by simp) (by simp)
    simp at h0
    simp only [allFit, h0, Bool.true_and]
    exact allFit_yes (by simpa using hl) (fun i h1 h2 => by have := h (i + 1) (by simpa using h1) (by simpa using h2); simpa using this)
set_option maxHeartbeats 400000 in
theorem taking1_any (m : Nat) (r : Int) (ws ks : List Int) (a : Option Addr) (cap bw br sb : Nat) (w : World) (hn : ks.length ≤ 1048576) (hwl : ws.length ≤ 100) (hk : RIO w (.slice a ks.length cap) ks)
    (c1 : w.cell? ⟨bw, 0, none⟩ = some (.slice (some ⟨sb, 0, none⟩) ws.length ws.length)) (c2 : w.cell? ⟨br, 0, none⟩ = some (.int .i64 r)) (c3 : ∀ i (h : i < ws.length), w.cell? ⟨sb, i, none⟩ = some (.int .i64 ws[i])) :
    Calls Tryz.prog 149 #[.slice a ks.length cap, .pointer (some ⟨bw, 0, none⟩), .pointer (some ⟨br, 0, none⟩)] w fun e w' => e = .returned (.int .i64 (takeK r ws ks)) ∧ w' = w := by
  obtain ⟨a', cap', hsl, hcells⟩ := hk
  simp only [Value.slice.injEq] at hsl
  obtain ⟨rfl, _, rfl⟩ := hsl
  by_cases hl : ks.length = ws.length
  · have HT : Hid (allFit ks ws = true → takeK r ws ks = r) := fun h => by simp [takeK, h]
    have HF : Hid (allFit ks ws = false → takeK r ws ks = -1) := fun h => by simp [takeK, h]
    rw [← hl] at c1
    have HL : Hid (ks.length = ws.length) := hl
    clear hl
    go_enter Tryz.func149, Tryz.ntmps149
    go_wp2
    go_loop [5, 6, 14] (fun _ _ i => ∃ k : Nat, k ≤ ks.length ∧ i = .int .i64 k ∧ Hid (∀ j (h1 : j < ks.length) (h2 : j < ws.length), j < k → fitB ks[j] ws[j] = true)) (fun _ _ i => ks.length - (intOf i).toNat)
    case atStart => exact ⟨0, Nat.zero_le _, rfl, fun j _ _ h => absurd h (Nat.not_lt_zero _)⟩
    case round =>
      obtain ⟨k, hkl, rfl, HA⟩ := hrel
      by_cases hlt : k < ks.length
      · have hlti : (k : Int) < ks.length := by omega
        have HLo := HL.out
        have hlt2 : k < ws.length := by omega
        clear HLo
        obtain ⟨g, o, rfl, hg, hgc⟩ := hcells (by omega)
        have d1 := hgc k hlt
        have d3 := c3 k hlt2
        have HN : Hid (fitB ks[k] ws[k] = false → takeK r ws ks = -1) := fun h => HF.out (allFit_no k hlt hlt2 h)
        have HY : Hid (fitB ks[k] ws[k] = true → ∀ j (h1 : j < ks.length) (h2 : j < ws.length), j < k + 1 → fitB ks[j] ws[j] = true) := fun h j h1 h2 h3 => by
          by_cases e : j = k
          · subst e; exact h
          · exact HA.out j h1 h2 (by omega)
        clear hgc hcells HA HT HF c3
        have HK2 : Hid (k < ws.length) := hlt2
        generalize ks[k] = x at d1 HN HY
        generalize ws[k] = y at d3 HN HY
        cases hf : fitB x y
        · have HN' : Hid (takeK r ws ks = -1) := HN.out hf
          clear HN HY
          have hcon := fun w => fits_impl x y w
          rw [hf] at hcon
          go_wp2_with (go_at_call 70; refine (hcon _).mono ?_; rintro e w' ⟨rfl, rfl⟩)
          go_ret
          exact ⟨ret_int HN'.out.symm, rfl⟩
        · have HY' := HY.out hf
          have HYH : Hid (∀ j (h1 : j < ks.length) (h2 : j < ws.length), j < k + 1 → fitB ks[j] ws[j] = true) := HY'
          clear HN HY HY'
          have hcon := fun w => fits_impl x y w
          rw [hf] at hcon
          go_wp2_with (go_at_call 70; refine (hcon _).mono ?_; rintro e w' ⟨rfl, rfl⟩)
          go_round
          case rel => exact ⟨k + 1, by omega, by go_num, HYH⟩
          case measure => simp [intOf]; omega
      · have hkn : k = ks.length := by omega
        subst hkn
        have hlti : ¬ (ks.length : Int) < ks.length := by omega
        have HR : Hid (takeK r ws ks = r) := HT.out (allFit_yes HL.out (fun j h1 h2 => HA.out j h1 h2 h1))
        clear HA HT HF
        go_wp2
        go_ret
        exact ⟨ret_int HR.out.symm, rfl⟩
  · clear c3
    have HF : Hid (takeK r ws ks = -1) := by show takeK r ws ks = -1; simp [takeK, allFit_len hl]
    have hle : ((ks.length : Int) != (ws.length : Int)) = true := by simp; omega
    go_enter Tryz.func149, Tryz.ntmps149
    go_wp2
    go_ret
    exact ⟨ret_int HF.out.symm, rfl⟩
end Go.Proofs.YtdcdoeolaongkaaGreatDoor.Mp
