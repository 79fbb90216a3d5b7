import Derived.Test.YtjfgojlnpbehfaaXC
import Derived.Test.YtjfgojlnpbehfaaFM
import Derived.Test.YtjfgojlnpbehfaaSO
namespace Go.Proofs.Ytjfgojlnpbehfaa
open Go.ChangeShapes Go.WideShapes Go.ChangeAt Go.RowKit
set_option linter.unusedVariables false
set_option linter.unusedSimpArgs false
set_option maxRecDepth 100000
theorem ahead_iff {us : List TI} (h : histP us) {k l : Nat} {s t : TI} (hs : us[k]? = some s) (ht : us[l]? = some t) : (s.com ≤ t.bgn ∨ leadB s t) ↔ aheadB us k l = true := by
  rw [aheadB_at hs ht]
  have hn := com_ne h hs ht
  by_cases e : k = l
  · subst e
    have := hs.symm.trans ht
    cases this
    obtain ⟨hk, rfl⟩ := List.getElem?_eq_some_iff.1 hs
    have := hist_begin h hk
    simp
    exact ⟨by omega, fun z => z.1 rfl⟩
  · have hc := hn.2 e
    unfold leadB
    simp [e, hc]
/-- The first place of a number in a row. -/
theorem indexOf_impl (g c : Nat) (ws : List Int) (b : Nat) (x : Int) (w : World) (hn : ws.length ≤ 1000) (hr : IRow 3 b w g ws) :
    Calls Try.prog 32 #[.slice (some ⟨g, 0, none⟩) ws.length c, .int .i64 x] w fun e w' => ((∃ k : Nat, ∃ hk : k < ws.length, e = .returned (.int .i64 (k : Int)) ∧ ws[k] = x ∧ ∀ j (hj : j < k), ws[j]'(by omega) ≠ x) ∨ (e = .returned (.int .i64 (-1)) ∧ ∀ j (hj : j < ws.length), ws[j] ≠ x)) ∧ w' = w := by
  have HR := hid hr
  clear hr
  go_enter Try.func32, Try.ntmps32
  go_wp2
  go_loopw [8] (fun iv wx => ∃ j : Nat, iv = .int .i64 (j : Int) ∧ j ≤ ws.length ∧ Hid (∀ i (hi : i < ws.length), i < j → ws[i] ≠ x) ∧ wx = w) (fun iv _ => ws.length - (intOf iv).toNat)
  case atStart => exact ⟨0, rfl, Nat.zero_le _, (fun i _ h => by omega : ∀ i (hi : i < ws.length), i < 0 → ws[i] ≠ x), rfl⟩
  case round =>
    obtain ⟨j, rfl, hj, HA, hww⟩ := hrel
    replace hww := hww.symm
    subst hww
    by_cases hlt : j < ws.length
    · have hlti : (j : Int) < ws.length := by omega
      have c0 : w.cell? ⟨g, j, none⟩ = some (.int .i64 ws[j]) := HR.out.cell hlt
      by_cases hx : x = ws[j]
      · have HF : Hid (ws[j] = x) := hx.symm
        have hb : (x == ws[j]) = true := by simpa using hx
        clear hx
        generalize hy : ws[j] = y at c0 hb
        go_wp2
        go_ret
        exact ⟨.inl ⟨j, hlt, rfl, HF.out, fun i hi => HA.out i (by omega) hi⟩, rfl⟩
      · have HA2 : Hid (∀ i (hi : i < ws.length), i < j + 1 → ws[i] ≠ x) := (fun i hi hij => by
          by_cases e : i = j
          · subst e; exact fun z => hx z.symm
          · exact HA.out i hi (by omega) : ∀ i (hi : i < ws.length), i < j + 1 → ws[i] ≠ x)
        have hb : (x == ws[j]) = false := by simpa using hx
        clear hx HA
        generalize ws[j] = y at c0 hb
        go_wp2
        go_roundw
        case rel => exact ⟨j + 1, by go_num, by omega, HA2, by first | exact rfl | trivial⟩
        case measure => simp [intOf]; omega
    · have hje : j = ws.length := by omega
      subst hje
      go_wp2
      go_ret
      exact ⟨.inr ⟨rfl, fun i hi => HA.out i hi hi⟩, rfl⟩
/-- What the counts are, as far as they have been made. -/
def Cnts (us : List TI) (ws : List Int) (k j : Nat) : Prop := ws.length = us.length ∧ ∀ l (h : l < ws.length), ws[l] = if l < k then (cntL us (List.range us.length) l : Int) else if l = k then (cntL us (List.range j) l : Int) else 0
theorem cnts_start (us : List TI) : Cnts us (List.replicate us.length 0) 0 0 := ⟨by simp, fun l h => by simp [cntL]⟩
theorem Cnts.next {us : List TI} {ws : List Int} {k : Nat} (h : Cnts us ws k us.length) : Cnts us ws (k + 1) 0 := ⟨h.1, fun l hl => by
  have := h.2 l hl
  rw [this]
  rcases Nat.lt_trichotomy l k with e | e | e
  · rw [if_pos e, if_pos (by omega)]
  · rw [if_neg (by omega), if_pos e, if_pos (by omega)]
  · rw [if_neg (by omega), if_neg (by omega), if_neg (by omega)]
    by_cases e2 : l = k + 1
    · rw [if_pos e2]; simp [cntL]
    · rw [if_neg e2]⟩
theorem Cnts.keep {us : List TI} {ws : List Int} {k j : Nat} (h : Cnts us ws k j) (ha : aheadB us j k = false) : Cnts us ws k (j + 1) := ⟨h.1, fun l hl => by
  have := h.2 l hl
  rw [this]
  by_cases e : l = k
  · subst e
    rw [if_neg (by omega), if_pos rfl, if_neg (by omega), if_pos rfl, cntL_succ, ha]; simp
  · simp [e]⟩
theorem Cnts.step {us : List TI} {ws : List Int} {k j : Nat} (h : Cnts us ws k j) (hk : k < ws.length) (ha : aheadB us j k = true) : Cnts us (ws.set k (ws[k] + 1)) k (j + 1) := ⟨by rw [List.length_set]; exact h.1, fun l hl => by
  rw [List.length_set] at hl
  have := h.2 l hl
  by_cases e : l = k
  · subst e
    rw [List.getElem_set_self, this, if_neg (by omega), if_pos rfl, if_neg (by omega), if_pos rfl, cntL_succ, ha]; simp
  · rw [List.getElem_set_ne (by omega), this]; simp [e]⟩
theorem past_set {B c j : Nat} {w : World} {v u : Value} {us : List TI} (h : RS 4 CDl B w v us) (hc : ∀ g, v.ownBlock = some g → g ≠ c) : RS 4 CDl B (w.setCell ⟨c, j, none⟩ u) v us := by
  obtain ⟨a, cap, he, hh⟩ := h
  refine ⟨a, cap, he, fun hp => ?_⟩
  obtain ⟨g, o, ha, h1, h2, h3⟩ := hh hp
  refine ⟨g, o, ha, h1, by simpa using h2, fun i hi => ?_⟩
  obtain ⟨cs, x, y⟩ := h3 i hi
  refine ⟨cs, x, fun q hq => ?_⟩
  rw [← y q hq]
  have hne : g ≠ c := hc g (by rw [he, ha]; rfl)
  exact World.cell?_setCell_other w _ _ _ (fun e => hne (by have := congrArg Addr.block e; exact this.symm))
end Go.Proofs.Ytjfgojlnpbehfaa
