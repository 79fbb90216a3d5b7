import Derived.Test.YtoieiegjhjedoaaSV3
namespace Go.Proofs.Ytoieiegjhjedoaa
open Go.ChangeShapes Go.WideShapes Go.ChangeAt Go.RowKit
set_option linter.unusedVariables false
set_option linter.unusedSimpArgs false
set_option maxRecDepth 100000
/-- Numbers that a slice leads to. -/
def RI (w : World) (v : Value) (ks : List Int) : Prop :=
  ∃ a cap, v = .slice a ks.length cap ∧ (0 < ks.length → ∃ g o, a = some ⟨g, o, none⟩ ∧ g < w.heap.size ∧ ∀ i (h : i < ks.length), w.cell? ⟨g, o + i, none⟩ = some (.int .i64 ks[i]))
theorem RI.below {w w' : World} {v : Value} {ks : List Int} (h : RI w v ks) (hb : Below w.heap.size w w') : RI w' v ks := by
  obtain ⟨a, cap, rfl, h2⟩ := h
  refine ⟨a, cap, rfl, fun hp => ?_⟩
  obtain ⟨g, o, ha, hg, hc⟩ := h2 hp
  exact ⟨g, o, ha, Nat.lt_of_lt_of_le hg hb.size, fun i hi => (hb.cell (p := ⟨g, o + i, none⟩) hg).trans (hc i hi)⟩
theorem RS.ri {B : Nat} {w : World} {v : Value} {ks : List Int} (h : RS 1 CI B w v ks) : RI w v ks := by
  obtain ⟨a, cap, rfl, h2⟩ := h
  refine ⟨a, cap, rfl, fun hp => ?_⟩
  obtain ⟨g, o, ha, _, hg, hc⟩ := h2 hp
  refine ⟨g, o, ha, hg, fun i hi => ?_⟩
  obtain ⟨cs, he, hcell⟩ := hc i hi
  unfold CI at he
  subst he
  have := hcell 0 (by omega)
  rw [Nat.mul_one, Nat.add_zero] at this
  exact this
def ordS : List (List Int) → Nat → List Int → Option (List Int)
  | [], _, st => some st
  | ks :: r, i, st => if ks.length ≤ st.length ∧ st.drop (st.length - ks.length) = ks then ordS r (i + 1) (st.take (st.length - ks.length) ++ [(i : Int)]) else none
def ordB (ts : List XN) : Bool := match ordS (ts.map XN.kids) 0 [] with
  | some st => decide ((st.length : Int) = 1)
  | none => false
theorem own_take {w : World} {b e g n cap r : Nat} {xs : List Value} (h : w.ownsRow b e 1 (.slice (some ⟨g, 0, none⟩) n cap) n xs) (hr : r ≤ n) : w.ownsRow b e 1 (.slice (some ⟨g, 0, none⟩) r cap) r (xs.take r) := by
  obtain ⟨h1, h2⟩ := h
  rcases h2 with ⟨h2, _⟩ | ⟨g', cap', cur, hv, hg1, hg2, hg3, hg4, hg5, hg6⟩
  · cases h2
  · simp only [Value.slice.injEq, Option.some.injEq, Addr.mk.injEq] at hv
    obtain ⟨⟨rfl, _, _⟩, _, rfl⟩ := hv
    refine ⟨by rw [List.length_take]; omega, .inr ⟨g, cap, cur, rfl, hg1, hg2, by omega, hg4, hg5, ?_⟩⟩
    rw [← hg6, List.take_take]
    congr 1
    omega
theorem own_shape {w : World} {b e n : Nat} {v : Value} {xs : List Value} (h : w.ownsRow b e 1 v n xs) : (v = .slice none 0 0 ∧ n = 0) ∨ ∃ g cap, v = .slice (some ⟨g, 0, none⟩) n cap ∧ n ≤ cap ∧ cap ≤ maxLen ∧ g < w.heap.size := by
  have hl := h.lt
  rcases h.2 with h2 | ⟨g, cap, cur, rfl, _, _, h3, h4, _⟩
  · exact .inl h2
  · exact .inr ⟨g, cap, rfl, h3, h4, (hl g rfl).2⟩
theorem ordS_no {ks : List Int} {r : List (List Int)} {i : Nat} {st : List Int} (h : ¬ (ks.length ≤ st.length ∧ st.drop (st.length - ks.length) = ks)) : ordS (ks :: r) i st = none := by unfold ordS; rw [if_neg h]
theorem ordS_yes {ks : List Int} {r : List (List Int)} {i : Nat} {st : List Int} (h : ks.length ≤ st.length ∧ st.drop (st.length - ks.length) = ks) : ordS (ks :: r) i st = ordS r (i + 1) (st.take (st.length - ks.length) ++ [(i : Int)]) := by conv => lhs; unfold ordS; rw [if_pos h]
theorem ordB_none {ts : List XN} (h : ordS (ts.map XN.kids) 0 [] = none) : ordB ts = false := by unfold ordB; rw [h]
theorem ordB_some {ts : List XN} {st : List Int} (h : ordS (ts.map XN.kids) 0 [] = some st) : ordB ts = decide ((st.length : Int) = 1) := by unfold ordB; rw [h]
set_option maxHeartbeats 4000000 in
theorem sEq (v u : Value) (xs ys : List Int) (w : World) (hn : xs.length ≤ 1048576) (hv : RI w v xs) (hu : RI w u ys) :
    Calls Try.prog 62 #[v, u] w fun e w' => e = .returned (.bool (xs == ys)) ∧ Below w.heap.size w w' := by
  obtain ⟨a, ca, rfl, hva⟩ := hv
  obtain ⟨b, cb, rfl, hub⟩ := hu
  by_cases hl : xs.length = ys.length
  · have hli : (xs.length : Int) = ys.length := by omega
    rw [← hl]
    have HL : Hid (xs.length = ys.length) := hl
    clear hl hli
    go_enter Try.func62, Try.ntmps62
    go_wp2
    go_loopw [13] (fun i wr => ∃ k : Nat, k ≤ xs.length ∧ i = .int .i64 k ∧ Hid (∀ j, j < k → xs[j]? = ys[j]?) ∧ Below w.heap.size w wr) (fun i _ => xs.length - (intOf i).toNat)
    case atStart => exact ⟨0, Nat.zero_le _, rfl, (fun j hj => by omega : ∀ j, j < 0 → xs[j]? = ys[j]?), Below.refl _ _⟩
    case round =>
      obtain ⟨k, hk, rfl, HA, hbel⟩ := hrel
      have hbs := hbel.size
      by_cases hlt : k < xs.length
      · have hlti : (k : Int) < xs.length := by omega
        obtain ⟨g, o, rfl, hg, hgc⟩ := hva (by omega)
        obtain ⟨g2, o2, rfl, hg2, hgc2⟩ := hub (by have := HL.out; omega)
        have c0 := (hbel.cell (p := ⟨g, o + k, none⟩) hg).trans (hgc k hlt)
        have d0 := (hbel.cell (p := ⟨g2, o2 + k, none⟩) hg2).trans (hgc2 k (by rw [← HL.out]; exact hlt))
        have HX : Hid (xs[k]? = some xs[k]) := List.getElem?_eq_getElem hlt
        have HY : Hid (ys[k]? = some (ys[k]'(by rw [← HL.out]; exact hlt))) := List.getElem?_eq_getElem (by rw [← HL.out]; exact hlt)
        clear hgc hgc2 hva hub
        generalize xs[k] = x at *
        generalize ys[k]'(by rw [← HL.out]; exact hlt) = y at *
        cases hxy : (x == y)
        · have hne : ¬ x = y := by simpa using hxy
          have HF : Hid ((xs == ys) = false) := (by
            cases h : (xs == ys)
            · rfl
            · have e : xs = ys := by simpa using h
              have h1 := HX.out
              have h2 := HY.out
              rw [e, h2] at h1
              exact absurd (Option.some.inj h1).symm hne : (xs == ys) = false)
          clear HA HX HY
          go_wp2
          go_quiet (fail)
          go_wp2
          go_ret
          exact ⟨ret_b HF.out.symm, hbel.trans ((below_drewNt _ _).mono hbs)⟩
        · have he : x = y := by simpa using hxy
          have HA2 : Hid (∀ j, j < k + 1 → xs[j]? = ys[j]?) := (fun j hj => by
            by_cases e : j = k
            · subst e; rw [HX.out, HY.out, he]
            · exact HA.out j (by omega) : ∀ j, j < k + 1 → xs[j]? = ys[j]?)
          clear HA HX HY hxy
          subst he
          go_wp2
          go_quiet (fail)
          go_wp2
          go_roundw
          case rel => exact ⟨k + 1, by omega, by go_num, HA2, hbel.trans ((below_drewNt _ _).mono hbs)⟩
          case measure => simp [intOf]; omega
      · have hkn : k = xs.length := by omega
        subst hkn
        have hlti : ¬ (xs.length : Int) < xs.length := by omega
        have HT : Hid ((xs == ys) = true) := (by
          have : xs = ys := List.ext_getElem? (fun j => by
            by_cases h : j < xs.length
            · exact HA.out j h
            · rw [List.getElem?_eq_none (by omega), List.getElem?_eq_none (by have := HL.out; omega)])
          rw [this]; simp : (xs == ys) = true)
        clear HA
        go_wp2
        go_ret
        exact ⟨ret_b HT.out.symm, hbel⟩
  · have hli : ((xs.length : Int) == ys.length) = false := by simp; omega
    have hln : ¬ (xs.length : Int) = ys.length := by omega
    have HF : Hid ((xs == ys) = false) := (by
      cases h : (xs == ys)
      · rfl
      · have e : xs = ys := by simpa using h
        rw [e] at hl; exact absurd rfl hl : (xs == ys) = false)
    go_enter Try.func62, Try.ntmps62
    go_wp2
    go_ret
    exact ⟨ret_b HF.out.symm, Below.refl _ _⟩
theorem kidsOf_any (n i g o cap B : Nat) (kv : Value) (w : World) (hi : i < n) (hB : w.cell? ⟨B, 0, none⟩ = some (.slice (some ⟨g, o, none⟩) n cap)) (hk : w.cell? ⟨g, o + i * 8 + 7, none⟩ = some kv) :
    Calls Try.prog 56 #[.int .i64 i, .pointer (some ⟨B, 0, none⟩)] w fun e w' => e = .returned kv ∧ w' = w := by
  have hii : (i : Int) < n := by omega
  go_enter Try.func56, Try.ntmps56
  go_wp2
  go_ret
  exact ⟨rfl, rfl⟩
end Go.Proofs.Ytoieiegjhjedoaa
