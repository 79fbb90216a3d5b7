import Derived.Test.YtoieiegjhjedoaaSG4
import Derived.Test.YtoieiegjhjedoaaSP3
namespace Go.Proofs.Ytoieiegjhjedoaa
open Go.ChangeShapes Go.WideShapes Go.ChangeAt Go.RowKit
set_option linter.unusedVariables false
set_option linter.unusedSimpArgs false
set_option maxRecDepth 100000
theorem nodS_eq (p : PN) : nodS p = ((p.exprs.all fun e => textE e && safeE e) && p.aggs.all fun x => !ads x) := by
  unfold nodS
  have h1 : (!(p.aggs.any ads)) = p.aggs.all fun x => !ads x := by
    induction p.aggs with
    | nil => rfl
    | cons x r ih => simp [List.any_cons, List.all_cons, ← ih]
  have h2 : (!(p.exprs.any mfE)) = p.exprs.all fun e => textE e && safeE e := by
    induction p.exprs with
    | nil => rfl
    | cons x r ih => rw [List.any_cons, List.all_cons, ← ih]; unfold mfE; simp
  rw [h1, h2, Bool.and_comm]
set_option maxHeartbeats 16000000 in
theorem safeNode_any (t : PN) (cs : List Value) (w : World) (hB : BP 1048576 t) (hR : ∀ e ∈ t.exprs, RgE e) (hC : CP 0 w cs t) :
    Calls Try.prog 10 #[.agg cs.toArray] w fun e w' => e = .returned (.bool (nodS t)) ∧ Below w.heap.size w w' := by
  have HQ : Hid (nodS t = ((t.exprs.all fun e => textE e && safeE e) && t.aggs.all fun x => !ads x)) := nodS_eq t
  obtain ⟨v0, v1, v2, v3, v4, rfl, r0, r1, r2, r3, r4⟩ := hC
  have R0 := hid r0
  obtain ⟨a0, q0, rfl, hc0⟩ := r0
  obtain ⟨a1, q1, rfl, _⟩ := r1
  obtain ⟨a2, q2, rfl, hc2⟩ := r2
  obtain ⟨a3, q3, rfl, _⟩ := r3
  obtain ⟨a4, q4, rfl, _⟩ := r4
  have HB : Hid (BP 1048576 t) := hB
  have hLe := hB.1.1
  have hLa := hB.2.2.1
  clear hB hR
  have bw0 := below_alloc w (.cells #[.int .i64 t.op, .int .i64 t.l, .int .i64 t.r, .int .i64 t.table, .int .i64 t.a, .int .i64 t.b, .slice a0 t.exprs.length q0, .slice a1 t.keys.length q1, .slice a2 t.aggs.length q2, .slice a3 t.sorts.length q3, .slice a4 t.kinds.length q4] 39)
  have e0 : (w.alloc (.cells #[.int .i64 t.op, .int .i64 t.l, .int .i64 t.r, .int .i64 t.table, .int .i64 t.a, .int .i64 t.b, .slice a0 t.exprs.length q0, .slice a1 t.keys.length q1, .slice a2 t.aggs.length q2, .slice a3 t.sorts.length q3, .slice a4 t.kinds.length q4] 39)).cell? ⟨w.heap.size, 8, none⟩ = some (.slice a2 t.aggs.length q2) := by simp
  have z0 : w.heap.size < (w.alloc (.cells #[.int .i64 t.op, .int .i64 t.l, .int .i64 t.r, .int .i64 t.table, .int .i64 t.a, .int .i64 t.b, .slice a0 t.exprs.length q0, .slice a1 t.keys.length q1, .slice a2 t.aggs.length q2, .slice a3 t.sorts.length q3, .slice a4 t.kinds.length q4] 39)).heap.size := by simp
  go_enter Try.func10, Try.ntmps10
  go_wp2
  go_loopw [10] (fun iv wr => ∃ k : Nat, k ≤ t.exprs.length ∧ iv = .int .i64 k ∧ Hid (∀ e ∈ t.exprs.take k, (textE e && safeE e) = true) ∧ wr.cell? ⟨w.heap.size, 8, none⟩ = some (.slice a2 t.aggs.length q2) ∧ w.heap.size < wr.heap.size ∧ Below w.heap.size w wr) (fun iv _ => t.exprs.length - (intOf iv).toNat)
  case atStart => exact ⟨0, Nat.zero_le _, rfl, (fun e h => by simp at h : ∀ e ∈ t.exprs.take 0, (textE e && safeE e) = true), e0, z0, bw0⟩
  case round =>
    obtain ⟨k, hk, rfl, HO, ec, zc, hbel⟩ := hrel
    clear e0 z0 bw0
    have hbs := hbel.size
    by_cases hlt : k < t.exprs.length
    · have hlti : (k : Int) < t.exprs.length := by omega
      obtain ⟨g, o, rfl, _, hg, hgc⟩ := hc0 (by omega)
      obtain ⟨ds, hD, hcell⟩ := hgc k hlt
      have hB1 := HB.out.1.2 _ (List.getElem_mem hlt)
      have HST : Hid ((textE t.exprs[k] && safeE t.exprs[k]) = true → ∀ e ∈ t.exprs.take (k + 1), (textE e && safeE e) = true) := (fun z e he => by
        rw [show t.exprs.take (k + 1) = t.exprs.take k ++ [t.exprs[k]] by rw [List.take_add_one, List.getElem?_eq_getElem hlt]; rfl] at he
        rcases List.mem_append.1 he with h | h
        · exact HO.out e h
        · rw [List.mem_singleton] at h; rw [h]; exact z : (textE t.exprs[k] && safeE t.exprs[k]) = true → ∀ e ∈ t.exprs.take (k + 1), (textE e && safeE e) = true)
      have HNo : Hid ((textE t.exprs[k] && safeE t.exprs[k]) = false → nodS t = false) := (fun z => by
        rw [HQ.out]
        have : (t.exprs.all fun e => textE e && safeE e) = false := by
          rw [List.all_eq_false]
          exact ⟨t.exprs[k], List.getElem_mem hlt, by rw [z]; simp⟩
        rw [this]; rfl : (textE t.exprs[k] && safeE t.exprs[k]) = false → nodS t = false)
      clear hgc hc0 hc2 HO
      generalize t.exprs[k] = e1 at *
      obtain ⟨v0, rfl, hr0⟩ := hD
      have RE := hid hr0
      obtain ⟨ea, eq, rfl, _⟩ := hr0
      have c0 : wr.cell? ⟨g, o + k, none⟩ = some (.slice ea e1.length eq) := (hbel.cell (p := ⟨g, o + k, none⟩) hg).trans (by have := hcell 0 (by omega); rw [Nat.mul_one, Nat.add_zero] at this; exact this)
      clear hcell
      have bwA : Below w.heap.size w (wr.alloc (.cells #[.slice ea e1.length eq] 50)) := hbel.alloc hbs _
      have eA : (wr.alloc (.cells #[.slice ea e1.length eq] 50)).cell? ⟨w.heap.size, 8, none⟩ = some (.slice a2 t.aggs.length q2) := ((below_alloc wr _).cell (p := ⟨w.heap.size, 8, none⟩) zc).trans ec
      have zA : w.heap.size < (wr.alloc (.cells #[.slice ea e1.length eq] 50)).heap.size := by simp; omega
      have nA : (wr.alloc (.cells #[.slice ea e1.length eq] 50)).cell? ⟨wr.heap.size, 0, none⟩ = some (.slice ea e1.length eq) := by simp
      have yA : wr.heap.size < (wr.alloc (.cells #[.slice ea e1.length eq] 50)).heap.size := by simp
      have h18 := stands_any e1 ea eq _ hB1 (RE.out.below liesX bwA)
      cases ht : textE e1
      · have HF := hid (HNo.out (by rw [ht]; rfl))
        rw [ht] at h18
        clear ht HST HNo
        go_wp2_with (go_at_call 18; fail)
        refine h18.mono ?_
        rintro e w2 ⟨rfl, hb2⟩
        have bw2 : Below w.heap.size w w2 := bwA.trans (hb2.mono bwA.size)
        clear hb2 h18
        go_wp2
        go_ret
        exact ⟨ret_b HF.out.symm, bw2⟩
      · have H19 := fun W (h : Below w.heap.size w W) => safeExpr_any e1 ea eq W hB1 ht (RE.out.below liesX h)
        rw [ht] at h18 HST HNo
        clear ht
        generalize safeE e1 = se at *
        go_wp2_with (go_at_call 18; fail)
        refine h18.mono ?_
        rintro e w2 ⟨rfl, hb2⟩
        have bw2 : Below w.heap.size w w2 := bwA.trans (hb2.mono bwA.size)
        have e2 := (hb2.cell (p := ⟨w.heap.size, 8, none⟩) zA).trans eA
        have z2 : w.heap.size < w2.heap.size := Nat.lt_of_lt_of_le zA hb2.size
        have n2 := (hb2.cell (p := ⟨wr.heap.size, 0, none⟩) yA).trans nA
        have h19 := H19 w2 bw2
        clear hb2 h18 H19
        go_wp2_with (go_at_call 19; fail)
        refine h19.mono ?_
        rintro e w3 ⟨rfl, hb3⟩
        have bw3 : Below w.heap.size w w3 := bw2.trans (hb3.mono bw2.size)
        have e3 := (hb3.cell (p := ⟨w.heap.size, 8, none⟩) z2).trans e2
        have z3 : w.heap.size < w3.heap.size := Nat.lt_of_lt_of_le z2 hb3.size
        clear hb3 h19
        cases se
        · have HF := hid (HNo.out rfl)
          go_wp2
          go_ret
          exact ⟨ret_b HF.out.symm, bw3⟩
        · have HY := hid (HST.out rfl)
          go_wp2
          go_roundw
          case rel => exact ⟨k + 1, by omega, by go_num, HY, e3, z3, bw3⟩
          case measure => simp [intOf]; omega
    · have hkn : k = t.exprs.length := by omega
      subst hkn
      have hlti : ¬ (t.exprs.length : Int) < t.exprs.length := by omega
      have HA : Hid ((t.exprs.all fun e => textE e && safeE e) = true) := (by
        rw [List.all_eq_true]
        have := HO.out
        rw [List.take_length] at this
        exact this : (t.exprs.all fun e => textE e && safeE e) = true)
      have HQ2 : Hid (nodS t = t.aggs.all fun x => !ads x) := (by rw [HQ.out, HA.out]; simp : nodS t = t.aggs.all fun x => !ads x)
      clear HO HA hc0
      obtain ⟨wo, hwo⟩ : ∃ x, x = wr := ⟨_, rfl⟩
      subst hwo
      go_wp2
      go_loopw [26] (fun iv wx => ∃ k : Nat, k ≤ t.aggs.length ∧ iv = .int .i64 k ∧ Hid (∀ x ∈ t.aggs.take k, ads x = false) ∧ Below w.heap.size w wx) (fun iv _ => t.aggs.length - (intOf iv).toNat)
      case atStart => exact ⟨0, Nat.zero_le _, rfl, (fun e h => by simp at h : ∀ x ∈ t.aggs.take 0, ads x = false), hbel⟩
      case round =>
        obtain ⟨k, hk, rfl, HO, hbe⟩ := hrel
        have hbes := hbe.size
        by_cases hlt : k < t.aggs.length
        · have hlti : (k : Int) < t.aggs.length := by omega
          obtain ⟨g, o, rfl, _, hg, hgc⟩ := hc2 (by omega)
          obtain ⟨ds, hD, hcell⟩ := hgc k hlt
          have HST : Hid (ads t.aggs[k] = false → ∀ e ∈ t.aggs.take (k + 1), ads e = false) := (fun z e he => by
            rw [show t.aggs.take (k + 1) = t.aggs.take k ++ [t.aggs[k]] by rw [List.take_add_one, List.getElem?_eq_getElem hlt]; rfl] at he
            rcases List.mem_append.1 he with h | h
            · exact HO.out e h
            · rw [List.mem_singleton] at h; rw [h]; exact z : ads t.aggs[k] = false → ∀ e ∈ t.aggs.take (k + 1), ads e = false)
          have HNo : Hid (ads t.aggs[k] = true → nodS t = false) := (fun z => by
            rw [HQ2.out, List.all_eq_false]
            exact ⟨t.aggs[k], List.getElem_mem hlt, by rw [z]; simp⟩ : ads t.aggs[k] = true → nodS t = false)
          unfold CPA at hD
          subst hD
          clear hgc hc2 HO
          generalize t.aggs[k] = x at *
          obtain ⟨fn, col, dd⟩ := x
          simp only [ads] at HST HNo
          have c0 : wr.cell? ⟨g, o + k * 3, none⟩ = some (.int .i64 fn) := (hbe.cell (p := ⟨g, o + k * 3, none⟩) hg).trans (hcell 0 (by omega))
          have c1 : wr.cell? ⟨g, o + k * 3 + 1, none⟩ = some (.int .i64 col) := (hbe.cell (p := ⟨g, o + k * 3 + 1, none⟩) hg).trans (hcell 1 (by omega))
          have c2 : wr.cell? ⟨g, o + k * 3 + 2, none⟩ = some (.bool dd) := (hbe.cell (p := ⟨g, o + k * 3 + 2, none⟩) hg).trans (hcell 2 (by omega))
          clear hcell
          have bwA : Below w.heap.size w (wr.alloc (.cells #[.int .i64 fn, .int .i64 col, .bool dd] 44)) := hbe.alloc hbes _
          cases h3 : (fn == 3)
          · cases h4 : (fn == 4)
            · have HY := hid (HST.out (by rw [h3, h4]; rfl))
              clear HST HNo
              go_wp2
              go_roundw
              case rel => exact ⟨k + 1, by omega, by go_num, HY, bwA⟩
              case measure => simp [intOf]; omega
            · have HF := hid (HNo.out (by rw [h3, h4]; rfl))
              clear HST HNo
              go_wp2
              go_ret
              exact ⟨ret_b HF.out.symm, bwA⟩
          · have HF := hid (HNo.out (by rw [h3]; rfl))
            clear HST HNo
            go_wp2
            go_ret
            exact ⟨ret_b HF.out.symm, bwA⟩
        · have hkn : k = t.aggs.length := by omega
          subst hkn
          have hlti : ¬ (t.aggs.length : Int) < t.aggs.length := by omega
          have HT : Hid (nodS t = true) := (by
            rw [HQ2.out, List.all_eq_true]
            intro x hx
            have := HO.out
            rw [List.take_length] at this
            rw [this x hx]; rfl : nodS t = true)
          clear HO
          go_wp2
          go_ret
          exact ⟨ret_b HT.out.symm, hbe⟩
end Go.Proofs.Ytoieiegjhjedoaa
