import Derived.Test.YtoieiegjhjedoaaSP1
namespace Go.Proofs.Ytoieiegjhjedoaa
open Go.ChangeShapes Go.WideShapes Go.ChangeAt Go.RowKit
set_option linter.unusedVariables false
set_option linter.unusedSimpArgs false
set_option maxRecDepth 100000
def ads (x : PA) : Bool := x.fn == 3 || x.fn == 4
theorem addsUp_any (t : PA) (cs : List Value) (w : World) (hC : CPA 0 w cs t) : Calls Try.prog 13 #[.agg cs.toArray] w fun e w' => e = .returned (.bool (ads t)) ∧ Below w.heap.size w w' := by
  unfold CPA at hC
  subst hC
  obtain ⟨fn, col, d⟩ := t
  simp only
  cases h1 : (fn == 3)
  · have HE : Hid (ads ⟨fn, col, d⟩ = (fn == 4)) := (by simp [ads, h1] : ads ⟨fn, col, d⟩ = (fn == 4))
    go_enter Try.func13, Try.ntmps13
    go_wp2
    go_ret
    exact ⟨ret_b HE.out.symm, below_alloc _ _⟩
  · have HE : Hid (ads ⟨fn, col, d⟩ = true) := (by simp [ads, h1] : ads ⟨fn, col, d⟩ = true)
    go_enter Try.func13, Try.ntmps13
    go_wp2
    go_ret
    exact ⟨ret_b HE.out.symm, below_alloc _ _⟩
theorem mayFail_e (t : List XN) (cs : List Value) (w : World) (hB : BE 1048576 t) (hR : RgE t) (hC : CE 0 w cs t) : Calls Try.prog 15 #[.agg cs.toArray] w fun e w' => e = .returned (.bool (mfE t)) ∧ Below w.heap.size w w' := by
  obtain ⟨v, rfl, hr⟩ := hC
  have HR := hid hr
  obtain ⟨a, c, rfl, _⟩ := hr
  exact mayFail_any t a c w hB hR HR.out
set_option maxHeartbeats 8000000 in
theorem anyAgg_i (v : Value) (us : List PA) (w : World) (hn : us.length ≤ 1048576) (hx : ∀ t ∈ us, True) (hv : RS 3 CPA 0 w v us) :
    Calls Try.prog 21 #[v, .func (.func 13) #[] #[]] w fun e w' => (∃ r : Int, e = .returned (.int .i64 r) ∧ decide (0 ≤ r) = us.any ads) ∧ Below w.heap.size w w' := by
  have HX := hid hx
  clear hx
  obtain ⟨a, ca, rfl, hva⟩ := hv
  go_enter Try.func21, Try.ntmps21
  go_wp2
  go_loopw [8] (fun i wr => ∃ k : Nat, k ≤ us.length ∧ i = .int .i64 k ∧ Hid (∀ t ∈ us.take k, ads t = false) ∧ Below w.heap.size w wr) (fun i _ => us.length - (intOf i).toNat)
  case atStart => exact ⟨0, Nat.zero_le _, rfl, (fun t h => by simp at h : ∀ t ∈ us.take 0, ads t = false), Below.refl _ _⟩
  case round =>
    obtain ⟨k, hk, rfl, HO, hbel⟩ := hrel
    have hbs := hbel.size
    by_cases hlt : k < us.length
    · have hlti : (k : Int) < us.length := by omega
      obtain ⟨g, o, rfl, _, hg, hgc⟩ := hva (by omega)
      obtain ⟨cs, hC, hcell⟩ := hgc k hlt
      have hC1 := liesPA.below hC hbel
      have hX1 := HX.out _ (List.getElem_mem hlt)
      have HST : Hid (ads us[k] = false → ∀ t ∈ us.take (k + 1), ads t = false) := (fun z t ht => by
        rw [show us.take (k + 1) = us.take k ++ [us[k]] by rw [List.take_add_one, List.getElem?_eq_getElem hlt]; rfl] at ht
        rcases List.mem_append.1 ht with h | h
        · exact HO.out t h
        · rw [List.mem_singleton] at h; rw [h]; exact z : ads us[k] = false → ∀ t ∈ us.take (k + 1), ads t = false)
      have HY : Hid (ads us[k] = true → decide (0 ≤ (k : Int)) = us.any ads) := (fun z => by
        rw [decide_eq_true (show 0 ≤ (k : Int) by omega)]
        exact (List.any_eq_true.2 ⟨us[k], List.getElem_mem hlt, z⟩).symm : ads us[k] = true → decide (0 ≤ (k : Int)) = us.any ads)
      clear hgc hva HO
      generalize us[k] = t at *
      have hcn := addsUp_any t cs wr hC1
      clear hC1
      have he := hC
      unfold CPA at he
      subst he
      have c0 : wr.cell? ⟨g, o + k * 3, none⟩ = some (.int .i64 t.fn) := (hbel.cell (p := ⟨g, o + k * 3, none⟩) hg).trans (hcell 0 (by omega))
      have c1 : wr.cell? ⟨g, o + k * 3 + 1, none⟩ = some (.int .i64 t.col) := (hbel.cell (p := ⟨g, o + k * 3 + 1, none⟩) hg).trans (hcell 1 (by omega))
      have c2 : wr.cell? ⟨g, o + k * 3 + 2, none⟩ = some (.bool t.d) := (hbel.cell (p := ⟨g, o + k * 3 + 2, none⟩) hg).trans (hcell 2 (by omega))
      clear hcell
      generalize ads t = pt at *
      go_wp2_with (go_at_call 13; fail)
      refine hcn.mono ?_
      rintro e w1 ⟨rfl, hb1⟩
      have bw1 : Below w.heap.size w w1 := hbel.trans (hb1.mono hbs)
      clear hb1 hcn
      cases pt
      · have HS := hid (HST.out rfl)
        go_wp2
        go_roundw
        case rel => exact ⟨k + 1, by omega, by go_num, HS, bw1⟩
        case measure => simp [intOf]; omega
      · have HS := hid (HY.out rfl)
        go_wp2
        go_ret
        exact ⟨⟨_, rfl, HS.out⟩, bw1⟩
    · have hkn : k = us.length := by omega
      subst hkn
      rw [List.take_length] at HO
      have hlti : ¬ (us.length : Int) < us.length := by omega
      have HN : Hid (decide (0 ≤ (-1 : Int)) = us.any ads) := (by
        rw [show us.any ads = false by rw [List.any_eq_false]; intro t ht; rw [HO.out t ht]; simp]; rfl : decide (0 ≤ (-1 : Int)) = us.any ads)
      clear HO
      go_wp2
      go_ret
      exact ⟨⟨_, rfl, HN.out⟩, hbel⟩
theorem anyAgg (v : Value) (us : List PA) (w : World) (hn : us.length ≤ 1048576) (hx : ∀ t ∈ us, True) (hv : RS 3 CPA 0 w v us) :
    Calls Try.prog 12 #[v, .func (.func 13) #[] #[]] w fun e w' => e = .returned (.bool (us.any ads)) ∧ Below w.heap.size w w' := by
  have hi := anyAgg_i v us w hn hx hv
  obtain ⟨a, ca, rfl, _⟩ := hv
  generalize us.any ads = an at *
  go_enter Try.func12, Try.ntmps12
  go_wp2_with (go_at_call 21; fail)
  refine hi.mono ?_
  rintro e w1 ⟨⟨r, rfl, hr⟩, hb1⟩
  have HR := hid hr
  clear hr hi
  go_wp2
  go_ret
  exact ⟨ret_b (by first | exact HR.out | simpa using HR.out), hb1⟩
set_option maxHeartbeats 8000000 in
theorem anyExpr_i (v : Value) (us : List (List XN)) (w : World) (hn : us.length ≤ 1048576) (hx : ∀ t ∈ us, BE 1048576 t ∧ RgE t) (hv : RS 1 CE 0 w v us) :
    Calls Try.prog 22 #[v, .func (.func 15) #[] #[]] w fun e w' => (∃ r : Int, e = .returned (.int .i64 r) ∧ decide (0 ≤ r) = us.any mfE) ∧ Below w.heap.size w w' := by
  have HX := hid hx
  clear hx
  obtain ⟨a, ca, rfl, hva⟩ := hv
  go_enter Try.func22, Try.ntmps22
  go_wp2
  go_loopw [8] (fun i wr => ∃ k : Nat, k ≤ us.length ∧ i = .int .i64 k ∧ Hid (∀ t ∈ us.take k, mfE t = false) ∧ Below w.heap.size w wr) (fun i _ => us.length - (intOf i).toNat)
  case atStart => exact ⟨0, Nat.zero_le _, rfl, (fun t h => by simp at h : ∀ t ∈ us.take 0, mfE t = false), Below.refl _ _⟩
  case round =>
    obtain ⟨k, hk, rfl, HO, hbel⟩ := hrel
    have hbs := hbel.size
    by_cases hlt : k < us.length
    · have hlti : (k : Int) < us.length := by omega
      obtain ⟨g, o, rfl, _, hg, hgc⟩ := hva (by omega)
      obtain ⟨cs, hC, hcell⟩ := hgc k hlt
      have hC1 := liesE.below hC hbel
      have hX1 := HX.out _ (List.getElem_mem hlt)
      have HST : Hid (mfE us[k] = false → ∀ t ∈ us.take (k + 1), mfE t = false) := (fun z t ht => by
        rw [show us.take (k + 1) = us.take k ++ [us[k]] by rw [List.take_add_one, List.getElem?_eq_getElem hlt]; rfl] at ht
        rcases List.mem_append.1 ht with h | h
        · exact HO.out t h
        · rw [List.mem_singleton] at h; rw [h]; exact z : mfE us[k] = false → ∀ t ∈ us.take (k + 1), mfE t = false)
      have HY : Hid (mfE us[k] = true → decide (0 ≤ (k : Int)) = us.any mfE) := (fun z => by
        rw [decide_eq_true (show 0 ≤ (k : Int) by omega)]
        exact (List.any_eq_true.2 ⟨us[k], List.getElem_mem hlt, z⟩).symm : mfE us[k] = true → decide (0 ≤ (k : Int)) = us.any mfE)
      clear hgc hva HO
      generalize us[k] = t at *
      have hcn := mayFail_e t cs wr hX1.1 hX1.2 hC1
      clear hC1
      obtain ⟨v0, rfl, r0⟩ := hC
      obtain ⟨a0, q0, rfl, _⟩ := r0
      have c0 : wr.cell? ⟨g, o + k, none⟩ = some (.slice a0 t.length q0) := (hbel.cell (p := ⟨g, o + k, none⟩) hg).trans (by have := hcell 0 (by omega); rw [Nat.mul_one, Nat.add_zero] at this; exact this)
      clear hcell
      generalize mfE t = pt at *
      go_wp2_with (go_at_call 15; fail)
      refine hcn.mono ?_
      rintro e w1 ⟨rfl, hb1⟩
      have bw1 : Below w.heap.size w w1 := hbel.trans (hb1.mono hbs)
      clear hb1 hcn
      cases pt
      · have HS := hid (HST.out rfl)
        go_wp2
        go_roundw
        case rel => exact ⟨k + 1, by omega, by go_num, HS, bw1⟩
        case measure => simp [intOf]; omega
      · have HS := hid (HY.out rfl)
        go_wp2
        go_ret
        exact ⟨⟨_, rfl, HS.out⟩, bw1⟩
    · have hkn : k = us.length := by omega
      subst hkn
      rw [List.take_length] at HO
      have hlti : ¬ (us.length : Int) < us.length := by omega
      have HN : Hid (decide (0 ≤ (-1 : Int)) = us.any mfE) := (by
        rw [show us.any mfE = false by rw [List.any_eq_false]; intro t ht; rw [HO.out t ht]; simp]; rfl : decide (0 ≤ (-1 : Int)) = us.any mfE)
      clear HO
      go_wp2
      go_ret
      exact ⟨⟨_, rfl, HN.out⟩, hbel⟩
theorem anyExpr (v : Value) (us : List (List XN)) (w : World) (hn : us.length ≤ 1048576) (hx : ∀ t ∈ us, BE 1048576 t ∧ RgE t) (hv : RS 1 CE 0 w v us) :
    Calls Try.prog 14 #[v, .func (.func 15) #[] #[]] w fun e w' => e = .returned (.bool (us.any mfE)) ∧ Below w.heap.size w w' := by
  have hi := anyExpr_i v us w hn hx hv
  obtain ⟨a, ca, rfl, _⟩ := hv
  generalize us.any mfE = an at *
  go_enter Try.func14, Try.ntmps14
  go_wp2_with (go_at_call 22; fail)
  refine hi.mono ?_
  rintro e w1 ⟨⟨r, rfl, hr⟩, hb1⟩
  have HR := hid hr
  clear hr hi
  go_wp2
  go_ret
  exact ⟨ret_b (by first | exact HR.out | simpa using HR.out), hb1⟩
end Go.Proofs.Ytoieiegjhjedoaa
