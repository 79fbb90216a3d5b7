import Derived.Test.YtoieiegjhjedoaaSO2
namespace Go.Proofs.Ytoieiegjhjedoaa
open Go.ChangeShapes Go.WideShapes Go.ChangeAt Go.RowKit
set_option linter.unusedVariables false
set_option linter.unusedSimpArgs false
set_option maxRecDepth 100000
def stE (ts : List XN) : Bool := decide ((ts.length : Int) ≤ 400) && ordB ts
theorem order_0 (f : Value) (w : World) : Calls Try.prog 55 #[.int .i64 0, f] w fun e w' => e = .returned (.bool false) ∧ w' = w := by
  go_enter Try.func55, Try.ntmps55
  go_wp2
  go_loopw [5, 10] (fun v iv wr => v = .slice none 0 0 ∧ iv = .int .i64 0 ∧ wr = w) (fun _ _ _ => 0)
  case atStart => exact ⟨rfl, rfl, rfl⟩
  case round =>
    obtain ⟨rfl, rfl, hw⟩ := hrel
    subst hw
    go_wp2
    go_ret
    exact ⟨rfl, rfl⟩
set_option maxHeartbeats 8000000 in
theorem exprStands_any (ts : List XN) (na : Option Addr) (nc : Nat) (w : World) (hB : BE 1048576 ts) (hv : RS 8 CX 0 w (.slice na ts.length nc) ts) :
    Calls Try.prog 39 #[.agg #[.slice na ts.length nc]] w fun e w' => e = .returned (.bool (stE ts)) ∧ Below w.heap.size w w' := by
  have bw := below_alloc w (.cells #[.slice na ts.length nc] 50)
  by_cases h4 : (ts.length : Int) ≤ 400
  · have HE : Hid (stE ts = ordB ts) := (by unfold stE; rw [decide_eq_true h4]; rfl : stE ts = ordB ts)
    have hv1 := hv.below liesX bw
    obtain ⟨hl, hk⟩ := hB
    have hb0 : (w.alloc (.cells #[.slice na ts.length nc] 50)).cell? ⟨w.heap.size, 0, none⟩ = some (.slice na ts.length nc) := by simp
    have hz : w.heap.size < (w.alloc (.cells #[.slice na ts.length nc] 50)).heap.size := by simp
    by_cases h0 : ts.length = 0
    · have HF : Hid (ordB ts = false) := (by rw [List.length_eq_zero_iff.1 h0]; rfl : ordB ts = false)
      have ho := fun f W => order_0 f W
      rw [h0]
      clear hv hv1 h4
      go_enter Try.func39, Try.ntmps39
      go_wp2_with (go_at_call 55; fail)
      refine (ho _ _).mono ?_
      rintro e w1 ⟨rfl, hw1⟩
      replace hw1 := hw1.symm
      subst hw1
      go_wp2
      go_ret
      exact ⟨ret_b (by rw [HE.out, HF.out]), by rw [h0] at bw; exact bw⟩
    · obtain ⟨a', c', he, hcells⟩ := hv1
      simp only [Value.slice.injEq] at he
      obtain ⟨rfl, _, rfl⟩ := he
      obtain ⟨g, o, rfl, _, hg, hgc⟩ := hcells (by omega)
      have ho := order_any ts g o nc w.heap.size (w.alloc (.cells #[.slice (some ⟨g, o, none⟩) ts.length nc] 50)) (by omega) hb0 hz hg (fun i h => (hk _ (List.getElem_mem h)).2) (fun i h => by
        obtain ⟨cs, hC, hcell⟩ := hgc i h
        obtain ⟨v0, rfl, hr⟩ := hC
        exact ⟨v0, hcell 7 (by omega), hr.ri⟩)
      generalize ordB ts = ob at *
      clear hgc hcells hv hk
      go_enter Try.func39, Try.ntmps39
      go_wp2_with (go_at_call 55; fail)
      refine ho.mono ?_
      rintro e w1 ⟨rfl, hb1⟩
      have bw1 : Below w.heap.size w w1 := bw.trans (hb1.mono bw.size)
      clear hb1 ho
      go_wp2
      go_ret
      exact ⟨ret_b HE.out.symm, bw1⟩
  · have HE : Hid (stE ts = false) := (by unfold stE; rw [decide_eq_false h4]; rfl : stE ts = false)
    clear hv
    go_enter Try.func39, Try.ntmps39
    go_wp2
    go_ret
    exact ⟨ret_b HE.out.symm, bw⟩
end Go.Proofs.Ytoieiegjhjedoaa
