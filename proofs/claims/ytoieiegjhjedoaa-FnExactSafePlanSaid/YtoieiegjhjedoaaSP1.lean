import Derived.Test.YtoieiegjhjedoaaSO3
import Derived.Test.YtoieiegjhjedoaaSF3
import Derived.Test.YtoieiegjhjedoaaSF4
namespace Go.Proofs.Ytoieiegjhjedoaa
open Go.ChangeShapes Go.WideShapes Go.ChangeAt Go.RowKit
set_option linter.unusedVariables false
set_option linter.unusedSimpArgs false
set_option maxRecDepth 100000
theorem ordS_kids : ∀ (r : List (List Int)) (i : Nat) (st st' : List Int), ordS r i st = some st' → st.length ≤ i → (∀ x ∈ st, ∃ j : Nat, x = (j : Int) ∧ j < i) → ∀ p (h : p < r.length), (r[p]).length ≤ i + p ∧ ∀ x ∈ r[p], ∃ j : Nat, x = (j : Int) ∧ j < i + p
  | [], _, _, _, _, _, _, p, h => by simp at h
  | ks :: r, i, st, st', he, hl, hst, p, h => by
    unfold ordS at he
    split at he
    · rename_i hc
      cases p with
      | zero =>
        refine ⟨by simp; omega, fun x hx => ?_⟩
        have hx' : x ∈ ks := hx
        rw [← hc.2] at hx'
        obtain ⟨j, h1, h2⟩ := hst x (List.mem_of_mem_drop hx')
        exact ⟨j, h1, by omega⟩
      | succ p =>
        have ih := ordS_kids r (i + 1) _ st' he (by simp; omega) (fun y hy => by
          rcases List.mem_append.1 hy with h1 | h1
          · obtain ⟨j, a, b⟩ := hst y (List.mem_of_mem_take h1)
            exact ⟨j, a, by omega⟩
          · rw [List.mem_singleton] at h1
            exact ⟨i, h1, by omega⟩) p (by simpa using h)
        refine ⟨by have := ih.1; simp; omega, fun x hx => ?_⟩
        obtain ⟨j, a, b⟩ := ih.2 x hx
        exact ⟨j, a, by omega⟩
    · cases he
theorem ordB_kids {ts : List XN} (h : ordB ts = true) (i : Nat) (hi : i < ts.length) : ts[i].kids.length ≤ i ∧ ∀ x ∈ ts[i].kids, ∃ j : Nat, x = (j : Int) ∧ j < i := by
  unfold ordB at h
  split at h
  · rename_i st he
    have := ordS_kids _ 0 [] st he (by simp) (fun x hx => by simp at hx) i (by simpa using hi)
    simpa using this
  · cases h
theorem stE_kids {ts : List XN} (h : stE ts = true) : ∀ t ∈ ts, t.kids.length ≤ 400 ∧ ∀ x ∈ t.kids, ∃ y : Nat, x = (y : Int) ∧ y < ts.length := by
  unfold stE at h
  rw [Bool.and_eq_true, decide_eq_true_eq] at h
  intro t ht
  obtain ⟨i, hi, rfl⟩ := List.getElem_of_mem ht
  obtain ⟨a, b⟩ := ordB_kids h.2 i hi
  refine ⟨by omega, fun x hx => ?_⟩
  obtain ⟨y, hy, hyi⟩ := b x hx
  exact ⟨y, hy, by omega⟩
def textE (ts : List XN) : Bool := stE ts && ts.all fun t => toldF t.op t.a t.kids.length
def safeE (ts : List XN) : Bool := ts.all fun t => t.op != 13 && !failF t.op t.a (hd0 (kindsOf ts t))
def mfE (ts : List XN) : Bool := !(textE ts && safeE ts)
/-- The numbers A of an expression's nodes are Go ints. -/
def RgE (ts : List XN) : Prop := ∀ t ∈ ts, -9223372036854775808 ≤ t.a ∧ t.a ≤ 9223372036854775807
theorem textE_9 {ts : List XN} (h : textE ts = true) : ∀ t ∈ ts, t.op = 9 → 0 < t.kids.length := by
  intro t ht h9
  unfold textE at h
  rw [Bool.and_eq_true, List.all_eq_true] at h
  have := h.2 t ht
  rw [h9] at this
  simp [toldF] at this
  omega
set_option maxHeartbeats 8000000 in
theorem hasText_any (ts : List XN) (na : Option Addr) (nc : Nat) (w : World) (hB : BE 1048576 ts) (hR : RgE ts) (hv : RS 8 CX 0 w (.slice na ts.length nc) ts) :
    Calls Try.prog 23 #[.agg #[.slice na ts.length nc]] w fun e w' => e = .returned (.bool (textE ts)) ∧ Below w.heap.size w w' := by
  have bw := below_alloc w (.cells #[.slice na ts.length nc] 50)
  have HV : Hid (RS 8 CX 0 w (.slice na ts.length nc) ts) := hv
  have h39 := exprStands_any ts na nc _ hB (hv.below liesX bw)
  have hz : w.heap.size < (w.alloc (.cells #[.slice na ts.length nc] 50)).heap.size := by simp
  have e0 : (w.alloc (.cells #[.slice na ts.length nc] 50)).cell? ⟨w.heap.size, 0, none⟩ = some (.slice na ts.length nc) := by simp
  cases hs : stE ts
  · have HE : Hid (textE ts = false) := (by unfold textE; rw [hs]; rfl : textE ts = false)
    rw [hs] at h39
    clear hv
    go_enter Try.func23, Try.ntmps23
    go_wp2_with (go_at_call 39; fail)
    refine h39.mono ?_
    rintro e w1 ⟨rfl, hb1⟩
    have bw1 : Below w.heap.size w w1 := bw.trans (hb1.mono bw.size)
    clear hb1 h39
    go_wp2
    go_ret
    exact ⟨ret_b HE.out.symm, bw1⟩
  · have hk := stE_kids hs
    have H24 := fun W (h : Below w.heap.size w W) => allText_any ts na nc W hB (fun t ht => (hk t ht).2) (fun t ht => ⟨(hk t ht).1, hR t ht⟩) (HV.out.below liesX h)
    have HE : Hid (textE ts = ts.all fun t => toldF t.op t.a t.kids.length) := (by unfold textE; rw [hs]; rfl : textE ts = ts.all fun t => toldF t.op t.a t.kids.length)
    rw [hs] at h39
    clear hv hk hR
    generalize (ts.all fun t => toldF t.op t.a t.kids.length) = al at *
    go_enter Try.func23, Try.ntmps23
    go_wp2_with (go_at_call 39; fail)
    refine h39.mono ?_
    rintro e w1 ⟨rfl, hb1⟩
    have bw1 : Below w.heap.size w w1 := bw.trans (hb1.mono bw.size)
    have e1 := (hb1.cell (p := ⟨w.heap.size, 0, none⟩) hz).trans e0
    have h24 := H24 w1 bw1
    clear hb1 h39 e0 hz H24
    go_wp2_with (go_at_call 24; fail)
    refine h24.mono ?_
    rintro e w2 ⟨rfl, hb2⟩
    have bw2 : Below w.heap.size w w2 := bw1.trans (hb2.mono bw1.size)
    clear hb2 h24
    go_wp2
    go_ret
    exact ⟨ret_b HE.out.symm, bw2⟩
set_option maxHeartbeats 8000000 in
theorem mayFail_any (ts : List XN) (na : Option Addr) (nc : Nat) (w : World) (hB : BE 1048576 ts) (hR : RgE ts) (hv : RS 8 CX 0 w (.slice na ts.length nc) ts) :
    Calls Try.prog 15 #[.agg #[.slice na ts.length nc]] w fun e w' => e = .returned (.bool (mfE ts)) ∧ Below w.heap.size w w' := by
  have bw := below_alloc w (.cells #[.slice na ts.length nc] 50)
  have HV : Hid (RS 8 CX 0 w (.slice na ts.length nc) ts) := hv
  have h23 := hasText_any ts na nc _ hB hR (hv.below liesX bw)
  have hz : w.heap.size < (w.alloc (.cells #[.slice na ts.length nc] 50)).heap.size := by simp
  have e0 : (w.alloc (.cells #[.slice na ts.length nc] 50)).cell? ⟨w.heap.size, 0, none⟩ = some (.slice na ts.length nc) := by simp
  cases ht : textE ts
  · have HE : Hid (mfE ts = true) := (by unfold mfE; rw [ht]; rfl : mfE ts = true)
    rw [ht] at h23
    clear hv
    go_enter Try.func15, Try.ntmps15
    go_wp2_with (go_at_call 23; fail)
    refine h23.mono ?_
    rintro e w1 ⟨rfl, hb1⟩
    have bw1 : Below w.heap.size w w1 := bw.trans (hb1.mono bw.size)
    clear hb1 h23
    go_wp2
    go_ret
    exact ⟨ret_b HE.out.symm, bw1⟩
  · have hs : stE ts = true := by unfold textE at ht; rw [Bool.and_eq_true] at ht; exact ht.1
    have hk := stE_kids hs
    have H24 := fun W (h : Below w.heap.size w W) => allSafe_any ts na nc W hB (fun t ht => (hk t ht).2) (textE_9 ht) (HV.out.below liesX h)
    have HE : Hid (mfE ts = !safeE ts) := (by unfold mfE; rw [ht]; rfl : mfE ts = !safeE ts)
    have HS : Hid (safeE ts = ts.all fun t => t.op != 13 && !failF t.op t.a (hd0 (kindsOf ts t))) := rfl
    rw [ht] at h23
    rw [HS.out] at HE
    clear hv hk hR HS
    generalize (ts.all fun t => t.op != 13 && !failF t.op t.a (hd0 (kindsOf ts t))) = al at *
    go_enter Try.func15, Try.ntmps15
    go_wp2_with (go_at_call 23; fail)
    refine h23.mono ?_
    rintro e w1 ⟨rfl, hb1⟩
    have bw1 : Below w.heap.size w w1 := bw.trans (hb1.mono bw.size)
    have e1 := (hb1.cell (p := ⟨w.heap.size, 0, none⟩) hz).trans e0
    have h24 := H24 w1 bw1
    clear hb1 h23 e0 hz H24
    go_wp2_with (go_at_call 24; fail)
    refine h24.mono ?_
    rintro e w2 ⟨rfl, hb2⟩
    have bw2 : Below w.heap.size w w2 := bw1.trans (hb2.mono bw1.size)
    clear hb2 h24
    go_wp2
    go_ret
    exact ⟨ret_b HE.out.symm, bw2⟩
end Go.Proofs.Ytoieiegjhjedoaa
