import Derived.Test.YtghdjagomdgnfaaDoorHAC
namespace Go.Proofs.YtghdjagomdgnfaaDoor
open Go.ChangeShapes Go.WideShapes Go.ChangeAt Go.RowKit
set_option linter.unusedVariables false
set_option linter.unusedSimpArgs false
set_option maxRecDepth 100000
set_option maxHeartbeats 8000000 in
theorem q23_18 (t : Nd) (ops : List Int) (g o cap : Nat) (w : World) (hop : t.op = 18) (hn : ops.length ≤ 1048576) (hcap : cap ≤ 1048576) (hv : RC w g o cap ops) (hs1 : t.name.size ≤ 1048576) (hs2 : t.qual.size ≤ 1048576) (ka : Option Addr) (kl kc : Nat) :
    Calls Tryd.prog 23 #[ndV t (.slice ka kl kc), .slice (some ⟨g, o, none⟩) ops.length cap] w fun e w' => e = .returned (.bool (((ops.length : Int) == 0) && mayN t.qual && only t false true false false false)) ∧ Below w.heap.size w w' := by
  have hA := fun W (h : Below w.heap.size w W) => allExpr_any ops _ W hn (hv.below h).ri
  have hVO := fun W (h : Below w.heap.size w W) => valuesOK_any ops _ W hn (hv.below h).ri
  have hAL := fun (x : Int) W (h : Below w.heap.size w W) => all_any ops g o cap x W hn hcap (hv.below h)
  have hB := fun W => only_any t (.slice ka kl kc) false false false false false W
  have hD := fun W => only_any t (.slice ka kl kc) true false false false false W
  have hO := fun W => only_any t (.slice ka kl kc) false true false false false W
  have hF := fun W => flag_any t.n W
  have hG := fun W => flag_any t.m W
  have hN := fun W => isName_any t.name W hs1
  have hQ := fun W => isName_any t.qual W hs2
  have hM := fun W => maybe_any t.name W hs1
  have hMQ := fun W => maybe_any t.qual W hs2
  clear hv
  generalize ops.all isE = al at *
  generalize only t false false false false false = bare at *
  generalize only t true false false false false = bnm at *
  generalize only t false true false false false = on at *
  generalize flg t.n = fn at *
  generalize flg t.m = fm at *
  generalize isNm t.name = nm at *
  generalize isNm t.qual = nq at *
  generalize mayN t.name = mnm at *
  generalize mayN t.qual = mq at *
  obtain ⟨op, name, qual, n, m, vk, vn, vs, kids, pos⟩ := t
  simp only [ndV] at *
  subst hop
  have bw0 := below_alloc w (.cells #[.int .i64 18, .string name, .string qual, .int .i64 n, .int .i64 m, .int .i64 vk, .int .i64 vn, .string vs, .slice ka kl kc, .int .i64 pos] 46)
  go_enter Tryd.func23, Tryd.ntmps23
  go_wp2_with (go_at_call 44; fail)
  refine (hB _).mono ?_
  rintro e w2 ⟨rfl, hb2⟩
  obtain ⟨hc2, hf2⟩ := bcell hb2
  have hz2 : w.heap.size < w2.heap.size := (by have := hb2.size; simp at this; omega)
  have bw2 : Below w.heap.size w w2 := bw0.trans (hb2.mono (by simp))
  clear hb2
  go_wp2_with (first | (go_at_call 43; refine (hA _ (by assumption)).mono ?_; rintro e w1 ⟨rfl, rfl⟩) | (go_at_call 52; refine (hVO _ (by assumption)).mono ?_; rintro e w1 ⟨rfl, rfl⟩) | (go_at_call 51; refine (hAL _ _ (by assumption)).mono ?_; rintro e w1 ⟨rfl, rfl⟩) | (go_at_call 16; refine (hN _).mono ?_; rintro e w3 ⟨rfl, rfl⟩) | (go_at_call 16; refine (hQ _).mono ?_; rintro e w3 ⟨rfl, rfl⟩) | (go_at_call 46; refine (hM _).mono ?_; rintro e w3 ⟨rfl, rfl⟩) | (go_at_call 46; refine (hMQ _).mono ?_; rintro e w3 ⟨rfl, rfl⟩) | (go_at_call 47; refine (hF _).mono ?_; rintro e w4 ⟨rfl, rfl⟩) | (go_at_call 47; refine (hG _).mono ?_; rintro e w4 ⟨rfl, rfl⟩) | (go_at_call 44; refine (hO _).mono ?_; rintro e w6 ⟨rfl, hb6⟩; obtain ⟨hc6, hf6⟩ := bcell hb6; have hz6 : w.heap.size < w6.heap.size := (by have := hb6.size; omega); have bw6 : Below w.heap.size w w6 := bw2.trans (hb6.mono (by omega)); clear hb6))
  all_goals
    go_ret
    refine ⟨ret_b ?_, by first | exact bw6 | exact bw2⟩
    first | (simp_all; done) | (simp_all; omega) | grind
end Go.Proofs.YtghdjagomdgnfaaDoor
namespace Go.Proofs.YtghdjagomdgnfaaDoor
open Go.ChangeShapes Go.WideShapes Go.ChangeAt Go.RowKit
set_option linter.unusedVariables false
set_option linter.unusedSimpArgs false
set_option maxRecDepth 100000
set_option maxHeartbeats 8000000 in
theorem q23_19 (t : Nd) (ops : List Int) (g o cap : Nat) (w : World) (hop : t.op = 19) (hn : ops.length ≤ 1048576) (hcap : cap ≤ 1048576) (hv : RC w g o cap ops) (hs1 : t.name.size ≤ 1048576) (hs2 : t.qual.size ≤ 1048576) (ka : Option Addr) (kl kc : Nat) :
    Calls Tryd.prog 23 #[ndV t (.slice ka kl kc), .slice (some ⟨g, o, none⟩) ops.length cap] w fun e w' => e = .returned (.bool (((ops.length : Int) == 1) && ops.all isE && mayN t.name && only t true false false false false)) ∧ Below w.heap.size w w' := by
  have hA := fun W (h : Below w.heap.size w W) => allExpr_any ops _ W hn (hv.below h).ri
  have hVO := fun W (h : Below w.heap.size w W) => valuesOK_any ops _ W hn (hv.below h).ri
  have hAL := fun (x : Int) W (h : Below w.heap.size w W) => all_any ops g o cap x W hn hcap (hv.below h)
  have hB := fun W => only_any t (.slice ka kl kc) false false false false false W
  have hD := fun W => only_any t (.slice ka kl kc) true false false false false W
  have hO := fun W => only_any t (.slice ka kl kc) true false false false false W
  have hF := fun W => flag_any t.n W
  have hG := fun W => flag_any t.m W
  have hN := fun W => isName_any t.name W hs1
  have hQ := fun W => isName_any t.qual W hs2
  have hM := fun W => maybe_any t.name W hs1
  have hMQ := fun W => maybe_any t.qual W hs2
  clear hv
  generalize ops.all isE = al at *
  generalize only t false false false false false = bare at *
  generalize only t true false false false false = bnm at *
  generalize only t true false false false false = on at *
  generalize flg t.n = fn at *
  generalize flg t.m = fm at *
  generalize isNm t.name = nm at *
  generalize isNm t.qual = nq at *
  generalize mayN t.name = mnm at *
  generalize mayN t.qual = mq at *
  obtain ⟨op, name, qual, n, m, vk, vn, vs, kids, pos⟩ := t
  simp only [ndV] at *
  subst hop
  have bw0 := below_alloc w (.cells #[.int .i64 19, .string name, .string qual, .int .i64 n, .int .i64 m, .int .i64 vk, .int .i64 vn, .string vs, .slice ka kl kc, .int .i64 pos] 46)
  go_enter Tryd.func23, Tryd.ntmps23
  go_wp2_with (go_at_call 44; fail)
  refine (hB _).mono ?_
  rintro e w2 ⟨rfl, hb2⟩
  obtain ⟨hc2, hf2⟩ := bcell hb2
  have hz2 : w.heap.size < w2.heap.size := (by have := hb2.size; simp at this; omega)
  have bw2 : Below w.heap.size w w2 := bw0.trans (hb2.mono (by simp))
  clear hb2
  go_wp2_with (first | (go_at_call 43; refine (hA _ (by assumption)).mono ?_; rintro e w1 ⟨rfl, rfl⟩) | (go_at_call 52; refine (hVO _ (by assumption)).mono ?_; rintro e w1 ⟨rfl, rfl⟩) | (go_at_call 51; refine (hAL _ _ (by assumption)).mono ?_; rintro e w1 ⟨rfl, rfl⟩) | (go_at_call 16; refine (hN _).mono ?_; rintro e w3 ⟨rfl, rfl⟩) | (go_at_call 16; refine (hQ _).mono ?_; rintro e w3 ⟨rfl, rfl⟩) | (go_at_call 46; refine (hM _).mono ?_; rintro e w3 ⟨rfl, rfl⟩) | (go_at_call 46; refine (hMQ _).mono ?_; rintro e w3 ⟨rfl, rfl⟩) | (go_at_call 47; refine (hF _).mono ?_; rintro e w4 ⟨rfl, rfl⟩) | (go_at_call 47; refine (hG _).mono ?_; rintro e w4 ⟨rfl, rfl⟩) | (go_at_call 44; refine (hO _).mono ?_; rintro e w6 ⟨rfl, hb6⟩; obtain ⟨hc6, hf6⟩ := bcell hb6; have hz6 : w.heap.size < w6.heap.size := (by have := hb6.size; omega); have bw6 : Below w.heap.size w w6 := bw2.trans (hb6.mono (by omega)); clear hb6))
  all_goals
    go_ret
    refine ⟨ret_b ?_, by first | exact bw6 | exact bw2⟩
    first | (simp_all; done) | (simp_all; omega) | grind
end Go.Proofs.YtghdjagomdgnfaaDoor
namespace Go.Proofs.YtghdjagomdgnfaaDoor
open Go.ChangeShapes Go.WideShapes Go.ChangeAt Go.RowKit
set_option linter.unusedVariables false
set_option linter.unusedSimpArgs false
set_option maxRecDepth 100000
def is20 (x : Int) : Bool := x == 18 || x == 19
set_option maxHeartbeats 8000000 in
theorem q23_20 (t : Nd) (ops : List Int) (g o cap : Nat) (w : World) (hop : t.op = 20) (hn : ops.length ≤ 1048576) (hcap : cap ≤ 1048576) (hv : RC w g o cap ops) (hs1 : t.name.size ≤ 1048576) (hs2 : t.qual.size ≤ 1048576) (ka : Option Addr) (kl kc : Nat) :
    Calls Tryd.prog 23 #[ndV t (.slice ka kl kc), .slice (some ⟨g, o, none⟩) ops.length cap] w fun e w' => e = .returned (.bool (ops.all is20 && decide (1 ≤ (ops.length : Int)) && only t false false false false false)) ∧ Below w.heap.size w w' := by
  have hA := fun W (h : Below w.heap.size w W) => allExpr_any ops _ W hn (hv.below h).ri
  have hVO := fun W (h : Below w.heap.size w W) => valuesOK_any ops _ W hn (hv.below h).ri
  have hAL := fun (x : Int) W (h : Below w.heap.size w W) => all_any ops g o cap x W hn hcap (hv.below h)
  have hB := fun W => only_any t (.slice ka kl kc) false false false false false W
  have hD := fun W => only_any t (.slice ka kl kc) true false false false false W
  have hO := fun W => only_any t (.slice ka kl kc) false false false false false W
  have hF := fun W => flag_any t.n W
  have hG := fun W => flag_any t.m W
  have hN := fun W => isName_any t.name W hs1
  have hQ := fun W => isName_any t.qual W hs2
  have hM := fun W => maybe_any t.name W hs1
  have hMQ := fun W => maybe_any t.qual W hs2
  have hvr := fun W (h : Below w.heap.size w W) => (hv.below h).ri
  have hvc := fun W (h : Below w.heap.size w W) => (hv.below h).c
  have hg := hv.lt
  have hle := hv.le
  clear hv
  generalize ops.all isE = al at *
  generalize only t false false false false false = bare at *
  generalize only t true false false false false = bnm at *
  generalize only t false false false false false = on at *
  generalize flg t.n = fn at *
  generalize flg t.m = fm at *
  generalize isNm t.name = nm at *
  generalize isNm t.qual = nq at *
  generalize mayN t.name = mnm at *
  generalize mayN t.qual = mq at *
  obtain ⟨op, name, qual, n, m, vk, vn, vs, kids, pos⟩ := t
  simp only [ndV] at *
  subst hop
  have bw0 := below_alloc w (.cells #[.int .i64 20, .string name, .string qual, .int .i64 n, .int .i64 m, .int .i64 vk, .int .i64 vn, .string vs, .slice ka kl kc, .int .i64 pos] 46)
  go_enter Tryd.func23, Tryd.ntmps23
  go_wp2_with (go_at_call 44; fail)
  refine (hB _).mono ?_
  rintro e w2 ⟨rfl, hb2⟩
  obtain ⟨hc2, hf2⟩ := bcell hb2
  have hz2 : w.heap.size < w2.heap.size := (by have := hb2.size; simp at this; omega)
  have bw2 : Below w.heap.size w w2 := bw0.trans (hb2.mono (by simp))
  clear hb2
  have hcc := hvc _ bw2
  clear hvc hvr hA hVO hAL hO hF hG hN hQ hM hMQ hB hD
  go_wp2
  clear hc2 hf2
  go_loopw [52] (fun i wr => ∃ k : Nat, k ≤ ops.length ∧ i = .int .i64 k ∧ Hid ((ops.take k).all is20 = true) ∧ wr = w2) (fun i _ => ops.length - (intOf i).toNat)
  case atStart => exact ⟨0, Nat.zero_le _, rfl, (by simp : (ops.take 0).all is20 = true), rfl⟩
  case round =>
    obtain ⟨k, hk, rfl, HA, rfl⟩ := hrel
    by_cases hlt : k < ops.length
    · have hlti : (k : Int) < ops.length := by omega
      have c0 := hcc k hlt
      have HY : Hid (is20 ops[k] = true → (ops.take (k + 1)).all is20 = true) := fun h => take_all hlt HA.out h
      have HN : Hid (is20 ops[k] = false → ops.all is20 = false) := fun h => not_all hlt h
      clear HA hcc
      generalize ops[k] = x at *
      cases h18 : (x == 18) <;> cases h19 : (x == 19)
      all_goals
        have t18 : (x != 18) = !(x == 18) := rfl
        have t19 : (x != 19) = !(x == 19) := rfl
        rw [h18] at t18
        rw [h19] at t19
        simp only [Bool.not_true, Bool.not_false] at t18 t19
        first
        | (have HY2 : Hid ((ops.take (k + 1)).all is20 = true) := HY.out (by simp [is20, h18, h19])
           go_wp2
           go_roundw
           case rel => exact ⟨k + 1, by omega, by go_num, HY2, by first | rfl | trivial⟩
           case measure => simp [intOf]; omega)
        | (have HN2 : Hid (ops.all is20 = false) := HN.out (by simp [is20, h18, h19])
           go_wp2
           go_ret
           exact ⟨ret_b (by rw [HN2.out]; simp), bw2⟩)
    · have hkn : k = ops.length := by omega
      subst hkn
      have hlti : ¬ (ops.length : Int) < ops.length := by omega
      rw [List.take_length] at HA
      cases hd : decide (1 ≤ (ops.length : Int)) <;> cases bare
      all_goals
        have hd2 := hd
        simp only [decide_eq_false_iff_not, decide_eq_true_eq] at hd2
        go_wp2
        go_ret
        exact ⟨ret_b (by first | rfl | exact HA.out.symm | (simp [HA.out]; done) | (simp [HA.out, hd]; done)), bw2⟩
end Go.Proofs.YtghdjagomdgnfaaDoor
namespace Go.Proofs.YtghdjagomdgnfaaDoor
open Go.ChangeShapes Go.WideShapes Go.ChangeAt Go.RowKit
set_option linter.unusedVariables false
set_option linter.unusedSimpArgs false
set_option maxRecDepth 100000
set_option maxHeartbeats 8000000 in
theorem q23_21 (t : Nd) (ops : List Int) (g o cap : Nat) (w : World) (hop : t.op = 21) (hn : ops.length ≤ 1048576) (hcap : cap ≤ 1048576) (hv : RC w g o cap ops) (hs1 : t.name.size ≤ 1048576) (hs2 : t.qual.size ≤ 1048576) (ka : Option Addr) (kl kc : Nat) :
    Calls Tryd.prog 23 #[ndV t (.slice ka kl kc), .slice (some ⟨g, o, none⟩) ops.length cap] w fun e w' => e = .returned (.bool (ops.all isSrc && decide (1 ≤ (ops.length : Int)) && only t false false false false false)) ∧ Below w.heap.size w w' := by
  have hA := fun W (h : Below w.heap.size w W) => allExpr_any ops _ W hn (hv.below h).ri
  have hVO := fun W (h : Below w.heap.size w W) => valuesOK_any ops _ W hn (hv.below h).ri
  have hAL := fun (x : Int) W (h : Below w.heap.size w W) => all_any ops g o cap x W hn hcap (hv.below h)
  have hB := fun W => only_any t (.slice ka kl kc) false false false false false W
  have hD := fun W => only_any t (.slice ka kl kc) true false false false false W
  have hO := fun W => only_any t (.slice ka kl kc) false false false false false W
  have hF := fun W => flag_any t.n W
  have hG := fun W => flag_any t.m W
  have hN := fun W => isName_any t.name W hs1
  have hQ := fun W => isName_any t.qual W hs2
  have hM := fun W => maybe_any t.name W hs1
  have hMQ := fun W => maybe_any t.qual W hs2
  have hvr := fun W (h : Below w.heap.size w W) => (hv.below h).ri
  have hvc := fun W (h : Below w.heap.size w W) => (hv.below h).c
  have hg := hv.lt
  have hle := hv.le
  clear hv
  generalize ops.all isE = al at *
  generalize only t false false false false false = bare at *
  generalize only t true false false false false = bnm at *
  generalize only t false false false false false = on at *
  generalize flg t.n = fn at *
  generalize flg t.m = fm at *
  generalize isNm t.name = nm at *
  generalize isNm t.qual = nq at *
  generalize mayN t.name = mnm at *
  generalize mayN t.qual = mq at *
  obtain ⟨op, name, qual, n, m, vk, vn, vs, kids, pos⟩ := t
  simp only [ndV] at *
  subst hop
  have bw0 := below_alloc w (.cells #[.int .i64 21, .string name, .string qual, .int .i64 n, .int .i64 m, .int .i64 vk, .int .i64 vn, .string vs, .slice ka kl kc, .int .i64 pos] 46)
  go_enter Tryd.func23, Tryd.ntmps23
  go_wp2_with (go_at_call 44; fail)
  refine (hB _).mono ?_
  rintro e w2 ⟨rfl, hb2⟩
  obtain ⟨hc2, hf2⟩ := bcell hb2
  have hz2 : w.heap.size < w2.heap.size := (by have := hb2.size; simp at this; omega)
  have bw2 : Below w.heap.size w w2 := bw0.trans (hb2.mono (by simp))
  clear hb2
  have hcc := hvc _ bw2
  clear hvc hvr hA hVO hAL hO hF hG hN hQ hM hMQ hB hD
  go_wp2
  clear hc2 hf2
  go_loopw [72] (fun i wr => ∃ k : Nat, k ≤ ops.length ∧ i = .int .i64 k ∧ Hid ((ops.take k).all isSrc = true) ∧ wr = w2) (fun i _ => ops.length - (intOf i).toNat)
  case atStart => exact ⟨0, Nat.zero_le _, rfl, (by simp : (ops.take 0).all isSrc = true), rfl⟩
  case round =>
    obtain ⟨k, hk, rfl, HA, rfl⟩ := hrel
    by_cases hlt : k < ops.length
    · have hlti : (k : Int) < ops.length := by omega
      have c0 := hcc k hlt
      have HY : Hid (isSrc ops[k] = true → (ops.take (k + 1)).all isSrc = true) := fun h => take_all hlt HA.out h
      have HN : Hid (isSrc ops[k] = false → ops.all isSrc = false) := fun h => not_all hlt h
      clear HA hcc
      generalize ops[k] = x at *
      have hcn := fun W => isSource_any x W
      cases hx : isSrc x
      · have HN2 : Hid (ops.all isSrc = false) := HN.out hx
        rw [hx] at hcn
        go_wp2_with (go_at_call 48; fail)
        refine (hcn _).mono ?_
        rintro e w9 ⟨rfl, rfl⟩
        go_wp2
        go_ret
        exact ⟨ret_b (by rw [HN2.out]; simp), bw2⟩
      · have HY2 : Hid ((ops.take (k + 1)).all isSrc = true) := HY.out hx
        rw [hx] at hcn
        go_wp2_with (go_at_call 48; fail)
        refine (hcn _).mono ?_
        rintro e w9 ⟨rfl, rfl⟩
        go_wp2
        go_roundw
        case rel => exact ⟨k + 1, by omega, by go_num, HY2, by first | rfl | trivial⟩
        case measure => simp [intOf]; omega
    · have hkn : k = ops.length := by omega
      subst hkn
      have hlti : ¬ (ops.length : Int) < ops.length := by omega
      rw [List.take_length] at HA
      cases hd : decide (1 ≤ (ops.length : Int)) <;> cases bare
      all_goals
        have hd2 := hd
        simp only [decide_eq_false_iff_not, decide_eq_true_eq] at hd2
        go_wp2
        go_ret
        exact ⟨ret_b (by first | rfl | exact HA.out.symm | (simp [HA.out]; done) | (simp [HA.out, hd]; done)), bw2⟩
end Go.Proofs.YtghdjagomdgnfaaDoor
namespace Go.Proofs.YtghdjagomdgnfaaDoor
open Go.ChangeShapes Go.WideShapes Go.ChangeAt Go.RowKit
set_option linter.unusedVariables false
set_option linter.unusedSimpArgs false
set_option maxRecDepth 100000
set_option maxHeartbeats 8000000 in
theorem q23_22 (t : Nd) (ops : List Int) (g o cap : Nat) (w : World) (hop : t.op = 22) (hn : ops.length ≤ 1048576) (hcap : cap ≤ 1048576) (hv : RC w g o cap ops) (hs1 : t.name.size ≤ 1048576) (hs2 : t.qual.size ≤ 1048576) (ka : Option Addr) (kl kc : Nat) :
    Calls Tryd.prog 23 #[ndV t (.slice ka kl kc), .slice (some ⟨g, o, none⟩) ops.length cap] w fun e w' => e = .returned (.bool (((ops.length : Int) == 1) && ops.all isE && only t false false false false false)) ∧ Below w.heap.size w w' := by
  have hA := fun W (h : Below w.heap.size w W) => allExpr_any ops _ W hn (hv.below h).ri
  have hVO := fun W (h : Below w.heap.size w W) => valuesOK_any ops _ W hn (hv.below h).ri
  have hAL := fun (x : Int) W (h : Below w.heap.size w W) => all_any ops g o cap x W hn hcap (hv.below h)
  have hB := fun W => only_any t (.slice ka kl kc) false false false false false W
  have hD := fun W => only_any t (.slice ka kl kc) true false false false false W
  have hO := fun W => only_any t (.slice ka kl kc) false false false false false W
  have hF := fun W => flag_any t.n W
  have hG := fun W => flag_any t.m W
  have hN := fun W => isName_any t.name W hs1
  have hQ := fun W => isName_any t.qual W hs2
  have hM := fun W => maybe_any t.name W hs1
  have hMQ := fun W => maybe_any t.qual W hs2
  clear hv
  generalize ops.all isE = al at *
  generalize only t false false false false false = bare at *
  generalize only t true false false false false = bnm at *
  generalize only t false false false false false = on at *
  generalize flg t.n = fn at *
  generalize flg t.m = fm at *
  generalize isNm t.name = nm at *
  generalize isNm t.qual = nq at *
  generalize mayN t.name = mnm at *
  generalize mayN t.qual = mq at *
  obtain ⟨op, name, qual, n, m, vk, vn, vs, kids, pos⟩ := t
  simp only [ndV] at *
  subst hop
  have bw0 := below_alloc w (.cells #[.int .i64 22, .string name, .string qual, .int .i64 n, .int .i64 m, .int .i64 vk, .int .i64 vn, .string vs, .slice ka kl kc, .int .i64 pos] 46)
  go_enter Tryd.func23, Tryd.ntmps23
  go_wp2_with (go_at_call 44; fail)
  refine (hB _).mono ?_
  rintro e w2 ⟨rfl, hb2⟩
  obtain ⟨hc2, hf2⟩ := bcell hb2
  have hz2 : w.heap.size < w2.heap.size := (by have := hb2.size; simp at this; omega)
  have bw2 : Below w.heap.size w w2 := bw0.trans (hb2.mono (by simp))
  clear hb2
  go_wp2_with (first | (go_at_call 43; refine (hA _ (by assumption)).mono ?_; rintro e w1 ⟨rfl, rfl⟩) | (go_at_call 52; refine (hVO _ (by assumption)).mono ?_; rintro e w1 ⟨rfl, rfl⟩) | (go_at_call 51; refine (hAL _ _ (by assumption)).mono ?_; rintro e w1 ⟨rfl, rfl⟩) | (go_at_call 16; refine (hN _).mono ?_; rintro e w3 ⟨rfl, rfl⟩) | (go_at_call 16; refine (hQ _).mono ?_; rintro e w3 ⟨rfl, rfl⟩) | (go_at_call 46; refine (hM _).mono ?_; rintro e w3 ⟨rfl, rfl⟩) | (go_at_call 46; refine (hMQ _).mono ?_; rintro e w3 ⟨rfl, rfl⟩) | (go_at_call 47; refine (hF _).mono ?_; rintro e w4 ⟨rfl, rfl⟩) | (go_at_call 47; refine (hG _).mono ?_; rintro e w4 ⟨rfl, rfl⟩) | (go_at_call 44; refine (hO _).mono ?_; rintro e w6 ⟨rfl, hb6⟩; obtain ⟨hc6, hf6⟩ := bcell hb6; have hz6 : w.heap.size < w6.heap.size := (by have := hb6.size; omega); have bw6 : Below w.heap.size w w6 := bw2.trans (hb6.mono (by omega)); clear hb6))
  all_goals
    go_ret
    refine ⟨ret_b ?_, by first | exact bw6 | exact bw2⟩
    first | (simp_all; done) | (simp_all; omega) | grind
end Go.Proofs.YtghdjagomdgnfaaDoor
