import Derived.Test.YtghdjagomdgnfaaDoorHAC
namespace Go.Proofs.YtghdjagomdgnfaaDoor
open Go.ChangeShapes Go.WideShapes Go.ChangeAt Go.RowKit
set_option linter.unusedVariables false
set_option linter.unusedSimpArgs false
set_option maxRecDepth 100000
set_option maxHeartbeats 8000000 in
theorem q24_43 (t : Nd) (ops : List Int) (g o cap : Nat) (w : World) (hop : t.op = 43) (hn : ops.length ≤ 1048576) (hcap : cap ≤ 1048576) (hv : RC w g o cap ops) (hs1 : t.name.size ≤ 1048576) (hs2 : t.qual.size ≤ 1048576) (ka : Option Addr) (kl kc : Nat) :
    Calls Tryd.prog 24 #[ndV t (.slice ka kl kc), .slice (some ⟨g, o, none⟩) ops.length cap] w fun e w' => e = .returned (.bool ((ops.all (· == 44) && decide ((0 : Int) < ops.length)) && only t false false false false false)) ∧ Below w.heap.size w w' := by
  have hA := fun W (h : Below w.heap.size w W) => allExpr_any ops _ W hn (hv.below h).ri
  have hVO := fun W (h : Below w.heap.size w W) => valuesOK_any ops _ W hn (hv.below h).ri
  have hAL := fun (x : Int) W (h : Below w.heap.size w W) => all_any ops g o cap x W hn hcap (hv.below h)
  have hB := fun W => only_any t (.slice ka kl kc) false false false false false W
  have hD := fun W => only_any t (.slice ka kl kc) true false false false false W
  have hO := fun W => only_any t (.slice ka kl kc) false false false false false W
  have hF := fun W => flag_any t.n W
  have hG := fun W => flag_any t.m W
  have hN := fun W => isName_any t.name W hs1
  have hQ := fun W => isName_any t.qual W hs2
  have hM := fun W => maybe_any t.name W hs1
  have hMQ := fun W => maybe_any t.qual W hs2
  clear hv
  generalize ops.all isE = al at *
  generalize only t false false false false false = bare at *
  generalize only t true false false false false = bnm at *
  generalize only t false false false false false = on at *
  generalize flg t.n = fn at *
  generalize flg t.m = fm at *
  generalize isNm t.name = nm at *
  generalize isNm t.qual = nq at *
  generalize mayN t.name = mnm at *
  generalize mayN t.qual = mq at *
  obtain ⟨op, name, qual, n, m, vk, vn, vs, kids, pos⟩ := t
  simp only [ndV] at *
  subst hop
  have bw0 := below_alloc w (.cells #[.int .i64 43, .string name, .string qual, .int .i64 n, .int .i64 m, .int .i64 vk, .int .i64 vn, .string vs, .slice ka kl kc, .int .i64 pos] 46)
  go_enter Tryd.func24, Tryd.ntmps24
  go_wp2_with (go_at_call 44; fail)
  refine (hB _).mono ?_
  rintro e w2 ⟨rfl, hb2⟩
  obtain ⟨hc2, hf2⟩ := bcell hb2
  have hz2 : w.heap.size < w2.heap.size := (by have := hb2.size; simp at this; omega)
  have bw2 : Below w.heap.size w w2 := bw0.trans (hb2.mono (by simp))
  clear hb2
  go_wp2_with (go_at_call 16; fail)
  refine (hN _).mono ?_
  rintro e w3 ⟨rfl, rfl⟩
  cases nm
  · go_wp2_with (first | (go_at_call 43; refine (hA _ (by assumption)).mono ?_; rintro e w1 ⟨rfl, rfl⟩) | (go_at_call 52; refine (hVO _ (by assumption)).mono ?_; rintro e w1 ⟨rfl, rfl⟩) | (go_at_call 51; refine (hAL _ _ (by assumption)).mono ?_; rintro e w1 ⟨rfl, rfl⟩) | (go_at_call 16; refine (hN _).mono ?_; rintro e w3 ⟨rfl, rfl⟩) | (go_at_call 16; refine (hQ _).mono ?_; rintro e w3 ⟨rfl, rfl⟩) | (go_at_call 46; refine (hM _).mono ?_; rintro e w3 ⟨rfl, rfl⟩) | (go_at_call 46; refine (hMQ _).mono ?_; rintro e w3 ⟨rfl, rfl⟩) | (go_at_call 47; refine (hF _).mono ?_; rintro e w4 ⟨rfl, rfl⟩) | (go_at_call 47; refine (hG _).mono ?_; rintro e w4 ⟨rfl, rfl⟩) | (go_at_call 44; refine (hO _).mono ?_; rintro e w6 ⟨rfl, hb6⟩; obtain ⟨hc6, hf6⟩ := bcell hb6; have hz6 : w.heap.size < w6.heap.size := (by have := hb6.size; omega); have bw6 : Below w.heap.size w w6 := bw2.trans (hb6.mono (by omega)); clear hb6))
    all_goals
      go_ret
      refine ⟨ret_b ?_, by first | exact bw6 | exact bw2⟩
      first | (simp_all; done) | (simp_all; omega) | grind
  · go_wp2_with (go_at_call 44; fail)
    refine (hD _).mono ?_
    rintro e w7 ⟨rfl, hb7⟩
    obtain ⟨hc7, hf7⟩ := bcell hb7
    have hz7 : w.heap.size < w7.heap.size := (by have := hb7.size; omega)
    have bw7 : Below w.heap.size w w7 := bw2.trans (hb7.mono (by omega))
    clear hb7
    go_wp2_with (first | (go_at_call 43; refine (hA _ (by assumption)).mono ?_; rintro e w1 ⟨rfl, rfl⟩) | (go_at_call 52; refine (hVO _ (by assumption)).mono ?_; rintro e w1 ⟨rfl, rfl⟩) | (go_at_call 51; refine (hAL _ _ (by assumption)).mono ?_; rintro e w1 ⟨rfl, rfl⟩) | (go_at_call 16; refine (hN _).mono ?_; rintro e w3 ⟨rfl, rfl⟩) | (go_at_call 16; refine (hQ _).mono ?_; rintro e w3 ⟨rfl, rfl⟩) | (go_at_call 46; refine (hM _).mono ?_; rintro e w3 ⟨rfl, rfl⟩) | (go_at_call 46; refine (hMQ _).mono ?_; rintro e w3 ⟨rfl, rfl⟩) | (go_at_call 47; refine (hF _).mono ?_; rintro e w4 ⟨rfl, rfl⟩) | (go_at_call 47; refine (hG _).mono ?_; rintro e w4 ⟨rfl, rfl⟩) | (go_at_call 44; refine (hO _).mono ?_; rintro e w6 ⟨rfl, hb6⟩; obtain ⟨hc6, hf6⟩ := bcell hb6; have hz6 : w.heap.size < w6.heap.size := (by have := hb6.size; omega); have bw6 : Below w.heap.size w w6 := bw7.trans (hb6.mono (by omega)); clear hb6))
    all_goals
      go_ret
      refine ⟨ret_b ?_, by first | exact bw6 | exact bw7⟩
      first | (simp_all; done) | (simp_all; omega) | grind
end Go.Proofs.YtghdjagomdgnfaaDoor
namespace Go.Proofs.YtghdjagomdgnfaaDoor
open Go.ChangeShapes Go.WideShapes Go.ChangeAt Go.RowKit
set_option linter.unusedVariables false
set_option linter.unusedSimpArgs false
set_option maxRecDepth 100000
set_option maxHeartbeats 8000000 in
theorem q24_44 (t : Nd) (ops : List Int) (g o cap : Nat) (w : World) (hop : t.op = 44) (hn : ops.length ≤ 1048576) (hcap : cap ≤ 1048576) (hv : RC w g o cap ops) (hs1 : t.name.size ≤ 1048576) (hs2 : t.qual.size ≤ 1048576) (ka : Option Addr) (kl kc : Nat) :
    Calls Tryd.prog 24 #[ndV t (.slice ka kl kc), .slice (some ⟨g, o, none⟩) ops.length cap] w fun e w' => e = .returned (.bool ((ops.all isV && decide (1 ≤ (ops.length : Int))) && only t false false false false false)) ∧ Below w.heap.size w w' := by
  have hA := fun W (h : Below w.heap.size w W) => allExpr_any ops _ W hn (hv.below h).ri
  have hVO := fun W (h : Below w.heap.size w W) => valuesOK_any ops _ W hn (hv.below h).ri
  have hAL := fun (x : Int) W (h : Below w.heap.size w W) => all_any ops g o cap x W hn hcap (hv.below h)
  have hB := fun W => only_any t (.slice ka kl kc) false false false false false W
  have hD := fun W => only_any t (.slice ka kl kc) true false false false false W
  have hO := fun W => only_any t (.slice ka kl kc) false false false false false W
  have hF := fun W => flag_any t.n W
  have hG := fun W => flag_any t.m W
  have hN := fun W => isName_any t.name W hs1
  have hQ := fun W => isName_any t.qual W hs2
  have hM := fun W => maybe_any t.name W hs1
  have hMQ := fun W => maybe_any t.qual W hs2
  clear hv
  generalize ops.all isE = al at *
  generalize only t false false false false false = bare at *
  generalize only t true false false false false = bnm at *
  generalize only t false false false false false = on at *
  generalize flg t.n = fn at *
  generalize flg t.m = fm at *
  generalize isNm t.name = nm at *
  generalize isNm t.qual = nq at *
  generalize mayN t.name = mnm at *
  generalize mayN t.qual = mq at *
  obtain ⟨op, name, qual, n, m, vk, vn, vs, kids, pos⟩ := t
  simp only [ndV] at *
  subst hop
  have bw0 := below_alloc w (.cells #[.int .i64 44, .string name, .string qual, .int .i64 n, .int .i64 m, .int .i64 vk, .int .i64 vn, .string vs, .slice ka kl kc, .int .i64 pos] 46)
  go_enter Tryd.func24, Tryd.ntmps24
  go_wp2_with (go_at_call 44; fail)
  refine (hB _).mono ?_
  rintro e w2 ⟨rfl, hb2⟩
  obtain ⟨hc2, hf2⟩ := bcell hb2
  have hz2 : w.heap.size < w2.heap.size := (by have := hb2.size; simp at this; omega)
  have bw2 : Below w.heap.size w w2 := bw0.trans (hb2.mono (by simp))
  clear hb2
  go_wp2_with (go_at_call 16; fail)
  refine (hN _).mono ?_
  rintro e w3 ⟨rfl, rfl⟩
  cases nm
  · go_wp2_with (first | (go_at_call 43; refine (hA _ (by assumption)).mono ?_; rintro e w1 ⟨rfl, rfl⟩) | (go_at_call 52; refine (hVO _ (by assumption)).mono ?_; rintro e w1 ⟨rfl, rfl⟩) | (go_at_call 51; refine (hAL _ _ (by assumption)).mono ?_; rintro e w1 ⟨rfl, rfl⟩) | (go_at_call 16; refine (hN _).mono ?_; rintro e w3 ⟨rfl, rfl⟩) | (go_at_call 16; refine (hQ _).mono ?_; rintro e w3 ⟨rfl, rfl⟩) | (go_at_call 46; refine (hM _).mono ?_; rintro e w3 ⟨rfl, rfl⟩) | (go_at_call 46; refine (hMQ _).mono ?_; rintro e w3 ⟨rfl, rfl⟩) | (go_at_call 47; refine (hF _).mono ?_; rintro e w4 ⟨rfl, rfl⟩) | (go_at_call 47; refine (hG _).mono ?_; rintro e w4 ⟨rfl, rfl⟩) | (go_at_call 44; refine (hO _).mono ?_; rintro e w6 ⟨rfl, hb6⟩; obtain ⟨hc6, hf6⟩ := bcell hb6; have hz6 : w.heap.size < w6.heap.size := (by have := hb6.size; omega); have bw6 : Below w.heap.size w w6 := bw2.trans (hb6.mono (by omega)); clear hb6))
    all_goals
      go_ret
      refine ⟨ret_b ?_, by first | exact bw6 | exact bw2⟩
      first | (simp_all; done) | (simp_all; omega) | grind
  · go_wp2_with (go_at_call 44; fail)
    refine (hD _).mono ?_
    rintro e w7 ⟨rfl, hb7⟩
    obtain ⟨hc7, hf7⟩ := bcell hb7
    have hz7 : w.heap.size < w7.heap.size := (by have := hb7.size; omega)
    have bw7 : Below w.heap.size w w7 := bw2.trans (hb7.mono (by omega))
    clear hb7
    go_wp2_with (first | (go_at_call 43; refine (hA _ (by assumption)).mono ?_; rintro e w1 ⟨rfl, rfl⟩) | (go_at_call 52; refine (hVO _ (by assumption)).mono ?_; rintro e w1 ⟨rfl, rfl⟩) | (go_at_call 51; refine (hAL _ _ (by assumption)).mono ?_; rintro e w1 ⟨rfl, rfl⟩) | (go_at_call 16; refine (hN _).mono ?_; rintro e w3 ⟨rfl, rfl⟩) | (go_at_call 16; refine (hQ _).mono ?_; rintro e w3 ⟨rfl, rfl⟩) | (go_at_call 46; refine (hM _).mono ?_; rintro e w3 ⟨rfl, rfl⟩) | (go_at_call 46; refine (hMQ _).mono ?_; rintro e w3 ⟨rfl, rfl⟩) | (go_at_call 47; refine (hF _).mono ?_; rintro e w4 ⟨rfl, rfl⟩) | (go_at_call 47; refine (hG _).mono ?_; rintro e w4 ⟨rfl, rfl⟩) | (go_at_call 44; refine (hO _).mono ?_; rintro e w6 ⟨rfl, hb6⟩; obtain ⟨hc6, hf6⟩ := bcell hb6; have hz6 : w.heap.size < w6.heap.size := (by have := hb6.size; omega); have bw6 : Below w.heap.size w w6 := bw7.trans (hb6.mono (by omega)); clear hb6))
    all_goals
      go_ret
      refine ⟨ret_b ?_, by first | exact bw6 | exact bw7⟩
      first | (simp_all; done) | (simp_all; omega) | grind
end Go.Proofs.YtghdjagomdgnfaaDoor
namespace Go.Proofs.YtghdjagomdgnfaaDoor
open Go.ChangeShapes Go.WideShapes Go.ChangeAt Go.RowKit
set_option linter.unusedVariables false
set_option linter.unusedSimpArgs false
set_option maxRecDepth 100000
set_option maxHeartbeats 8000000 in
theorem q24_45 (t : Nd) (ops : List Int) (g o cap : Nat) (w : World) (hop : t.op = 45) (hn : ops.length ≤ 1048576) (hcap : cap ≤ 1048576) (hv : RC w g o cap ops) (hs1 : t.name.size ≤ 1048576) (hs2 : t.qual.size ≤ 1048576) (ka : Option Addr) (kl kc : Nat) :
    Calls Tryd.prog 24 #[ndV t (.slice ka kl kc), .slice (some ⟨g, o, none⟩) ops.length cap] w fun e w' => e = .returned (.bool (((ops.length : Int) == 0) && only t false false false false false)) ∧ Below w.heap.size w w' := by
  have hA := fun W (h : Below w.heap.size w W) => allExpr_any ops _ W hn (hv.below h).ri
  have hVO := fun W (h : Below w.heap.size w W) => valuesOK_any ops _ W hn (hv.below h).ri
  have hAL := fun (x : Int) W (h : Below w.heap.size w W) => all_any ops g o cap x W hn hcap (hv.below h)
  have hB := fun W => only_any t (.slice ka kl kc) false false false false false W
  have hD := fun W => only_any t (.slice ka kl kc) true false false false false W
  have hO := fun W => only_any t (.slice ka kl kc) false false false false false W
  have hF := fun W => flag_any t.n W
  have hG := fun W => flag_any t.m W
  have hN := fun W => isName_any t.name W hs1
  have hQ := fun W => isName_any t.qual W hs2
  have hM := fun W => maybe_any t.name W hs1
  have hMQ := fun W => maybe_any t.qual W hs2
  clear hv
  generalize ops.all isE = al at *
  generalize only t false false false false false = bare at *
  generalize only t true false false false false = bnm at *
  generalize only t false false false false false = on at *
  generalize flg t.n = fn at *
  generalize flg t.m = fm at *
  generalize isNm t.name = nm at *
  generalize isNm t.qual = nq at *
  generalize mayN t.name = mnm at *
  generalize mayN t.qual = mq at *
  obtain ⟨op, name, qual, n, m, vk, vn, vs, kids, pos⟩ := t
  simp only [ndV] at *
  subst hop
  have bw0 := below_alloc w (.cells #[.int .i64 45, .string name, .string qual, .int .i64 n, .int .i64 m, .int .i64 vk, .int .i64 vn, .string vs, .slice ka kl kc, .int .i64 pos] 46)
  go_enter Tryd.func24, Tryd.ntmps24
  go_wp2_with (go_at_call 44; fail)
  refine (hB _).mono ?_
  rintro e w2 ⟨rfl, hb2⟩
  obtain ⟨hc2, hf2⟩ := bcell hb2
  have hz2 : w.heap.size < w2.heap.size := (by have := hb2.size; simp at this; omega)
  have bw2 : Below w.heap.size w w2 := bw0.trans (hb2.mono (by simp))
  clear hb2
  go_wp2_with (go_at_call 16; fail)
  refine (hN _).mono ?_
  rintro e w3 ⟨rfl, rfl⟩
  cases nm
  · go_wp2_with (first | (go_at_call 43; refine (hA _ (by assumption)).mono ?_; rintro e w1 ⟨rfl, rfl⟩) | (go_at_call 52; refine (hVO _ (by assumption)).mono ?_; rintro e w1 ⟨rfl, rfl⟩) | (go_at_call 51; refine (hAL _ _ (by assumption)).mono ?_; rintro e w1 ⟨rfl, rfl⟩) | (go_at_call 16; refine (hN _).mono ?_; rintro e w3 ⟨rfl, rfl⟩) | (go_at_call 16; refine (hQ _).mono ?_; rintro e w3 ⟨rfl, rfl⟩) | (go_at_call 46; refine (hM _).mono ?_; rintro e w3 ⟨rfl, rfl⟩) | (go_at_call 46; refine (hMQ _).mono ?_; rintro e w3 ⟨rfl, rfl⟩) | (go_at_call 47; refine (hF _).mono ?_; rintro e w4 ⟨rfl, rfl⟩) | (go_at_call 47; refine (hG _).mono ?_; rintro e w4 ⟨rfl, rfl⟩) | (go_at_call 44; refine (hO _).mono ?_; rintro e w6 ⟨rfl, hb6⟩; obtain ⟨hc6, hf6⟩ := bcell hb6; have hz6 : w.heap.size < w6.heap.size := (by have := hb6.size; omega); have bw6 : Below w.heap.size w w6 := bw2.trans (hb6.mono (by omega)); clear hb6))
    all_goals
      go_ret
      refine ⟨ret_b ?_, by first | exact bw6 | exact bw2⟩
      first | (simp_all; done) | (simp_all; omega) | grind
  · go_wp2_with (go_at_call 44; fail)
    refine (hD _).mono ?_
    rintro e w7 ⟨rfl, hb7⟩
    obtain ⟨hc7, hf7⟩ := bcell hb7
    have hz7 : w.heap.size < w7.heap.size := (by have := hb7.size; omega)
    have bw7 : Below w.heap.size w w7 := bw2.trans (hb7.mono (by omega))
    clear hb7
    go_wp2_with (first | (go_at_call 43; refine (hA _ (by assumption)).mono ?_; rintro e w1 ⟨rfl, rfl⟩) | (go_at_call 52; refine (hVO _ (by assumption)).mono ?_; rintro e w1 ⟨rfl, rfl⟩) | (go_at_call 51; refine (hAL _ _ (by assumption)).mono ?_; rintro e w1 ⟨rfl, rfl⟩) | (go_at_call 16; refine (hN _).mono ?_; rintro e w3 ⟨rfl, rfl⟩) | (go_at_call 16; refine (hQ _).mono ?_; rintro e w3 ⟨rfl, rfl⟩) | (go_at_call 46; refine (hM _).mono ?_; rintro e w3 ⟨rfl, rfl⟩) | (go_at_call 46; refine (hMQ _).mono ?_; rintro e w3 ⟨rfl, rfl⟩) | (go_at_call 47; refine (hF _).mono ?_; rintro e w4 ⟨rfl, rfl⟩) | (go_at_call 47; refine (hG _).mono ?_; rintro e w4 ⟨rfl, rfl⟩) | (go_at_call 44; refine (hO _).mono ?_; rintro e w6 ⟨rfl, hb6⟩; obtain ⟨hc6, hf6⟩ := bcell hb6; have hz6 : w.heap.size < w6.heap.size := (by have := hb6.size; omega); have bw6 : Below w.heap.size w w6 := bw7.trans (hb6.mono (by omega)); clear hb6))
    all_goals
      go_ret
      refine ⟨ret_b ?_, by first | exact bw6 | exact bw7⟩
      first | (simp_all; done) | (simp_all; omega) | grind
end Go.Proofs.YtghdjagomdgnfaaDoor
namespace Go.Proofs.YtghdjagomdgnfaaDoor
open Go.ChangeShapes Go.WideShapes Go.ChangeAt Go.RowKit
set_option linter.unusedVariables false
set_option linter.unusedSimpArgs false
set_option maxRecDepth 100000
set_option maxHeartbeats 8000000 in
theorem q24_46_y (t : Nd) (ops : List Int) (g o cap : Nat) (w : World) (hop : t.op = 46) (hn : ops.length ≤ 1048576) (hcap : cap ≤ 1048576) (hv : RC w g o cap ops) (hs1 : t.name.size ≤ 1048576) (hs2 : t.qual.size ≤ 1048576) (ka : Option Addr) (kl kc : Nat) (l : List Int) (hl0 : l ≠ []) (he : ops = l ++ [22]) :
    Calls Tryd.prog 24 #[ndV t (.slice ka kl kc), .slice (some ⟨g, o, none⟩) ops.length cap] w fun e w' => e = .returned (.bool ((isNm t.name && only t true false false false false) && (l.all (· == 47) && decide ((0 : Int) < l.length)))) ∧ Below w.heap.size w w' := by
  have hA := fun W (h : Below w.heap.size w W) => allExpr_any ops _ W hn (hv.below h).ri
  have hVO := fun W (h : Below w.heap.size w W) => valuesOK_any ops _ W hn (hv.below h).ri
  have hAL := fun (x : Int) W (h : Below w.heap.size w W) => all_any ops g o cap x W hn hcap (hv.below h)
  have hB := fun W => only_any t (.slice ka kl kc) false false false false false W
  have hD := fun W => only_any t (.slice ka kl kc) true false false false false W
  have hO := fun W => only_any t (.slice ka kl kc) false false false false false W
  have hF := fun W => flag_any t.n W
  have hG := fun W => flag_any t.m W
  have hN := fun W => isName_any t.name W hs1
  have hQ := fun W => isName_any t.qual W hs2
  have hM := fun W => maybe_any t.name W hs1
  have hMQ := fun W => maybe_any t.qual W hs2
  have hRC := fun W (h : Below w.heap.size w W) => all_any l g o cap 47 W (by have := hn; rw [he] at this; simp at this; omega) hcap (⟨Nat.lt_of_lt_of_le hv.lt h.size, (by have := hv.le; rw [he] at this; simp at this; omega), fun i hi => by
    have e := (hv.below h).c i (by rw [he]; simp; omega)
    simpa [he, List.getElem_append_left hi] using e⟩)
  have hll : 1 ≤ l.length := by cases l with | nil => exact absurd rfl hl0 | cons _ _ => simp
  have hlen : ops.length = l.length + 1 := by rw [he]; simp
  have cz : w.cell? ⟨g, o + l.length, none⟩ = some (.int .i64 22) := by
    have e := hv.c l.length (by omega)
    simpa [he] using e
  have hvr := fun W (h : Below w.heap.size w W) => (hv.below h).ri
  have hvc := fun W (h : Below w.heap.size w W) => (hv.below h).c
  have hg := hv.lt
  have hle := hv.le
  clear hv
  clear hvr hvc hA hVO hAL hF hG hQ hM hMQ hO
  generalize hall : (l.all (· == 47) && decide ((0 : Int) < l.length)) = aa at *
  generalize ops.all isE = al at *
  generalize only t false false false false false = bare at *
  generalize only t true false false false false = bnm at *
  generalize only t false false false false false = on at *
  generalize flg t.n = fn at *
  generalize flg t.m = fm at *
  generalize isNm t.name = nm at *
  generalize isNm t.qual = nq at *
  generalize mayN t.name = mnm at *
  generalize mayN t.qual = mq at *
  obtain ⟨op, name, qual, n, m, vk, vn, vs, kids, pos⟩ := t
  simp only [ndV] at *
  subst hop
  have bw0 := below_alloc w (.cells #[.int .i64 46, .string name, .string qual, .int .i64 n, .int .i64 m, .int .i64 vk, .int .i64 vn, .string vs, .slice ka kl kc, .int .i64 pos] 46)
  obtain ⟨mm, hmm⟩ : ∃ mm, l.length = mm := ⟨_, rfl⟩
  rw [hmm] at hlen hll cz
  have hmc : mm < cap := by omega
  have hci : (mm : Int) ≤ cap := by omega
  have HOL : Hid (ops.length = mm + 1) := hlen
  have hk1 : (1 : Int) < (mm : Int) + 1 := by omega
  have hk2 : (mm : Int) < (mm : Int) + 1 := by omega
  have hw1 : IntKind.i64.wrap ((mm : Int) + 1 - 1) = (mm : Int) := by simp only [IntKind.wrap_i64, wrap64]; omega
  have hw2 : IntKind.i64.wrap (mm : Int) = (mm : Int) := by simp only [IntKind.wrap_i64, wrap64]; omega
  rw [hlen]
  clear hlen
  go_enter Tryd.func24, Tryd.ntmps24
  go_wp2_with (go_at_call 44; fail)
  refine (hB _).mono ?_
  rintro e w2 ⟨rfl, hb2⟩
  obtain ⟨hc2, hf2⟩ := bcell hb2
  have hz2 : w.heap.size < w2.heap.size := (by have := hb2.size; simp at this; omega)
  have bw2 : Below w.heap.size w w2 := bw0.trans (hb2.mono (by simp))
  clear hb2
  go_wp2_with (go_at_call 16; fail)
  refine (hN _).mono ?_
  rintro e w3 ⟨rfl, hw3⟩
  replace hw3 := hw3.symm
  subst hw3
  cases nm
  · have dz := (bw2.cell (p := ⟨g, o + mm, none⟩) hg).trans cz
    go_wp2
    go_ret
    exact ⟨ret_b (by simp), bw2⟩
  · go_wp2_with (go_at_call 44; fail)
    refine (hD _).mono ?_
    rintro e w7 ⟨rfl, hb7⟩
    obtain ⟨hc7, hf7⟩ := bcell hb7
    have hz7 : w.heap.size < w7.heap.size := (by have := hb7.size; omega)
    have bw7 : Below w.heap.size w w7 := bw2.trans (hb7.mono (by omega))
    clear hb7
    have dz := (bw7.cell (p := ⟨g, o + mm, none⟩) hg).trans cz
    cases bnm
    · go_wp2
      go_ret
      exact ⟨ret_b (by simp), bw7⟩
    · have hR7 := hRC _ bw7
      rw [hmm] at hR7
      clear hRC
      go_wp2_with (go_at_call 51; fail)
      refine hR7.mono ?_
      rintro e w8 ⟨rfl, hw8⟩
      replace hw8 := hw8.symm
      subst hw8
      go_wp2
      go_ret
      exact ⟨ret_b (by first | (simp; done) | (rw [hall]; simp)), bw7⟩
end Go.Proofs.YtghdjagomdgnfaaDoor
namespace Go.Proofs.YtghdjagomdgnfaaDoor
open Go.ChangeShapes Go.WideShapes Go.ChangeAt Go.RowKit
set_option linter.unusedVariables false
set_option linter.unusedSimpArgs false
set_option maxRecDepth 100000
set_option maxHeartbeats 8000000 in
theorem q24_46_1 (t : Nd) (ops : List Int) (g o cap : Nat) (w : World) (hop : t.op = 46) (hn : ops.length ≤ 1048576) (hcap : cap ≤ 1048576) (hv : RC w g o cap ops) (hs1 : t.name.size ≤ 1048576) (hs2 : t.qual.size ≤ 1048576) (ka : Option Addr) (kl kc : Nat) (h1 : (ops.length : Int) ≤ 1) :
    Calls Tryd.prog 24 #[ndV t (.slice ka kl kc), .slice (some ⟨g, o, none⟩) ops.length cap] w fun e w' => e = .returned (.bool ((isNm t.name && only t true false false false false) && (ops.all (· == 47) && decide ((0 : Int) < ops.length)))) ∧ Below w.heap.size w w' := by
  have hA := fun W (h : Below w.heap.size w W) => allExpr_any ops _ W hn (hv.below h).ri
  have hVO := fun W (h : Below w.heap.size w W) => valuesOK_any ops _ W hn (hv.below h).ri
  have hAL := fun (x : Int) W (h : Below w.heap.size w W) => all_any ops g o cap x W hn hcap (hv.below h)
  have hB := fun W => only_any t (.slice ka kl kc) false false false false false W
  have hD := fun W => only_any t (.slice ka kl kc) true false false false false W
  have hO := fun W => only_any t (.slice ka kl kc) false false false false false W
  have hF := fun W => flag_any t.n W
  have hG := fun W => flag_any t.m W
  have hN := fun W => isName_any t.name W hs1
  have hQ := fun W => isName_any t.qual W hs2
  have hM := fun W => maybe_any t.name W hs1
  have hMQ := fun W => maybe_any t.qual W hs2
  have hRC := fun W (h : Below w.heap.size w W) => all_any ops g o cap 47 W (by exact hn) hcap (hv.below h)
  have hvr := fun W (h : Below w.heap.size w W) => (hv.below h).ri
  have hvc := fun W (h : Below w.heap.size w W) => (hv.below h).c
  have hg := hv.lt
  have hle := hv.le
  clear hv
  clear hvr hvc hA hVO hAL hF hG hQ hM hMQ hO
  generalize hall : (ops.all (· == 47) && decide ((0 : Int) < ops.length)) = aa at *
  generalize ops.all isE = al at *
  generalize only t false false false false false = bare at *
  generalize only t true false false false false = bnm at *
  generalize only t false false false false false = on at *
  generalize flg t.n = fn at *
  generalize flg t.m = fm at *
  generalize isNm t.name = nm at *
  generalize isNm t.qual = nq at *
  generalize mayN t.name = mnm at *
  generalize mayN t.qual = mq at *
  obtain ⟨op, name, qual, n, m, vk, vn, vs, kids, pos⟩ := t
  simp only [ndV] at *
  subst hop
  have bw0 := below_alloc w (.cells #[.int .i64 46, .string name, .string qual, .int .i64 n, .int .i64 m, .int .i64 vk, .int .i64 vn, .string vs, .slice ka kl kc, .int .i64 pos] 46)
  have h1i : ¬ 1 < (ops.length : Int) := by omega
  go_enter Tryd.func24, Tryd.ntmps24
  go_wp2_with (go_at_call 44; fail)
  refine (hB _).mono ?_
  rintro e w2 ⟨rfl, hb2⟩
  obtain ⟨hc2, hf2⟩ := bcell hb2
  have hz2 : w.heap.size < w2.heap.size := (by have := hb2.size; simp at this; omega)
  have bw2 : Below w.heap.size w w2 := bw0.trans (hb2.mono (by simp))
  clear hb2
  go_wp2_with (go_at_call 16; fail)
  refine (hN _).mono ?_
  rintro e w3 ⟨rfl, hw3⟩
  replace hw3 := hw3.symm
  subst hw3
  cases nm
  · go_wp2
    go_ret
    exact ⟨ret_b (by simp), bw2⟩
  · go_wp2_with (go_at_call 44; fail)
    refine (hD _).mono ?_
    rintro e w7 ⟨rfl, hb7⟩
    obtain ⟨hc7, hf7⟩ := bcell hb7
    have hz7 : w.heap.size < w7.heap.size := (by have := hb7.size; omega)
    have bw7 : Below w.heap.size w w7 := bw2.trans (hb7.mono (by omega))
    clear hb7
    cases bnm
    · go_wp2
      go_ret
      exact ⟨ret_b (by simp), bw7⟩
    · have hR7 := hRC _ bw7
      skip
      clear hRC
      go_wp2_with (go_at_call 51; fail)
      refine hR7.mono ?_
      rintro e w8 ⟨rfl, hw8⟩
      replace hw8 := hw8.symm
      subst hw8
      go_wp2
      go_ret
      exact ⟨ret_b (by first | (simp; done) | (rw [hall]; simp)), bw7⟩
end Go.Proofs.YtghdjagomdgnfaaDoor
