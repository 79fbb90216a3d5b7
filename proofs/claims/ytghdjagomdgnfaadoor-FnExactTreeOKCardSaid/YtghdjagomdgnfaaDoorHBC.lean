import Derived.Test.YtghdjagomdgnfaaDoorHAC
namespace Go.Proofs.YtghdjagomdgnfaaDoor
open Go.ChangeShapes Go.WideShapes Go.ChangeAt Go.RowKit
set_option linter.unusedVariables false
set_option linter.unusedSimpArgs false
set_option maxRecDepth 100000
set_option maxHeartbeats 8000000 in
theorem q24_40_1 (t : Nd) (x0 : Int) (g o cap : Nat) (w : World) (hop : t.op = 40) (hcap : cap ≤ 1048576) (hv : RC w g o cap [x0]) (hs1 : t.name.size ≤ 1048576) (hs2 : t.qual.size ≤ 1048576) (ka : Option Addr) (kl kc : Nat) :
    Calls Tryd.prog 24 #[ndV t (.slice ka kl kc), .slice (some ⟨g, o, none⟩) 1 cap] w fun e w' => e = .returned (.bool ((isNm t.name && only t true false false false false) && (x0 == 43 || x0 == 27))) ∧ Below w.heap.size w w' := by
  have hB := fun W => only_any t (.slice ka kl kc) false false false false false W
  have hD := fun W => only_any t (.slice ka kl kc) true false false false false W
  have hO := fun W => only_any t (.slice ka kl kc) false false false false false W
  have hF := fun W => flag_any t.n W
  have hG := fun W => flag_any t.m W
  have hN := fun W => isName_any t.name W hs1
  have hQ := fun W => isName_any t.qual W hs2
  have hM := fun W => maybe_any t.name W hs1
  have hMQ := fun W => maybe_any t.qual W hs2
  obtain ⟨hg, hle, hgc⟩ := hv
  have c0 : w.cell? ⟨g, o, none⟩ = some (.int .i64 x0) := by simpa using hgc 0 (by simp)
  have hE := fun (x : Int) W => isExpr_any x W
  have hS := fun (x : Int) W => isSource_any x W
  have hT := fun (x : Int) W => isTerm_any x W
  clear hgc
  generalize only t false false false false false = bare at *
  generalize only t true false false false false = bnm at *
  generalize only t false false false false false = on at *
  generalize flg t.n = fn at *
  generalize flg t.m = fm at *
  generalize isNm t.name = nm at *
  generalize isNm t.qual = nq at *
  generalize mayN t.name = mnm at *
  generalize mayN t.qual = mq at *
  obtain ⟨op, name, qual, n, m, vk, vn, vs, kids, pos⟩ := t
  simp only [ndV] at *
  subst hop
  have bw0 := below_alloc w (.cells #[.int .i64 40, .string name, .string qual, .int .i64 n, .int .i64 m, .int .i64 vk, .int .i64 vn, .string vs, .slice ka kl kc, .int .i64 pos] 46)
  go_enter Tryd.func24, Tryd.ntmps24
  go_wp2_with (go_at_call 44; fail)
  refine (hB _).mono ?_
  rintro e w2 ⟨rfl, hb2⟩
  obtain ⟨hc2, hf2⟩ := bcell hb2
  have hz2 : w.heap.size < w2.heap.size := (by have := hb2.size; simp at this; omega)
  have bw2 : Below w.heap.size w w2 := bw0.trans (hb2.mono (by simp))
  have d0 := (bw2.cell (p := ⟨g, o, none⟩) hg).trans c0
  clear hb2
  go_wp2_with (go_at_call 16; fail)
  refine (hN _).mono ?_
  rintro e w3 ⟨rfl, rfl⟩
  cases nm
  · go_wp2_with (first | (go_at_call 21; refine (hE _ _).mono ?_; rintro e w1 ⟨rfl, rfl⟩) | (go_at_call 48; refine (hS _ _).mono ?_; rintro e w1 ⟨rfl, rfl⟩) | (go_at_call 50; refine (hT _ _).mono ?_; rintro e w1 ⟨rfl, rfl⟩) | (go_at_call 16; refine (hN _).mono ?_; rintro e w3 ⟨rfl, rfl⟩) | (go_at_call 16; refine (hQ _).mono ?_; rintro e w3 ⟨rfl, rfl⟩) | (go_at_call 46; refine (hM _).mono ?_; rintro e w3 ⟨rfl, rfl⟩) | (go_at_call 46; refine (hMQ _).mono ?_; rintro e w3 ⟨rfl, rfl⟩) | (go_at_call 47; refine (hF _).mono ?_; rintro e w4 ⟨rfl, rfl⟩) | (go_at_call 47; refine (hG _).mono ?_; rintro e w4 ⟨rfl, rfl⟩) | (go_at_call 44; refine (hO _).mono ?_; rintro e w6 ⟨rfl, hb6⟩; obtain ⟨hc6, hf6⟩ := bcell hb6; have hz6 : w.heap.size < w6.heap.size := (by have := hb6.size; omega); have bw6 : Below w.heap.size w w6 := bw2.trans (hb6.mono (by omega)); have e0 := (bw6.cell (p := ⟨g, o, none⟩) hg).trans c0; clear hb6))
    all_goals
      go_ret
      refine ⟨ret_b ?_, by first | exact bw6 | exact bw2⟩
      first | (simp_all; done) | (simp_all; omega) | grind
  · go_wp2_with (go_at_call 44; fail)
    refine (hD _).mono ?_
    rintro e w7 ⟨rfl, hb7⟩
    obtain ⟨hc7, hf7⟩ := bcell hb7
    have hz7 : w.heap.size < w7.heap.size := (by have := hb7.size; omega)
    have bw7 : Below w.heap.size w w7 := bw2.trans (hb7.mono (by omega))
    have f0 := (bw7.cell (p := ⟨g, o, none⟩) hg).trans c0
    clear hb7
    go_wp2_with (first | (go_at_call 21; refine (hE _ _).mono ?_; rintro e w1 ⟨rfl, rfl⟩) | (go_at_call 48; refine (hS _ _).mono ?_; rintro e w1 ⟨rfl, rfl⟩) | (go_at_call 50; refine (hT _ _).mono ?_; rintro e w1 ⟨rfl, rfl⟩) | (go_at_call 16; refine (hN _).mono ?_; rintro e w3 ⟨rfl, rfl⟩) | (go_at_call 16; refine (hQ _).mono ?_; rintro e w3 ⟨rfl, rfl⟩) | (go_at_call 46; refine (hM _).mono ?_; rintro e w3 ⟨rfl, rfl⟩) | (go_at_call 46; refine (hMQ _).mono ?_; rintro e w3 ⟨rfl, rfl⟩) | (go_at_call 47; refine (hF _).mono ?_; rintro e w4 ⟨rfl, rfl⟩) | (go_at_call 47; refine (hG _).mono ?_; rintro e w4 ⟨rfl, rfl⟩) | (go_at_call 44; refine (hO _).mono ?_; rintro e w6 ⟨rfl, hb6⟩; obtain ⟨hc6, hf6⟩ := bcell hb6; have hz6 : w.heap.size < w6.heap.size := (by have := hb6.size; omega); have bw6 : Below w.heap.size w w6 := bw7.trans (hb6.mono (by omega)); have e0 := (bw6.cell (p := ⟨g, o, none⟩) hg).trans c0; clear hb6))
    all_goals
      go_ret
      refine ⟨ret_b ?_, by first | exact bw6 | exact bw7⟩
      first | (simp_all; done) | (simp_all; omega) | grind
end Go.Proofs.YtghdjagomdgnfaaDoor
namespace Go.Proofs.YtghdjagomdgnfaaDoor
open Go.ChangeShapes Go.WideShapes Go.ChangeAt Go.RowKit
set_option linter.unusedVariables false
set_option linter.unusedSimpArgs false
set_option maxRecDepth 100000
set_option maxHeartbeats 8000000 in
theorem q24_40_2 (t : Nd) (x0 x1 : Int) (g o cap : Nat) (w : World) (hop : t.op = 40) (hcap : cap ≤ 1048576) (hv : RC w g o cap [x0, x1]) (hs1 : t.name.size ≤ 1048576) (hs2 : t.qual.size ≤ 1048576) (ka : Option Addr) (kl kc : Nat) (hcap2 : cap = 2) :
    Calls Tryd.prog 24 #[ndV t (.slice ka kl kc), .slice (some ⟨g, o, none⟩) 2 cap] w fun e w' => e = .returned (.bool (x0 == 41 && (isNm t.name && only t true false false false false) && (x1 == 43 || x1 == 27))) ∧ Below w.heap.size w w' := by
  have hB := fun W => only_any t (.slice ka kl kc) false false false false false W
  have hD := fun W => only_any t (.slice ka kl kc) true false false false false W
  have hO := fun W => only_any t (.slice ka kl kc) false false false false false W
  have hF := fun W => flag_any t.n W
  have hG := fun W => flag_any t.m W
  have hN := fun W => isName_any t.name W hs1
  have hQ := fun W => isName_any t.qual W hs2
  have hM := fun W => maybe_any t.name W hs1
  have hMQ := fun W => maybe_any t.qual W hs2
  obtain ⟨hg, hle, hgc⟩ := hv
  have c0 : w.cell? ⟨g, o, none⟩ = some (.int .i64 x0) := by simpa using hgc 0 (by simp)
  have c1 : w.cell? ⟨g, o + 1, none⟩ = some (.int .i64 x1) := by simpa using hgc 1 (by simp)
  have hE := fun (x : Int) W => isExpr_any x W
  have hS := fun (x : Int) W => isSource_any x W
  have hT := fun (x : Int) W => isTerm_any x W
  clear hgc
  subst hcap2
  generalize only t false false false false false = bare at *
  generalize only t true false false false false = bnm at *
  generalize only t false false false false false = on at *
  generalize flg t.n = fn at *
  generalize flg t.m = fm at *
  generalize isNm t.name = nm at *
  generalize isNm t.qual = nq at *
  generalize mayN t.name = mnm at *
  generalize mayN t.qual = mq at *
  obtain ⟨op, name, qual, n, m, vk, vn, vs, kids, pos⟩ := t
  simp only [ndV] at *
  subst hop
  have bw0 := below_alloc w (.cells #[.int .i64 40, .string name, .string qual, .int .i64 n, .int .i64 m, .int .i64 vk, .int .i64 vn, .string vs, .slice ka kl kc, .int .i64 pos] 46)
  cases h1 : (x0 == 41) <;> cases h2 : (x1 == 43) <;> cases h3 : (x1 == 27)
  all_goals
    go_enter Tryd.func24, Tryd.ntmps24
    go_wp2_with (go_at_call 44; fail)
    refine (hB _).mono ?_
    rintro e w2 ⟨rfl, hb2⟩
    obtain ⟨hc2, hf2⟩ := bcell hb2
    have hz2 : w.heap.size < w2.heap.size := (by have := hb2.size; simp at this; omega)
    have bw2 : Below w.heap.size w w2 := bw0.trans (hb2.mono (by simp))
    have d0 := (bw2.cell (p := ⟨g, o, none⟩) hg).trans c0
    have d1 := (bw2.cell (p := ⟨g, o + 1, none⟩) hg).trans c1
    clear hb2
    go_wp2_with (go_at_call 16; fail)
    refine (hN _).mono ?_
    rintro e w3 ⟨rfl, rfl⟩
    cases nm
    · go_wp2_with (first | (go_at_call 21; refine (hE _ _).mono ?_; rintro e w1 ⟨rfl, rfl⟩) | (go_at_call 48; refine (hS _ _).mono ?_; rintro e w1 ⟨rfl, rfl⟩) | (go_at_call 50; refine (hT _ _).mono ?_; rintro e w1 ⟨rfl, rfl⟩) | (go_at_call 16; refine (hN _).mono ?_; rintro e w3 ⟨rfl, rfl⟩) | (go_at_call 16; refine (hQ _).mono ?_; rintro e w3 ⟨rfl, rfl⟩) | (go_at_call 46; refine (hM _).mono ?_; rintro e w3 ⟨rfl, rfl⟩) | (go_at_call 46; refine (hMQ _).mono ?_; rintro e w3 ⟨rfl, rfl⟩) | (go_at_call 47; refine (hF _).mono ?_; rintro e w4 ⟨rfl, rfl⟩) | (go_at_call 47; refine (hG _).mono ?_; rintro e w4 ⟨rfl, rfl⟩) | (go_at_call 44; refine (hO _).mono ?_; rintro e w6 ⟨rfl, hb6⟩; obtain ⟨hc6, hf6⟩ := bcell hb6; have hz6 : w.heap.size < w6.heap.size := (by have := hb6.size; omega); have bw6 : Below w.heap.size w w6 := bw2.trans (hb6.mono (by omega)); have e0 := (bw6.cell (p := ⟨g, o, none⟩) hg).trans c0; have e1 := (bw6.cell (p := ⟨g, o + 1, none⟩) hg).trans c1; clear hb6))
      all_goals
        go_ret
        refine ⟨ret_b ?_, by first | exact bw6 | exact bw2⟩
        first | (simp_all; done) | (simp_all; omega) | grind
    · go_wp2_with (go_at_call 44; fail)
      refine (hD _).mono ?_
      rintro e w7 ⟨rfl, hb7⟩
      obtain ⟨hc7, hf7⟩ := bcell hb7
      have hz7 : w.heap.size < w7.heap.size := (by have := hb7.size; omega)
      have bw7 : Below w.heap.size w w7 := bw2.trans (hb7.mono (by omega))
      have f0 := (bw7.cell (p := ⟨g, o, none⟩) hg).trans c0
      have f1 := (bw7.cell (p := ⟨g, o + 1, none⟩) hg).trans c1
      clear hb7
      go_wp2_with (first | (go_at_call 21; refine (hE _ _).mono ?_; rintro e w1 ⟨rfl, rfl⟩) | (go_at_call 48; refine (hS _ _).mono ?_; rintro e w1 ⟨rfl, rfl⟩) | (go_at_call 50; refine (hT _ _).mono ?_; rintro e w1 ⟨rfl, rfl⟩) | (go_at_call 16; refine (hN _).mono ?_; rintro e w3 ⟨rfl, rfl⟩) | (go_at_call 16; refine (hQ _).mono ?_; rintro e w3 ⟨rfl, rfl⟩) | (go_at_call 46; refine (hM _).mono ?_; rintro e w3 ⟨rfl, rfl⟩) | (go_at_call 46; refine (hMQ _).mono ?_; rintro e w3 ⟨rfl, rfl⟩) | (go_at_call 47; refine (hF _).mono ?_; rintro e w4 ⟨rfl, rfl⟩) | (go_at_call 47; refine (hG _).mono ?_; rintro e w4 ⟨rfl, rfl⟩) | (go_at_call 44; refine (hO _).mono ?_; rintro e w6 ⟨rfl, hb6⟩; obtain ⟨hc6, hf6⟩ := bcell hb6; have hz6 : w.heap.size < w6.heap.size := (by have := hb6.size; omega); have bw6 : Below w.heap.size w w6 := bw7.trans (hb6.mono (by omega)); have e0 := (bw6.cell (p := ⟨g, o, none⟩) hg).trans c0; have e1 := (bw6.cell (p := ⟨g, o + 1, none⟩) hg).trans c1; clear hb6))
      all_goals
        go_ret
        refine ⟨ret_b ?_, by first | exact bw6 | exact bw7⟩
        first | (simp_all; done) | (simp_all; omega) | grind
end Go.Proofs.YtghdjagomdgnfaaDoor
namespace Go.Proofs.YtghdjagomdgnfaaDoor
open Go.ChangeShapes Go.WideShapes Go.ChangeAt Go.RowKit
set_option linter.unusedVariables false
set_option linter.unusedSimpArgs false
set_option maxRecDepth 100000
set_option maxHeartbeats 8000000 in
theorem q24_40_no (t : Nd) (ops : List Int) (g o cap : Nat) (w : World) (hop : t.op = 40) (hn : ops.length ≤ 1048576) (hcap : cap ≤ 1048576) (hv : RC w g o cap ops) (hs1 : t.name.size ≤ 1048576) (hs2 : t.qual.size ≤ 1048576) (ka : Option Addr) (kl kc : Nat) (hno1 : ((ops.length : Int) == 1) = false) (hno2 : ((ops.length : Int) == 2) = false) :
    Calls Tryd.prog 24 #[ndV t (.slice ka kl kc), .slice (some ⟨g, o, none⟩) ops.length cap] w fun e w' => e = .returned (.bool (false)) ∧ Below w.heap.size w w' := by
  have hA := fun W (h : Below w.heap.size w W) => allExpr_any ops _ W hn (hv.below h).ri
  have hVO := fun W (h : Below w.heap.size w W) => valuesOK_any ops _ W hn (hv.below h).ri
  have hAL := fun (x : Int) W (h : Below w.heap.size w W) => all_any ops g o cap x W hn hcap (hv.below h)
  have hB := fun W => only_any t (.slice ka kl kc) false false false false false W
  have hD := fun W => only_any t (.slice ka kl kc) true false false false false W
  have hO := fun W => only_any t (.slice ka kl kc) false false false false false W
  have hF := fun W => flag_any t.n W
  have hG := fun W => flag_any t.m W
  have hN := fun W => isName_any t.name W hs1
  have hQ := fun W => isName_any t.qual W hs2
  have hM := fun W => maybe_any t.name W hs1
  have hMQ := fun W => maybe_any t.qual W hs2
  clear hv
  generalize ops.all isE = al at *
  generalize only t false false false false false = bare at *
  generalize only t true false false false false = bnm at *
  generalize only t false false false false false = on at *
  generalize flg t.n = fn at *
  generalize flg t.m = fm at *
  generalize isNm t.name = nm at *
  generalize isNm t.qual = nq at *
  generalize mayN t.name = mnm at *
  generalize mayN t.qual = mq at *
  obtain ⟨op, name, qual, n, m, vk, vn, vs, kids, pos⟩ := t
  simp only [ndV] at *
  subst hop
  have bw0 := below_alloc w (.cells #[.int .i64 40, .string name, .string qual, .int .i64 n, .int .i64 m, .int .i64 vk, .int .i64 vn, .string vs, .slice ka kl kc, .int .i64 pos] 46)
  go_enter Tryd.func24, Tryd.ntmps24
  go_wp2_with (go_at_call 44; fail)
  refine (hB _).mono ?_
  rintro e w2 ⟨rfl, hb2⟩
  obtain ⟨hc2, hf2⟩ := bcell hb2
  have hz2 : w.heap.size < w2.heap.size := (by have := hb2.size; simp at this; omega)
  have bw2 : Below w.heap.size w w2 := bw0.trans (hb2.mono (by simp))
  clear hb2
  go_wp2_with (go_at_call 16; fail)
  refine (hN _).mono ?_
  rintro e w3 ⟨rfl, rfl⟩
  cases nm
  · go_wp2_with (first | (go_at_call 43; refine (hA _ (by assumption)).mono ?_; rintro e w1 ⟨rfl, rfl⟩) | (go_at_call 52; refine (hVO _ (by assumption)).mono ?_; rintro e w1 ⟨rfl, rfl⟩) | (go_at_call 51; refine (hAL _ _ (by assumption)).mono ?_; rintro e w1 ⟨rfl, rfl⟩) | (go_at_call 16; refine (hN _).mono ?_; rintro e w3 ⟨rfl, rfl⟩) | (go_at_call 16; refine (hQ _).mono ?_; rintro e w3 ⟨rfl, rfl⟩) | (go_at_call 46; refine (hM _).mono ?_; rintro e w3 ⟨rfl, rfl⟩) | (go_at_call 46; refine (hMQ _).mono ?_; rintro e w3 ⟨rfl, rfl⟩) | (go_at_call 47; refine (hF _).mono ?_; rintro e w4 ⟨rfl, rfl⟩) | (go_at_call 47; refine (hG _).mono ?_; rintro e w4 ⟨rfl, rfl⟩) | (go_at_call 44; refine (hO _).mono ?_; rintro e w6 ⟨rfl, hb6⟩; obtain ⟨hc6, hf6⟩ := bcell hb6; have hz6 : w.heap.size < w6.heap.size := (by have := hb6.size; omega); have bw6 : Below w.heap.size w w6 := bw2.trans (hb6.mono (by omega)); clear hb6))
    all_goals
      go_ret
      refine ⟨ret_b ?_, by first | exact bw6 | exact bw2⟩
      first | (simp_all; done) | (simp_all; omega) | grind
  · go_wp2_with (go_at_call 44; fail)
    refine (hD _).mono ?_
    rintro e w7 ⟨rfl, hb7⟩
    obtain ⟨hc7, hf7⟩ := bcell hb7
    have hz7 : w.heap.size < w7.heap.size := (by have := hb7.size; omega)
    have bw7 : Below w.heap.size w w7 := bw2.trans (hb7.mono (by omega))
    clear hb7
    go_wp2_with (first | (go_at_call 43; refine (hA _ (by assumption)).mono ?_; rintro e w1 ⟨rfl, rfl⟩) | (go_at_call 52; refine (hVO _ (by assumption)).mono ?_; rintro e w1 ⟨rfl, rfl⟩) | (go_at_call 51; refine (hAL _ _ (by assumption)).mono ?_; rintro e w1 ⟨rfl, rfl⟩) | (go_at_call 16; refine (hN _).mono ?_; rintro e w3 ⟨rfl, rfl⟩) | (go_at_call 16; refine (hQ _).mono ?_; rintro e w3 ⟨rfl, rfl⟩) | (go_at_call 46; refine (hM _).mono ?_; rintro e w3 ⟨rfl, rfl⟩) | (go_at_call 46; refine (hMQ _).mono ?_; rintro e w3 ⟨rfl, rfl⟩) | (go_at_call 47; refine (hF _).mono ?_; rintro e w4 ⟨rfl, rfl⟩) | (go_at_call 47; refine (hG _).mono ?_; rintro e w4 ⟨rfl, rfl⟩) | (go_at_call 44; refine (hO _).mono ?_; rintro e w6 ⟨rfl, hb6⟩; obtain ⟨hc6, hf6⟩ := bcell hb6; have hz6 : w.heap.size < w6.heap.size := (by have := hb6.size; omega); have bw6 : Below w.heap.size w w6 := bw7.trans (hb6.mono (by omega)); clear hb6))
    all_goals
      go_ret
      refine ⟨ret_b ?_, by first | exact bw6 | exact bw7⟩
      first | (simp_all; done) | (simp_all; omega) | grind
end Go.Proofs.YtghdjagomdgnfaaDoor
namespace Go.Proofs.YtghdjagomdgnfaaDoor
open Go.ChangeShapes Go.WideShapes Go.ChangeAt Go.RowKit
set_option linter.unusedVariables false
set_option linter.unusedSimpArgs false
set_option maxRecDepth 100000
set_option maxHeartbeats 8000000 in
theorem q24_41 (t : Nd) (ops : List Int) (g o cap : Nat) (w : World) (hop : t.op = 41) (hn : ops.length ≤ 1048576) (hcap : cap ≤ 1048576) (hv : RC w g o cap ops) (hs1 : t.name.size ≤ 1048576) (hs2 : t.qual.size ≤ 1048576) (ka : Option Addr) (kl kc : Nat) :
    Calls Tryd.prog 24 #[ndV t (.slice ka kl kc), .slice (some ⟨g, o, none⟩) ops.length cap] w fun e w' => e = .returned (.bool ((ops.all (· == 42) && decide ((0 : Int) < ops.length)) && only t false false false false false)) ∧ Below w.heap.size w w' := by
  have hA := fun W (h : Below w.heap.size w W) => allExpr_any ops _ W hn (hv.below h).ri
  have hVO := fun W (h : Below w.heap.size w W) => valuesOK_any ops _ W hn (hv.below h).ri
  have hAL := fun (x : Int) W (h : Below w.heap.size w W) => all_any ops g o cap x W hn hcap (hv.below h)
  have hB := fun W => only_any t (.slice ka kl kc) false false false false false W
  have hD := fun W => only_any t (.slice ka kl kc) true false false false false W
  have hO := fun W => only_any t (.slice ka kl kc) false false false false false W
  have hF := fun W => flag_any t.n W
  have hG := fun W => flag_any t.m W
  have hN := fun W => isName_any t.name W hs1
  have hQ := fun W => isName_any t.qual W hs2
  have hM := fun W => maybe_any t.name W hs1
  have hMQ := fun W => maybe_any t.qual W hs2
  clear hv
  generalize ops.all isE = al at *
  generalize only t false false false false false = bare at *
  generalize only t true false false false false = bnm at *
  generalize only t false false false false false = on at *
  generalize flg t.n = fn at *
  generalize flg t.m = fm at *
  generalize isNm t.name = nm at *
  generalize isNm t.qual = nq at *
  generalize mayN t.name = mnm at *
  generalize mayN t.qual = mq at *
  obtain ⟨op, name, qual, n, m, vk, vn, vs, kids, pos⟩ := t
  simp only [ndV] at *
  subst hop
  have bw0 := below_alloc w (.cells #[.int .i64 41, .string name, .string qual, .int .i64 n, .int .i64 m, .int .i64 vk, .int .i64 vn, .string vs, .slice ka kl kc, .int .i64 pos] 46)
  go_enter Tryd.func24, Tryd.ntmps24
  go_wp2_with (go_at_call 44; fail)
  refine (hB _).mono ?_
  rintro e w2 ⟨rfl, hb2⟩
  obtain ⟨hc2, hf2⟩ := bcell hb2
  have hz2 : w.heap.size < w2.heap.size := (by have := hb2.size; simp at this; omega)
  have bw2 : Below w.heap.size w w2 := bw0.trans (hb2.mono (by simp))
  clear hb2
  go_wp2_with (go_at_call 16; fail)
  refine (hN _).mono ?_
  rintro e w3 ⟨rfl, rfl⟩
  cases nm
  · go_wp2_with (first | (go_at_call 43; refine (hA _ (by assumption)).mono ?_; rintro e w1 ⟨rfl, rfl⟩) | (go_at_call 52; refine (hVO _ (by assumption)).mono ?_; rintro e w1 ⟨rfl, rfl⟩) | (go_at_call 51; refine (hAL _ _ (by assumption)).mono ?_; rintro e w1 ⟨rfl, rfl⟩) | (go_at_call 16; refine (hN _).mono ?_; rintro e w3 ⟨rfl, rfl⟩) | (go_at_call 16; refine (hQ _).mono ?_; rintro e w3 ⟨rfl, rfl⟩) | (go_at_call 46; refine (hM _).mono ?_; rintro e w3 ⟨rfl, rfl⟩) | (go_at_call 46; refine (hMQ _).mono ?_; rintro e w3 ⟨rfl, rfl⟩) | (go_at_call 47; refine (hF _).mono ?_; rintro e w4 ⟨rfl, rfl⟩) | (go_at_call 47; refine (hG _).mono ?_; rintro e w4 ⟨rfl, rfl⟩) | (go_at_call 44; refine (hO _).mono ?_; rintro e w6 ⟨rfl, hb6⟩; obtain ⟨hc6, hf6⟩ := bcell hb6; have hz6 : w.heap.size < w6.heap.size := (by have := hb6.size; omega); have bw6 : Below w.heap.size w w6 := bw2.trans (hb6.mono (by omega)); clear hb6))
    all_goals
      go_ret
      refine ⟨ret_b ?_, by first | exact bw6 | exact bw2⟩
      first | (simp_all; done) | (simp_all; omega) | grind
  · go_wp2_with (go_at_call 44; fail)
    refine (hD _).mono ?_
    rintro e w7 ⟨rfl, hb7⟩
    obtain ⟨hc7, hf7⟩ := bcell hb7
    have hz7 : w.heap.size < w7.heap.size := (by have := hb7.size; omega)
    have bw7 : Below w.heap.size w w7 := bw2.trans (hb7.mono (by omega))
    clear hb7
    go_wp2_with (first | (go_at_call 43; refine (hA _ (by assumption)).mono ?_; rintro e w1 ⟨rfl, rfl⟩) | (go_at_call 52; refine (hVO _ (by assumption)).mono ?_; rintro e w1 ⟨rfl, rfl⟩) | (go_at_call 51; refine (hAL _ _ (by assumption)).mono ?_; rintro e w1 ⟨rfl, rfl⟩) | (go_at_call 16; refine (hN _).mono ?_; rintro e w3 ⟨rfl, rfl⟩) | (go_at_call 16; refine (hQ _).mono ?_; rintro e w3 ⟨rfl, rfl⟩) | (go_at_call 46; refine (hM _).mono ?_; rintro e w3 ⟨rfl, rfl⟩) | (go_at_call 46; refine (hMQ _).mono ?_; rintro e w3 ⟨rfl, rfl⟩) | (go_at_call 47; refine (hF _).mono ?_; rintro e w4 ⟨rfl, rfl⟩) | (go_at_call 47; refine (hG _).mono ?_; rintro e w4 ⟨rfl, rfl⟩) | (go_at_call 44; refine (hO _).mono ?_; rintro e w6 ⟨rfl, hb6⟩; obtain ⟨hc6, hf6⟩ := bcell hb6; have hz6 : w.heap.size < w6.heap.size := (by have := hb6.size; omega); have bw6 : Below w.heap.size w w6 := bw7.trans (hb6.mono (by omega)); clear hb6))
    all_goals
      go_ret
      refine ⟨ret_b ?_, by first | exact bw6 | exact bw7⟩
      first | (simp_all; done) | (simp_all; omega) | grind
end Go.Proofs.YtghdjagomdgnfaaDoor
namespace Go.Proofs.YtghdjagomdgnfaaDoor
open Go.ChangeShapes Go.WideShapes Go.ChangeAt Go.RowKit
set_option linter.unusedVariables false
set_option linter.unusedSimpArgs false
set_option maxRecDepth 100000
set_option maxHeartbeats 8000000 in
theorem q24_42 (t : Nd) (ops : List Int) (g o cap : Nat) (w : World) (hop : t.op = 42) (hn : ops.length ≤ 1048576) (hcap : cap ≤ 1048576) (hv : RC w g o cap ops) (hs1 : t.name.size ≤ 1048576) (hs2 : t.qual.size ≤ 1048576) (ka : Option Addr) (kl kc : Nat) :
    Calls Tryd.prog 24 #[ndV t (.slice ka kl kc), .slice (some ⟨g, o, none⟩) ops.length cap] w fun e w' => e = .returned (.bool (((ops.length : Int) == 0) && (isNm t.name && only t true false false false false))) ∧ Below w.heap.size w w' := by
  have hA := fun W (h : Below w.heap.size w W) => allExpr_any ops _ W hn (hv.below h).ri
  have hVO := fun W (h : Below w.heap.size w W) => valuesOK_any ops _ W hn (hv.below h).ri
  have hAL := fun (x : Int) W (h : Below w.heap.size w W) => all_any ops g o cap x W hn hcap (hv.below h)
  have hB := fun W => only_any t (.slice ka kl kc) false false false false false W
  have hD := fun W => only_any t (.slice ka kl kc) true false false false false W
  have hO := fun W => only_any t (.slice ka kl kc) false false false false false W
  have hF := fun W => flag_any t.n W
  have hG := fun W => flag_any t.m W
  have hN := fun W => isName_any t.name W hs1
  have hQ := fun W => isName_any t.qual W hs2
  have hM := fun W => maybe_any t.name W hs1
  have hMQ := fun W => maybe_any t.qual W hs2
  clear hv
  generalize ops.all isE = al at *
  generalize only t false false false false false = bare at *
  generalize only t true false false false false = bnm at *
  generalize only t false false false false false = on at *
  generalize flg t.n = fn at *
  generalize flg t.m = fm at *
  generalize isNm t.name = nm at *
  generalize isNm t.qual = nq at *
  generalize mayN t.name = mnm at *
  generalize mayN t.qual = mq at *
  obtain ⟨op, name, qual, n, m, vk, vn, vs, kids, pos⟩ := t
  simp only [ndV] at *
  subst hop
  have bw0 := below_alloc w (.cells #[.int .i64 42, .string name, .string qual, .int .i64 n, .int .i64 m, .int .i64 vk, .int .i64 vn, .string vs, .slice ka kl kc, .int .i64 pos] 46)
  go_enter Tryd.func24, Tryd.ntmps24
  go_wp2_with (go_at_call 44; fail)
  refine (hB _).mono ?_
  rintro e w2 ⟨rfl, hb2⟩
  obtain ⟨hc2, hf2⟩ := bcell hb2
  have hz2 : w.heap.size < w2.heap.size := (by have := hb2.size; simp at this; omega)
  have bw2 : Below w.heap.size w w2 := bw0.trans (hb2.mono (by simp))
  clear hb2
  go_wp2_with (go_at_call 16; fail)
  refine (hN _).mono ?_
  rintro e w3 ⟨rfl, rfl⟩
  cases nm
  · go_wp2_with (first | (go_at_call 43; refine (hA _ (by assumption)).mono ?_; rintro e w1 ⟨rfl, rfl⟩) | (go_at_call 52; refine (hVO _ (by assumption)).mono ?_; rintro e w1 ⟨rfl, rfl⟩) | (go_at_call 51; refine (hAL _ _ (by assumption)).mono ?_; rintro e w1 ⟨rfl, rfl⟩) | (go_at_call 16; refine (hN _).mono ?_; rintro e w3 ⟨rfl, rfl⟩) | (go_at_call 16; refine (hQ _).mono ?_; rintro e w3 ⟨rfl, rfl⟩) | (go_at_call 46; refine (hM _).mono ?_; rintro e w3 ⟨rfl, rfl⟩) | (go_at_call 46; refine (hMQ _).mono ?_; rintro e w3 ⟨rfl, rfl⟩) | (go_at_call 47; refine (hF _).mono ?_; rintro e w4 ⟨rfl, rfl⟩) | (go_at_call 47; refine (hG _).mono ?_; rintro e w4 ⟨rfl, rfl⟩) | (go_at_call 44; refine (hO _).mono ?_; rintro e w6 ⟨rfl, hb6⟩; obtain ⟨hc6, hf6⟩ := bcell hb6; have hz6 : w.heap.size < w6.heap.size := (by have := hb6.size; omega); have bw6 : Below w.heap.size w w6 := bw2.trans (hb6.mono (by omega)); clear hb6))
    all_goals
      go_ret
      refine ⟨ret_b ?_, by first | exact bw6 | exact bw2⟩
      first | (simp_all; done) | (simp_all; omega) | grind
  · go_wp2_with (go_at_call 44; fail)
    refine (hD _).mono ?_
    rintro e w7 ⟨rfl, hb7⟩
    obtain ⟨hc7, hf7⟩ := bcell hb7
    have hz7 : w.heap.size < w7.heap.size := (by have := hb7.size; omega)
    have bw7 : Below w.heap.size w w7 := bw2.trans (hb7.mono (by omega))
    clear hb7
    go_wp2_with (first | (go_at_call 43; refine (hA _ (by assumption)).mono ?_; rintro e w1 ⟨rfl, rfl⟩) | (go_at_call 52; refine (hVO _ (by assumption)).mono ?_; rintro e w1 ⟨rfl, rfl⟩) | (go_at_call 51; refine (hAL _ _ (by assumption)).mono ?_; rintro e w1 ⟨rfl, rfl⟩) | (go_at_call 16; refine (hN _).mono ?_; rintro e w3 ⟨rfl, rfl⟩) | (go_at_call 16; refine (hQ _).mono ?_; rintro e w3 ⟨rfl, rfl⟩) | (go_at_call 46; refine (hM _).mono ?_; rintro e w3 ⟨rfl, rfl⟩) | (go_at_call 46; refine (hMQ _).mono ?_; rintro e w3 ⟨rfl, rfl⟩) | (go_at_call 47; refine (hF _).mono ?_; rintro e w4 ⟨rfl, rfl⟩) | (go_at_call 47; refine (hG _).mono ?_; rintro e w4 ⟨rfl, rfl⟩) | (go_at_call 44; refine (hO _).mono ?_; rintro e w6 ⟨rfl, hb6⟩; obtain ⟨hc6, hf6⟩ := bcell hb6; have hz6 : w.heap.size < w6.heap.size := (by have := hb6.size; omega); have bw6 : Below w.heap.size w w6 := bw7.trans (hb6.mono (by omega)); clear hb6))
    all_goals
      go_ret
      refine ⟨ret_b ?_, by first | exact bw6 | exact bw7⟩
      first | (simp_all; done) | (simp_all; omega) | grind
end Go.Proofs.YtghdjagomdgnfaaDoor
