import Derived.Test.YtghdjagomdgnfaaDoorHAC
import Derived.Test.YtghdjagomdgnfaaDoorHAG
namespace Go.Proofs.YtghdjagomdgnfaaDoor
open Go.ChangeShapes Go.WideShapes Go.ChangeAt Go.RowKit
set_option linter.unusedVariables false
set_option linter.unusedSimpArgs false
set_option maxRecDepth 100000
set_option maxHeartbeats 8000000 in
theorem q23_26_no (t : Nd) (ops : List Int) (g o cap : Nat) (w : World) (hop : t.op = 26) (hn : ops.length ≤ 1048576) (hcap : cap ≤ 1048576) (hv : RC w g o cap ops) (hs1 : t.name.size ≤ 1048576) (hs2 : t.qual.size ≤ 1048576) (ka : Option Addr) (kl kc : Nat) (hno : ((ops.length : Int) == 2) = false) :
    Calls Tryd.prog 23 #[ndV t (.slice ka kl kc), .slice (some ⟨g, o, none⟩) ops.length cap] w fun e w' => e = .returned (.bool (false)) ∧ Below w.heap.size w w' := by
  have hA := fun W (h : Below w.heap.size w W) => allExpr_any ops _ W hn (hv.below h).ri
  have hVO := fun W (h : Below w.heap.size w W) => valuesOK_any ops _ W hn (hv.below h).ri
  have hAL := fun (x : Int) W (h : Below w.heap.size w W) => all_any ops g o cap x W hn hcap (hv.below h)
  have hB := fun W => only_any t (.slice ka kl kc) false false false false false W
  have hD := fun W => only_any t (.slice ka kl kc) true false false false false W
  have hO := fun W => only_any t (.slice ka kl kc) false false true true false W
  have hF := fun W => flag_any t.n W
  have hG := fun W => flag_any t.m W
  have hN := fun W => isName_any t.name W hs1
  have hQ := fun W => isName_any t.qual W hs2
  have hM := fun W => maybe_any t.name W hs1
  have hMQ := fun W => maybe_any t.qual W hs2
  clear hv
  generalize ops.all isE = al at *
  generalize only t false false false false false = bare at *
  generalize only t true false false false false = bnm at *
  generalize only t false false true true false = on at *
  generalize flg t.n = fn at *
  generalize flg t.m = fm at *
  generalize isNm t.name = nm at *
  generalize isNm t.qual = nq at *
  generalize mayN t.name = mnm at *
  generalize mayN t.qual = mq at *
  obtain ⟨op, name, qual, n, m, vk, vn, vs, kids, pos⟩ := t
  simp only [ndV] at *
  subst hop
  have bw0 := below_alloc w (.cells #[.int .i64 26, .string name, .string qual, .int .i64 n, .int .i64 m, .int .i64 vk, .int .i64 vn, .string vs, .slice ka kl kc, .int .i64 pos] 46)
  go_enter Tryd.func23, Tryd.ntmps23
  go_wp2_with (go_at_call 44; fail)
  refine (hB _).mono ?_
  rintro e w2 ⟨rfl, hb2⟩
  obtain ⟨hc2, hf2⟩ := bcell hb2
  have hz2 : w.heap.size < w2.heap.size := (by have := hb2.size; simp at this; omega)
  have bw2 : Below w.heap.size w w2 := bw0.trans (hb2.mono (by simp))
  clear hb2
  go_wp2_with (first | (go_at_call 43; refine (hA _ (by assumption)).mono ?_; rintro e w1 ⟨rfl, rfl⟩) | (go_at_call 52; refine (hVO _ (by assumption)).mono ?_; rintro e w1 ⟨rfl, rfl⟩) | (go_at_call 51; refine (hAL _ _ (by assumption)).mono ?_; rintro e w1 ⟨rfl, rfl⟩) | (go_at_call 16; refine (hN _).mono ?_; rintro e w3 ⟨rfl, rfl⟩) | (go_at_call 16; refine (hQ _).mono ?_; rintro e w3 ⟨rfl, rfl⟩) | (go_at_call 46; refine (hM _).mono ?_; rintro e w3 ⟨rfl, rfl⟩) | (go_at_call 46; refine (hMQ _).mono ?_; rintro e w3 ⟨rfl, rfl⟩) | (go_at_call 47; refine (hF _).mono ?_; rintro e w4 ⟨rfl, rfl⟩) | (go_at_call 47; refine (hG _).mono ?_; rintro e w4 ⟨rfl, rfl⟩) | (go_at_call 44; refine (hO _).mono ?_; rintro e w6 ⟨rfl, hb6⟩; obtain ⟨hc6, hf6⟩ := bcell hb6; have hz6 : w.heap.size < w6.heap.size := (by have := hb6.size; omega); have bw6 : Below w.heap.size w w6 := bw2.trans (hb6.mono (by omega)); clear hb6))
  all_goals
    go_ret
    refine ⟨ret_b ?_, by first | exact bw6 | exact bw2⟩
    first | (simp_all; done) | (simp_all; omega) | grind
end Go.Proofs.YtghdjagomdgnfaaDoor
namespace Go.Proofs.YtghdjagomdgnfaaDoor
open Go.ChangeShapes Go.WideShapes Go.ChangeAt Go.RowKit
set_option linter.unusedVariables false
set_option linter.unusedSimpArgs false
set_option maxRecDepth 100000
set_option maxHeartbeats 8000000 in
theorem q23_27_c (t : Nd) (x : Int) (r : List Int) (g o : Nat) (w : World) (hop : t.op = 27) (hn : r.length + 1 ≤ 1048576) (hv : RC w g o (r.length + 1) (x :: r)) (hs1 : t.name.size ≤ 1048576) (hs2 : t.qual.size ≤ 1048576) (ka : Option Addr) (kl kc : Nat) :
    Calls Tryd.prog 23 #[ndV t (.slice ka kl kc), .slice (some ⟨g, o, none⟩) (r.length + 1) (r.length + 1)] w fun e w' => e = .returned (.bool ((isTrm x || x == 26) && someL [28, 30] r 0 && only t false false false false false)) ∧ Below w.heap.size w w' := by
  have hB := fun W => only_any t (.slice ka kl kc) false false false false false W
  have hO := fun W => only_any t (.slice ka kl kc) false false false false false W
  have hF := fun W => flag_any t.n W
  obtain ⟨hg, _, hgc⟩ := hv
  have cx : w.cell? ⟨g, o, none⟩ = some (.int .i64 x) := hgc 0 (by simp)
  have HRI : Hid (∀ W a, Below w.heap.size w W → (r ≠ [] → a = ⟨g, o + 1, none⟩) → RI W (.slice (some a) r.length r.length) r) := (fun W a hb ha => ⟨_, _, rfl, fun hp => by
    have := ha (by intro h; rw [h] at hp; simp at hp)
    subst this
    refine ⟨g, o + 1, rfl, Nat.lt_of_lt_of_le hg hb.size, fun i hi => ?_⟩
    have e := (hb.cell (p := ⟨g, o + (i + 1), none⟩) hg).trans (hgc (i + 1) (by simpa using hi))
    rw [show o + 1 + i = o + (i + 1) by omega]
    simpa using e⟩ : ∀ W a, Below w.heap.size w W → (r ≠ [] → a = ⟨g, o + 1, none⟩) → RI W (.slice (some a) r.length r.length) r)
  clear hgc
  generalize only t false false false false false = bare at *
  generalize flg t.n = fn at *
  obtain ⟨op, name, qual, n, m, vk, vn, vs, kids, pos⟩ := t
  simp only [ndV] at *
  subst hop
  have bw0 := below_alloc w (.cells #[.int .i64 27, .string name, .string qual, .int .i64 n, .int .i64 m, .int .i64 vk, .int .i64 vn, .string vs, .slice ka kl kc, .int .i64 pos] 46)
  go_enter Tryd.func23, Tryd.ntmps23
  go_wp2_with (go_at_call 44; fail)
  refine (hB _).mono ?_
  rintro e w2 ⟨rfl, hb2⟩
  obtain ⟨hc2, hf2⟩ := bcell hb2
  have hz2 : w.heap.size < w2.heap.size := (by have := hb2.size; simp at this; omega)
  have bw2 : Below w.heap.size w w2 := bw0.trans (hb2.mono (by simp))
  have dx := (bw2.cell (p := ⟨g, o, none⟩) hg).trans cx
  clear hb2
  have hT := fun W => isTerm_any x W
  go_wp2_with (go_at_call 50; fail)
  refine (hT _).mono ?_
  rintro e w5 ⟨rfl, hw5⟩
  replace hw5 := hw5.symm
  subst hw5
  clear hT
  cases hit : isTrm x
  · cases hx : (x == 26)
    · go_wp2
      go_ret
      exact ⟨ret_b (by first | (simp; done) | (simp_all; done)), bw2⟩
    · have hcn := fun W a u (h : Below w.heap.size w W) (ha : r ≠ [] → a = ⟨g, o + 1, none⟩) (hu : RI W u [28, 30]) => some_any r [28, 30] (.slice (some a) r.length r.length) u W (by omega) (by simp) (HRI.out W a h ha) hu
      generalize hsm : someL [28, 30] r 0 = sm at *
      clear HRI
      cases r with
      | nil =>
        simp only [List.length_nil, Nat.zero_add] at *
        go_wp2_with (go_at_call 49; fail)
        refine (hcn _ _ _ ?_ ?_ ?_).mono ?_
        · exact (by (go_light; repeat (first | with_reducible assumption | with_reducible exact Below.refl _ _ | (with_reducible refine Below.setCell ?_ ?_ _; rotate_left; (focus first | (simp; done) | (simp; omega) | omega)) | (with_reducible refine Below.alloc ?_ ?_ _; rotate_left; (focus first | (simp; done) | (simp; omega) | omega)) | with_reducible refine Below.drew ?_)))
        · first | exact fun h => absurd rfl h | exact fun _ => rfl
        · exact ri2 _ _ _ _ _ (by simp)
        rintro e w8 ⟨rfl, hw8⟩
        replace hw8 := hw8.symm
        subst hw8
        cases sm
        · go_wp2
          go_ret
          exact ⟨ret_b (by first | (rw [hsm]; simp; done) | (rw [hsm]; simp_all; done) | (simp_all; done)), by (go_light; repeat (first | with_reducible assumption | with_reducible exact Below.refl _ _ | (with_reducible refine Below.setCell ?_ ?_ _; rotate_left; (focus first | (simp; done) | (simp; omega) | omega)) | (with_reducible refine Below.alloc ?_ ?_ _; rotate_left; (focus first | (simp; done) | (simp; omega) | omega)) | with_reducible refine Below.drew ?_))⟩
        · go_wp2
          go_ret
          exact ⟨ret_b (by first | (rw [hsm]; simp; done) | (rw [hsm]; simp_all; done) | (simp_all; done)), by (go_light; repeat (first | with_reducible assumption | with_reducible exact Below.refl _ _ | (with_reducible refine Below.setCell ?_ ?_ _; rotate_left; (focus first | (simp; done) | (simp; omega) | omega)) | (with_reducible refine Below.alloc ?_ ?_ _; rotate_left; (focus first | (simp; done) | (simp; omega) | omega)) | with_reducible refine Below.drew ?_))⟩
      | cons y ys =>
        have hne : ¬ (ys.length + 1 + 1 = 1) := by omega
        simp only [List.length_cons] at *
        go_wp2_with (go_at_call 49; fail)
        refine (hcn _ _ _ ?_ ?_ ?_).mono ?_
        · exact (by (go_light; repeat (first | with_reducible assumption | with_reducible exact Below.refl _ _ | (with_reducible refine Below.setCell ?_ ?_ _; rotate_left; (focus first | (simp; done) | (simp; omega) | omega)) | (with_reducible refine Below.alloc ?_ ?_ _; rotate_left; (focus first | (simp; done) | (simp; omega) | omega)) | with_reducible refine Below.drew ?_)))
        · first | exact fun h => absurd rfl h | exact fun _ => rfl
        · exact ri2 _ _ _ _ _ (by simp)
        rintro e w8 ⟨rfl, hw8⟩
        replace hw8 := hw8.symm
        subst hw8
        cases sm
        · go_wp2
          go_ret
          exact ⟨ret_b (by first | (rw [hsm]; simp; done) | (rw [hsm]; simp_all; done) | (simp_all; done)), by (go_light; repeat (first | with_reducible assumption | with_reducible exact Below.refl _ _ | (with_reducible refine Below.setCell ?_ ?_ _; rotate_left; (focus first | (simp; done) | (simp; omega) | omega)) | (with_reducible refine Below.alloc ?_ ?_ _; rotate_left; (focus first | (simp; done) | (simp; omega) | omega)) | with_reducible refine Below.drew ?_))⟩
        · go_wp2
          go_ret
          exact ⟨ret_b (by first | (rw [hsm]; simp; done) | (rw [hsm]; simp_all; done) | (simp_all; done)), by (go_light; repeat (first | with_reducible assumption | with_reducible exact Below.refl _ _ | (with_reducible refine Below.setCell ?_ ?_ _; rotate_left; (focus first | (simp; done) | (simp; omega) | omega)) | (with_reducible refine Below.alloc ?_ ?_ _; rotate_left; (focus first | (simp; done) | (simp; omega) | omega)) | with_reducible refine Below.drew ?_))⟩
  · have hcn := fun W a u (h : Below w.heap.size w W) (ha : r ≠ [] → a = ⟨g, o + 1, none⟩) (hu : RI W u [28, 30]) => some_any r [28, 30] (.slice (some a) r.length r.length) u W (by omega) (by simp) (HRI.out W a h ha) hu
    generalize hsm : someL [28, 30] r 0 = sm at *
    clear HRI
    cases r with
    | nil =>
      simp only [List.length_nil, Nat.zero_add] at *
      go_wp2_with (go_at_call 49; fail)
      refine (hcn _ _ _ ?_ ?_ ?_).mono ?_
      · exact (by (go_light; repeat (first | with_reducible assumption | with_reducible exact Below.refl _ _ | (with_reducible refine Below.setCell ?_ ?_ _; rotate_left; (focus first | (simp; done) | (simp; omega) | omega)) | (with_reducible refine Below.alloc ?_ ?_ _; rotate_left; (focus first | (simp; done) | (simp; omega) | omega)) | with_reducible refine Below.drew ?_)))
      · first | exact fun h => absurd rfl h | exact fun _ => rfl
      · exact ri2 _ _ _ _ _ (by simp)
      rintro e w8 ⟨rfl, hw8⟩
      replace hw8 := hw8.symm
      subst hw8
      cases sm
      · go_wp2
        go_ret
        exact ⟨ret_b (by first | (rw [hsm]; simp; done) | (rw [hsm]; simp_all; done) | (simp_all; done)), by (go_light; repeat (first | with_reducible assumption | with_reducible exact Below.refl _ _ | (with_reducible refine Below.setCell ?_ ?_ _; rotate_left; (focus first | (simp; done) | (simp; omega) | omega)) | (with_reducible refine Below.alloc ?_ ?_ _; rotate_left; (focus first | (simp; done) | (simp; omega) | omega)) | with_reducible refine Below.drew ?_))⟩
      · go_wp2
        go_ret
        exact ⟨ret_b (by first | (rw [hsm]; simp; done) | (rw [hsm]; simp_all; done) | (simp_all; done)), by (go_light; repeat (first | with_reducible assumption | with_reducible exact Below.refl _ _ | (with_reducible refine Below.setCell ?_ ?_ _; rotate_left; (focus first | (simp; done) | (simp; omega) | omega)) | (with_reducible refine Below.alloc ?_ ?_ _; rotate_left; (focus first | (simp; done) | (simp; omega) | omega)) | with_reducible refine Below.drew ?_))⟩
    | cons y ys =>
      have hne : ¬ (ys.length + 1 + 1 = 1) := by omega
      simp only [List.length_cons] at *
      go_wp2_with (go_at_call 49; fail)
      refine (hcn _ _ _ ?_ ?_ ?_).mono ?_
      · exact (by (go_light; repeat (first | with_reducible assumption | with_reducible exact Below.refl _ _ | (with_reducible refine Below.setCell ?_ ?_ _; rotate_left; (focus first | (simp; done) | (simp; omega) | omega)) | (with_reducible refine Below.alloc ?_ ?_ _; rotate_left; (focus first | (simp; done) | (simp; omega) | omega)) | with_reducible refine Below.drew ?_)))
      · first | exact fun h => absurd rfl h | exact fun _ => rfl
      · exact ri2 _ _ _ _ _ (by simp)
      rintro e w8 ⟨rfl, hw8⟩
      replace hw8 := hw8.symm
      subst hw8
      cases sm
      · go_wp2
        go_ret
        exact ⟨ret_b (by first | (rw [hsm]; simp; done) | (rw [hsm]; simp_all; done) | (simp_all; done)), by (go_light; repeat (first | with_reducible assumption | with_reducible exact Below.refl _ _ | (with_reducible refine Below.setCell ?_ ?_ _; rotate_left; (focus first | (simp; done) | (simp; omega) | omega)) | (with_reducible refine Below.alloc ?_ ?_ _; rotate_left; (focus first | (simp; done) | (simp; omega) | omega)) | with_reducible refine Below.drew ?_))⟩
      · go_wp2
        go_ret
        exact ⟨ret_b (by first | (rw [hsm]; simp; done) | (rw [hsm]; simp_all; done) | (simp_all; done)), by (go_light; repeat (first | with_reducible assumption | with_reducible exact Below.refl _ _ | (with_reducible refine Below.setCell ?_ ?_ _; rotate_left; (focus first | (simp; done) | (simp; omega) | omega)) | (with_reducible refine Below.alloc ?_ ?_ _; rotate_left; (focus first | (simp; done) | (simp; omega) | omega)) | with_reducible refine Below.drew ?_))⟩
end Go.Proofs.YtghdjagomdgnfaaDoor
namespace Go.Proofs.YtghdjagomdgnfaaDoor
open Go.ChangeShapes Go.WideShapes Go.ChangeAt Go.RowKit
set_option linter.unusedVariables false
set_option linter.unusedSimpArgs false
set_option maxRecDepth 100000
set_option maxHeartbeats 8000000 in
theorem q23_27_no (t : Nd) (ops : List Int) (g o cap : Nat) (w : World) (hop : t.op = 27) (hn : ops.length ≤ 1048576) (hcap : cap ≤ 1048576) (hv : RC w g o cap ops) (hs1 : t.name.size ≤ 1048576) (hs2 : t.qual.size ≤ 1048576) (ka : Option Addr) (kl kc : Nat) (hno : (ops.length : Int) < 1) :
    Calls Tryd.prog 23 #[ndV t (.slice ka kl kc), .slice (some ⟨g, o, none⟩) ops.length cap] w fun e w' => e = .returned (.bool (false)) ∧ Below w.heap.size w w' := by
  have hA := fun W (h : Below w.heap.size w W) => allExpr_any ops _ W hn (hv.below h).ri
  have hVO := fun W (h : Below w.heap.size w W) => valuesOK_any ops _ W hn (hv.below h).ri
  have hAL := fun (x : Int) W (h : Below w.heap.size w W) => all_any ops g o cap x W hn hcap (hv.below h)
  have hB := fun W => only_any t (.slice ka kl kc) false false false false false W
  have hD := fun W => only_any t (.slice ka kl kc) true false false false false W
  have hO := fun W => only_any t (.slice ka kl kc) false false false false false W
  have hF := fun W => flag_any t.n W
  have hG := fun W => flag_any t.m W
  have hN := fun W => isName_any t.name W hs1
  have hQ := fun W => isName_any t.qual W hs2
  have hM := fun W => maybe_any t.name W hs1
  have hMQ := fun W => maybe_any t.qual W hs2
  clear hv
  generalize ops.all isE = al at *
  generalize only t false false false false false = bare at *
  generalize only t true false false false false = bnm at *
  generalize only t false false false false false = on at *
  generalize flg t.n = fn at *
  generalize flg t.m = fm at *
  generalize isNm t.name = nm at *
  generalize isNm t.qual = nq at *
  generalize mayN t.name = mnm at *
  generalize mayN t.qual = mq at *
  obtain ⟨op, name, qual, n, m, vk, vn, vs, kids, pos⟩ := t
  simp only [ndV] at *
  subst hop
  have bw0 := below_alloc w (.cells #[.int .i64 27, .string name, .string qual, .int .i64 n, .int .i64 m, .int .i64 vk, .int .i64 vn, .string vs, .slice ka kl kc, .int .i64 pos] 46)
  go_enter Tryd.func23, Tryd.ntmps23
  go_wp2_with (go_at_call 44; fail)
  refine (hB _).mono ?_
  rintro e w2 ⟨rfl, hb2⟩
  obtain ⟨hc2, hf2⟩ := bcell hb2
  have hz2 : w.heap.size < w2.heap.size := (by have := hb2.size; simp at this; omega)
  have bw2 : Below w.heap.size w w2 := bw0.trans (hb2.mono (by simp))
  clear hb2
  go_wp2_with (first | (go_at_call 43; refine (hA _ (by assumption)).mono ?_; rintro e w1 ⟨rfl, rfl⟩) | (go_at_call 52; refine (hVO _ (by assumption)).mono ?_; rintro e w1 ⟨rfl, rfl⟩) | (go_at_call 51; refine (hAL _ _ (by assumption)).mono ?_; rintro e w1 ⟨rfl, rfl⟩) | (go_at_call 16; refine (hN _).mono ?_; rintro e w3 ⟨rfl, rfl⟩) | (go_at_call 16; refine (hQ _).mono ?_; rintro e w3 ⟨rfl, rfl⟩) | (go_at_call 46; refine (hM _).mono ?_; rintro e w3 ⟨rfl, rfl⟩) | (go_at_call 46; refine (hMQ _).mono ?_; rintro e w3 ⟨rfl, rfl⟩) | (go_at_call 47; refine (hF _).mono ?_; rintro e w4 ⟨rfl, rfl⟩) | (go_at_call 47; refine (hG _).mono ?_; rintro e w4 ⟨rfl, rfl⟩) | (go_at_call 44; refine (hO _).mono ?_; rintro e w6 ⟨rfl, hb6⟩; obtain ⟨hc6, hf6⟩ := bcell hb6; have hz6 : w.heap.size < w6.heap.size := (by have := hb6.size; omega); have bw6 : Below w.heap.size w w6 := bw2.trans (hb6.mono (by omega)); clear hb6))
  all_goals
    go_ret
    refine ⟨ret_b ?_, by first | exact bw6 | exact bw2⟩
    first | (simp_all; done) | (simp_all; omega) | grind
end Go.Proofs.YtghdjagomdgnfaaDoor
namespace Go.Proofs.YtghdjagomdgnfaaDoor
open Go.ChangeShapes Go.WideShapes Go.ChangeAt Go.RowKit
set_option linter.unusedVariables false
set_option linter.unusedSimpArgs false
set_option maxRecDepth 100000
set_option maxHeartbeats 8000000 in
theorem q23_28 (t : Nd) (ops : List Int) (g o cap : Nat) (w : World) (hop : t.op = 28) (hn : ops.length ≤ 1048576) (hcap : cap ≤ 1048576) (hv : RC w g o cap ops) (hs1 : t.name.size ≤ 1048576) (hs2 : t.qual.size ≤ 1048576) (ka : Option Addr) (kl kc : Nat) :
    Calls Tryd.prog 23 #[ndV t (.slice ka kl kc), .slice (some ⟨g, o, none⟩) ops.length cap] w fun e w' => e = .returned (.bool ((ops.all (· == 29) && decide ((0 : Int) < ops.length)) && only t false false false false false)) ∧ Below w.heap.size w w' := by
  have hA := fun W (h : Below w.heap.size w W) => allExpr_any ops _ W hn (hv.below h).ri
  have hVO := fun W (h : Below w.heap.size w W) => valuesOK_any ops _ W hn (hv.below h).ri
  have hAL := fun (x : Int) W (h : Below w.heap.size w W) => all_any ops g o cap x W hn hcap (hv.below h)
  have hB := fun W => only_any t (.slice ka kl kc) false false false false false W
  have hD := fun W => only_any t (.slice ka kl kc) true false false false false W
  have hO := fun W => only_any t (.slice ka kl kc) false false false false false W
  have hF := fun W => flag_any t.n W
  have hG := fun W => flag_any t.m W
  have hN := fun W => isName_any t.name W hs1
  have hQ := fun W => isName_any t.qual W hs2
  have hM := fun W => maybe_any t.name W hs1
  have hMQ := fun W => maybe_any t.qual W hs2
  clear hv
  generalize ops.all isE = al at *
  generalize only t false false false false false = bare at *
  generalize only t true false false false false = bnm at *
  generalize only t false false false false false = on at *
  generalize flg t.n = fn at *
  generalize flg t.m = fm at *
  generalize isNm t.name = nm at *
  generalize isNm t.qual = nq at *
  generalize mayN t.name = mnm at *
  generalize mayN t.qual = mq at *
  obtain ⟨op, name, qual, n, m, vk, vn, vs, kids, pos⟩ := t
  simp only [ndV] at *
  subst hop
  have bw0 := below_alloc w (.cells #[.int .i64 28, .string name, .string qual, .int .i64 n, .int .i64 m, .int .i64 vk, .int .i64 vn, .string vs, .slice ka kl kc, .int .i64 pos] 46)
  go_enter Tryd.func23, Tryd.ntmps23
  go_wp2_with (go_at_call 44; fail)
  refine (hB _).mono ?_
  rintro e w2 ⟨rfl, hb2⟩
  obtain ⟨hc2, hf2⟩ := bcell hb2
  have hz2 : w.heap.size < w2.heap.size := (by have := hb2.size; simp at this; omega)
  have bw2 : Below w.heap.size w w2 := bw0.trans (hb2.mono (by simp))
  clear hb2
  go_wp2_with (first | (go_at_call 43; refine (hA _ (by assumption)).mono ?_; rintro e w1 ⟨rfl, rfl⟩) | (go_at_call 52; refine (hVO _ (by assumption)).mono ?_; rintro e w1 ⟨rfl, rfl⟩) | (go_at_call 51; refine (hAL _ _ (by assumption)).mono ?_; rintro e w1 ⟨rfl, rfl⟩) | (go_at_call 16; refine (hN _).mono ?_; rintro e w3 ⟨rfl, rfl⟩) | (go_at_call 16; refine (hQ _).mono ?_; rintro e w3 ⟨rfl, rfl⟩) | (go_at_call 46; refine (hM _).mono ?_; rintro e w3 ⟨rfl, rfl⟩) | (go_at_call 46; refine (hMQ _).mono ?_; rintro e w3 ⟨rfl, rfl⟩) | (go_at_call 47; refine (hF _).mono ?_; rintro e w4 ⟨rfl, rfl⟩) | (go_at_call 47; refine (hG _).mono ?_; rintro e w4 ⟨rfl, rfl⟩) | (go_at_call 44; refine (hO _).mono ?_; rintro e w6 ⟨rfl, hb6⟩; obtain ⟨hc6, hf6⟩ := bcell hb6; have hz6 : w.heap.size < w6.heap.size := (by have := hb6.size; omega); have bw6 : Below w.heap.size w w6 := bw2.trans (hb6.mono (by omega)); clear hb6))
  all_goals
    go_ret
    refine ⟨ret_b ?_, by first | exact bw6 | exact bw2⟩
    first | (simp_all; done) | (simp_all; omega) | grind
end Go.Proofs.YtghdjagomdgnfaaDoor
namespace Go.Proofs.YtghdjagomdgnfaaDoor
open Go.ChangeShapes Go.WideShapes Go.ChangeAt Go.RowKit
set_option linter.unusedVariables false
set_option linter.unusedSimpArgs false
set_option maxRecDepth 100000
set_option maxHeartbeats 8000000 in
theorem q23_29 (t : Nd) (ops : List Int) (g o cap : Nat) (w : World) (hop : t.op = 29) (hn : ops.length ≤ 1048576) (hcap : cap ≤ 1048576) (hv : RC w g o cap ops) (hs1 : t.name.size ≤ 1048576) (hs2 : t.qual.size ≤ 1048576) (ka : Option Addr) (kl kc : Nat) :
    Calls Tryd.prog 23 #[ndV t (.slice ka kl kc), .slice (some ⟨g, o, none⟩) ops.length cap] w fun e w' => e = .returned (.bool (((ops.length : Int) == 1) && ops.all isE && flg t.n && decide (0 ≤ t.m) && decide (t.m ≤ 2) && only t false false true true false)) ∧ Below w.heap.size w w' := by
  have hA := fun W (h : Below w.heap.size w W) => allExpr_any ops _ W hn (hv.below h).ri
  have hVO := fun W (h : Below w.heap.size w W) => valuesOK_any ops _ W hn (hv.below h).ri
  have hAL := fun (x : Int) W (h : Below w.heap.size w W) => all_any ops g o cap x W hn hcap (hv.below h)
  have hB := fun W => only_any t (.slice ka kl kc) false false false false false W
  have hD := fun W => only_any t (.slice ka kl kc) true false false false false W
  have hO := fun W => only_any t (.slice ka kl kc) false false true true false W
  have hF := fun W => flag_any t.n W
  have hG := fun W => flag_any t.m W
  have hN := fun W => isName_any t.name W hs1
  have hQ := fun W => isName_any t.qual W hs2
  have hM := fun W => maybe_any t.name W hs1
  have hMQ := fun W => maybe_any t.qual W hs2
  clear hv
  generalize ops.all isE = al at *
  generalize only t false false false false false = bare at *
  generalize only t true false false false false = bnm at *
  generalize only t false false true true false = on at *
  generalize flg t.n = fn at *
  generalize flg t.m = fm at *
  generalize isNm t.name = nm at *
  generalize isNm t.qual = nq at *
  generalize mayN t.name = mnm at *
  generalize mayN t.qual = mq at *
  obtain ⟨op, name, qual, n, m, vk, vn, vs, kids, pos⟩ := t
  simp only [ndV] at *
  subst hop
  have bw0 := below_alloc w (.cells #[.int .i64 29, .string name, .string qual, .int .i64 n, .int .i64 m, .int .i64 vk, .int .i64 vn, .string vs, .slice ka kl kc, .int .i64 pos] 46)
  go_enter Tryd.func23, Tryd.ntmps23
  go_wp2_with (go_at_call 44; fail)
  refine (hB _).mono ?_
  rintro e w2 ⟨rfl, hb2⟩
  obtain ⟨hc2, hf2⟩ := bcell hb2
  have hz2 : w.heap.size < w2.heap.size := (by have := hb2.size; simp at this; omega)
  have bw2 : Below w.heap.size w w2 := bw0.trans (hb2.mono (by simp))
  clear hb2
  go_wp2_with (first | (go_at_call 43; refine (hA _ (by assumption)).mono ?_; rintro e w1 ⟨rfl, rfl⟩) | (go_at_call 52; refine (hVO _ (by assumption)).mono ?_; rintro e w1 ⟨rfl, rfl⟩) | (go_at_call 51; refine (hAL _ _ (by assumption)).mono ?_; rintro e w1 ⟨rfl, rfl⟩) | (go_at_call 16; refine (hN _).mono ?_; rintro e w3 ⟨rfl, rfl⟩) | (go_at_call 16; refine (hQ _).mono ?_; rintro e w3 ⟨rfl, rfl⟩) | (go_at_call 46; refine (hM _).mono ?_; rintro e w3 ⟨rfl, rfl⟩) | (go_at_call 46; refine (hMQ _).mono ?_; rintro e w3 ⟨rfl, rfl⟩) | (go_at_call 47; refine (hF _).mono ?_; rintro e w4 ⟨rfl, rfl⟩) | (go_at_call 47; refine (hG _).mono ?_; rintro e w4 ⟨rfl, rfl⟩) | (go_at_call 44; refine (hO _).mono ?_; rintro e w6 ⟨rfl, hb6⟩; obtain ⟨hc6, hf6⟩ := bcell hb6; have hz6 : w.heap.size < w6.heap.size := (by have := hb6.size; omega); have bw6 : Below w.heap.size w w6 := bw2.trans (hb6.mono (by omega)); clear hb6))
  all_goals
    go_ret
    refine ⟨ret_b ?_, by first | exact bw6 | exact bw2⟩
    first | (simp_all; done) | (simp_all; omega) | grind
end Go.Proofs.YtghdjagomdgnfaaDoor
