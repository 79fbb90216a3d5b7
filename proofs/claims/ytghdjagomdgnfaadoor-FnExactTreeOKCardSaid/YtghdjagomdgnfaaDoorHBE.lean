import Derived.Test.YtghdjagomdgnfaaDoorHAC
import Derived.Test.YtghdjagomdgnfaaDoorHAG
namespace Go.Proofs.YtghdjagomdgnfaaDoor
open Go.ChangeShapes Go.WideShapes Go.ChangeAt Go.RowKit
set_option linter.unusedVariables false
set_option linter.unusedSimpArgs false
set_option maxRecDepth 100000
set_option maxHeartbeats 8000000 in
theorem q24_46_n (t : Nd) (ops : List Int) (g o cap : Nat) (w : World) (hop : t.op = 46) (hn : ops.length ≤ 1048576) (hcap : cap ≤ 1048576) (hv : RC w g o cap ops) (hs1 : t.name.size ≤ 1048576) (hs2 : t.qual.size ≤ 1048576) (ka : Option Addr) (kl kc : Nat) (x : Int) (l : List Int) (hl0 : l ≠ []) (he : ops = l ++ [x]) (hx : (x == 22) = false) :
    Calls Tryd.prog 24 #[ndV t (.slice ka kl kc), .slice (some ⟨g, o, none⟩) ops.length cap] w fun e w' => e = .returned (.bool ((isNm t.name && only t true false false false false) && (ops.all (· == 47) && decide ((0 : Int) < ops.length)))) ∧ Below w.heap.size w w' := by
  have hA := fun W (h : Below w.heap.size w W) => allExpr_any ops _ W hn (hv.below h).ri
  have hVO := fun W (h : Below w.heap.size w W) => valuesOK_any ops _ W hn (hv.below h).ri
  have hAL := fun (x : Int) W (h : Below w.heap.size w W) => all_any ops g o cap x W hn hcap (hv.below h)
  have hB := fun W => only_any t (.slice ka kl kc) false false false false false W
  have hD := fun W => only_any t (.slice ka kl kc) true false false false false W
  have hO := fun W => only_any t (.slice ka kl kc) false false false false false W
  have hF := fun W => flag_any t.n W
  have hG := fun W => flag_any t.m W
  have hN := fun W => isName_any t.name W hs1
  have hQ := fun W => isName_any t.qual W hs2
  have hM := fun W => maybe_any t.name W hs1
  have hMQ := fun W => maybe_any t.qual W hs2
  have hRC := fun W (h : Below w.heap.size w W) => all_any ops g o cap 47 W (by exact hn) hcap (hv.below h)
  have hll : 1 ≤ l.length := by cases l with | nil => exact absurd rfl hl0 | cons _ _ => simp
  have hlen : ops.length = l.length + 1 := by rw [he]; simp
  have cz : w.cell? ⟨g, o + l.length, none⟩ = some (.int .i64 x) := by
    have e := hv.c l.length (by omega)
    simpa [he] using e
  have hvr := fun W (h : Below w.heap.size w W) => (hv.below h).ri
  have hvc := fun W (h : Below w.heap.size w W) => (hv.below h).c
  have hg := hv.lt
  have hle := hv.le
  clear hv
  clear hvr hvc hA hVO hAL hF hG hQ hM hMQ hO
  generalize hall : (ops.all (· == 47) && decide ((0 : Int) < ops.length)) = aa at *
  generalize ops.all isE = al at *
  generalize only t false false false false false = bare at *
  generalize only t true false false false false = bnm at *
  generalize only t false false false false false = on at *
  generalize flg t.n = fn at *
  generalize flg t.m = fm at *
  generalize isNm t.name = nm at *
  generalize isNm t.qual = nq at *
  generalize mayN t.name = mnm at *
  generalize mayN t.qual = mq at *
  obtain ⟨op, name, qual, n, m, vk, vn, vs, kids, pos⟩ := t
  simp only [ndV] at *
  subst hop
  have bw0 := below_alloc w (.cells #[.int .i64 46, .string name, .string qual, .int .i64 n, .int .i64 m, .int .i64 vk, .int .i64 vn, .string vs, .slice ka kl kc, .int .i64 pos] 46)
  obtain ⟨mm, hmm⟩ : ∃ mm, l.length = mm := ⟨_, rfl⟩
  rw [hmm] at hlen hll cz
  have hmc : mm < cap := by omega
  have hci : (mm : Int) ≤ cap := by omega
  have HOL : Hid (ops.length = mm + 1) := hlen
  have hk1 : (1 : Int) < (mm : Int) + 1 := by omega
  have hk2 : (mm : Int) < (mm : Int) + 1 := by omega
  have hw1 : IntKind.i64.wrap ((mm : Int) + 1 - 1) = (mm : Int) := by simp only [IntKind.wrap_i64, wrap64]; omega
  have hw2 : IntKind.i64.wrap (mm : Int) = (mm : Int) := by simp only [IntKind.wrap_i64, wrap64]; omega
  rw [hlen]
  clear hlen
  go_enter Tryd.func24, Tryd.ntmps24
  go_wp2_with (go_at_call 44; fail)
  refine (hB _).mono ?_
  rintro e w2 ⟨rfl, hb2⟩
  obtain ⟨hc2, hf2⟩ := bcell hb2
  have hz2 : w.heap.size < w2.heap.size := (by have := hb2.size; simp at this; omega)
  have bw2 : Below w.heap.size w w2 := bw0.trans (hb2.mono (by simp))
  clear hb2
  go_wp2_with (go_at_call 16; fail)
  refine (hN _).mono ?_
  rintro e w3 ⟨rfl, hw3⟩
  replace hw3 := hw3.symm
  subst hw3
  cases nm
  · have dz := (bw2.cell (p := ⟨g, o + mm, none⟩) hg).trans cz
    go_wp2
    go_ret
    exact ⟨ret_b (by simp), bw2⟩
  · go_wp2_with (go_at_call 44; fail)
    refine (hD _).mono ?_
    rintro e w7 ⟨rfl, hb7⟩
    obtain ⟨hc7, hf7⟩ := bcell hb7
    have hz7 : w.heap.size < w7.heap.size := (by have := hb7.size; omega)
    have bw7 : Below w.heap.size w w7 := bw2.trans (hb7.mono (by omega))
    clear hb7
    have dz := (bw7.cell (p := ⟨g, o + mm, none⟩) hg).trans cz
    cases bnm
    · go_wp2
      go_ret
      exact ⟨ret_b (by simp), bw7⟩
    · have hR7 := hRC _ bw7
      rw [HOL.out] at hR7
      clear hRC
      go_wp2_with (go_at_call 51; fail)
      refine hR7.mono ?_
      rintro e w8 ⟨rfl, hw8⟩
      replace hw8 := hw8.symm
      subst hw8
      go_wp2
      go_ret
      exact ⟨ret_b (by first | (simp; done) | (rw [hall]; simp)), bw7⟩
end Go.Proofs.YtghdjagomdgnfaaDoor
namespace Go.Proofs.YtghdjagomdgnfaaDoor
open Go.ChangeShapes Go.WideShapes Go.ChangeAt Go.RowKit
set_option linter.unusedVariables false
set_option linter.unusedSimpArgs false
set_option maxRecDepth 100000
set_option maxHeartbeats 8000000 in
theorem q24_47 (t : Nd) (ops : List Int) (g o cap : Nat) (w : World) (hop : t.op = 47) (hn : ops.length ≤ 1048576) (hcap : cap ≤ 1048576) (hv : RC w g o cap ops) (hs1 : t.name.size ≤ 1048576) (hs2 : t.qual.size ≤ 1048576) (ka : Option Addr) (kl kc : Nat) :
    Calls Tryd.prog 24 #[ndV t (.slice ka kl kc), .slice (some ⟨g, o, none⟩) ops.length cap] w fun e w' => e = .returned (.bool ((isNm t.name && only t true false false false false) && ((ops.length : Int) == 1) && (ops.all isV && decide (1 ≤ (ops.length : Int))))) ∧ Below w.heap.size w w' := by
  have hA := fun W (h : Below w.heap.size w W) => allExpr_any ops _ W hn (hv.below h).ri
  have hVO := fun W (h : Below w.heap.size w W) => valuesOK_any ops _ W hn (hv.below h).ri
  have hAL := fun (x : Int) W (h : Below w.heap.size w W) => all_any ops g o cap x W hn hcap (hv.below h)
  have hB := fun W => only_any t (.slice ka kl kc) false false false false false W
  have hD := fun W => only_any t (.slice ka kl kc) true false false false false W
  have hO := fun W => only_any t (.slice ka kl kc) false false false false false W
  have hF := fun W => flag_any t.n W
  have hG := fun W => flag_any t.m W
  have hN := fun W => isName_any t.name W hs1
  have hQ := fun W => isName_any t.qual W hs2
  have hM := fun W => maybe_any t.name W hs1
  have hMQ := fun W => maybe_any t.qual W hs2
  clear hv
  generalize ops.all isE = al at *
  generalize only t false false false false false = bare at *
  generalize only t true false false false false = bnm at *
  generalize only t false false false false false = on at *
  generalize flg t.n = fn at *
  generalize flg t.m = fm at *
  generalize isNm t.name = nm at *
  generalize isNm t.qual = nq at *
  generalize mayN t.name = mnm at *
  generalize mayN t.qual = mq at *
  obtain ⟨op, name, qual, n, m, vk, vn, vs, kids, pos⟩ := t
  simp only [ndV] at *
  subst hop
  have bw0 := below_alloc w (.cells #[.int .i64 47, .string name, .string qual, .int .i64 n, .int .i64 m, .int .i64 vk, .int .i64 vn, .string vs, .slice ka kl kc, .int .i64 pos] 46)
  go_enter Tryd.func24, Tryd.ntmps24
  go_wp2_with (go_at_call 44; fail)
  refine (hB _).mono ?_
  rintro e w2 ⟨rfl, hb2⟩
  obtain ⟨hc2, hf2⟩ := bcell hb2
  have hz2 : w.heap.size < w2.heap.size := (by have := hb2.size; simp at this; omega)
  have bw2 : Below w.heap.size w w2 := bw0.trans (hb2.mono (by simp))
  clear hb2
  go_wp2_with (go_at_call 16; fail)
  refine (hN _).mono ?_
  rintro e w3 ⟨rfl, rfl⟩
  cases nm
  · go_wp2_with (first | (go_at_call 43; refine (hA _ (by assumption)).mono ?_; rintro e w1 ⟨rfl, rfl⟩) | (go_at_call 52; refine (hVO _ (by assumption)).mono ?_; rintro e w1 ⟨rfl, rfl⟩) | (go_at_call 51; refine (hAL _ _ (by assumption)).mono ?_; rintro e w1 ⟨rfl, rfl⟩) | (go_at_call 16; refine (hN _).mono ?_; rintro e w3 ⟨rfl, rfl⟩) | (go_at_call 16; refine (hQ _).mono ?_; rintro e w3 ⟨rfl, rfl⟩) | (go_at_call 46; refine (hM _).mono ?_; rintro e w3 ⟨rfl, rfl⟩) | (go_at_call 46; refine (hMQ _).mono ?_; rintro e w3 ⟨rfl, rfl⟩) | (go_at_call 47; refine (hF _).mono ?_; rintro e w4 ⟨rfl, rfl⟩) | (go_at_call 47; refine (hG _).mono ?_; rintro e w4 ⟨rfl, rfl⟩) | (go_at_call 44; refine (hO _).mono ?_; rintro e w6 ⟨rfl, hb6⟩; obtain ⟨hc6, hf6⟩ := bcell hb6; have hz6 : w.heap.size < w6.heap.size := (by have := hb6.size; omega); have bw6 : Below w.heap.size w w6 := bw2.trans (hb6.mono (by omega)); clear hb6))
    all_goals
      go_ret
      refine ⟨ret_b ?_, by first | exact bw6 | exact bw2⟩
      first | (simp_all; done) | (simp_all; omega) | grind
  · go_wp2_with (go_at_call 44; fail)
    refine (hD _).mono ?_
    rintro e w7 ⟨rfl, hb7⟩
    obtain ⟨hc7, hf7⟩ := bcell hb7
    have hz7 : w.heap.size < w7.heap.size := (by have := hb7.size; omega)
    have bw7 : Below w.heap.size w w7 := bw2.trans (hb7.mono (by omega))
    clear hb7
    go_wp2_with (first | (go_at_call 43; refine (hA _ (by assumption)).mono ?_; rintro e w1 ⟨rfl, rfl⟩) | (go_at_call 52; refine (hVO _ (by assumption)).mono ?_; rintro e w1 ⟨rfl, rfl⟩) | (go_at_call 51; refine (hAL _ _ (by assumption)).mono ?_; rintro e w1 ⟨rfl, rfl⟩) | (go_at_call 16; refine (hN _).mono ?_; rintro e w3 ⟨rfl, rfl⟩) | (go_at_call 16; refine (hQ _).mono ?_; rintro e w3 ⟨rfl, rfl⟩) | (go_at_call 46; refine (hM _).mono ?_; rintro e w3 ⟨rfl, rfl⟩) | (go_at_call 46; refine (hMQ _).mono ?_; rintro e w3 ⟨rfl, rfl⟩) | (go_at_call 47; refine (hF _).mono ?_; rintro e w4 ⟨rfl, rfl⟩) | (go_at_call 47; refine (hG _).mono ?_; rintro e w4 ⟨rfl, rfl⟩) | (go_at_call 44; refine (hO _).mono ?_; rintro e w6 ⟨rfl, hb6⟩; obtain ⟨hc6, hf6⟩ := bcell hb6; have hz6 : w.heap.size < w6.heap.size := (by have := hb6.size; omega); have bw6 : Below w.heap.size w w6 := bw7.trans (hb6.mono (by omega)); clear hb6))
    all_goals
      go_ret
      refine ⟨ret_b ?_, by first | exact bw6 | exact bw7⟩
      first | (simp_all; done) | (simp_all; omega) | grind
end Go.Proofs.YtghdjagomdgnfaaDoor
namespace Go.Proofs.YtghdjagomdgnfaaDoor
open Go.ChangeShapes Go.WideShapes Go.ChangeAt Go.RowKit
set_option linter.unusedVariables false
set_option linter.unusedSimpArgs false
set_option maxRecDepth 100000
set_option maxHeartbeats 8000000 in
theorem q24_48 (t : Nd) (ops : List Int) (g o cap : Nat) (w : World) (hop : t.op = 48) (hn : ops.length ≤ 1048576) (hcap : cap ≤ 1048576) (hv : RC w g o cap ops) (hs1 : t.name.size ≤ 1048576) (hs2 : t.qual.size ≤ 1048576) (ka : Option Addr) (kl kc : Nat) :
    Calls Tryd.prog 24 #[ndV t (.slice ka kl kc), .slice (some ⟨g, o, none⟩) ops.length cap] w fun e w' => e = .returned (.bool ((isNm t.name && only t true false false false false) && someL [22] ops 0)) ∧ Below w.heap.size w w' := by
  have hA := fun W (h : Below w.heap.size w W) => allExpr_any ops _ W hn (hv.below h).ri
  have hVO := fun W (h : Below w.heap.size w W) => valuesOK_any ops _ W hn (hv.below h).ri
  have hAL := fun (x : Int) W (h : Below w.heap.size w W) => all_any ops g o cap x W hn hcap (hv.below h)
  have hB := fun W => only_any t (.slice ka kl kc) false false false false false W
  have hD := fun W => only_any t (.slice ka kl kc) true false false false false W
  have hO := fun W => only_any t (.slice ka kl kc) false false false false false W
  have hF := fun W => flag_any t.n W
  have hG := fun W => flag_any t.m W
  have hN := fun W => isName_any t.name W hs1
  have hQ := fun W => isName_any t.qual W hs2
  have hM := fun W => maybe_any t.name W hs1
  have hMQ := fun W => maybe_any t.qual W hs2
  have hvr := fun W (h : Below w.heap.size w W) => (hv.below h).ri
  have hvc := fun W (h : Below w.heap.size w W) => (hv.below h).c
  have hg := hv.lt
  have hle := hv.le
  clear hv
  generalize ops.all isE = al at *
  generalize only t false false false false false = bare at *
  generalize only t true false false false false = bnm at *
  generalize only t false false false false false = on at *
  generalize flg t.n = fn at *
  generalize flg t.m = fm at *
  generalize isNm t.name = nm at *
  generalize isNm t.qual = nq at *
  generalize mayN t.name = mnm at *
  generalize mayN t.qual = mq at *
  obtain ⟨op, name, qual, n, m, vk, vn, vs, kids, pos⟩ := t
  simp only [ndV] at *
  subst hop
  have bw0 := below_alloc w (.cells #[.int .i64 48, .string name, .string qual, .int .i64 n, .int .i64 m, .int .i64 vk, .int .i64 vn, .string vs, .slice ka kl kc, .int .i64 pos] 46)
  go_enter Tryd.func24, Tryd.ntmps24
  go_wp2_with (go_at_call 44; fail)
  refine (hB _).mono ?_
  rintro e w2 ⟨rfl, hb2⟩
  obtain ⟨hc2, hf2⟩ := bcell hb2
  have hz2 : w.heap.size < w2.heap.size := (by have := hb2.size; simp at this; omega)
  have bw2 : Below w.heap.size w w2 := bw0.trans (hb2.mono (by simp))
  clear hb2
  go_wp2_with (go_at_call 16; fail)
  refine (hN _).mono ?_
  rintro e w3 ⟨rfl, rfl⟩
  cases nm
  · go_wp2
    go_ret
    exact ⟨ret_b (by simp), bw2⟩
  · go_wp2_with (go_at_call 44; fail)
    refine (hD _).mono ?_
    rintro e w7 ⟨rfl, hb7⟩
    obtain ⟨hc7, hf7⟩ := bcell hb7
    have hz7 : w.heap.size < w7.heap.size := (by have := hb7.size; omega)
    have bw7 : Below w.heap.size w w7 := bw2.trans (hb7.mono (by omega))
    clear hb7
    cases bnm
    · go_wp2
      go_ret
      exact ⟨ret_b (by simp), bw7⟩
    · have hcn := fun W u (h : Below w.heap.size w W) (hu : RI W u [22]) => some_any ops [22] (.slice (some ⟨g, o, none⟩) ops.length cap) u W hn (by simp) (hvr W h) hu
      generalize hsm : someL [22] ops 0 = sm at *
      go_wp2_with (go_at_call 49; fail)
      refine (hcn _ _ ?_ ?_).mono ?_
      · exact (by (go_light; repeat (first | with_reducible assumption | with_reducible exact Below.refl _ _ | (with_reducible refine Below.setCell ?_ ?_ _; rotate_left; (focus first | (simp; done) | (simp; omega) | omega)) | (with_reducible refine Below.alloc ?_ ?_ _; rotate_left; (focus first | (simp; done) | (simp; omega) | omega)) | with_reducible refine Below.drew ?_)))
      · exact ri1 _ _ _ _ (by simp)
      rintro e w8 ⟨rfl, rfl⟩
      go_wp2
      go_ret
      exact ⟨ret_b (by rw [hsm]; simp), by (go_light; repeat (first | with_reducible assumption | with_reducible exact Below.refl _ _ | (with_reducible refine Below.setCell ?_ ?_ _; rotate_left; (focus first | (simp; done) | (simp; omega) | omega)) | (with_reducible refine Below.alloc ?_ ?_ _; rotate_left; (focus first | (simp; done) | (simp; omega) | omega)) | with_reducible refine Below.drew ?_))⟩
end Go.Proofs.YtghdjagomdgnfaaDoor
namespace Go.Proofs.YtghdjagomdgnfaaDoor
open Go.ChangeShapes Go.WideShapes Go.ChangeAt Go.RowKit
set_option linter.unusedVariables false
set_option linter.unusedSimpArgs false
set_option maxRecDepth 100000
def is49 (x : Int) : Bool := x == 50 || x == 52 || x == 53 || x == 54
set_option maxHeartbeats 8000000 in
theorem q24_49 (t : Nd) (ops : List Int) (g o cap : Nat) (w : World) (hop : t.op = 49) (hn : ops.length ≤ 1048576) (hcap : cap ≤ 1048576) (hv : RC w g o cap ops) (hs1 : t.name.size ≤ 1048576) (hs2 : t.qual.size ≤ 1048576) (ka : Option Addr) (kl kc : Nat) :
    Calls Tryd.prog 24 #[ndV t (.slice ka kl kc), .slice (some ⟨g, o, none⟩) ops.length cap] w fun e w' => e = .returned (.bool (ops.all is49 && (isNm t.name && only t true false false false false) && decide (1 ≤ (ops.length : Int)))) ∧ Below w.heap.size w w' := by
  have hA := fun W (h : Below w.heap.size w W) => allExpr_any ops _ W hn (hv.below h).ri
  have hVO := fun W (h : Below w.heap.size w W) => valuesOK_any ops _ W hn (hv.below h).ri
  have hAL := fun (x : Int) W (h : Below w.heap.size w W) => all_any ops g o cap x W hn hcap (hv.below h)
  have hB := fun W => only_any t (.slice ka kl kc) false false false false false W
  have hD := fun W => only_any t (.slice ka kl kc) true false false false false W
  have hO := fun W => only_any t (.slice ka kl kc) false false false false false W
  have hF := fun W => flag_any t.n W
  have hG := fun W => flag_any t.m W
  have hN := fun W => isName_any t.name W hs1
  have hQ := fun W => isName_any t.qual W hs2
  have hM := fun W => maybe_any t.name W hs1
  have hMQ := fun W => maybe_any t.qual W hs2
  have hvr := fun W (h : Below w.heap.size w W) => (hv.below h).ri
  have hvc := fun W (h : Below w.heap.size w W) => (hv.below h).c
  have hg := hv.lt
  have hle := hv.le
  clear hv
  generalize ops.all isE = al at *
  generalize only t false false false false false = bare at *
  generalize only t true false false false false = bnm at *
  generalize only t false false false false false = on at *
  generalize flg t.n = fn at *
  generalize flg t.m = fm at *
  generalize isNm t.name = nm at *
  generalize isNm t.qual = nq at *
  generalize mayN t.name = mnm at *
  generalize mayN t.qual = mq at *
  obtain ⟨op, name, qual, n, m, vk, vn, vs, kids, pos⟩ := t
  simp only [ndV] at *
  subst hop
  have bw0 := below_alloc w (.cells #[.int .i64 49, .string name, .string qual, .int .i64 n, .int .i64 m, .int .i64 vk, .int .i64 vn, .string vs, .slice ka kl kc, .int .i64 pos] 46)
  go_enter Tryd.func24, Tryd.ntmps24
  go_wp2_with (go_at_call 44; fail)
  refine (hB _).mono ?_
  rintro e w2 ⟨rfl, hb2⟩
  obtain ⟨hc2, hf2⟩ := bcell hb2
  have hz2 : w.heap.size < w2.heap.size := (by have := hb2.size; simp at this; omega)
  have bw2 : Below w.heap.size w w2 := bw0.trans (hb2.mono (by simp))
  clear hb2
  go_wp2_with (go_at_call 16; fail)
  refine (hN _).mono ?_
  rintro e w3 ⟨rfl, hw3⟩
  replace hw3 := hw3.symm
  subst hw3
  cases nm
  · have hcc := hvc _ bw2
    clear hvc hvr hA hVO hAL hO hF hG hN hQ hM hMQ hB hD
    go_wp2
    clear hc2 hf2
    go_loopw [138] (fun i wr => ∃ k : Nat, k ≤ ops.length ∧ i = .int .i64 k ∧ Hid ((ops.take k).all is49 = true) ∧ wr = w2) (fun i _ => ops.length - (intOf i).toNat)
    case atStart => exact ⟨0, Nat.zero_le _, rfl, (by simp : (ops.take 0).all is49 = true), rfl⟩
    case round =>
      obtain ⟨k, hk, rfl, HA, rfl⟩ := hrel
      by_cases hlt : k < ops.length
      · have hlti : (k : Int) < ops.length := by omega
        have c0 := hcc k hlt
        have HY : Hid (is49 ops[k] = true → (ops.take (k + 1)).all is49 = true) := fun h => take_all hlt HA.out h
        have HN : Hid (is49 ops[k] = false → ops.all is49 = false) := fun h => not_all hlt h
        clear HA hcc
        generalize ops[k] = x at *
        cases h50 : (x == 50) <;> cases h52 : (x == 52) <;> cases h53 : (x == 53) <;> cases h54 : (x == 54)
        all_goals
          have t50 : (x != 50) = !(x == 50) := rfl
          have t52 : (x != 52) = !(x == 52) := rfl
          have t53 : (x != 53) = !(x == 53) := rfl
          have t54 : (x != 54) = !(x == 54) := rfl
          rw [h50] at t50
          rw [h52] at t52
          rw [h53] at t53
          rw [h54] at t54
          simp only [Bool.not_true, Bool.not_false] at t50 t52 t53 t54
          first
          | (have HY2 : Hid ((ops.take (k + 1)).all is49 = true) := HY.out (by simp [is49, h50, h52, h53, h54])
             go_wp2
             go_roundw
             case rel => exact ⟨k + 1, by omega, by go_num, HY2, by first | rfl | trivial⟩
             case measure => simp [intOf]; omega)
          | (have HN2 : Hid (ops.all is49 = false) := HN.out (by simp [is49, h50, h52, h53, h54])
             go_wp2
             go_ret
             exact ⟨ret_b (by rw [HN2.out]; simp), bw2⟩)
      · have hkn : k = ops.length := by omega
        subst hkn
        have hlti : ¬ (ops.length : Int) < ops.length := by omega
        rw [List.take_length] at HA
        cases hd : decide (1 ≤ (ops.length : Int)) <;> cases bnm
        all_goals
          have hd2 := hd
          simp only [decide_eq_false_iff_not, decide_eq_true_eq] at hd2
          go_wp2
          go_ret
          exact ⟨ret_b (by first | rfl | exact HA.out.symm | (simp [HA.out]; done) | (simp [HA.out, hd]; done)), bw2⟩
  · go_wp2_with (go_at_call 44; fail)
    refine (hD _).mono ?_
    rintro e w7 ⟨rfl, hb7⟩
    obtain ⟨hc7, hf7⟩ := bcell hb7
    have hz7 : w.heap.size < w7.heap.size := (by have := hb7.size; omega)
    have bw7 : Below w.heap.size w w7 := bw2.trans (hb7.mono (by omega))
    clear hb7
    have hcc := hvc _ bw7
    clear hvc hvr hA hVO hAL hO hF hG hN hQ hM hMQ hB hD
    go_wp2
    clear hc2 hf2 hc7 hf7
    go_loopw [138] (fun i wr => ∃ k : Nat, k ≤ ops.length ∧ i = .int .i64 k ∧ Hid ((ops.take k).all is49 = true) ∧ wr = w7) (fun i _ => ops.length - (intOf i).toNat)
    case atStart => exact ⟨0, Nat.zero_le _, rfl, (by simp : (ops.take 0).all is49 = true), rfl⟩
    case round =>
      obtain ⟨k, hk, rfl, HA, rfl⟩ := hrel
      by_cases hlt : k < ops.length
      · have hlti : (k : Int) < ops.length := by omega
        have c0 := hcc k hlt
        have HY : Hid (is49 ops[k] = true → (ops.take (k + 1)).all is49 = true) := fun h => take_all hlt HA.out h
        have HN : Hid (is49 ops[k] = false → ops.all is49 = false) := fun h => not_all hlt h
        clear HA hcc
        generalize ops[k] = x at *
        cases h50 : (x == 50) <;> cases h52 : (x == 52) <;> cases h53 : (x == 53) <;> cases h54 : (x == 54)
        all_goals
          have t50 : (x != 50) = !(x == 50) := rfl
          have t52 : (x != 52) = !(x == 52) := rfl
          have t53 : (x != 53) = !(x == 53) := rfl
          have t54 : (x != 54) = !(x == 54) := rfl
          rw [h50] at t50
          rw [h52] at t52
          rw [h53] at t53
          rw [h54] at t54
          simp only [Bool.not_true, Bool.not_false] at t50 t52 t53 t54
          first
          | (have HY2 : Hid ((ops.take (k + 1)).all is49 = true) := HY.out (by simp [is49, h50, h52, h53, h54])
             go_wp2
             go_roundw
             case rel => exact ⟨k + 1, by omega, by go_num, HY2, by first | rfl | trivial⟩
             case measure => simp [intOf]; omega)
          | (have HN2 : Hid (ops.all is49 = false) := HN.out (by simp [is49, h50, h52, h53, h54])
             go_wp2
             go_ret
             exact ⟨ret_b (by rw [HN2.out]; simp), bw7⟩)
      · have hkn : k = ops.length := by omega
        subst hkn
        have hlti : ¬ (ops.length : Int) < ops.length := by omega
        rw [List.take_length] at HA
        cases hd : decide (1 ≤ (ops.length : Int)) <;> cases bnm
        all_goals
          have hd2 := hd
          simp only [decide_eq_false_iff_not, decide_eq_true_eq] at hd2
          go_wp2
          go_ret
          exact ⟨ret_b (by first | rfl | exact HA.out.symm | (simp [HA.out]; done) | (simp [HA.out, hd]; done)), bw7⟩
end Go.Proofs.YtghdjagomdgnfaaDoor
namespace Go.Proofs.YtghdjagomdgnfaaDoor
open Go.ChangeShapes Go.WideShapes Go.ChangeAt Go.RowKit
set_option linter.unusedVariables false
set_option linter.unusedSimpArgs false
set_option maxRecDepth 100000
def is50 (x : Int) : Bool := x == 51 || x == 52
set_option maxHeartbeats 8000000 in
theorem q24_50 (t : Nd) (ops : List Int) (g o cap : Nat) (w : World) (hop : t.op = 50) (hn : ops.length ≤ 1048576) (hcap : cap ≤ 1048576) (hv : RC w g o cap ops) (hs1 : t.name.size ≤ 1048576) (hs2 : t.qual.size ≤ 1048576) (ka : Option Addr) (kl kc : Nat) :
    Calls Tryd.prog 24 #[ndV t (.slice ka kl kc), .slice (some ⟨g, o, none⟩) ops.length cap] w fun e w' => e = .returned (.bool (ops.all is50 && isNm t.name && decide (1 ≤ t.n) && decide (t.n ≤ 5) && decide (0 ≤ t.m) && decide (t.m ≤ 7) && only t true false true true false)) ∧ Below w.heap.size w w' := by
  have hA := fun W (h : Below w.heap.size w W) => allExpr_any ops _ W hn (hv.below h).ri
  have hVO := fun W (h : Below w.heap.size w W) => valuesOK_any ops _ W hn (hv.below h).ri
  have hAL := fun (x : Int) W (h : Below w.heap.size w W) => all_any ops g o cap x W hn hcap (hv.below h)
  have hB := fun W => only_any t (.slice ka kl kc) false false false false false W
  have hD := fun W => only_any t (.slice ka kl kc) true false false false false W
  have hO := fun W => only_any t (.slice ka kl kc) true false true true false W
  have hF := fun W => flag_any t.n W
  have hG := fun W => flag_any t.m W
  have hN := fun W => isName_any t.name W hs1
  have hQ := fun W => isName_any t.qual W hs2
  have hM := fun W => maybe_any t.name W hs1
  have hMQ := fun W => maybe_any t.qual W hs2
  have hvr := fun W (h : Below w.heap.size w W) => (hv.below h).ri
  have hvc := fun W (h : Below w.heap.size w W) => (hv.below h).c
  have hg := hv.lt
  have hle := hv.le
  clear hv
  generalize ops.all isE = al at *
  generalize only t false false false false false = bare at *
  generalize only t true false false false false = bnm at *
  generalize only t true false true true false = on at *
  generalize flg t.n = fn at *
  generalize flg t.m = fm at *
  generalize isNm t.name = nm at *
  generalize isNm t.qual = nq at *
  generalize mayN t.name = mnm at *
  generalize mayN t.qual = mq at *
  obtain ⟨op, name, qual, n, m, vk, vn, vs, kids, pos⟩ := t
  simp only [ndV] at *
  subst hop
  have bw0 := below_alloc w (.cells #[.int .i64 50, .string name, .string qual, .int .i64 n, .int .i64 m, .int .i64 vk, .int .i64 vn, .string vs, .slice ka kl kc, .int .i64 pos] 46)
  go_enter Tryd.func24, Tryd.ntmps24
  go_wp2_with (go_at_call 44; fail)
  refine (hB _).mono ?_
  rintro e w2 ⟨rfl, hb2⟩
  obtain ⟨hc2, hf2⟩ := bcell hb2
  have hz2 : w.heap.size < w2.heap.size := (by have := hb2.size; simp at this; omega)
  have bw2 : Below w.heap.size w w2 := bw0.trans (hb2.mono (by simp))
  clear hb2
  go_wp2_with (go_at_call 16; fail)
  refine (hN _).mono ?_
  rintro e w3 ⟨rfl, hw3⟩
  replace hw3 := hw3.symm
  subst hw3
  cases nm
  · have n0 : w2.cell? ⟨w.heap.size, 0, none⟩ = some (.int .i64 50) := (hc2 w.heap.size 0 (by simp)).trans (by simp)
    have n1 : w2.cell? ⟨w.heap.size, 1, none⟩ = some (.string name) := (hc2 w.heap.size 1 (by simp)).trans (by simp)
    have n2 : w2.cell? ⟨w.heap.size, 2, none⟩ = some (.string qual) := (hc2 w.heap.size 2 (by simp)).trans (by simp)
    have n3 : w2.cell? ⟨w.heap.size, 3, none⟩ = some (.int .i64 n) := (hc2 w.heap.size 3 (by simp)).trans (by simp)
    have n4 : w2.cell? ⟨w.heap.size, 4, none⟩ = some (.int .i64 m) := (hc2 w.heap.size 4 (by simp)).trans (by simp)
    have n5 : w2.cell? ⟨w.heap.size, 5, none⟩ = some (.int .i64 vk) := (hc2 w.heap.size 5 (by simp)).trans (by simp)
    have n6 : w2.cell? ⟨w.heap.size, 6, none⟩ = some (.int .i64 vn) := (hc2 w.heap.size 6 (by simp)).trans (by simp)
    have n7 : w2.cell? ⟨w.heap.size, 7, none⟩ = some (.string vs) := (hc2 w.heap.size 7 (by simp)).trans (by simp)
    have n8 : w2.cell? ⟨w.heap.size, 8, none⟩ = some (.slice ka kl kc) := (hc2 w.heap.size 8 (by simp)).trans (by simp)
    have n9 : w2.cell? ⟨w.heap.size, 9, none⟩ = some (.int .i64 pos) := (hc2 w.heap.size 9 (by simp)).trans (by simp)
    have hcc := hvc _ bw2
    clear hvc hvr hA hVO hAL hF hG hQ hM hMQ hB hD
    go_wp2
    clear hc2 hf2
    go_loopw [166] (fun i wr => ∃ k : Nat, k ≤ ops.length ∧ i = .int .i64 k ∧ Hid ((ops.take k).all is50 = true) ∧ wr = w2) (fun i _ => ops.length - (intOf i).toNat)
    case atStart => exact ⟨0, Nat.zero_le _, rfl, (by simp : (ops.take 0).all is50 = true), rfl⟩
    case round =>
      obtain ⟨k, hk, rfl, HA, rfl⟩ := hrel
      by_cases hlt : k < ops.length
      · have hlti : (k : Int) < ops.length := by omega
        have c0 := hcc k hlt
        have HY : Hid (is50 ops[k] = true → (ops.take (k + 1)).all is50 = true) := fun h => take_all hlt HA.out h
        have HN : Hid (is50 ops[k] = false → ops.all is50 = false) := fun h => not_all hlt h
        clear HA hcc
        generalize ops[k] = x at *
        cases h51 : (x == 51) <;> cases h52 : (x == 52)
        all_goals
          have t51 : (x != 51) = !(x == 51) := rfl
          have t52 : (x != 52) = !(x == 52) := rfl
          rw [h51] at t51
          rw [h52] at t52
          simp only [Bool.not_true, Bool.not_false] at t51 t52
          first
          | (have HY2 : Hid ((ops.take (k + 1)).all is50 = true) := HY.out (by simp [is50, h51, h52])
             go_wp2
             go_roundw
             case rel => exact ⟨k + 1, by omega, by go_num, HY2, by first | rfl | trivial⟩
             case measure => simp [intOf]; omega)
          | (have HN2 : Hid (ops.all is50 = false) := HN.out (by simp [is50, h51, h52])
             go_wp2
             go_ret
             exact ⟨ret_b (by rw [HN2.out]; simp), bw2⟩)
      · have hkn : k = ops.length := by omega
        subst hkn
        have hlti : ¬ (ops.length : Int) < ops.length := by omega
        rw [List.take_length] at HA
        go_wp2_with (go_at_call 16; fail)
        refine (hN _).mono ?_
        rintro e w9 ⟨rfl, hw9⟩
        replace hw9 := hw9.symm
        subst hw9
        go_wp2
        go_ret
        exact ⟨ret_b (by simp), bw2⟩
  · go_wp2_with (go_at_call 44; fail)
    refine (hD _).mono ?_
    rintro e w7 ⟨rfl, hb7⟩
    obtain ⟨hc7, hf7⟩ := bcell hb7
    have hz7 : w.heap.size < w7.heap.size := (by have := hb7.size; omega)
    have bw7 : Below w.heap.size w w7 := bw2.trans (hb7.mono (by omega))
    clear hb7
    have n0 : w2.cell? ⟨w.heap.size, 0, none⟩ = some (.int .i64 50) := (hc2 w.heap.size 0 (by simp)).trans (by simp)
    have n1 : w2.cell? ⟨w.heap.size, 1, none⟩ = some (.string name) := (hc2 w.heap.size 1 (by simp)).trans (by simp)
    have n2 : w2.cell? ⟨w.heap.size, 2, none⟩ = some (.string qual) := (hc2 w.heap.size 2 (by simp)).trans (by simp)
    have n3 : w2.cell? ⟨w.heap.size, 3, none⟩ = some (.int .i64 n) := (hc2 w.heap.size 3 (by simp)).trans (by simp)
    have n4 : w2.cell? ⟨w.heap.size, 4, none⟩ = some (.int .i64 m) := (hc2 w.heap.size 4 (by simp)).trans (by simp)
    have n5 : w2.cell? ⟨w.heap.size, 5, none⟩ = some (.int .i64 vk) := (hc2 w.heap.size 5 (by simp)).trans (by simp)
    have n6 : w2.cell? ⟨w.heap.size, 6, none⟩ = some (.int .i64 vn) := (hc2 w.heap.size 6 (by simp)).trans (by simp)
    have n7 : w2.cell? ⟨w.heap.size, 7, none⟩ = some (.string vs) := (hc2 w.heap.size 7 (by simp)).trans (by simp)
    have n8 : w2.cell? ⟨w.heap.size, 8, none⟩ = some (.slice ka kl kc) := (hc2 w.heap.size 8 (by simp)).trans (by simp)
    have n9 : w2.cell? ⟨w.heap.size, 9, none⟩ = some (.int .i64 pos) := (hc2 w.heap.size 9 (by simp)).trans (by simp)
    have m0 : w7.cell? ⟨w.heap.size, 0, none⟩ = some (.int .i64 50) := (hc7 w.heap.size 0 hz2).trans n0
    have m1 : w7.cell? ⟨w.heap.size, 1, none⟩ = some (.string name) := (hc7 w.heap.size 1 hz2).trans n1
    have m2 : w7.cell? ⟨w.heap.size, 2, none⟩ = some (.string qual) := (hc7 w.heap.size 2 hz2).trans n2
    have m3 : w7.cell? ⟨w.heap.size, 3, none⟩ = some (.int .i64 n) := (hc7 w.heap.size 3 hz2).trans n3
    have m4 : w7.cell? ⟨w.heap.size, 4, none⟩ = some (.int .i64 m) := (hc7 w.heap.size 4 hz2).trans n4
    have m5 : w7.cell? ⟨w.heap.size, 5, none⟩ = some (.int .i64 vk) := (hc7 w.heap.size 5 hz2).trans n5
    have m6 : w7.cell? ⟨w.heap.size, 6, none⟩ = some (.int .i64 vn) := (hc7 w.heap.size 6 hz2).trans n6
    have m7 : w7.cell? ⟨w.heap.size, 7, none⟩ = some (.string vs) := (hc7 w.heap.size 7 hz2).trans n7
    have m8 : w7.cell? ⟨w.heap.size, 8, none⟩ = some (.slice ka kl kc) := (hc7 w.heap.size 8 hz2).trans n8
    have m9 : w7.cell? ⟨w.heap.size, 9, none⟩ = some (.int .i64 pos) := (hc7 w.heap.size 9 hz2).trans n9
    clear n0 n1 n2 n3 n4 n5 n6 n7 n8 n9
    have hcc := hvc _ bw7
    clear hvc hvr hA hVO hAL hF hG hQ hM hMQ hB hD
    go_wp2
    clear hc2 hf2 hc7 hf7
    go_loopw [166] (fun i wr => ∃ k : Nat, k ≤ ops.length ∧ i = .int .i64 k ∧ Hid ((ops.take k).all is50 = true) ∧ wr = w7) (fun i _ => ops.length - (intOf i).toNat)
    case atStart => exact ⟨0, Nat.zero_le _, rfl, (by simp : (ops.take 0).all is50 = true), rfl⟩
    case round =>
      obtain ⟨k, hk, rfl, HA, rfl⟩ := hrel
      by_cases hlt : k < ops.length
      · have hlti : (k : Int) < ops.length := by omega
        have c0 := hcc k hlt
        have HY : Hid (is50 ops[k] = true → (ops.take (k + 1)).all is50 = true) := fun h => take_all hlt HA.out h
        have HN : Hid (is50 ops[k] = false → ops.all is50 = false) := fun h => not_all hlt h
        clear HA hcc
        generalize ops[k] = x at *
        cases h51 : (x == 51) <;> cases h52 : (x == 52)
        all_goals
          have t51 : (x != 51) = !(x == 51) := rfl
          have t52 : (x != 52) = !(x == 52) := rfl
          rw [h51] at t51
          rw [h52] at t52
          simp only [Bool.not_true, Bool.not_false] at t51 t52
          first
          | (have HY2 : Hid ((ops.take (k + 1)).all is50 = true) := HY.out (by simp [is50, h51, h52])
             go_wp2
             go_roundw
             case rel => exact ⟨k + 1, by omega, by go_num, HY2, by first | rfl | trivial⟩
             case measure => simp [intOf]; omega)
          | (have HN2 : Hid (ops.all is50 = false) := HN.out (by simp [is50, h51, h52])
             go_wp2
             go_ret
             exact ⟨ret_b (by rw [HN2.out]; simp), bw7⟩)
      · have hkn : k = ops.length := by omega
        subst hkn
        have hlti : ¬ (ops.length : Int) < ops.length := by omega
        rw [List.take_length] at HA
        go_wp2_with (go_at_call 16; fail)
        refine (hN _).mono ?_
        rintro e w9 ⟨rfl, hw9⟩
        replace hw9 := hw9.symm
        subst hw9
        cases r0 : decide (1 ≤ n)
        · have q0 : ¬ 1 ≤ n := of_decide_eq_false r0
          go_wp2
          go_ret
          exact ⟨ret_b (by rw [HA.out, r0]; simp), bw7⟩
        have q0 : 1 ≤ n := of_decide_eq_true r0
        cases r1 : decide (n ≤ 5)
        · have q1 : ¬ n ≤ 5 := of_decide_eq_false r1
          go_wp2
          go_ret
          exact ⟨ret_b (by rw [HA.out, r1]; simp), bw7⟩
        have q1 : n ≤ 5 := of_decide_eq_true r1
        cases r2 : decide (0 ≤ m)
        · have q2 : ¬ 0 ≤ m := of_decide_eq_false r2
          go_wp2
          go_ret
          exact ⟨ret_b (by rw [HA.out, r2]; simp), bw7⟩
        have q2 : 0 ≤ m := of_decide_eq_true r2
        cases r3 : decide (m ≤ 7)
        · have q3 : ¬ m ≤ 7 := of_decide_eq_false r3
          go_wp2
          go_ret
          exact ⟨ret_b (by rw [HA.out, r3]; simp), bw7⟩
        have q3 : m ≤ 7 := of_decide_eq_true r3
        go_wp2_with (go_at_call 44; fail)
        refine (hO _).mono ?_
        rintro e w6 ⟨rfl, hb6⟩
        have bw6 : Below w.heap.size w w6 := bw7.trans (hb6.mono bw7.size)
        clear hb6
        go_wp2
        go_ret
        exact ⟨ret_b (by rw [HA.out, r0, r1, r2, r3]; simp), bw6⟩
end Go.Proofs.YtghdjagomdgnfaaDoor
