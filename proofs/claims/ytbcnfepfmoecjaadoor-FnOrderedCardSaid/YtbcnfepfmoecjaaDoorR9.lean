import Derived.Test.YtbcnfepfmoecjaaDoorR8
import Derived.Test.YtbcnfepfmoecjaaDoorB1
import Derived.Test.YtbcnfepfmoecjaaDoorO1
import Derived.Test.YtbcnfepfmoecjaaDoorC3
namespace Go.Proofs.YtbcnfepfmoecjaaDoor.Dr
open Go.ChangeShapes Go.WideShapes Go.ChangeAt Go.RowKit
set_option linter.unusedVariables false
set_option linter.unusedSimpArgs false
set_option maxRecDepth 100000
/-- A slice's bytes lie readable. -/
def Read (w : World) (v0 : Option Addr) (len : Nat) : Prop := ∀ j, j < len → ∃ g o b, v0 = some ⟨g, o, none⟩ ∧ g < w.heap.size ∧ w.cell? ⟨g, o + j, none⟩ = some (.int .u8 b) ∧ 0 ≤ b ∧ b < 256
theorem Read.below {w w' : World} {v0 : Option Addr} {len : Nat} (h : Read w v0 len) (hb : Below w.heap.size w w') : Read w' v0 len := fun j hj => by
  obtain ⟨g, o, b, e1, e2, e3, e4, e5⟩ := h j hj
  exact ⟨g, o, b, e1, Nat.lt_of_lt_of_le e2 hb.size, (hb.cell (p := ⟨g, o + j, none⟩) e2).trans e3, e4, e5⟩
structure V where
  k : Int
  n : Int
  s : ByteArray
def V.val (v : V) : Value := .agg #[.int .i64 v.k, .int .i64 v.n, .string v.s]
def cmpV (x y : V) : Int × Int := cmpR x.k x.n x.s y.k y.n y.s
/-- The three values lie in a row. -/
def Row3 (w : World) (L : Nat) (v : Nat → V) : Prop := ∀ i, i < 3 → w.cell? ⟨L, i * 3, none⟩ = some (.int .i64 (v i).k) ∧ w.cell? ⟨L, i * 3 + 1, none⟩ = some (.int .i64 (v i).n) ∧ w.cell? ⟨L, i * 3 + 2, none⟩ = some (.string (v i).s)
def v3 (a b c : V) (i : Nat) : V := if i = 0 then a else if i = 1 then b else c
theorem v3_size {a b c : V} (ha : a.s.size ≤ 800) (hb : b.s.size ≤ 800) (hc : c.s.size ≤ 800) (i : Nat) : (v3 a b c i).s.size ≤ 800 := by
  unfold v3; split <;> (try split) <;> assumption
theorem Row3.below {w w' : World} {L B : Nat} {v : Nat → V} (h : Row3 w L v) (hb : Below B w w') (hL : L < B) : Row3 w' L v := fun i hi =>
  ⟨(hb.cell (p := ⟨L, i * 3, none⟩) hL).trans (h i hi).1, (hb.cell (p := ⟨L, i * 3 + 1, none⟩) hL).trans (h i hi).2.1, (hb.cell (p := ⟨L, i * 3 + 2, none⟩) hL).trans (h i hi).2.2⟩
theorem row3_new (w : World) (ka na : Int) (sa : ByteArray) (kb nb : Int) (sb : ByteArray) (kc nc : Int) (sc : ByteArray) (L : Nat) (hL : L = w.heap.size) : Row3 (w.alloc (.cells #[.int .i64 ka, .int .i64 na, .string sa, .int .i64 kb, .int .i64 nb, .string sb, .int .i64 kc, .int .i64 nc, .string sc] 26)) L (v3 ⟨ka, na, sa⟩ ⟨kb, nb, sb⟩ ⟨kc, nc, sc⟩) := by
  subst hL
  intro i hi
  have e : i = 0 ∨ i = 1 ∨ i = 2 := by omega
  rcases e with rfl | rfl | rfl <;> simp [go_sem, v3]
theorem truth26 (b : Bool) (w : World) : Calls Tryd.prog 26 #[.bool b] w fun e w' => e = .returned (.int .i64 (zB b)) ∧ w' = w := by
  cases b
  all_goals
    go_enter Tryd.func26, Tryd.ntmps26
    go_wp2
    go_ret
    exact ⟨rfl, rfl⟩
theorem cmpV_ok {x y : V} (h : (cmpV x y).2 = 0) : vok x.k x.n x.s = true ∧ vok y.k y.n y.s = true ∧ together x.k y.k = true ∧ cmpV x y = (ordV x.k x.n x.s y.k y.n y.s, 0) := by
  unfold cmpV cmpR at *
  by_cases c1 : vok x.k x.n x.s = false ∨ vok y.k y.n y.s = false
  · rw [if_pos c1] at h; cases h
  · rw [if_neg c1] at h ⊢
    by_cases c2 : together x.k y.k = false
    · rw [if_pos c2] at h; cases h
    · rw [if_neg c2]
      refine ⟨?_, ?_, ?_, rfl⟩
      · cases e : vok x.k x.n x.s with
        | true => rfl
        | false => exact absurd (.inl e) c1
      · cases e : vok y.k y.n y.s with
        | true => rfl
        | false => exact absurd (.inr e) c1
      · cases e : together x.k y.k with
        | true => rfl
        | false => exact absurd e c2
theorem cmpV_rev {x y : V} (h : (cmpV x y).2 = 0) : cmpV y x = (- ordV x.k x.n x.s y.k y.n y.s, 0) := by
  obtain ⟨h1, h2, h3, _⟩ := cmpV_ok h
  unfold cmpV cmpR
  rw [if_neg (by rw [h1, h2]; simp), if_neg (by rw [together_symm, h3]; simp), ordV_anti _ _ _ _ _ _ h3]
theorem chainB {W a b : World} (h : Below W.heap.size W a) (hb : Below a.heap.size a b) : Below W.heap.size W b := h.trans (hb.mono h.size)
set_option maxHeartbeats 8000000 in
theorem ordered_walk (v0 : Option Addr) (len cap : Nat) (v1 : Option Addr) (len' cap' : Nat) (w : World) (hl : len ≤ 1048576) (hl' : len' ≤ 1048576) (h0 : Read w v0 len) (h1 : Read w v1 len') (hT : Tabs w) :
    Calls Tryd.prog 8 #[.slice v0 len cap, .slice v1 len' cap'] w fun e w' => e = .returned (.bool true) ∧ Below w.heap.size w w' := by
  have i0 : ¬ (1048576 : Int) < len := by omega
  have i1 : ¬ (1048576 : Int) < len' := by omega
  go_enter Tryd.func8, Tryd.ntmps8
  go_wp2_with fail
  refine (drawCompare_any v0 len cap w hl h0).mono ?_
  rintro e w1 ⟨ka, na, sa, kb, nb, sb, ha, hb, rfl, bw1⟩
  have HR1 : Hid (Read w1 v1 len') := h1.below bw1
  have HT1 : Hid (Tabs w1) := tabs_below hT bw1
  have BW1 : Hid (Below w.heap.size w w1) := bw1
  clear h0 h1 hT bw1
  go_wp2_with fail
  refine (drawCompare_any v1 len' cap' _ hl' (HR1.out.below (by (go_light; repeat (first | with_reducible exact Below.refl _ _ | (with_reducible refine Below.setCell ?_ ?_ _; rotate_left; (focus first | (simp; done) | (simp; omega) | omega)) | (with_reducible refine Below.alloc ?_ ?_ _; rotate_left; (focus first | (simp; done) | (simp; omega) | omega)) | with_reducible refine Below.drew ?_))))).mono ?_
  rintro e w2 ⟨kc, nc, sc, kd, nd, sd, hc, hd, rfl, bw2⟩
  have bA : Below w1.heap.size w1 w2 := Below.trans (by (go_light; repeat (first | with_reducible exact Below.refl _ _ | (with_reducible refine Below.setCell ?_ ?_ _; rotate_left; (focus first | (simp; done) | (simp; omega) | omega)) | (with_reducible refine Below.alloc ?_ ?_ _; rotate_left; (focus first | (simp; done) | (simp; omega) | omega)) | with_reducible refine Below.drew ?_))) (bw2.mono (by simp; omega))
  have qa : Holds w2 w1.heap.size ka na sa := Holds.below ⟨by simp [go_sem], by simp [go_sem], by simp [go_sem], by simp [go_sem], by simp [go_sem], by simp [go_sem], by simp; omega⟩ bw2 (by simp; omega)
  have qb : Holds w2 (w1.heap.size + 1) kb nb sb := Holds.below ⟨by simp [go_sem], by simp [go_sem], by simp [go_sem], by simp [go_sem], by simp [go_sem], by simp [go_sem], by simp⟩ bw2 (by simp)
  have HT2 : Hid (Tabs w2) := tabs_below HT1.out bA
  have BW2 : Hid (Below w.heap.size w w2) := BW1.out.trans (bA.mono BW1.out.size)
  obtain ⟨a0, a1, a2, a3, a4, a5, a6⟩ := qa
  obtain ⟨b0, b1, b2, b3, b4, b5, b6⟩ := qb
  clear HR1 HT1 BW1 bA bw2
  have z1 : w1.heap.size ≠ w2.heap.size := by omega
  have z2 : w1.heap.size ≠ w2.heap.size + 1 := by omega
  have z3 : w1.heap.size + 1 ≠ w2.heap.size := by omega
  have z4 : w1.heap.size + 1 ≠ w2.heap.size + 1 := by omega
  have y1 : w1.heap.size < w2.heap.size + 1 := by omega
  have y2 : w1.heap.size + 1 < w2.heap.size + 1 := by omega
  have y3 : w1.heap.size < w2.heap.size + 1 + 1 := by omega
  have y4 : w1.heap.size + 1 < w2.heap.size + 1 + 1 := by omega
  go_wp2
  have HW : Hid (Below w2.heap.size w2 (((w2.alloc (.cells #[.int .i64 kc, .int .i64 nc, .string sc] 26)).alloc (.cells #[.int .i64 kd, .int .i64 nd, .string sd] 26)).alloc (.cells #[.int .i64 ka, .int .i64 na, .string sa, .int .i64 kb, .int .i64 nb, .string sb, .int .i64 kc, .int .i64 nc, .string sc] 26))) := ((below_alloc w2 _).alloc (by simp) _).alloc (by simp; omega) _
  have hq : Holds (((w2.alloc (.cells #[.int .i64 kc, .int .i64 nc, .string sc] 26)).alloc (.cells #[.int .i64 kd, .int .i64 nd, .string sd] 26)).alloc (.cells #[.int .i64 ka, .int .i64 na, .string sa, .int .i64 kb, .int .i64 nb, .string sb, .int .i64 kc, .int .i64 nc, .string sc] 26)) w2.heap.size kc nc sc := ⟨by simp [go_sem], by simp [go_sem], by simp [go_sem], by simp [go_sem], by simp [go_sem], by simp [go_sem], by simp; omega⟩
  have HROW : Hid (Row3 (((w2.alloc (.cells #[.int .i64 kc, .int .i64 nc, .string sc] 26)).alloc (.cells #[.int .i64 kd, .int .i64 nd, .string sd] 26)).alloc (.cells #[.int .i64 ka, .int .i64 na, .string sa, .int .i64 kb, .int .i64 nb, .string sb, .int .i64 kc, .int .i64 nc, .string sc] 26)) (w2.heap.size + 1 + 1) (v3 ⟨ka, na, sa⟩ ⟨kb, nb, sb⟩ ⟨kc, nc, sc⟩)) := row3_new _ ka na sa kb nb sb kc nc sc (w2.heap.size + 1 + 1) (by simp)
  have hsz : (((w2.alloc (.cells #[.int .i64 kc, .int .i64 nc, .string sc] 26)).alloc (.cells #[.int .i64 kd, .int .i64 nd, .string sd] 26)).alloc (.cells #[.int .i64 ka, .int .i64 na, .string sa, .int .i64 kb, .int .i64 nb, .string sb, .int .i64 kc, .int .i64 nc, .string sc] 26)).heap.size = w2.heap.size + 1 + 1 + 1 := by simp
  generalize (((w2.alloc (.cells #[.int .i64 kc, .int .i64 nc, .string sc] 26)).alloc (.cells #[.int .i64 kd, .int .i64 nd, .string sd] 26)).alloc (.cells #[.int .i64 ka, .int .i64 na, .string sa, .int .i64 kb, .int .i64 nb, .string sb, .int .i64 kc, .int .i64 nc, .string sc] 26)) = W at *
  have HT : Hid (Tabs W) := tabs_below HT2.out HW.out
  have BW : Hid (Below w.heap.size w W) := BW2.out.trans (HW.out.mono BW2.out.size)
  have QA : Hid (Holds W w1.heap.size ka na sa) := Holds.below ⟨a0, a1, a2, a3, a4, a5, a6⟩ HW.out a6
  have QB : Hid (Holds W (w1.heap.size + 1) kb nb sb) := Holds.below ⟨b0, b1, b2, b3, b4, b5, b6⟩ HW.out b6
  have QC : Hid (Holds W w2.heap.size kc nc sc) := hq
  have sz3 : ∀ i, ((v3 ⟨ka, na, sa⟩ ⟨kb, nb, sb⟩ ⟨kc, nc, sc⟩) i).s.size ≤ 800 := v3_size ha hb hc
  clear hq HT2 BW2 HW a0 a1 a2 a3 a4 a5 a6 b0 b1 b2 b3 b4 b5 b6 ha hb hc hd z1 z2 z3 z4 y1 y2 y3 y4 i0 i1 hl hl'
  generalize hv : v3 ⟨ka, na, sa⟩ ⟨kb, nb, sb⟩ ⟨kc, nc, sc⟩ = v at *
  have HV : Hid (v3 ⟨ka, na, sa⟩ ⟨kb, nb, sb⟩ ⟨kc, nc, sc⟩ = v) := hv
  clear hv
  go_loopw [54] (fun x wr => ∃ i : Nat, i ≤ 3 ∧ x = .int .i64 i ∧ Below W.heap.size W wr ∧ ∀ i', i' < i → ∀ j, j < 3 → (cmpV (v i') (v j)).2 = 0) (fun x _ => 3 - (intOf x).toNat)
  case atStart => exact ⟨0, by omega, rfl, Below.refl _ _, fun _ h => absurd h (by omega)⟩
  case round =>
    obtain ⟨i, hi, rfl, hbw, hok⟩ := hrel
    generalize wr = wo at *
    have HB : Hid (Below W.heap.size W wo) := hbw
    have HOK : Hid (∀ i', i' < i → ∀ j, j < 3 → (cmpV (v i') (v j)).2 = 0) := hok
    clear hbw hok
    by_cases h3 : i < 3
    · have h3' : (i : Int) < 3 := by omega
      obtain ⟨r0, r1, r2⟩ := (HROW.out.below HB.out (by omega)) i h3
      go_wp2
      have HX0 : Hid (∀ wz : World, Below (wo.heap.size + 1) (wo.alloc (.cells #[.int .i64 (v i).k, .int .i64 (v i).n, .string (v i).s] 26)) wz → Holds wz wo.heap.size (v i).k (v i).n (v i).s) := fun wz hz => (Holds.new wo _ _ _).below hz (by omega)
      have hzr : W.heap.size ≤ wo.heap.size := HB.out.size
      go_loopw [60] (fun x wz => ∃ j : Nat, j ≤ 3 ∧ x = .int .i64 j ∧ Below (wo.heap.size + 1) (wo.alloc (.cells #[.int .i64 (v i).k, .int .i64 (v i).n, .string (v i).s] 26)) wz ∧ ∀ j', j' < j → (cmpV (v i) (v j')).2 = 0) (fun x _ => 3 - (intOf x).toNat)
      case atStart => exact ⟨0, by omega, rfl, Below.refl _ _, fun _ h => absurd h (by omega)⟩
      case round =>
        obtain ⟨j, hj, rfl, hbz, hokj⟩ := hrel
        have HOKJ : Hid (∀ j', j' < j → (cmpV (v i) (v j')).2 = 0) := hokj
        have HX : Hid (Holds wr wo.heap.size (v i).k (v i).n (v i).s) := HX0.out wr hbz
        have B0 : Hid (Below W.heap.size W wr) := (HB.out.trans ((below_alloc wo _).mono hzr)).trans (hbz.mono (by omega))
        have HD : Hid (Below (wo.heap.size + 1) (wo.alloc (.cells #[.int .i64 (v i).k, .int .i64 (v i).n, .string (v i).s] 26)) wr) := hbz
        have hzz : wo.heap.size + 1 ≤ wr.heap.size := by have := hbz.size; simpa using this
        clear hbz hokj
        by_cases g3 : j < 3
        · have g3' : (j : Int) < 3 := by omega
          obtain ⟨x0, x1, x2, x3, x4, x5, x6⟩ := HX.out
          obtain ⟨r0, r1, r2⟩ := (HROW.out.below B0.out (by omega)) j g3
          go_wp2_with fail
          refine (compare_spec (v i).k (v i).n (v i).s (v j).k (v j).n (v j).s _ (Nat.le_trans (sz3 i) (by decide)) (Nat.le_trans (sz3 j) (by decide))).mono ?_
          by_cases h0 : (cmpV (v i) (v j)).2 = 0
          · obtain ⟨V1, V2, TG, CV⟩ := cmpV_ok h0
            have REV := cmpV_rev h0
            have HV1 : Hid (vok (v i).k (v i).n (v i).s = true) := V1
            have HV2 : Hid (vok (v j).k (v j).n (v j).s = true) := V2
            have HTG : Hid (together (v i).k (v j).k = true) := TG
            obtain ⟨o1, o2⟩ := ordV_bd (v i).k (v i).n (v i).s (v j).k (v j).n (v j).s
            obtain ⟨o, HO0⟩ : ∃ o, ordV (v i).k (v i).n (v i).s (v j).k (v j).n (v j).s = o := ⟨_, rfl⟩
            rw [HO0] at CV REV o1 o2
            have HO : Hid (ordV (v i).k (v i).n (v i).s (v j).k (v j).n (v j).s = o) := HO0
            have HC : Hid (cmpR (v i).k (v i).n (v i).s (v j).k (v j).n (v j).s = (o, 0)) := CV
            have HR : Hid (cmpR (v j).k (v j).n (v j).s (v i).k (v i).n (v i).s = (-o, 0)) := REV
            have H0 : Hid ((cmpV (v i) (v j)).2 = 0) := h0
            clear V1 V2 TG CV REV HO0 h0
            rw [HC.out]
            rintro e w4 ⟨rfl, hb4⟩
            have HX4 : Hid (Holds w4 wo.heap.size (v i).k (v i).n (v i).s) := (HX.out.below (below_alloc wr _) HX.out.lt).below hb4 (by have := HX.out.lt; simp; omega)
            have HY4 : Hid (Holds w4 wr.heap.size (v j).k (v j).n (v j).s) := (Holds.new wr _ _ _).below hb4 (by simp)
            have B4 : Hid (Below W.heap.size W w4) := chainB (chainB B0.out (below_alloc wr _)) hb4
            have R4 : Hid (Below wr.heap.size wr w4) := chainB (below_alloc wr _) hb4
            clear hb4 HX r0 r1 r2 x0 x1 x2 x3 x4 x5 x6
            obtain ⟨x0, x1, x2, x3, x4, x5, x6⟩ := HX4.out
            obtain ⟨y0, y1, y2, y3, y4, y5, y6⟩ := HY4.out
            go_wp2_with fail
            refine (compare_impl (v i).k (v i).n (v i).s (v j).k (v j).n (v j).s _ (Nat.le_trans (sz3 i) (by decide)) (Nat.le_trans (sz3 j) (by decide)) (tabs_below HT.out B4.out)).mono ?_
            rw [HC.out]
            rintro e w5 ⟨rfl, hb5⟩
            clear x0 x1 x2 x3 x4 x5 x6 y0 y1 y2 y3 y4 y5 y6
            have HX5 : Hid (Holds w5 wo.heap.size (v i).k (v i).n (v i).s) := HX4.out.below hb5 HX4.out.lt
            have HY5 : Hid (Holds w5 wr.heap.size (v j).k (v j).n (v j).s) := HY4.out.below hb5 HY4.out.lt
            have B5 : Hid (Below W.heap.size W w5) := chainB B4.out hb5
            have R5 : Hid (Below wr.heap.size wr w5) := chainB R4.out hb5
            clear HX4 HY4 B4 R4
            clear hb5
            obtain ⟨x0, x1, x2, x3, x4, x5, x6⟩ := HX5.out
            obtain ⟨y0, y1, y2, y3, y4, y5, y6⟩ := HY5.out
            go_wp2_with fail
            refine (compare_impl (v j).k (v j).n (v j).s (v i).k (v i).n (v i).s _ (Nat.le_trans (sz3 j) (by decide)) (Nat.le_trans (sz3 i) (by decide)) (tabs_below HT.out B5.out)).mono ?_
            rw [HR.out]
            rintro e w6 ⟨rfl, hb6⟩
            clear x0 x1 x2 x3 x4 x5 x6 y0 y1 y2 y3 y4 y5 y6
            have HX6 : Hid (Holds w6 wo.heap.size (v i).k (v i).n (v i).s) := HX5.out.below hb6 HX5.out.lt
            have HY6 : Hid (Holds w6 wr.heap.size (v j).k (v j).n (v j).s) := HY5.out.below hb6 HY5.out.lt
            have B6 : Hid (Below W.heap.size W w6) := chainB B5.out hb6
            have R6 : Hid (Below wr.heap.size wr w6) := chainB R5.out hb6
            clear HX5 HY5 B5 R5
            clear hb6
            obtain ⟨x0, x1, x2, x3, x4, x5, x6⟩ := HX6.out
            obtain ⟨y0, y1, y2, y3, y4, y5, y6⟩ := HY6.out
            go_wp2_with fail
            refine (binary_same (v i).k (v i).n (v i).s (v j).k (v j).n (v j).s _ (Nat.le_trans (sz3 i) (by decide)) (Nat.le_trans (sz3 j) (by decide)) (tabs_below HT.out B6.out) HV1.out HV2.out HTG.out).mono ?_
            rw [HO.out]
            rintro e w7 ⟨rfl, hb7⟩
            clear x0 x1 x2 x3 x4 x5 x6 y0 y1 y2 y3 y4 y5 y6
            have HX7 : Hid (Holds w7 wo.heap.size (v i).k (v i).n (v i).s) := HX6.out.below hb7 HX6.out.lt
            have HY7 : Hid (Holds w7 wr.heap.size (v j).k (v j).n (v j).s) := HY6.out.below hb7 HY6.out.lt
            have B7 : Hid (Below W.heap.size W w7) := chainB B6.out hb7
            have R7 : Hid (Below wr.heap.size wr w7) := chainB R6.out hb7
            clear HX6 HY6 B6 R6
            clear hb7
            obtain ⟨x0, x1, x2, x3, x4, x5, x6⟩ := HX7.out
            obtain ⟨y0, y1, y2, y3, y4, y5, y6⟩ := HY7.out
            go_wp2
            go_quiet ((go_at_call 26; refine (truth26 _ _).mono ?_; rintro e w' ⟨rfl, rfl⟩; exact ⟨rfl, _, rfl⟩))
            by_cases n1 : (v i).k = 0
            · have g1 : ((v i).k == 0) = true := by simpa using n1
              have g1' : ((v i).k != 0) = false := by simp [n1]
              clear n1
              go_wp2_with fail
              refine (binary_lt_null (v i).k (v i).n (v i).s (v j).k (v j).n (v j).s _ (Nat.le_trans (sz3 i) (by decide)) (Nat.le_trans (sz3 j) (by decide)) (tabs_below HT.out (below_drewN (chainB B7.out (below_alloc w7 _)) _)) HV1.out HV2.out HTG.out (by rw [g1]; rfl)).mono ?_
              rintro e w8 ⟨rfl, hb8⟩
              have hb8' : Below w7.heap.size w7 w8 := (below_drewN (below_alloc w7 _) _).trans (hb8.mono (by simp))
              clear x0 x1 x2 x3 x4 x5 x6 y0 y1 y2 y3 y4 y5 y6
              have HX8 : Hid (Holds w8 wo.heap.size (v i).k (v i).n (v i).s) := HX7.out.below hb8' HX7.out.lt
              have HY8 : Hid (Holds w8 wr.heap.size (v j).k (v j).n (v j).s) := HY7.out.below hb8' HY7.out.lt
              have B8 : Hid (Below W.heap.size W w8) := chainB B7.out hb8'
              have R8 : Hid (Below wr.heap.size wr w8) := chainB R7.out hb8'
              clear HX7 HY7 B7 R7
              clear hb8 hb8'
              obtain ⟨x0, x1, x2, x3, x4, x5, x6⟩ := HX8.out
              obtain ⟨y0, y1, y2, y3, y4, y5, y6⟩ := HY8.out
              go_wp2
              go_quiet ((go_at_call 26; refine (truth26 _ _).mono ?_; rintro e w' ⟨rfl, rfl⟩; exact ⟨rfl, _, rfl⟩))
              go_wp2
              go_roundw
              case rel => exact ⟨j + 1, by omega, by go_num, HD.out.trans ((below_drewN (chainB R8.out (below_alloc w8 _)) _).mono hzz), fun j' hj' => by
                by_cases e : j' = j
                · rw [e]; exact H0.out
                · exact HOKJ.out j' (by omega)⟩
              case measure => simp [intOf]; omega
            · have g1 : ((v i).k == 0) = false := by simpa using n1
              have g1' : ((v i).k != 0) = true := by simpa using n1
              clear n1
              by_cases n2 : (v j).k = 0
              · have g2 : ((v j).k == 0) = true := by simpa using n2
                have g2' : ((v j).k != 0) = false := by simp [n2]
                clear n2
                go_wp2_with fail
                refine (binary_lt_null (v i).k (v i).n (v i).s (v j).k (v j).n (v j).s _ (Nat.le_trans (sz3 i) (by decide)) (Nat.le_trans (sz3 j) (by decide)) (tabs_below HT.out (below_drewN (chainB B7.out (below_alloc w7 _)) _)) HV1.out HV2.out HTG.out (by rw [g2]; simp)).mono ?_
                rintro e w8 ⟨rfl, hb8⟩
                have hb8' : Below w7.heap.size w7 w8 := (below_drewN (below_alloc w7 _) _).trans (hb8.mono (by simp))
                clear x0 x1 x2 x3 x4 x5 x6 y0 y1 y2 y3 y4 y5 y6
                have HX8 : Hid (Holds w8 wo.heap.size (v i).k (v i).n (v i).s) := HX7.out.below hb8' HX7.out.lt
                have HY8 : Hid (Holds w8 wr.heap.size (v j).k (v j).n (v j).s) := HY7.out.below hb8' HY7.out.lt
                have B8 : Hid (Below W.heap.size W w8) := chainB B7.out hb8'
                have R8 : Hid (Below wr.heap.size wr w8) := chainB R7.out hb8'
                clear HX7 HY7 B7 R7
                clear hb8 hb8'
                obtain ⟨x0, x1, x2, x3, x4, x5, x6⟩ := HX8.out
                obtain ⟨y0, y1, y2, y3, y4, y5, y6⟩ := HY8.out
                go_wp2
                go_quiet ((go_at_call 26; refine (truth26 _ _).mono ?_; rintro e w' ⟨rfl, rfl⟩; exact ⟨rfl, _, rfl⟩))
                go_wp2
                go_roundw
                case rel => exact ⟨j + 1, by omega, by go_num, HD.out.trans ((below_drewN (chainB R8.out (below_alloc w8 _)) _).mono hzz), fun j' hj' => by
                  by_cases e : j' = j
                  · rw [e]; exact H0.out
                  · exact HOKJ.out j' (by omega)⟩
                case measure => simp [intOf]; omega
              · have g2 : ((v j).k == 0) = false := by simpa using n2
                have g2' : ((v j).k != 0) = true := by simpa using n2
                clear n2
                go_wp2_with fail
                refine (binary_lt (v i).k (v i).n (v i).s (v j).k (v j).n (v j).s _ (Nat.le_trans (sz3 i) (by decide)) (Nat.le_trans (sz3 j) (by decide)) (tabs_below HT.out (below_drewN (chainB B7.out (below_alloc w7 _)) _)) HV1.out HV2.out HTG.out g1 g2).mono ?_
                rw [HO.out]
                rintro e w8 ⟨rfl, hb8⟩
                have hb8' : Below w7.heap.size w7 w8 := (below_drewN (below_alloc w7 _) _).trans (hb8.mono (by simp))
                clear x0 x1 x2 x3 x4 x5 x6 y0 y1 y2 y3 y4 y5 y6
                have HX8 : Hid (Holds w8 wo.heap.size (v i).k (v i).n (v i).s) := HX7.out.below hb8' HX7.out.lt
                have HY8 : Hid (Holds w8 wr.heap.size (v j).k (v j).n (v j).s) := HY7.out.below hb8' HY7.out.lt
                have B8 : Hid (Below W.heap.size W w8) := chainB B7.out hb8'
                have R8 : Hid (Below wr.heap.size wr w8) := chainB R7.out hb8'
                clear HX7 HY7 B7 R7
                clear hb8 hb8'
                obtain ⟨x0, x1, x2, x3, x4, x5, x6⟩ := HX8.out
                obtain ⟨y0, y1, y2, y3, y4, y5, y6⟩ := HY8.out
                go_wp2
                go_quiet ((go_at_call 26; refine (truth26 _ _).mono ?_; rintro e w' ⟨rfl, rfl⟩; exact ⟨rfl, _, rfl⟩))
                go_wp2
                go_roundw
                case rel => exact ⟨j + 1, by omega, by go_num, HD.out.trans ((below_drewN (chainB R8.out (below_alloc w8 _)) _).mono hzz), fun j' hj' => by
                  by_cases e : j' = j
                  · rw [e]; exact H0.out
                  · exact HOKJ.out j' (by omega)⟩
                case measure => simp [intOf]; omega
          · have hbad : ((cmpR (v i).k (v i).n (v i).s (v j).k (v j).n (v j).s).2 != 0) = true := by simpa [cmpV] using h0
            clear h0
            generalize cmpR (v i).k (v i).n (v i).s (v j).k (v j).n (v j).s = r at *
            obtain ⟨ra, rb⟩ := r
            rintro e w4 ⟨rfl, hb4⟩
            have B4 : Hid (Below W.heap.size W w4) := chainB (chainB B0.out (below_alloc wr _)) hb4
            clear hb4
            go_wp2
            go_ret
            exact ⟨rfl, chainB BW.out B4.out⟩
        · have g3' : ¬ (j : Int) < 3 := by omega
          go_wp2
          go_roundw
          case rel => exact ⟨i + 1, by omega, by go_num, B0.out, fun i' hi' jj hjj => by
            by_cases e : i' = i
            · rw [e]; exact HOKJ.out jj (by omega)
            · exact HOK.out i' (by omega) jj hjj⟩
          case measure => simp [intOf]; omega
    · have h3' : ¬ (i : Int) < 3 := by omega
      have va : v 0 = ⟨ka, na, sa⟩ := by rw [← HV.out]; rfl
      have vb : v 1 = ⟨kb, nb, sb⟩ := by rw [← HV.out]; rfl
      have vc : v 2 = ⟨kc, nc, sc⟩ := by rw [← HV.out]; rfl
      have s0 := sz3 0
      have s1 := sz3 1
      have s2 := sz3 2
      have c01 := HOK.out 0 (by omega) 1 (by omega)
      have c12 := HOK.out 1 (by omega) 2 (by omega)
      have c02 := HOK.out 0 (by omega) 2 (by omega)
      rw [va] at s0 c01 c02
      rw [vb] at s1 c01 c12
      rw [vc] at s2 c12 c02
      obtain ⟨V1, V2, T01, C01⟩ := cmpV_ok c01
      obtain ⟨_, V3, T12, C12⟩ := cmpV_ok c12
      obtain ⟨_, _, T02, C02⟩ := cmpV_ok c02
      have HT3 := ordV_trans ka na sa kb nb sb kc nc sc (vok_kind V1).2.2 (vok_kind V2).2.2 (vok_kind V3).2.2 T01 T12 T02
      obtain ⟨o, HO⟩ : ∃ o, ordV ka na sa kb nb sb = o := ⟨_, rfl⟩
      obtain ⟨p, HP⟩ : ∃ o, ordV kb nb sb kc nc sc = o := ⟨_, rfl⟩
      obtain ⟨q, HQ⟩ : ∃ o, ordV ka na sa kc nc sc = o := ⟨_, rfl⟩
      rw [HO, HP, HQ] at HT3
      have HC01 : Hid (cmpR ka na sa kb nb sb = (o, 0)) := C01.trans (by rw [show ordV (V.mk ka na sa).k (V.mk ka na sa).n (V.mk ka na sa).s (V.mk kb nb sb).k (V.mk kb nb sb).n (V.mk kb nb sb).s = o from HO])
      have HC12 : Hid (cmpR kb nb sb kc nc sc = (p, 0)) := C12.trans (by rw [show ordV (V.mk kb nb sb).k (V.mk kb nb sb).n (V.mk kb nb sb).s (V.mk kc nc sc).k (V.mk kc nc sc).n (V.mk kc nc sc).s = p from HP])
      have HC02 : Hid (cmpR ka na sa kc nc sc = (q, 0)) := C02.trans (by rw [show ordV (V.mk ka na sa).k (V.mk ka na sa).n (V.mk ka na sa).s (V.mk kc nc sc).k (V.mk kc nc sc).n (V.mk kc nc sc).s = q from HQ])
      have HS0 : Hid (sa.size ≤ 1048576) := Nat.le_trans s0 (by decide)
      have HS1 : Hid (sb.size ≤ 1048576) := Nat.le_trans s1 (by decide)
      have HS2 : Hid (sc.size ≤ 1048576) := Nat.le_trans s2 (by decide)
      have HORD : Hid (Ord3 o p q) := HT3
      have QA4 : Hid (Holds wo w1.heap.size ka na sa) := QA.out.below HB.out QA.out.lt
      have QB4 : Hid (Holds wo (w1.heap.size + 1) kb nb sb) := QB.out.below HB.out QB.out.lt
      have QC4 : Hid (Holds wo w2.heap.size kc nc sc) := QC.out.below HB.out QC.out.lt
      have E4 : Hid (Below W.heap.size W wo) := HB.out
      clear va vb vc s0 s1 s2 c01 c12 c02 V1 V2 T01 C01 V3 T12 C12 T02 C02 HT3 HO HP HQ sz3 QA QB QC HB HROW
      obtain ⟨x0, x1, x2, x3, x4, x5, x6⟩ := QA4.out
      obtain ⟨y0, y1, y2, y3, y4, y5, y6⟩ := QB4.out
      obtain ⟨t0, t1, t2, t3, t4, t5, t6⟩ := QC4.out
      go_wp2_with fail
      refine (compare_impl ka na sa kb nb sb _ HS0.out HS1.out (tabs_below HT.out E4.out)).mono ?_
      rw [HC01.out]
      rintro e w5 ⟨rfl, hb5⟩
      clear x0 x1 x2 x3 x4 x5 x6 y0 y1 y2 y3 y4 y5 y6 t0 t1 t2 t3 t4 t5 t6
      have QA5 : Hid (Holds w5 w1.heap.size ka na sa) := QA4.out.below hb5 QA4.out.lt
      have QB5 : Hid (Holds w5 (w1.heap.size + 1) kb nb sb) := QB4.out.below hb5 QB4.out.lt
      have QC5 : Hid (Holds w5 w2.heap.size kc nc sc) := QC4.out.below hb5 QC4.out.lt
      have E5 : Hid (Below W.heap.size W w5) := chainB E4.out hb5
      clear hb5 QA4 QB4 QC4 E4
      obtain ⟨x0, x1, x2, x3, x4, x5, x6⟩ := QA5.out
      obtain ⟨y0, y1, y2, y3, y4, y5, y6⟩ := QB5.out
      obtain ⟨t0, t1, t2, t3, t4, t5, t6⟩ := QC5.out
      go_wp2_with fail
      refine (compare_impl kb nb sb kc nc sc _ HS1.out HS2.out (tabs_below HT.out E5.out)).mono ?_
      rw [HC12.out]
      rintro e w6 ⟨rfl, hb6⟩
      clear x0 x1 x2 x3 x4 x5 x6 y0 y1 y2 y3 y4 y5 y6 t0 t1 t2 t3 t4 t5 t6
      have QA6 : Hid (Holds w6 w1.heap.size ka na sa) := QA5.out.below hb6 QA5.out.lt
      have QB6 : Hid (Holds w6 (w1.heap.size + 1) kb nb sb) := QB5.out.below hb6 QB5.out.lt
      have QC6 : Hid (Holds w6 w2.heap.size kc nc sc) := QC5.out.below hb6 QC5.out.lt
      have E6 : Hid (Below W.heap.size W w6) := chainB E5.out hb6
      clear hb6 QA5 QB5 QC5 E5
      obtain ⟨x0, x1, x2, x3, x4, x5, x6⟩ := QA6.out
      obtain ⟨y0, y1, y2, y3, y4, y5, y6⟩ := QB6.out
      obtain ⟨t0, t1, t2, t3, t4, t5, t6⟩ := QC6.out
      go_wp2_with fail
      refine (compare_impl ka na sa kc nc sc _ HS0.out HS2.out (tabs_below HT.out E6.out)).mono ?_
      rw [HC02.out]
      rintro e w7 ⟨rfl, hb7⟩
      clear x0 x1 x2 x3 x4 x5 x6 y0 y1 y2 y3 y4 y5 y6 t0 t1 t2 t3 t4 t5 t6
      have QA7 : Hid (Holds w7 w1.heap.size ka na sa) := QA6.out.below hb7 QA6.out.lt
      have QB7 : Hid (Holds w7 (w1.heap.size + 1) kb nb sb) := QB6.out.below hb7 QB6.out.lt
      have QC7 : Hid (Holds w7 w2.heap.size kc nc sc) := QC6.out.below hb7 QC6.out.lt
      have E7 : Hid (Below W.heap.size W w7) := chainB E6.out hb7
      clear hb7 QA6 QB6 QC6 E6
      have hord := HORD.out
      unfold Ord3 at hord
      by_cases f1 : 0 < o
      · clear hord
        go_wp2
        go_ret
        exact ⟨rfl, chainB BW.out E7.out⟩
      · by_cases f2 : 0 < p
        · clear hord
          have f1' : o ≤ 0 := by omega
          go_wp2
          go_ret
          exact ⟨rfl, chainB BW.out E7.out⟩
        · have f1' : o ≤ 0 := by omega
          have f2' : p ≤ 0 := by omega
          have f3 : q ≤ 0 := by omega
          have f4 : ((q == 0) == ((o == 0) && (p == 0))) = true := by
            rw [beq_iff_eq, Bool.eq_iff_iff]; simp; omega
          clear hord
          by_cases f5 : o = 0
          · subst f5
            by_cases f6 : p = 0
            · subst f6
              have f7 : q = 0 := by simpa using f4
              subst f7
              go_wp2
              go_ret
              exact ⟨rfl, chainB BW.out E7.out⟩
            · have f6' : (p == 0) = false := by simpa using f6
              have f7 : (q == 0) = false := by simpa [f6'] using f4
              clear f4
              go_wp2
              go_ret
              exact ⟨rfl, chainB BW.out E7.out⟩
          · have f5' : (o == 0) = false := by simpa using f5
            have f7 : (q == 0) = false := by simpa [f5'] using f4
            clear f4
            go_wp2
            go_ret
            exact ⟨rfl, chainB BW.out E7.out⟩
end Go.Proofs.YtbcnfepfmoecjaaDoor.Dr
