import Derived.Test.YtblkgicbimflhaaGreatKAS
import Derived.Test.YtblkgicbimflhaaGreatKAF
import Derived.Lib.ItoaNum
import Derived.Lib.ItoaMem
import Derived.Laws.BytesArg
import Derived.Lib.ItoaLen
import Derived.Deep.Heap
namespace Go.Proofs.YtblkgicbimflhaaGreat
open Go.ChangeShapes Go.WideShapes Go.ChangeAt Go.RowKit
set_option linter.unusedVariables false
set_option linter.unusedSimpArgs false
set_option maxRecDepth 100000
open List (setIfInBounds_toArray set_cons_zero set_cons_succ)
set_option maxHeartbeats 8000000 in
theorem markAS_any (g cap : Nat) (ps : List (Value × Obn)) (k : Int) (w a0 : World) (B0 B : Nat) (hk : 0 ≤ k) (hk2 : k ≤ 1000) (hd : Dis ps) (hM : ∀ x ∈ ps, x.2.ps.length ≤ 1048576) (hn : ps.length ≤ 1000) (hb : Below B0 a0 w) (hB : B0 ≤ B) (hm : OM B w g ps k 0 0) :
 Calls Tryz.prog 18 #[.slice (some ⟨g, 0, none⟩) ps.length cap, .int .i64 k] w fun e w' => e = .returned (.int .i64 (k + kA ps ps.length)) ∧ Below B0 a0 w' ∧ OM B w' g ps k ps.length ps.length := by
 have HM0 := hid hm
 have HD := hid hd
 have HKL := hid (kA_le hM)
 have HML := hid hM
 clear hm hd hM
 go_enter Tryz.func18, Tryz.ntmps18
 go_wp2
 go_loopw [1, 5] (fun kv iv wr => ∃ i : Nat, i ≤ ps.length ∧ kv = .int .i64 (k + kA ps i) ∧ iv = .int .i64 i ∧ Hid (Below B0 a0 wr) ∧ Hid (OM B wr g ps k i i)) (fun _ iv _ => ps.length - (intOf iv).toNat)
 case atStart => exact ⟨0, Nat.zero_le _, by simp [kA], rfl, hb, HM0⟩
 case round =>
  clear HM0 hb
  obtain ⟨i, hi, rfl, rfl, HB, M⟩ := hrel
  have hkl := HKL.out i hi
  by_cases hlt : i < ps.length
  ·have hlti : (i : Int) < ps.length := by omega
   obtain ⟨⟨⟨x, hx⟩, hf⟩, ⟨⟨y, hy⟩, hfy⟩, ⟨⟨z, hz2⟩, hfz⟩, ⟨⟨u, hu⟩, hfu⟩⟩ := M.out.row i hlt
   have hh := M.out.hdr i hlt
   have hgl := M.out.lt
   have hBg := M.out.ge
   have M1 := hid (M.out.step hlt)
   have KON := hid (kA_on hlt)
   have hml := HML.out ps[i] (List.getElem_mem hlt)
   obtain ⟨oa, oc, hps, hown⟩ := M1.out.own i hlt
   have HPS := hid hps
   have HOWN := hid hown
   rw [hps] at hh
   have hkn : k + (kA ps i : Int) + 4 ≤ 3000000000000 := by omega
   have hk0 : 0 ≤ k + (kA ps i : Int) := by omega
   obtain ⟨kk, hkk⟩ : ∃ z : Int, k + (kA ps i : Int) = z := ⟨_, rfl⟩
   have HKK := hid hkk
   rw [hkk] at M1 HOWN hkn hk0 ⊢
   clear hkk hps hown hkl
   have HB2 : Hid (Below B0 a0 ((((wr.setCell ⟨g, i * 5, none⟩ (.int .i64 kk)).setCell ⟨g, i * 5 + 1, none⟩ (.int .i64 (kk + 1))).setCell ⟨g, i * 5 + 2, none⟩ (.int .i64 (kk + 1 + 1))).setCell ⟨g, i * 5 + 3, none⟩ (.bool ((kk + 1 + 1 + 1) % 3 == 0)))) := (((HB.out.setCell (show B0 ≤ (⟨g, i * 5, none⟩ : Addr).block by simp; omega) _).setCell (show B0 ≤ (⟨g, i * 5 + 1, none⟩ : Addr).block by simp; omega) _).setCell (show B0 ≤ (⟨g, i * 5 + 2, none⟩ : Addr).block by simp; omega) _).setCell (show B0 ≤ (⟨g, i * 5 + 3, none⟩ : Addr).block by simp; omega) _
   have hw1 : IntKind.i64.wrap (kk + 1) = kk + 1 := by simp only [IntKind.wrap_i64, wrap64]; omega
   have hw2 : IntKind.i64.wrap (kk + 1 + 1) = kk + 1 + 1 := by simp only [IntKind.wrap_i64, wrap64]; omega
   have hw3 : IntKind.i64.wrap (kk + 1 + 1 + 1) = kk + 1 + 1 + 1 := by simp only [IntKind.wrap_i64, wrap64]; omega
   have hw4 : IntKind.i64.wrap (kk + 1 + 1 + 1 + 1) = kk + 1 + 1 + 1 + 1 := by simp only [IntKind.wrap_i64, wrap64]; omega
   clear M HB
   go_wp2_with (go_at_call 35; fail)
   rcases Nat.eq_zero_or_pos ps[i].2.ps.length with hz | hz
   ·have M2 := hid (M1.out.same (fun _ => hz))
    have hko : (kk + 1 + 1 + 1 + 1 : Int) = k + (kA ps (i + 1) : Int) := by have := KON.out; have := HKK.out; omega
    rw [hz]
    refine (markPS_none oa oc (kk + 1 + 1 + 1 + 1) _).mono ?_
    rintro e w' ⟨rfl, rfl⟩
    rw [hko]
    clear M1
    go_wp2
    go_roundw
    case rel => exact ⟨i + 1, by omega, rfl, by go_num, HB2, M2⟩
    case measure => simp [intOf]; omega
   ·obtain ⟨b, rfl, hBb, hbl, hbg, hrm, _⟩ := HOWN.out hz
    refine (markPS_any b 0 ps[i].2.ps.length oc (kk + 1 + 1 + 1 + 1) _ a0 B0 (by omega) (by omega) (by omega) HB2.out (by omega) (fun j hj => by rw [Nat.zero_add]; exact hrm j hj)).mono ?_
    rintro e w' ⟨rfl, hb', hmk⟩
    have hko : (kk + 1 + 1 + 1 + 1 + 2 * (ps[i].2.ps.length : Int) : Int) = k + (kA ps (i + 1) : Int) := by have := KON.out; have := HKK.out; omega
    have e2 : kk + 1 + 1 + 1 + 1 = k + (kA ps i : Int) + 4 := by have := HKK.out; omega
    rw [e2] at hmk
    have M2 := hid (M1.out.nest HD.out hlt HPS.out hbg hmk)
    have HB3 := hid hb'
    rw [hko]
    clear M1 hmk hb' e2 hko
    go_wp2
    go_roundw
    case rel => exact ⟨i + 1, by omega, rfl, by go_num, HB3, M2⟩
    case measure => simp [intOf]; omega
  ·have hin : i = ps.length := by omega
   subst hin
   have hlti : ¬ (ps.length : Int) < ps.length := by omega
   go_wp2
   go_ret
   exact ⟨rfl, HB.out, M.out⟩
theorem markAS_none (a : Option Addr) (cap : Nat) (k : Int) (w : World) :
 Calls Tryz.prog 18 #[.slice a 0 cap, .int .i64 k] w fun e w' => e = .returned (.int .i64 k) ∧ w' = w := by
 go_enter Tryz.func18, Tryz.ntmps18
 go_wp2
 go_loopw [1, 5] (fun kv iv wr => kv = .int .i64 k ∧ iv = .int .i64 0 ∧ wr = w) (fun _ _ _ => 0)
 case atStart => exact ⟨rfl, rfl, rfl⟩
 case round =>
  obtain ⟨rfl, rfl, hww⟩ := hrel
  replace hww := hww.symm
  subst hww
  go_wp2
  go_ret
  exact ⟨rfl, rfl⟩
set_option maxHeartbeats 8000000 in
theorem heldAS_any (g cap : Nat) (ps : List (Value × Obn)) (k : Int) (w : World) (B : Nat) (hk : 0 ≤ k) (hk2 : k ≤ 1000) (hM : ∀ x ∈ ps, x.2.ps.length ≤ 1048576) (hn : ps.length ≤ 1000) (hm : OM B w g ps k ps.length ps.length) :
 Calls Tryz.prog 19 #[.slice (some ⟨g, 0, none⟩) ps.length cap, .int .i64 k] w fun e w' => e = .returned (.int .i64 (k + kA ps ps.length)) ∧ w' = w := by
 have HM0 := hid hm
 have HKL := hid (kA_le hM)
 have HML := hid hM
 clear hm hM
 go_enter Tryz.func19, Tryz.ntmps19
 go_wp2
 go_loopw [1, 5] (fun kv iv wr => ∃ i : Nat, i ≤ ps.length ∧ kv = .int .i64 (k + kA ps i) ∧ iv = .int .i64 i ∧ wr = w) (fun _ iv _ => ps.length - (intOf iv).toNat)
 case atStart => exact ⟨0, Nat.zero_le _, by simp [kA], rfl, rfl⟩
 case round =>
  obtain ⟨i, hi, rfl, rfl, hww⟩ := hrel
  replace hww := hww.symm
  subst hww
  have hkl := HKL.out i hi
  by_cases hlt : i < ps.length
  ·have hlti : (i : Int) < ps.length := by omega
   obtain ⟨t0, t1, t2, t3⟩ := HM0.out.tld i hlt hlt
   have hh := HM0.out.hdr i hlt
   have KON := hid (kA_on hlt)
   have hml := HML.out ps[i] (List.getElem_mem hlt)
   obtain ⟨oa, oc, hps, hown⟩ := HM0.out.own i hlt
   have HOWN := hid hown
   rw [hps] at hh
   have hkn : k + (kA ps i : Int) + 4 ≤ 3000000000000 := by omega
   have hk0 : 0 ≤ k + (kA ps i : Int) := by omega
   obtain ⟨kk, hkk⟩ : ∃ z : Int, k + (kA ps i : Int) = z := ⟨_, rfl⟩
   have HKK := hid hkk
   rw [hkk] at t0 t1 t2 t3 HOWN hkn hk0 ⊢
   clear hkk hps hown hkl
   have hw1 : IntKind.i64.wrap (kk + 1) = kk + 1 := by simp only [IntKind.wrap_i64, wrap64]; omega
   have hw2 : IntKind.i64.wrap (kk + 1 + 1) = kk + 1 + 1 := by simp only [IntKind.wrap_i64, wrap64]; omega
   have hw3 : IntKind.i64.wrap (kk + 1 + 1 + 1) = kk + 1 + 1 + 1 := by simp only [IntKind.wrap_i64, wrap64]; omega
   have hw4 : IntKind.i64.wrap (kk + 1 + 1 + 1 + 1) = kk + 1 + 1 + 1 + 1 := by simp only [IntKind.wrap_i64, wrap64]; omega
   have hbb : (!(((kk + 1 + 1 + 1) % 3 == 0) == ((kk + 1 + 1 + 1) % 3 == 0))) = false := by simp
   go_wp2_with (go_at_call 36; fail)
   rcases Nat.eq_zero_or_pos ps[i].2.ps.length with hz | hz
   ·have hko : (kk + 1 + 1 + 1 + 1 : Int) = k + (kA ps (i + 1) : Int) := by have := KON.out; have := HKK.out; omega
    rw [hz]
    refine (heldPS_none oa oc (kk + 1 + 1 + 1 + 1) _).mono ?_
    rintro e w' ⟨rfl, rfl⟩
    have hneg : ¬ (kk + 1 + 1 + 1 + 1 : Int) < 0 := by omega
    rw [hko] at hneg ⊢
    clear hko
    go_wp2
    go_roundw
    case rel => exact ⟨i + 1, by omega, rfl, by go_num, by first | exact rfl | trivial⟩
    case measure => simp [intOf]; omega
   ·obtain ⟨b, rfl, hBb, hbl, hbg, hrm, htl⟩ := HOWN.out hz
    have htl2 := htl hlt
    refine (heldPS_any b 0 ps[i].2.ps.length oc (kk + 1 + 1 + 1 + 1) _ (by omega) (by omega) (by omega) (fun j hj => by rw [Nat.zero_add, htl2 j hj, show kk + 1 + 1 + 1 + 1 = kk + 4 by omega])).mono ?_
    rintro e w' ⟨rfl, hww⟩
    replace hww := hww.symm
    subst hww
    have hko : (kk + 1 + 1 + 1 + 1 + 2 * (ps[i].2.ps.length : Int) : Int) = k + (kA ps (i + 1) : Int) := by have := KON.out; have := HKK.out; omega
    have hneg : ¬ (kk + 1 + 1 + 1 + 1 + 2 * (ps[i].2.ps.length : Int) : Int) < 0 := by omega
    rw [hko] at hneg ⊢
    clear hko htl htl2 hrm
    go_wp2
    go_roundw
    case rel => exact ⟨i + 1, by omega, rfl, by go_num, by first | exact rfl | trivial⟩
    case measure => simp [intOf]; omega
  ·have hin : i = ps.length := by omega
   subst hin
   have hlti : ¬ (ps.length : Int) < ps.length := by omega
   go_wp2
   go_ret
   exact ⟨rfl, rfl⟩
theorem heldAS_none (a : Option Addr) (cap : Nat) (k : Int) (w : World) :
 Calls Tryz.prog 19 #[.slice a 0 cap, .int .i64 k] w fun e w' => e = .returned (.int .i64 k) ∧ w' = w := by
 go_enter Tryz.func19, Tryz.ntmps19
 go_wp2
 go_loopw [1, 5] (fun kv iv wr => kv = .int .i64 k ∧ iv = .int .i64 0 ∧ wr = w) (fun _ _ _ => 0)
 case atStart => exact ⟨rfl, rfl, rfl⟩
 case round =>
  obtain ⟨rfl, rfl, hww⟩ := hrel
  replace hww := hww.symm
  subst hww
  go_wp2
  go_ret
  exact ⟨rfl, rfl⟩
def RowW {α : Type} (k : Nat) (C : Nat → World → List Value → α → Prop) (B : Nat) (w : World) (g : Nat) (us : List α) : Prop := g < w.heap.size ∧ ∀ i (h : i < us.length), ∃ cs, C B w cs us[i] ∧ ∀ j, j < k → w.cell? ⟨g, i * k + j, none⟩ = cs[j]? ∧ w.frozen? ⟨g, i * k + j, none⟩ = false
theorem RowW.below {α : Type} {k : Nat} {C : Nat → World → List Value → α → Prop} (hC : Lies k C) {B g : Nat} {w w' : World} {us : List α} (h : RowW k C B w g us) (hb : Below w.heap.size w w') : RowW k C B w' g us :=
 ⟨Nat.lt_of_lt_of_le h.1 hb.size, fun i hi => let ⟨cs, x, y⟩ := h.2 i hi; ⟨cs, hC.below x hb, fun j hj => ⟨(hb.cell (p := ⟨g, i * k + j, none⟩) h.1).trans (y j hj).1, (hb.frozen (p := ⟨g, i * k + j, none⟩) h.1).trans (y j hj).2⟩⟩⟩
theorem RowW.rs {α : Type} {k : Nat} {C D : Nat → World → List Value → α → Prop} {B g cap : Nat} {w : World} {us : List α} (h : RowW k C B w g us) (hd : ∀ {cs x}, C B w cs x → D 0 w cs x) : RS k D 0 w (.slice (some ⟨g, 0, none⟩) us.length cap) us :=
 ⟨_, _, rfl, fun _ => ⟨g, 0, rfl, Nat.zero_le _, h.1, fun i hi => let ⟨cs, x, y⟩ := h.2 i hi; ⟨cs, hd x, fun j hj => by rw [Nat.zero_add]; exact (y j hj).1⟩⟩⟩
theorem Fill.roww {α : Type} {K : Nat} {C : Nat → World → List Value → α → Prop} {B D g e : Nat} {us : List α} {xs : List Value} {w : World} (h : Fill K C B us us.length xs w) (ho : w.ownsRow D e K (.slice (some ⟨g, 0, none⟩) us.length us.length) us.length xs) : RowW K C B w g us :=
 ⟨(ho.lt _ rfl).2, fun i hi => by
  obtain ⟨cs, a, b⟩ := h.2 i hi hi
  refine ⟨cs, a, fun j hj => ⟨?_, ho.frozenAt _⟩⟩
  rw [← b j hj]
  have hx : i * K + j < xs.length := by rw [h.1]; have := mul_le (K := K) hi; omega
  rw [List.getElem?_eq_getElem hx]
  exact own_cell ho (List.getElem?_eq_getElem hx)⟩
set_option maxHeartbeats 16000000 in
theorem toO_e (t : Opn) (cs : List Value) (w : World) (hB : BO 1048576 t) (hC : CO 0 w cs t) :
 Calls Tryz.prog 31 #[.agg cs.toArray] w fun e w' => ∃ ds, e = .returned (.agg ds.toArray) ∧ CO w.heap.size w' ds t ∧ Below w.heap.size w w' := by
 unfold CO at hC
 subst hC
 go_enter Tryz.func31, Tryz.ntmps31
 go_wp2
 refine bodyPost_ret (v := .agg #[.int .i64 t.kd, .int .i64 t.ss, .int .i64 t.tb, .int .i64 t.ky, .int .i64 t.vl, .int .i64 t.md, .string t.nm]) (by simp [results, Tryz.results31, go_sem]) rfl ⟨_, rfl, rfl, ?_⟩
 exact (by (go_light; repeat (first | with_reducible assumption | with_reducible exact Below.refl _ _ | (with_reducible refine Below.setCell ?_ ?_ _; rotate_left; (focus first | (simp; done) | (simp; omega) | omega)) | (with_reducible refine Below.alloc ?_ ?_ _; rotate_left; (focus first | (simp; done) | (simp; omega) | omega)) | with_reducible refine Below.drew ?_)))
theorem info41 : (Tryz.prog.info? 41).map (fun i => (i.zero, i.size, i.bytes)) = some (some (.agg #[.int .i64 0, .int .i64 0, .int .i64 0, .int .i64 0, .int .i64 0, .int .i64 0, .string ⟨#[]⟩]), 7, 64) := by kernel_rfl
set_option maxHeartbeats 16000000 in
theorem toOS_w (a : Option Addr) (cap : Nat) (us : List Opn) (w : World) (hb : us.length ≤ 1048576 ∧ ∀ t ∈ us, BO 1048576 t) (hv : RS 7 CO 0 w (.slice a us.length cap) us) :
 Calls Tryz.prog 14 #[.slice a us.length cap] w fun e w' => e = .returned (.slice (some ⟨w.heap.size, 0, none⟩) us.length us.length) ∧ RowW 7 CO (w.heap.size + 1) w' w.heap.size us ∧ Below w.heap.size w w' := by
 obtain ⟨i0, hi, hz0, hz1, hz2⟩ := info_parts info41
 obtain ⟨hn, hz⟩ := hb
 have HZ : Hid (∀ t ∈ us, BO 1048576 t) := hz
 clear hz
 obtain ⟨a', cap', hsl, hcells⟩ := hv
 simp only [Value.slice.injEq] at hsl
 obtain ⟨rfl, _, rfl⟩ := hsl
 go_enter Tryz.func14, Tryz.ntmps14
 go_wp2_with (refine wpList_make_full _ rfl (.tmp 6) (.tmp 6) 23 rfl w.heap.size 41 i0 _ 7 Tryz.underlying23 hi hz0 hz1 .i64 .i64 us.length us.length us.length rfl rfl rfl rfl (by rw [hz2]; omega) (by unfold maxLen; omega) (Nat.le_refl _) ?_; intro w1 hown hgrow)
 have HB : Hid (Below w.heap.size w w1) := (Below.refl _ _).grown hgrow (Nat.le_refl _) (fun k hk => by simp at hk)
 have hb1 := HB.out
 have hw1 := hb1.size
 go_loopw [4] (fun i wr => ∃ (k : Nat) (xs : List Value), k ≤ us.length ∧ i = .int .i64 k ∧ Hid (Fill 7 CO (w.heap.size + 1) us k xs wr) ∧ wr.ownsRow w.heap.size 41 7 (.slice (some ⟨w.heap.size, 0, none⟩) us.length us.length) us.length xs ∧ Below w.heap.size w wr) (fun i _ => us.length - (intOf i).toNat)
 case atStart => exact ⟨0, _, Nat.zero_le _, rfl, ⟨by simp [size_madeCells], fun i _ h => absurd h (Nat.not_lt_zero _)⟩, hown, hb1⟩
 case round =>
  obtain ⟨k, xs, hk, rfl, HF, ho, hbel⟩ := hrel
  have hbs := hbel.size
  by_cases hlt : k < us.length
  ·have hlti : (k : Int) < us.length := by omega
   obtain ⟨g, o, rfl, _, hg, hgc⟩ := hcells (by omega)
   obtain ⟨cs, hC, hcell⟩ := hgc k hlt
   have hC1 := liesO.below hC hbel
   have hB := HZ.out us[k] (List.getElem_mem hlt)
   have HST : Hid (∀ (w2 : World) (ds : List Value), Below wr.heap.size wr w2 → CO (w.heap.size + 1) w2 ds us[k] → Fill 7 CO (w.heap.size + 1) us (k + 1) (setL xs (k * 7) ds) (setW w2 w.heap.size (k * 7) ds)) := hid (fun w2 ds a b => HF.out.step liesO (by omega) hlt a b)
   have hxl := HF.out.1
   have hgl : w.heap.size < wr.heap.size := (ho.lt _ rfl).2
   have hkk := mul_le (K := 7) hlt
   clear hgc hcells HF
   generalize us[k] = t at *
   have hcn := toO_e t cs wr hB hC1
   clear hC1
   have he := hC
   unfold CO at he
   subst he
   have c0 : wr.cell? ⟨g, o + k * 7, none⟩ = some (.int .i64 t.kd) := (hbel.cell (p := ⟨g, o + k * 7, none⟩) hg).trans (hcell 0 (by omega))
   have c1 : wr.cell? ⟨g, o + k * 7 + 1, none⟩ = some (.int .i64 t.ss) := (hbel.cell (p := ⟨g, o + k * 7 + 1, none⟩) hg).trans (hcell 1 (by omega))
   have c2 : wr.cell? ⟨g, o + k * 7 + 2, none⟩ = some (.int .i64 t.tb) := (hbel.cell (p := ⟨g, o + k * 7 + 2, none⟩) hg).trans (hcell 2 (by omega))
   have c3 : wr.cell? ⟨g, o + k * 7 + 3, none⟩ = some (.int .i64 t.ky) := (hbel.cell (p := ⟨g, o + k * 7 + 3, none⟩) hg).trans (hcell 3 (by omega))
   have c4 : wr.cell? ⟨g, o + k * 7 + 4, none⟩ = some (.int .i64 t.vl) := (hbel.cell (p := ⟨g, o + k * 7 + 4, none⟩) hg).trans (hcell 4 (by omega))
   have c5 : wr.cell? ⟨g, o + k * 7 + 5, none⟩ = some (.int .i64 t.md) := (hbel.cell (p := ⟨g, o + k * 7 + 5, none⟩) hg).trans (hcell 5 (by omega))
   have c6 : wr.cell? ⟨g, o + k * 7 + 6, none⟩ = some (.string t.nm) := (hbel.cell (p := ⟨g, o + k * 7 + 6, none⟩) hg).trans (hcell 6 (by omega))
   clear hcell
   obtain ⟨y0, hy0⟩ : ∃ u, xs[k * 7]? = some u := ⟨_, List.getElem?_eq_getElem (by omega)⟩
   obtain ⟨y1, hy1⟩ : ∃ u, xs[k * 7 + 1]? = some u := ⟨_, List.getElem?_eq_getElem (by omega)⟩
   obtain ⟨y2, hy2⟩ : ∃ u, xs[k * 7 + 2]? = some u := ⟨_, List.getElem?_eq_getElem (by omega)⟩
   obtain ⟨y3, hy3⟩ : ∃ u, xs[k * 7 + 3]? = some u := ⟨_, List.getElem?_eq_getElem (by omega)⟩
   obtain ⟨y4, hy4⟩ : ∃ u, xs[k * 7 + 4]? = some u := ⟨_, List.getElem?_eq_getElem (by omega)⟩
   obtain ⟨y5, hy5⟩ : ∃ u, xs[k * 7 + 5]? = some u := ⟨_, List.getElem?_eq_getElem (by omega)⟩
   obtain ⟨y6, hy6⟩ : ∃ u, xs[k * 7 + 6]? = some u := ⟨_, List.getElem?_eq_getElem (by omega)⟩
   clear hxl hkk
   go_wp2_with (go_at_call 31; fail)
   refine hcn.mono ?_
   rintro e w2 ⟨ds, rfl, hD, hb2⟩
   have bw1 : Below w.heap.size w w2 := hbel.trans (hb2.mono hbs)
   have ho1 := own_below ho hb2
   have e0 := own_cell ho1 hy0
   have f0 := ho1.frozenAt (k * 7)
   have e1 := own_cell ho1 hy1
   have f1 := ho1.frozenAt (k * 7 + 1)
   have e2 := own_cell ho1 hy2
   have f2 := ho1.frozenAt (k * 7 + 2)
   have e3 := own_cell ho1 hy3
   have f3 := ho1.frozenAt (k * 7 + 3)
   have e4 := own_cell ho1 hy4
   have f4 := ho1.frozenAt (k * 7 + 4)
   have e5 := own_cell ho1 hy5
   have f5 := ho1.frozenAt (k * 7 + 5)
   have e6 := own_cell ho1 hy6
   have f6 := ho1.frozenAt (k * 7 + 6)
   have HS := hid (HST.out w2 ds hb2 (liesO.mono hD (by omega)))
   have HO2 := hid (own_setW ds xs (k * 7) w2 ho1)
   have HBX := hid (below_setW (Nat.le_refl w.heap.size) ds (k * 7) w2 bw1)
   have hxe := hD
   unfold CO at hxe
   subst hxe
   clear HST hb2 hcn ho ho1 hy0 c0 hy1 c1 hy2 c2 hy3 c3 hy4 c4 hy5 c5 hy6 c6
   go_wp2
   go_roundw
   case rel => exact ⟨k + 1, _, by omega, by go_num, HS, HO2.out, HBX.out⟩
   case measure => simp [intOf]; omega
  ·have hkn : k = us.length := by omega
   subst hkn
   have hlti : ¬ (us.length : Int) < us.length := by omega
   have HR := hid (HF.out.roww ho)
   clear HF
   go_wp2
   go_ret
   exact ⟨rfl, HR.out, hbel⟩
theorem conv_one (W : World) (x : Int) : (convert 22 9 (.slice (some ⟨W.heap.size, 0, none⟩) 1 1)).run Tryz.prog (W.alloc (.cells #[.int .u8 x] 5)) = .ok (.string ⟨#[UInt8.ofNat x.toNat]⟩) (W.alloc (.cells #[.int .u8 x] 5)) := by
 have := run_convert_bytes_arg (P := Tryz.prog) (W.alloc (.cells #[.int .u8 x] 5)) 22 5 Tryz.underlying22 Tryz.underlying5 W.heap.size 0 1 1 [x] rfl (by
  intro i hi
  have : i = 0 := by omega
  subst this
  simp [go_sem]) 9 Tryz.underlying9
 simpa [strOfNums] using this
theorem digits_len (n : Nat) (h : n ≤ 9223372036854775807) : (Lib.decDigits n).length ≤ 21 := by
 have := Lib.itoa_length_le (n : Int) (by omega) (by omega)
 unfold Lib.itoa at this
 rw [if_neg (by omega)] at this
 simpa using this
def DI (K m : Nat) (acc : List UInt8) : Prop := if m = 0 then Lib.decDigits K = acc else Lib.decDigits K = Lib.decDigits m ++ acc
theorem DI.step {K m : Nat} {acc : List UInt8} (h : DI K m acc) (hm : m ≠ 0) : DI K (m / 10) ((48 + UInt8.ofNat (m % 10)) :: acc) := by
 unfold DI at h ⊢
 rw [if_neg hm] at h
 by_cases hl : m < 10
 ·rw [if_pos (by omega), h, Lib.decDigits_one hl]
  have e : m % 10 = m := by omega
  rw [UInt8.ofNat_add, e]; simp
 ·rw [if_neg (by omega), h, Lib.decDigits, dif_neg hl]
  rw [UInt8.ofNat_add]; simp
theorem DI.len {K m : Nat} {acc : List UInt8} (h : DI K m acc) (hK : K ≤ 9223372036854775807) : acc.length ≤ 21 := by
 have := digits_len K hK
 unfold DI at h
 split at h
 ·rw [h] at this; exact this
 ·rw [h] at this; simp at this; omega
theorem cons_str (d : UInt8) (acc : List UInt8) : ((⟨#[d]⟩ : ByteArray) ++ (⟨acc.toArray⟩ : ByteArray)) = ⟨(d :: acc).toArray⟩ := by
 apply ByteArray.ext; simp
theorem ret_str {a b : ByteArray} (h : a = b) : Ending.returned (.string a) = .returned (.string b) := by rw [h]
def mtx (K : Nat) : ByteArray := ⟨(109 :: Lib.decDigits K).toArray⟩
set_option maxHeartbeats 4000000 in
theorem markText_any (K : Nat) (w : World) (h0 : 0 < K) (hK : K ≤ 4611686018427387904) : Calls Tryz.prog 34 #[.int .i64 (K : Int)] w fun e w' => e = .returned (.string (mtx K)) ∧ Below w.heap.size w w' := by
 have D0 : Hid (DI K K []) := hid (by unfold DI; rw [if_neg (by omega)]; simp)
 have hK0 : ¬ (K : Int) ≤ 0 := by omega
 go_enter Tryz.func34, Tryz.ntmps34
 go_wp2
 go_loopw [0, 3] (fun u o wr => ∃ (m : Nat) (acc : List UInt8), m ≤ K ∧ u = .int .i64 (m : Int) ∧ o = .string ⟨acc.toArray⟩ ∧ Hid (DI K m acc) ∧ Below w.heap.size w wr) (fun u _ _ => (intOf u).toNat)
 case atStart => exact ⟨K, [], Nat.le_refl _, rfl, rfl, D0, Below.refl _ _⟩
 case round =>
  clear D0
  obtain ⟨m, acc, hm, rfl, rfl, HD, hb⟩ := hrel
  have hal := HD.out.len (by omega)
  have hcv := conv_one
  by_cases hz : m = 0
  ·have HE : Hid (Lib.decDigits K = acc) := hid (by have := HD.out; unfold DI at this; rw [if_pos hz] at this; exact this)
   subst hz
   clear HD
   go_wp2
   go_ret
   refine ⟨ret_str ?_, hb⟩
   go_light
   unfold mtx
   rw [HE.out]
   apply ByteArray.ext; simp
  ·have hzi : (0 : Int) < m := by omega
   have HD2 := hid (HD.out.step hz)
   have hm10 : (m : Int) % 10 < 10 := by omega
   have hm00 : 0 ≤ (m : Int) % 10 := by omega
   clear HD
   go_wp2
   go_roundw
   case rel =>
    refine ⟨m / 10, (48 + UInt8.ofNat (m % 10)) :: acc, by omega, by go_num, ?_, HD2, hb.alloc hb.size _⟩
    rw [← cons_str]
    first
     | rfl
     | (congr 1; apply ByteArray.ext; simp; try omega)
   case measure => simp [intOf]; omega
structure MOd (w wr : World) (g i : Nat) : Prop where
 size : w.heap.size ≤ wr.heap.size
 glt : g < w.heap.size
 block : ∀ b, b < w.heap.size → b ≠ g → wr.heap[b]? = w.heap[b]?
 rest : ∀ c, i * 7 ≤ c → wr.cell? ⟨g, c, none⟩ = w.cell? ⟨g, c, none⟩
 froz : ∀ c, wr.frozen? ⟨g, c, none⟩ = w.frozen? ⟨g, c, none⟩
theorem MOd.set {w wr : World} {g i j : Nat} {u : Value} (h : MOd w wr g i) (hj : j < (i + 1) * 7) : MOd w (wr.setCell ⟨g, j, none⟩ u) g (i + 1) :=
 ⟨by simpa using h.size, h.glt, fun b hb hn => (Go.Deep.blk_setCell_other _ _ _ _ hn).trans (h.block b hb hn), fun c hc => (World.cell?_setCell_other _ ⟨g, j, none⟩ ⟨g, c, none⟩ _ (fun e => by have := congrArg Addr.off e; simp at this; omega)).trans (h.rest c (by omega)), fun c => by simpa using h.froz c⟩
theorem MOd.below {w wr w3 : World} {g i : Nat} (h : MOd w wr g i) (hb : Below wr.heap.size wr w3) : MOd w w3 g i := by
 have hg : g < wr.heap.size := Nat.lt_of_lt_of_le h.glt h.size
 exact ⟨Nat.le_trans h.size hb.size, h.glt, fun b hb' hn => (hb.block b (Nat.lt_of_lt_of_le hb' h.size)).trans (h.block b hb' hn), fun c hc => (hb.cell (p := ⟨g, c, none⟩) hg).trans (h.rest c hc), fun c => (hb.frozen (p := ⟨g, c, none⟩) hg).trans (h.froz c)⟩
theorem MOd.setN {w wr : World} {g i j : Nat} {u : Value} (h : MOd w wr g (i + 1)) (hj : j < (i + 1) * 7) : MOd w (wr.setCell ⟨g, j, none⟩ u) g (i + 1) :=
 ⟨by simpa using h.size, h.glt, fun b hb hn => (Go.Deep.blk_setCell_other _ _ _ _ hn).trans (h.block b hb hn), fun c hc => (World.cell?_setCell_other _ ⟨g, j, none⟩ ⟨g, c, none⟩ _ (fun e => by have := congrArg Addr.off e; simp at this; omega)).trans (h.rest c hc), fun c => by simpa using h.froz c⟩
set_option maxHeartbeats 8000000 in
theorem markOS_any (g cap : Nat) (us : List Opn) (B : Nat) (w a0 : World) (B0 : Nat) (hn : us.length ≤ 1048576) (hrow : RowW 7 CO B w g us) (hb : Below B0 a0 w) (hB0 : B0 ≤ g) :
 Calls Tryz.prog 17 #[.slice (some ⟨g, 0, none⟩) us.length cap, .int .i64 1] w fun e w' => (∃ k' : Int, 0 ≤ k' ∧ e = .returned (.int .i64 k')) ∧ Below B0 a0 w' ∧ w.heap.size ≤ w'.heap.size ∧ ∀ b, b < w.heap.size → b ≠ g → w'.heap[b]? = w.heap[b]? := by
 have hg5 := hrow.1
 have HROW := hid hrow.2
 have M0 : Hid (MOd w w g 0) := ⟨Nat.le_refl _, hg5, fun _ _ _ => rfl, fun _ _ => rfl, fun _ => rfl⟩
 clear hrow
 go_enter Tryz.func17, Tryz.ntmps17
 go_wp2
 go_loopw [1, 5] (fun kv iv wr => ∃ i : Nat, i ≤ us.length ∧ kv = .int .i64 ((1 + 7 * i : Nat) : Int) ∧ iv = .int .i64 i ∧ Below B0 a0 wr ∧ Hid (MOd w wr g i)) (fun _ iv _ => us.length - (intOf iv).toNat)
 case atStart => exact ⟨0, Nat.zero_le _, rfl, rfl, hb, M0⟩
 case round =>
  clear M0 hb
  obtain ⟨i, hi, rfl, rfl, hb, M⟩ := hrel
  by_cases hlt : i < us.length
  ·have hlti : (i : Int) < us.length := by omega
   obtain ⟨cs, hC, hcell⟩ := HROW.out i hlt
   generalize us[i] = t at hC
   unfold CO at hC
   subst hC
   have hgr : g < wr.heap.size := Nat.lt_of_lt_of_le hg5 M.out.size
   have cc : ∀ l, l < 7 → wr.cell? ⟨g, i * 7 + l, none⟩ = ([.int .i64 t.kd, .int .i64 t.ss, .int .i64 t.tb, .int .i64 t.ky, .int .i64 t.vl, .int .i64 t.md, .string t.nm] : List Value)[l]? ∧ wr.frozen? ⟨g, i * 7 + l, none⟩ = false := fun l hl => ⟨(M.out.rest _ (by omega)).trans (hcell l hl).1, (M.out.froz _).trans (hcell l hl).2⟩
   have c0 : wr.cell? ⟨g, i * 7, none⟩ = some (.int .i64 t.kd) := (cc 0 (by omega)).1
   have c1 : wr.cell? ⟨g, i * 7 + 1, none⟩ = some (.int .i64 t.ss) := (cc 1 (by omega)).1
   have c2 : wr.cell? ⟨g, i * 7 + 2, none⟩ = some (.int .i64 t.tb) := (cc 2 (by omega)).1
   have c3 : wr.cell? ⟨g, i * 7 + 3, none⟩ = some (.int .i64 t.ky) := (cc 3 (by omega)).1
   have c4 : wr.cell? ⟨g, i * 7 + 4, none⟩ = some (.int .i64 t.vl) := (cc 4 (by omega)).1
   have c5 : wr.cell? ⟨g, i * 7 + 5, none⟩ = some (.int .i64 t.md) := (cc 5 (by omega)).1
   have c6 : wr.cell? ⟨g, i * 7 + 6, none⟩ = some (.string t.nm) := (cc 6 (by omega)).1
   have f0 : wr.frozen? ⟨g, i * 7, none⟩ = false := (cc 0 (by omega)).2
   have f1 : wr.frozen? ⟨g, i * 7 + 1, none⟩ = false := (cc 1 (by omega)).2
   have f2 : wr.frozen? ⟨g, i * 7 + 2, none⟩ = false := (cc 2 (by omega)).2
   have f3 : wr.frozen? ⟨g, i * 7 + 3, none⟩ = false := (cc 3 (by omega)).2
   have f4 : wr.frozen? ⟨g, i * 7 + 4, none⟩ = false := (cc 4 (by omega)).2
   have f5 : wr.frozen? ⟨g, i * 7 + 5, none⟩ = false := (cc 5 (by omega)).2
   have f6 : wr.frozen? ⟨g, i * 7 + 6, none⟩ = false := (cc 6 (by omega)).2
   have hge : ∀ l, B0 ≤ (⟨g, l, none⟩ : Addr).block := fun l => hB0
   clear cc hcell
   obtain ⟨K, hK⟩ : ∃ K : Nat, K = 1 + 7 * i := ⟨_, rfl⟩
   rw [← hK]
   have HK := hid hK
   have hKb : K ≤ 7340033 := by omega
   have hK0 : 0 < K := by omega
   clear hK
   have hw1 : IntKind.i64.wrap ((K : Int) + 1) = (K : Int) + 1 := by simp only [IntKind.wrap_i64, wrap64]; omega
   have hw2 : IntKind.i64.wrap ((K : Int) + 1 + 1) = (K : Int) + 1 + 1 := by simp only [IntKind.wrap_i64, wrap64]; omega
   have hw3 : IntKind.i64.wrap ((K : Int) + 1 + 1 + 1) = (K : Int) + 1 + 1 + 1 := by simp only [IntKind.wrap_i64, wrap64]; omega
   have hw4 : IntKind.i64.wrap ((K : Int) + 1 + 1 + 1 + 1) = (K : Int) + 1 + 1 + 1 + 1 := by simp only [IntKind.wrap_i64, wrap64]; omega
   have hw5 : IntKind.i64.wrap ((K : Int) + 1 + 1 + 1 + 1 + 1) = (K : Int) + 1 + 1 + 1 + 1 + 1 := by simp only [IntKind.wrap_i64, wrap64]; omega
   have hw6 : IntKind.i64.wrap ((K : Int) + 1 + 1 + 1 + 1 + 1 + 1) = (K : Int) + 1 + 1 + 1 + 1 + 1 + 1 := by simp only [IntKind.wrap_i64, wrap64]; omega
   have hw7 : IntKind.i64.wrap ((K : Int) + 1 + 1 + 1 + 1 + 1 + 1 + 1) = (K : Int) + 1 + 1 + 1 + 1 + 1 + 1 + 1 := by simp only [IntKind.wrap_i64, wrap64]; omega
   obtain ⟨Y, hY⟩ : ∃ Y, Y = (((((wr.setCell ⟨g, i * 7, none⟩ (.int .i64 (K : Int))).setCell ⟨g, i * 7 + 1, none⟩ (.int .i64 ((K : Int) + 1))).setCell ⟨g, i * 7 + 2, none⟩ (.int .i64 ((K : Int) + 1 + 1))).setCell ⟨g, i * 7 + 3, none⟩ (.int .i64 ((K : Int) + 1 + 1 + 1))).setCell ⟨g, i * 7 + 4, none⟩ (.int .i64 ((K : Int) + 1 + 1 + 1 + 1))).setCell ⟨g, i * 7 + 5, none⟩ (.int .i64 ((K : Int) + 1 + 1 + 1 + 1 + 1)) := ⟨_, rfl⟩
   have HMY : Hid (MOd w Y g (i + 1)) := hid (by rw [hY]; exact (((((M.out.set (by omega)).setN (by omega)).setN (by omega)).setN (by omega)).setN (by omega)).setN (by omega))
   have bY : Below B0 a0 Y := by rw [hY]; exact (((((hb.setCell (hge _) _).setCell (hge _) _).setCell (hge _) _).setCell (hge _) _).setCell (hge _) _).setCell (hge _) _
   have y6 : Y.cell? ⟨g, i * 7 + 6, none⟩ = some (.string t.nm) := by rw [hY]; simp [go_sem, c6]
   have z6 : Y.frozen? ⟨g, i * 7 + 6, none⟩ = false := by rw [hY]; simpa using f6
   have hYg : g < Y.heap.size := by rw [hY]; simpa using hgr
   have hmt := markText_any (K + 6) Y (by omega) (by omega)
   clear M hb
   go_wp2_with (go_at_call 34; fail)
   rw [← hY, show (K : Int) + 1 + 1 + 1 + 1 + 1 + 1 = ((K + 6 : Nat) : Int) by omega]
   refine hmt.mono ?_
   rintro e w3 ⟨rfl, hb3⟩
   have c63 := (hb3.cell (p := ⟨g, i * 7 + 6, none⟩) hYg).trans y6
   have z63 := (hb3.frozen (p := ⟨g, i * 7 + 6, none⟩) hYg).trans z6
   have HM := hid ((HMY.out.below hb3).setN (u := .string (mtx (K + 6))) (show i * 7 + 6 < (i + 1) * 7 by omega))
   have bw4 := (bY.trans (hb3.mono (show B0 ≤ Y.heap.size by omega))).setCell (show B0 ≤ (⟨g, i * 7 + 6, none⟩ : Addr).block from hB0) (.string (mtx (K + 6)))
   clear hmt HMY bY y6 z6 hb3 hY c0 c1 c2 c3 c4 c5 c6 f0 f1 f2 f3 f4 f5 f6
   go_wp2
   go_roundw
   case rel => exact ⟨i + 1, by omega, by have := HK.out; congr 1; omega, by go_num, bw4, HM⟩
   case measure => simp [intOf]; omega
  ·have hin : i = us.length := by omega
   subst hin
   have hlti : ¬ (us.length : Int) < us.length := by omega
   go_wp2
   go_ret
   exact ⟨⟨_, by omega, rfl⟩, hb, M.out.size, M.out.block⟩
end Go.Proofs.YtblkgicbimflhaaGreat
