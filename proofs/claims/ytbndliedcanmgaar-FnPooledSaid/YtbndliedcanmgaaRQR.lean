import Derived.Test.YtbndliedcanmgaaRQV
import Derived.Test.YtbndliedcanmgaaRQK
namespace Go.Proofs.YtbndliedcanmgaaR
open Go.ChangeShapes Go.WideShapes Go.ChangeAt Go.RowKit
set_option linter.unusedVariables false
set_option linter.unusedSimpArgs false
set_option maxRecDepth 100000
theorem good_set {fs : List Fr} {i : Nat} {x : Fr} (hg : Good fs) (h1 : x.pg < 300) (h2 : x.pg < 0 → x.ma = false ∧ x.dy = false) : Good (fs.set i x) := fun f hf => by
  rcases List.mem_or_eq_of_mem_set hf with h | rfl
  · exact hg f h
  · exact ⟨h1, h2⟩
theorem good_clk : ∀ (n : Nat) (fs : List Fr) (h : Nat), Good fs → Good (clk n fs h).1
  | 0, _, _, hg => hg
  | n + 1, fs, h, hg => by
    rw [clk]
    cases he : fs[h]? with
    | none => exact hg
    | some x =>
      simp only
      split
      · rename_i hc
        exact good_clk n _ _ (good_set hg (hg x (List.mem_of_getElem? he)).1 (fun hn => by have : x.pg < 0 := hn; omega))
      · exact hg
theorem good_clean {fs : List Fr} (hg : Good fs) : Good (fs.map (fun f => f.d false)) := fun f hf => by
  obtain ⟨g, hm, rfl⟩ := List.mem_map.1 hf
  exact ⟨(hg g hm).1, fun hn => ⟨((hg g hm).2 hn).1, rfl⟩⟩
/-- What an operation of the program's pool answers. -/
def RunI (q : Nat) (o : POut × List Fr × Nat) (w : World) (e : Ending) (w' : World) : Prop := ∃ v, e = .returned (.agg #[.int .i64 o.1.rd, .int .i64 o.1.wr, v]) ∧ IOut w.heap.size w' v o.1.all ∧ IPool w' q 0 o.2.1 o.2.2 ∧ Good o.2.1 ∧ U2 q q w w'
theorem use_anyI (q : Nat) (fs : List Fr) (h : Nat) (o : POp) (w : World) (P : IPool w q 0 fs h) (hg : Good fs) (hk : o.kd = 1 ∨ o.kd = 2 ∨ o.kd = 3) (h0 : 0 ≤ o.pg) (h3 : o.pg < 300) :
    Calls Try.prog 32 #[.pointer (some ⟨q, 0, none⟩), .agg #[.int .i64 o.kd, .int .i64 o.pg]] w fun e w' => RunI q (stepF o fs h) w e w' := by
  have hl := P.len
  have h4 : ¬ o.kd = 4 := by omega
  cases hf : findP o.pg fs with
  | some i =>
    obtain ⟨hi, hp, hn⟩ := findP_some_iff hf
    have hu : useF o.pg fs h = ⟨i, true, -1, fs.set i (fs[i].m true), h⟩ := by
      unfold useF setMark
      rw [hf]
      simp only [List.getElem?_eq_getElem hi]
    have hg2 : Good (fs.set i (fs[i].m true)) := good_set hg (by show fs[i].pg < 300; omega) (fun hn => by have : fs[i].pg < 0 := hn; omega)
    have hi2 : i < (fs.set i (fs[i].m true)).length := by simpa using hi
    have hs : stepF o fs h = (⟨-1, -1, []⟩, (fs.set i (fs[i].m true)).set i (((fs.set i (fs[i].m true))[i]'hi2).d (fs[i].dy || decide (o.kd ≠ 1))), h) := by
      unfold stepF
      rw [if_neg h4, hu]
      simp only
      rw [if_neg (by simp)]
      by_cases h1 : 1 < o.kd
      · rw [if_pos h1]
        have hd : decide (o.kd ≠ 1) = true := by simp; omega
        rw [hd, Bool.or_true]
        unfold setDirty
        simp only [List.getElem?_eq_getElem hi2]
      · rw [if_neg h1]
        have hd : decide (o.kd ≠ 1) = false := by simp; omega
        rw [hd, Bool.or_false]
        have : ((fs.set i (fs[i].m true))[i]'hi2).d fs[i].dy = fs[i].m true := by rw [List.getElem_set_self]; rfl
        rw [this, List.set_set]
    refine (use_hitI q fs h o.kd o.pg w P h0 i hi hf).mono ?_
    rintro e w' ⟨rfl, hp', hu'⟩
    rw [hs]
    refine ⟨_, rfl, ⟨by simp, .inl ⟨rfl, rfl⟩⟩, hp', ?_, hu'⟩
    refine good_set hg2 ?_ ?_
    · show ((fs.set i (fs[i].m true))[i]'hi2).pg < 300
      rw [List.getElem_set_self]
      show fs[i].pg < 300
      omega
    · intro hn
      have hn' : ((fs.set i (fs[i].m true))[i]'hi2).pg < 0 := hn
      rw [List.getElem_set_self] at hn'
      have : fs[i].pg < 0 := hn'
      omega
  | none =>
    rcases hc : clk 9 fs h with ⟨fs1, h1⟩
    have hg1 : Good fs1 := by have := good_clk 9 fs h hg; rw [hc] at this; exact this
    refine (use_missI q fs h o.kd o.pg w P hg hk h0 hf fs1 h1 hc).mono ?_
    rintro e w' ⟨hh, rfl, hp', hu'⟩
    have hw : wroteAt fs1 h1 = wroteF fs1[h1] := by unfold wroteAt; rw [List.getElem?_eq_getElem hh]
    have hs : stepF o fs h = (⟨if o.kd < 3 then o.pg else -1, wroteF fs1[h1], []⟩, fs1.set h1 ⟨o.pg, true, decide (o.kd ≠ 1)⟩, (h1 + 1) % 8) := by
      have hu : useF o.pg fs h = ⟨h1, false, wroteF fs1[h1], fs1.set h1 ⟨o.pg, true, false⟩, (h1 + 1) % 8⟩ := by
        unfold useF
        rw [hf, hc]
        simp only [hw]
      unfold stepF
      rw [if_neg h4, hu]
      simp only [true_and]
      by_cases h1' : 1 < o.kd
      · rw [if_pos h1']
        have hd : decide (o.kd ≠ 1) = true := by simp; omega
        rw [hd]
        unfold setDirty
        have hi2 : h1 < (fs1.set h1 ⟨o.pg, true, false⟩).length := by simpa using hh
        simp only [List.getElem?_eq_getElem hi2, List.getElem_set_self, List.set_set, Fr.d]
      · rw [if_neg h1']
        have hd : decide (o.kd ≠ 1) = false := by simp; omega
        rw [hd]
    rw [hs]
    refine ⟨_, rfl, ⟨by simp, .inl ⟨rfl, rfl⟩⟩, hp', ?_, hu'⟩
    exact good_set hg1 h3 (fun hn => by have : o.pg < 0 := hn; omega)
theorem fin_run {q n : Nat} {fs : List Fr} {h : Nat} {w wA w1 : World} {x y v : Value} {xs : List Int} (P : IPool w1 q 0 fs h) (U : U2 q q wA w1) (hb : Below w.heap.size w wA) (hn : n = w.heap.size + 1) (hA : wA.heap.size = w.heap.size + 2) (hq : q < w.heap.size) (I : IOut wA.heap.size w1 v xs) : IPool (((w1.setCell ⟨n, 0, none⟩ x).setCell ⟨n, 1, none⟩ y).setCell ⟨n, 2, none⟩ v) q 0 fs h ∧ U2 q q w (((w1.setCell ⟨n, 0, none⟩ x).setCell ⟨n, 1, none⟩ y).setCell ⟨n, 2, none⟩ v) ∧ IOut w.heap.size (((w1.setCell ⟨n, 0, none⟩ x).setCell ⟨n, 1, none⟩ y).setCell ⟨n, 2, none⟩ v) v xs :=
  ⟨((P.setO (by omega)).setO (by omega)).setO (by omega), ((((U2.below hb).trans U).setN (by omega)).setN (by omega)).setN (by omega),
    have hlt := World.ownsRow.lt I
    have ne : ∀ k, k = n → v.ownBlock ≠ some k := fun k hk e => by have := (hlt k e).1; omega
    IOut.base (ownsRow_setCell_other (ownsRow_setCell_other (ownsRow_setCell_other I (ne n rfl) _) (ne n rfl) _) (ne n rfl) _) (by omega)⟩
theorem res_cells {q : Nat} {w wA w1 : World} (U : U2 q q wA w1) (hq : q < w.heap.size) (j k : Nat) (hj : j < wA.heap.size) (hn : q ≠ j) : w1.cell? ⟨j, k, none⟩ = wA.cell? ⟨j, k, none⟩ ∧ w1.frozen? ⟨j, k, none⟩ = wA.frozen? ⟨j, k, none⟩ := ⟨World.cell?_of_block (a := ⟨j, k, none⟩) (U.block j hj (fun e => hn e.symm) (fun e => hn e.symm)), World.frozen?_of_block (a := ⟨j, k, none⟩) (U.block j hj (fun e => hn e.symm) (fun e => hn e.symm))⟩
set_option maxHeartbeats 4000000 in
theorem run_any (q : Nat) (fs : List Fr) (h : Nat) (o : POp) (w : World) (P : IPool w q 0 fs h) (hg : Good fs) (hok : opOK o = true) :
    Calls Try.prog 22 #[.pointer (some ⟨q, 0, none⟩), .agg #[.int .i64 o.kd, .int .i64 o.pg]] w fun e w' => RunI q (stepF o fs h) w e w' := by
  have hq := P.qlt
  have HP := hid P
  have HG := hid hg
  have hl := P.len
  clear P hg
  unfold opOK at hok
  simp only [Bool.and_eq_true, Bool.or_eq_true, decide_eq_true_eq] at hok
  obtain ⟨⟨k1, k4⟩, hor⟩ := hok
  obtain ⟨kd, pg⟩ := o
  simp only at k1 k4 hor
  have HB : Hid (Below w.heap.size w ((w.alloc (.cells #[.int .i64 kd, .int .i64 pg] 26)).alloc (.cells #[.int .i64 0, .int .i64 0, .slice none 0 0] 33))) := (below_alloc w (.cells #[.int .i64 kd, .int .i64 pg] 26)).alloc (by simp) _
  by_cases h4 : kd = 4
  · have hk4 : (kd == 4) = true := by simpa using h4
    have HS : Hid (stepF ⟨kd, pg⟩ fs h = (⟨-1, -1, (clP 300 ([], fs)).1⟩, (clP 300 ([], fs)).2, h)) := (by unfold stepF; rw [if_pos h4] : stepF ⟨kd, pg⟩ fs h = (⟨-1, -1, (clP 300 ([], fs)).1⟩, (clP 300 ([], fs)).2, h))
    have HGC : Hid (Good (clP 300 ([], fs)).2) := (by rw [clP_good fs hl HG.out]; exact good_clean HG.out : Good (clP 300 ([], fs)).2)
    clear h4 hor k1 k4
    obtain ⟨⟨al, fs2⟩, hcl⟩ : ∃ z, clP 300 ([], fs) = z := ⟨_, rfl⟩
    have HCL := hid hcl
    rw [hcl] at HS HGC
    clear hcl
    simp only at HS HGC
    go_enter Try.func22, Try.ntmps22
    go_wp2_with (go_at_call 31; fail)
    refine (clean_any q fs h _ (HP.out.below HB.out) HG.out).mono ?_
    rintro e w1 ⟨v, rfl, hI, hP1, hU⟩
    rw [HCL.out] at hI hP1
    simp only at hI hP1
    obtain ⟨oa, oc, hv⟩ := hI.form
    subst hv
    have hA : ((w.alloc (.cells #[.int .i64 kd, .int .i64 pg] 26)).alloc (.cells #[.int .i64 0, .int .i64 0, .slice none 0 0] 33)).heap.size = w.heap.size + 2 := by simp
    obtain ⟨a0, y0⟩ := res_cells hU hq (w.heap.size + 1) 0 (by omega) (by omega)
    obtain ⟨a1, y1⟩ := res_cells hU hq (w.heap.size + 1) 1 (by omega) (by omega)
    obtain ⟨a2, y2⟩ := res_cells hU hq (w.heap.size + 1) 2 (by omega) (by omega)
    have r0 : w1.cell? ⟨w.heap.size + 1, 0, none⟩ = some (.int .i64 0) := a0.trans (by simp [go_sem])
    have r1 : w1.cell? ⟨w.heap.size + 1, 1, none⟩ = some (.int .i64 0) := a1.trans (by simp [go_sem])
    have r2 : w1.cell? ⟨w.heap.size + 1, 2, none⟩ = some (.slice none 0 0) := a2.trans (by simp [go_sem])
    have z0 : w1.frozen? ⟨w.heap.size + 1, 0, none⟩ = false := y0.trans (by simp [go_sem])
    have z1 : w1.frozen? ⟨w.heap.size + 1, 1, none⟩ = false := y1.trans (by simp [go_sem])
    have z2 : w1.frozen? ⟨w.heap.size + 1, 2, none⟩ = false := y2.trans (by simp [go_sem])
    have HF := hid (fin_run (n := w.heap.size + 1) (x := .int .i64 (-1)) (y := .int .i64 (-1)) hP1 hU HB.out rfl hA hq hI)
    clear a0 y0 a1 y1 a2 y2 hI hP1 hU hA HB
    go_wp2
    refine bodyPost_ret (v := .agg #[.int .i64 (-1), .int .i64 (-1), .slice oa al.length oc]) (by simp [results, Try.results22, go_sem, r0, r1, r2]) rfl ⟨.slice oa al.length oc, ?_, ?_, ?_, ?_, HF.out.2.1⟩
    · rw [HS.out]
    · rw [HS.out]; exact HF.out.2.2
    · rw [HS.out]; exact HF.out.1
    · rw [HS.out]; exact HGC.out
  · have hk4 : (kd == 4) = false := by simpa using h4
    have hp : 0 ≤ pg ∧ pg < 300 := by rcases hor with e | e; exact absurd e h4; exact e
    have hk3 : kd = 1 ∨ kd = 2 ∨ kd = 3 := by omega
    clear h4 hor k1 k4
    go_enter Try.func22, Try.ntmps22
    go_wp2_with (go_at_call 32; fail)
    refine (use_anyI q fs h ⟨kd, pg⟩ _ (HP.out.below HB.out) HG.out hk3 hp.1 hp.2).mono ?_
    rintro e w1 ⟨v, rfl, hI, hP1, hg1, hU⟩
    obtain ⟨o1, ho1⟩ : ∃ z, stepF ⟨kd, pg⟩ fs h = z := ⟨_, rfl⟩
    rw [ho1] at hI hP1 hg1 ⊢
    obtain ⟨⟨rd, wr, all⟩, fs1, h1⟩ := o1
    have HS := hid ho1
    clear ho1
    simp only at hI hP1 hg1
    have HG1 := hid hg1
    clear hg1
    obtain ⟨oa, oc, hv⟩ := hI.form
    subst hv
    have hA : ((w.alloc (.cells #[.int .i64 kd, .int .i64 pg] 26)).alloc (.cells #[.int .i64 0, .int .i64 0, .slice none 0 0] 33)).heap.size = w.heap.size + 2 := by simp
    obtain ⟨a0, y0⟩ := res_cells hU hq (w.heap.size + 1) 0 (by omega) (by omega)
    obtain ⟨a1, y1⟩ := res_cells hU hq (w.heap.size + 1) 1 (by omega) (by omega)
    obtain ⟨a2, y2⟩ := res_cells hU hq (w.heap.size + 1) 2 (by omega) (by omega)
    have r0 : w1.cell? ⟨w.heap.size + 1, 0, none⟩ = some (.int .i64 0) := a0.trans (by simp [go_sem])
    have r1 : w1.cell? ⟨w.heap.size + 1, 1, none⟩ = some (.int .i64 0) := a1.trans (by simp [go_sem])
    have r2 : w1.cell? ⟨w.heap.size + 1, 2, none⟩ = some (.slice none 0 0) := a2.trans (by simp [go_sem])
    have z0 : w1.frozen? ⟨w.heap.size + 1, 0, none⟩ = false := y0.trans (by simp [go_sem])
    have z1 : w1.frozen? ⟨w.heap.size + 1, 1, none⟩ = false := y1.trans (by simp [go_sem])
    have z2 : w1.frozen? ⟨w.heap.size + 1, 2, none⟩ = false := y2.trans (by simp [go_sem])
    have HF := hid (fin_run (n := w.heap.size + 1) (x := .int .i64 rd) (y := .int .i64 wr) hP1 hU HB.out rfl hA hq hI)
    clear a0 y0 a1 y1 a2 y2 hI hP1 hU hA HB
    go_wp2
    refine bodyPost_ret (v := .agg #[.int .i64 rd, .int .i64 wr, .slice oa all.length oc]) (by simp [results, Try.results22, go_sem, r0, r1, r2]) rfl ⟨.slice oa all.length oc, ?_, ?_, ?_, ?_, HF.out.2.1⟩
    · rw [HS.out]
    · rw [HS.out]; exact HF.out.2.2
    · rw [HS.out]; exact HF.out.1
    · rw [HS.out]; exact HG1.out
end Go.Proofs.YtbndliedcanmgaaR
