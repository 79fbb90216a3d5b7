import Derived.Test.YtbndliedcanmgaaRQU
namespace Go.Proofs.YtbndliedcanmgaaR
open Go.ChangeShapes Go.WideShapes Go.ChangeAt Go.RowKit
set_option linter.unusedVariables false
set_option linter.unusedSimpArgs false
set_option maxRecDepth 100000
open Go.MuLone
/-- The frame that a page takes. -/
theorem setF_run {w : World} {q : Nat} {l : Int} {fs : List Fr} {h : Nat} (p : IPool w q l fs h) (i : Nat) (hi : i < fs.length) (pg : Int) (h0 : 0 ≤ pg) (b : Bool) : IPool ((((((w.setCell ⟨q, 2 + i * 4, none⟩ (.int .i64 pg)).setCell ⟨q, 2 + i * 4 + 1, none⟩ (.bool true)).setCell ⟨q, 2 + i * 4 + 2, none⟩ (.bool false)).setCell ⟨q, 2 + i * 4 + 3, none⟩ (.bool false)).setCell ⟨q, 2 + i * 4 + 2, none⟩ (.bool true)).setCell ⟨q, 2 + i * 4 + 3, none⟩ (.bool b)) q l (fs.set i ⟨pg, true, b⟩) h := by
  have e0 : pgC ⟨pg, false, false⟩ = pg := by unfold pgC; rw [if_neg (by simp; omega)]
  have e1 : tkC ⟨pg, false, false⟩ = true := by unfold tkC; simp; omega
  have p1 := p.setF i hi ⟨pg, false, false⟩
  rw [e0, e1] at p1
  have h1 : i < (fs.set i ⟨pg, false, false⟩).length := by simpa using hi
  have p2 := p1.setM i h1 true
  have h2 : i < ((fs.set i ⟨pg, false, false⟩).set i ((fs.set i ⟨pg, false, false⟩)[i].m true)).length := by simpa using hi
  have p3 := p2.setD i h2 b
  simp only [List.getElem_set_self, List.set_set, Fr.m, Fr.d] at p3
  exact p3
theorem U2.setN {q g c j : Nat} {w a : World} {u : Value} (h : U2 q g w a) (hc : w.heap.size ≤ c) : U2 q g w (a.setCell ⟨c, j, none⟩ u) := ⟨h.os, h.tape, h.output, by simpa [World.setCell] using h.size, fun k hk h1 h2 => (Below.heap_setCell _ _ _ _ (by simp; omega)).trans (h.block k hk h1 h2)⟩
theorem fin_miss {q n : Nat} {fs : List Fr} {h : Nat} {w w4 : World} {x y u a b c : Value} (P : IPool w4 q 1 fs h) (U : U2 q q w w4) (i : Nat) (hi : i < fs.length) (pg : Int) (h0 : 0 ≤ pg) (bb : Bool) (hq : q < w.heap.size) (hn : w.heap.size ≤ n) (k0 : w4.cell? ⟨n, 0, none⟩ = some a) (k1 : w4.cell? ⟨n, 1, none⟩ = some b) (k2 : w4.cell? ⟨n, 2, none⟩ = some c) : FinU q n x y u (fs.set i ⟨pg, true, bb⟩) h w (((((((((w4.setCell ⟨q, 2 + i * 4, none⟩ (.int .i64 pg)).setCell ⟨q, 2 + i * 4 + 1, none⟩ (.bool true)).setCell ⟨q, 2 + i * 4 + 2, none⟩ (.bool false)).setCell ⟨q, 2 + i * 4 + 3, none⟩ (.bool false)).setCell ⟨q, 2 + i * 4 + 2, none⟩ (.bool true)).setCell ⟨q, 2 + i * 4 + 3, none⟩ (.bool bb)).setCell ⟨n, 0, none⟩ x).setCell ⟨n, 1, none⟩ y).setCell ⟨n, 2, none⟩ u) :=
  told_of (setF_run P i hi pg h0 bb) U.setQ.setQ.setQ.setQ.setQ.setQ hq hn (cell_blk (cell_blk (cell_blk (cell_blk (cell_blk (cell_blk k0 (by omega)) (by omega)) (by omega)) (by omega)) (by omega)) (by omega)) (cell_blk (cell_blk (cell_blk (cell_blk (cell_blk (cell_blk k1 (by omega)) (by omega)) (by omega)) (by omega)) (by omega)) (by omega)) (cell_blk (cell_blk (cell_blk (cell_blk (cell_blk (cell_blk k2 (by omega)) (by omega)) (by omega)) (by omega)) (by omega)) (by omega))
set_option maxHeartbeats 4000000 in
theorem use_missI (q : Nat) (fs : List Fr) (h : Nat) (kd pg : Int) (w : World) (P : IPool w q 0 fs h) (hg : Good fs) (hk : kd = 1 ∨ kd = 2 ∨ kd = 3) (h0 : 0 ≤ pg) (hf : findP pg fs = none) (fs1 : List Fr) (h1 : Nat) (hck : clk 9 fs h = (fs1, h1)) :
    Calls Try.prog 32 #[.pointer (some ⟨q, 0, none⟩), .agg #[.int .i64 kd, .int .i64 pg]] w fun e w' => ∃ hh : h1 < fs1.length, UseI q (⟨if kd < 3 then pg else -1, wroteF fs1[h1], []⟩, fs1.set h1 ⟨pg, true, decide (kd ≠ 1)⟩, (h1 + 1) % 8) w e w' := by
  have hq := P.qlt
  have hl := P.len
  have hcl : cnt fs ≤ 8 := by have := cnt_le fs; omega
  have HP := hid P
  have HF := hid hf
  have HG := hid hg
  have HCK := hid hck
  clear P hf hg hck
  go_enter_defers Try.func32, Try.ntmps32
  go_wp2_with (go_at_call 34; fail)
  refine (lock_free muLib ⟨q, 0, none⟩ _ ?_ ?_).mono ?_
  · exact (HP.out.below ((below_alloc w (.cells #[.int .i64 kd, .int .i64 pg] 26)).alloc (by simp) _)).blk.1.1
  · exact (HP.out.below ((below_alloc w (.cells #[.int .i64 kd, .int .i64 pg] 26)).alloc (by simp) _)).blk.2.1
  rintro e w1 ⟨rfl, hw1⟩
  have L := lkd_of kd pg HP.out
  rw [← hw1] at L
  clear hw1 HP
  have hs1 := L.size
  have b0 := L.b0
  have b1 := L.b1
  have HL := hid L
  clear L
  go_wp2_with (go_at_call 37; fail)
  refine (frameOf_any q 1 fs h pg _ (HL.out.pool.below (below_alloc _ _)) h0).mono ?_
  rintro e w2 ⟨rfl, hw2⟩
  have L2 := lk2_of HL.out
  rw [← hw2] at L2
  clear hw2 hs1 b0 b1 HL
  have HL2 := hid L2
  clear L2
  rw [HF.out]
  simp only [ptrF]
  go_wp2_with (go_at_call 38; fail)
  refine (nextFrame_any q 1 fs h w2 HL2.out.pool HG.out hcl fs1 h1 HCK.out).mono ?_
  rintro e w3 ⟨rfl, hh8, hg1, P3, U3⟩
  have hl3 := P3.len
  have hh : h1 < fs1.length := by omega
  have HU := hid (HL2.out.rest.trans U3)
  have hs3 := U3.size
  have hz := HL2.out.size
  have bl : ∀ j k, j < w2.heap.size → q ≠ j → w3.cell? ⟨j, k, none⟩ = w2.cell? ⟨j, k, none⟩ := fun j k hj hn => World.cell?_of_block (a := ⟨j, k, none⟩) (U3.block j hj (by omega) (by omega))
  have fz : ∀ j k, j < w2.heap.size → q ≠ j → w3.frozen? ⟨j, k, none⟩ = w2.frozen? ⟨j, k, none⟩ := fun j k hj hn => World.frozen?_of_block (a := ⟨j, k, none⟩) (U3.block j hj (by omega) (by omega))
  have b0 := (bl w.heap.size 0 (by omega) (by omega)).trans HL2.out.b0
  have b1 := (bl w.heap.size 1 (by omega) (by omega)).trans HL2.out.b1
  have r0 := (bl (w.heap.size + 1) 0 (by omega) (by omega)).trans HL2.out.r0
  have r1 := (bl (w.heap.size + 1) 1 (by omega) (by omega)).trans HL2.out.r1
  have r2 := (bl (w.heap.size + 1) 2 (by omega) (by omega)).trans HL2.out.r2
  have z0 := (fz (w.heap.size + 1) 0 (by omega) (by omega)).trans HL2.out.z0
  have z1 := (fz (w.heap.size + 1) 1 (by omega) (by omega)).trans HL2.out.z1
  have z2 := (fz (w.heap.size + 1) 2 (by omega) (by omega)).trans HL2.out.z2
  have o0 := (bl (w.heap.size + 2) 0 (by omega) (by omega)).trans HL2.out.o0
  have o1 := (bl (w.heap.size + 2) 1 (by omega) (by omega)).trans HL2.out.o1
  have o2 := (bl (w.heap.size + 2) 2 (by omega) (by omega)).trans HL2.out.o2
  have y0 := (fz (w.heap.size + 2) 0 (by omega) (by omega)).trans HL2.out.y0
  have y1 := (fz (w.heap.size + 2) 1 (by omega) (by omega)).trans HL2.out.y1
  have y2 := (fz (w.heap.size + 2) 2 (by omega) (by omega)).trans HL2.out.y2
  have hw3 : w.heap.size + 3 ≤ w3.heap.size := by omega
  obtain ⟨⟨d0, d1, d2, d3⟩, f0, f1, f2, f3⟩ := P3.frs h1 hh
  have hpc : fs1[h1].dy = true → pgC fs1[h1] = fs1[h1].pg ∧ 0 ≤ fs1[h1].pg := fun hd => by
    have hp : ¬ fs1[h1].pg < 0 := fun hn => by
      have := ((hg1 _ (List.getElem_mem hh)).2 hn).2
      rw [hd] at this
      cases this
    exact ⟨by unfold pgC; rw [if_neg hp], by omega⟩
  have HPC := hid hpc
  have HP3 := hid P3
  clear P3 U3 hs3 hz bl fz HL2 hpc hg1 HG HCK HF
  rcases hk with rfl | rfl | rfl
  · cases hdy : fs1[h1].dy
    · rw [hdy] at d3
      have P4 : IPool (w3.setCell ⟨w.heap.size + 2, 0, none⟩ (.int .i64 pg)) q 1 fs1 ((h1 + 1) % 8) := (HP3.out.setO (by omega))
      have U4 : U2 q q w (w3.setCell ⟨w.heap.size + 2, 0, none⟩ (.int .i64 pg)) := (HU.out.setN (by omega))
      have HPF := hid (fin_miss (n := w.heap.size + 1) (x := .int .i64 pg) (y := .int .i64 (-1)) (u := .slice none 0 0) P4 U4 h1 hh pg h0 false hq (Nat.le_succ _) (cell_blk r0 (by omega)) (cell_blk r1 (by omega)) (cell_blk r2 (by omega)))
      clear P4 U4 HP3 HU
      have HWR : Hid (wroteF fs1[h1] = -1) := (by unfold wroteF; rw [if_neg (by simp [hdy])] : wroteF fs1[h1] = -1)
      clear hdy
      go_wp2
      unfold bodyPostD
      refine leaves_cons (f := 35) (args := #[.pointer (some ⟨q, 0, none⟩)]) (by simp) (by simp [go_sem]) ?_
      refine (unlock_deferred muLib ⟨q, 0, none⟩ .returning _ HPF.out.pool.blk.1.1 HPF.out.pool.blk.2.1).mono ?_
      rintro e u' w'' ⟨rfl, rfl, rfl⟩
      refine ⟨.agg #[.int .i64 pg, .int .i64 (-1), .slice none 0 0], by simp [results, Try.results32, go_sem, HPF.out.c0, HPF.out.c1, HPF.out.c2], ?_⟩
      first | (refine ⟨by rw [HWR.out], ?_, HPF.out.rest.setQ⟩; exact HPF.out.pool.setL 0) | (refine ⟨hh, by rw [HWR.out], ?_, HPF.out.rest.setQ⟩; exact HPF.out.pool.setL 0)
    · obtain ⟨hp1, hp2⟩ := HPC.out hdy
      have HW0 : Hid (wroteF fs1[h1] = fs1[h1].pg) := (by unfold wroteF; rw [if_pos ⟨hp2, hdy⟩] : wroteF fs1[h1] = fs1[h1].pg)
      rw [hdy] at d3
      rw [hp1] at d0
      obtain ⟨p0, hpe⟩ : ∃ z, fs1[h1].pg = z := ⟨_, rfl⟩
      rw [hpe] at d0 HW0
      clear hpe hp1 hp2 hdy HPC
      have P4 : IPool ((w3.setCell ⟨w.heap.size + 2, 1, none⟩ (.int .i64 p0)).setCell ⟨w.heap.size + 2, 0, none⟩ (.int .i64 pg)) q 1 fs1 ((h1 + 1) % 8) := ((HP3.out.setO (by omega)).setO (by omega))
      have U4 : U2 q q w ((w3.setCell ⟨w.heap.size + 2, 1, none⟩ (.int .i64 p0)).setCell ⟨w.heap.size + 2, 0, none⟩ (.int .i64 pg)) := ((HU.out.setN (by omega)).setN (by omega))
      have HPF := hid (fin_miss (n := w.heap.size + 1) (x := .int .i64 pg) (y := .int .i64 p0) (u := .slice none 0 0) P4 U4 h1 hh pg h0 false hq (Nat.le_succ _) (cell_blk (cell_blk r0 (by omega)) (by omega)) (cell_blk (cell_blk r1 (by omega)) (by omega)) (cell_blk (cell_blk r2 (by omega)) (by omega)))
      clear P4 U4 HP3 HU
      have HWR : Hid (wroteF fs1[h1] = p0) := HW0
      go_wp2
      unfold bodyPostD
      refine leaves_cons (f := 35) (args := #[.pointer (some ⟨q, 0, none⟩)]) (by simp) (by simp [go_sem]) ?_
      refine (unlock_deferred muLib ⟨q, 0, none⟩ .returning _ HPF.out.pool.blk.1.1 HPF.out.pool.blk.2.1).mono ?_
      rintro e u' w'' ⟨rfl, rfl, rfl⟩
      refine ⟨.agg #[.int .i64 pg, .int .i64 p0, .slice none 0 0], by simp [results, Try.results32, go_sem, HPF.out.c0, HPF.out.c1, HPF.out.c2], ?_⟩
      first | (refine ⟨by rw [HWR.out], ?_, HPF.out.rest.setQ⟩; exact HPF.out.pool.setL 0) | (refine ⟨hh, by rw [HWR.out], ?_, HPF.out.rest.setQ⟩; exact HPF.out.pool.setL 0)
  · cases hdy : fs1[h1].dy
    · rw [hdy] at d3
      have P4 : IPool (w3.setCell ⟨w.heap.size + 2, 0, none⟩ (.int .i64 pg)) q 1 fs1 ((h1 + 1) % 8) := (HP3.out.setO (by omega))
      have U4 : U2 q q w (w3.setCell ⟨w.heap.size + 2, 0, none⟩ (.int .i64 pg)) := (HU.out.setN (by omega))
      have HPF := hid (fin_miss (n := w.heap.size + 1) (x := .int .i64 pg) (y := .int .i64 (-1)) (u := .slice none 0 0) P4 U4 h1 hh pg h0 true hq (Nat.le_succ _) (cell_blk r0 (by omega)) (cell_blk r1 (by omega)) (cell_blk r2 (by omega)))
      clear P4 U4 HP3 HU
      have HWR : Hid (wroteF fs1[h1] = -1) := (by unfold wroteF; rw [if_neg (by simp [hdy])] : wroteF fs1[h1] = -1)
      clear hdy
      go_wp2
      unfold bodyPostD
      refine leaves_cons (f := 35) (args := #[.pointer (some ⟨q, 0, none⟩)]) (by simp) (by simp [go_sem]) ?_
      refine (unlock_deferred muLib ⟨q, 0, none⟩ .returning _ HPF.out.pool.blk.1.1 HPF.out.pool.blk.2.1).mono ?_
      rintro e u' w'' ⟨rfl, rfl, rfl⟩
      refine ⟨.agg #[.int .i64 pg, .int .i64 (-1), .slice none 0 0], by simp [results, Try.results32, go_sem, HPF.out.c0, HPF.out.c1, HPF.out.c2], ?_⟩
      first | (refine ⟨by rw [HWR.out], ?_, HPF.out.rest.setQ⟩; exact HPF.out.pool.setL 0) | (refine ⟨hh, by rw [HWR.out], ?_, HPF.out.rest.setQ⟩; exact HPF.out.pool.setL 0)
    · obtain ⟨hp1, hp2⟩ := HPC.out hdy
      have HW0 : Hid (wroteF fs1[h1] = fs1[h1].pg) := (by unfold wroteF; rw [if_pos ⟨hp2, hdy⟩] : wroteF fs1[h1] = fs1[h1].pg)
      rw [hdy] at d3
      rw [hp1] at d0
      obtain ⟨p0, hpe⟩ : ∃ z, fs1[h1].pg = z := ⟨_, rfl⟩
      rw [hpe] at d0 HW0
      clear hpe hp1 hp2 hdy HPC
      have P4 : IPool ((w3.setCell ⟨w.heap.size + 2, 1, none⟩ (.int .i64 p0)).setCell ⟨w.heap.size + 2, 0, none⟩ (.int .i64 pg)) q 1 fs1 ((h1 + 1) % 8) := ((HP3.out.setO (by omega)).setO (by omega))
      have U4 : U2 q q w ((w3.setCell ⟨w.heap.size + 2, 1, none⟩ (.int .i64 p0)).setCell ⟨w.heap.size + 2, 0, none⟩ (.int .i64 pg)) := ((HU.out.setN (by omega)).setN (by omega))
      have HPF := hid (fin_miss (n := w.heap.size + 1) (x := .int .i64 pg) (y := .int .i64 p0) (u := .slice none 0 0) P4 U4 h1 hh pg h0 true hq (Nat.le_succ _) (cell_blk (cell_blk r0 (by omega)) (by omega)) (cell_blk (cell_blk r1 (by omega)) (by omega)) (cell_blk (cell_blk r2 (by omega)) (by omega)))
      clear P4 U4 HP3 HU
      have HWR : Hid (wroteF fs1[h1] = p0) := HW0
      go_wp2
      unfold bodyPostD
      refine leaves_cons (f := 35) (args := #[.pointer (some ⟨q, 0, none⟩)]) (by simp) (by simp [go_sem]) ?_
      refine (unlock_deferred muLib ⟨q, 0, none⟩ .returning _ HPF.out.pool.blk.1.1 HPF.out.pool.blk.2.1).mono ?_
      rintro e u' w'' ⟨rfl, rfl, rfl⟩
      refine ⟨.agg #[.int .i64 pg, .int .i64 p0, .slice none 0 0], by simp [results, Try.results32, go_sem, HPF.out.c0, HPF.out.c1, HPF.out.c2], ?_⟩
      first | (refine ⟨by rw [HWR.out], ?_, HPF.out.rest.setQ⟩; exact HPF.out.pool.setL 0) | (refine ⟨hh, by rw [HWR.out], ?_, HPF.out.rest.setQ⟩; exact HPF.out.pool.setL 0)
  · cases hdy : fs1[h1].dy
    · rw [hdy] at d3
      have P4 : IPool w3 q 1 fs1 ((h1 + 1) % 8) := HP3.out
      have U4 : U2 q q w w3 := HU.out
      have HPF := hid (fin_miss (n := w.heap.size + 1) (x := .int .i64 (-1)) (y := .int .i64 (-1)) (u := .slice none 0 0) P4 U4 h1 hh pg h0 true hq (Nat.le_succ _) r0 r1 r2)
      clear P4 U4 HP3 HU
      have HWR : Hid (wroteF fs1[h1] = -1) := (by unfold wroteF; rw [if_neg (by simp [hdy])] : wroteF fs1[h1] = -1)
      clear hdy
      go_wp2
      unfold bodyPostD
      refine leaves_cons (f := 35) (args := #[.pointer (some ⟨q, 0, none⟩)]) (by simp) (by simp [go_sem]) ?_
      refine (unlock_deferred muLib ⟨q, 0, none⟩ .returning _ HPF.out.pool.blk.1.1 HPF.out.pool.blk.2.1).mono ?_
      rintro e u' w'' ⟨rfl, rfl, rfl⟩
      refine ⟨.agg #[.int .i64 (-1), .int .i64 (-1), .slice none 0 0], by simp [results, Try.results32, go_sem, HPF.out.c0, HPF.out.c1, HPF.out.c2], ?_⟩
      first | (refine ⟨by rw [HWR.out], ?_, HPF.out.rest.setQ⟩; exact HPF.out.pool.setL 0) | (refine ⟨hh, by rw [HWR.out], ?_, HPF.out.rest.setQ⟩; exact HPF.out.pool.setL 0)
    · obtain ⟨hp1, hp2⟩ := HPC.out hdy
      have HW0 : Hid (wroteF fs1[h1] = fs1[h1].pg) := (by unfold wroteF; rw [if_pos ⟨hp2, hdy⟩] : wroteF fs1[h1] = fs1[h1].pg)
      rw [hdy] at d3
      rw [hp1] at d0
      obtain ⟨p0, hpe⟩ : ∃ z, fs1[h1].pg = z := ⟨_, rfl⟩
      rw [hpe] at d0 HW0
      clear hpe hp1 hp2 hdy HPC
      have P4 : IPool (w3.setCell ⟨w.heap.size + 2, 1, none⟩ (.int .i64 p0)) q 1 fs1 ((h1 + 1) % 8) := (HP3.out.setO (by omega))
      have U4 : U2 q q w (w3.setCell ⟨w.heap.size + 2, 1, none⟩ (.int .i64 p0)) := (HU.out.setN (by omega))
      have HPF := hid (fin_miss (n := w.heap.size + 1) (x := .int .i64 (-1)) (y := .int .i64 p0) (u := .slice none 0 0) P4 U4 h1 hh pg h0 true hq (Nat.le_succ _) (cell_blk r0 (by omega)) (cell_blk r1 (by omega)) (cell_blk r2 (by omega)))
      clear P4 U4 HP3 HU
      have HWR : Hid (wroteF fs1[h1] = p0) := HW0
      go_wp2
      unfold bodyPostD
      refine leaves_cons (f := 35) (args := #[.pointer (some ⟨q, 0, none⟩)]) (by simp) (by simp [go_sem]) ?_
      refine (unlock_deferred muLib ⟨q, 0, none⟩ .returning _ HPF.out.pool.blk.1.1 HPF.out.pool.blk.2.1).mono ?_
      rintro e u' w'' ⟨rfl, rfl, rfl⟩
      refine ⟨.agg #[.int .i64 (-1), .int .i64 p0, .slice none 0 0], by simp [results, Try.results32, go_sem, HPF.out.c0, HPF.out.c1, HPF.out.c2], ?_⟩
      first | (refine ⟨by rw [HWR.out], ?_, HPF.out.rest.setQ⟩; exact HPF.out.pool.setL 0) | (refine ⟨hh, by rw [HWR.out], ?_, HPF.out.rest.setQ⟩; exact HPF.out.pool.setL 0)
end Go.Proofs.YtbndliedcanmgaaR
