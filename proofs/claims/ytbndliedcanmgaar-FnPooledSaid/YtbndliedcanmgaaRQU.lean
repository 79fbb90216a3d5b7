import Derived.Test.YtbndliedcanmgaaRQC1
import Derived.Test.YtbndliedcanmgaaRLK
namespace Go.Proofs.YtbndliedcanmgaaR
open Go.ChangeShapes Go.WideShapes Go.ChangeAt Go.RowKit
set_option linter.unusedVariables false
set_option linter.unusedSimpArgs false
set_option maxRecDepth 100000
open Go.MuLone
theorem infoPOut : (Try.prog.info? 33).map (fun i => (i.zero, i.size, i.bytes)) = some (some (.agg #[.int .i64 0, .int .i64 0, .slice none 0 0]), 3, 40) := by kernel_rfl
theorem infoFrm : (Try.prog.info? 68).map (fun i => (i.zero, i.size, i.bytes)) = some (some (.agg #[.int .i64 0, .bool false, .bool false, .bool false]), 4, 16) := by kernel_rfl
/-- What a pool's use answers. -/
def UseI (q : Nat) (o : POut × List Fr × Nat) (w : World) (e : Ending) (w' : World) : Prop := e = .returned (.agg #[.int .i64 o.1.rd, .int .i64 o.1.wr, .slice none 0 0]) ∧ IPool w' q 0 o.2.1 o.2.2 ∧ U2 q q w w'
/-- The world behind the lock. -/
structure Lkd (q : Nat) (fs : List Fr) (h : Nat) (kd pg : Int) (w w1 : World) : Prop where
  pool : IPool w1 q 1 fs h
  size : w1.heap.size = w.heap.size + 2
  b0 : w1.cell? ⟨w.heap.size, 0, none⟩ = some (.int .i64 kd)
  b1 : w1.cell? ⟨w.heap.size, 1, none⟩ = some (.int .i64 pg)
  r0 : w1.cell? ⟨w.heap.size + 1, 0, none⟩ = some (.int .i64 0)
  r1 : w1.cell? ⟨w.heap.size + 1, 1, none⟩ = some (.int .i64 0)
  r2 : w1.cell? ⟨w.heap.size + 1, 2, none⟩ = some (.slice none 0 0)
  z0 : w1.frozen? ⟨w.heap.size + 1, 0, none⟩ = false
  z1 : w1.frozen? ⟨w.heap.size + 1, 1, none⟩ = false
  z2 : w1.frozen? ⟨w.heap.size + 1, 2, none⟩ = false
  rest : U2 q q w w1
theorem lkd_of {q : Nat} {fs : List Fr} {h : Nat} {w : World} (kd pg : Int) (P : IPool w q 0 fs h) : Lkd q fs h kd pg w (((w.alloc (.cells #[.int .i64 kd, .int .i64 pg] 26)).alloc (.cells #[.int .i64 0, .int .i64 0, .slice none 0 0] 33)).setCell ⟨q, 0, none⟩ (.int .i32 1)) := by
  have hq := P.qlt
  have hb : Below w.heap.size w ((w.alloc (.cells #[.int .i64 kd, .int .i64 pg] 26)).alloc (.cells #[.int .i64 0, .int .i64 0, .slice none 0 0] 33)) := (below_alloc w (.cells #[.int .i64 kd, .int .i64 pg] 26)).alloc (by simp) _
  have c : ∀ j k, q ≠ j → (((w.alloc (.cells #[.int .i64 kd, .int .i64 pg] 26)).alloc (.cells #[.int .i64 0, .int .i64 0, .slice none 0 0] 33)).setCell ⟨q, 0, none⟩ (.int .i32 1)).cell? ⟨j, k, none⟩ = ((w.alloc (.cells #[.int .i64 kd, .int .i64 pg] 26)).alloc (.cells #[.int .i64 0, .int .i64 0, .slice none 0 0] 33)).cell? ⟨j, k, none⟩ := fun j k hj => World.cell?_setCell_other _ ⟨q, 0, none⟩ ⟨j, k, none⟩ _ (by intro e; injection e with e; exact hj e)
  have n1 : q ≠ w.heap.size := by omega
  have n2 : q ≠ w.heap.size + 1 := by omega
  refine ⟨(P.below hb).setL 1, by simp [World.setCell], ?_, ?_, ?_, ?_, ?_, ?_, ?_, ?_, (U2.below hb).setQ⟩
  · rw [c _ _ n1]; simp [go_sem]
  · rw [c _ _ n1]; simp [go_sem]
  · rw [c _ _ n2]; simp [go_sem]
  · rw [c _ _ n2]; simp [go_sem]
  · rw [c _ _ n2]; simp [go_sem]
  · simp [go_sem]
  · simp [go_sem]
  · simp [go_sem]
/-- The world behind the answer's making. -/
structure Lk2 (q : Nat) (fs : List Fr) (h : Nat) (kd pg : Int) (w w1 : World) : Prop where
  pool : IPool w1 q 1 fs h
  size : w1.heap.size = w.heap.size + 3
  b0 : w1.cell? ⟨w.heap.size, 0, none⟩ = some (.int .i64 kd)
  b1 : w1.cell? ⟨w.heap.size, 1, none⟩ = some (.int .i64 pg)
  r0 : w1.cell? ⟨w.heap.size + 1, 0, none⟩ = some (.int .i64 0)
  r1 : w1.cell? ⟨w.heap.size + 1, 1, none⟩ = some (.int .i64 0)
  r2 : w1.cell? ⟨w.heap.size + 1, 2, none⟩ = some (.slice none 0 0)
  z0 : w1.frozen? ⟨w.heap.size + 1, 0, none⟩ = false
  z1 : w1.frozen? ⟨w.heap.size + 1, 1, none⟩ = false
  z2 : w1.frozen? ⟨w.heap.size + 1, 2, none⟩ = false
  o0 : w1.cell? ⟨w.heap.size + 2, 0, none⟩ = some (.int .i64 (-1))
  o1 : w1.cell? ⟨w.heap.size + 2, 1, none⟩ = some (.int .i64 (-1))
  o2 : w1.cell? ⟨w.heap.size + 2, 2, none⟩ = some (.slice none 0 0)
  y0 : w1.frozen? ⟨w.heap.size + 2, 0, none⟩ = false
  y1 : w1.frozen? ⟨w.heap.size + 2, 1, none⟩ = false
  y2 : w1.frozen? ⟨w.heap.size + 2, 2, none⟩ = false
  rest : U2 q q w w1
theorem lk2_of {q : Nat} {fs : List Fr} {h : Nat} {w w1 : World} {kd pg : Int} (L : Lkd q fs h kd pg w w1) : Lk2 q fs h kd pg w (w1.alloc (.cells #[.int .i64 (-1), .int .i64 (-1), .slice none 0 0] 33)) := by
  have hb : Below w1.heap.size w1 (w1.alloc (.cells #[.int .i64 (-1), .int .i64 (-1), .slice none 0 0] 33)) := below_alloc _ _
  have hs := L.size
  have c : ∀ j k, j < w1.heap.size → (w1.alloc (.cells #[.int .i64 (-1), .int .i64 (-1), .slice none 0 0] 33)).cell? ⟨j, k, none⟩ = w1.cell? ⟨j, k, none⟩ := fun j k hj => World.cell?_of_block (a := ⟨j, k, none⟩) (hb.block j hj)
  have f : ∀ j k, j < w1.heap.size → (w1.alloc (.cells #[.int .i64 (-1), .int .i64 (-1), .slice none 0 0] 33)).frozen? ⟨j, k, none⟩ = w1.frozen? ⟨j, k, none⟩ := fun j k hj => World.frozen?_of_block (a := ⟨j, k, none⟩) (hb.block j hj)
  refine ⟨L.pool.below hb, by simp [hs], ?_, ?_, ?_, ?_, ?_, ?_, ?_, ?_, ?_, ?_, ?_, ?_, ?_, ?_, L.rest.trans (U2.below hb)⟩
  · rw [c _ _ (by omega)]; exact L.b0
  · rw [c _ _ (by omega)]; exact L.b1
  · rw [c _ _ (by omega)]; exact L.r0
  · rw [c _ _ (by omega)]; exact L.r1
  · rw [c _ _ (by omega)]; exact L.r2
  · rw [f _ _ (by omega)]; exact L.z0
  · rw [f _ _ (by omega)]; exact L.z1
  · rw [f _ _ (by omega)]; exact L.z2
  all_goals (rw [← hs]; simp [go_sem])
/-- The world behind the answer's telling: three cells more are set. -/
structure FinU (q n : Nat) (x y u : Value) (fs : List Fr) (h : Nat) (w W : World) : Prop where
  pool : IPool W q 1 fs h
  rest : U2 q q w W
  c0 : (W.setCell ⟨q, 0, none⟩ (.int .i32 0)).cell? ⟨n, 0, none⟩ = some x
  c1 : (W.setCell ⟨q, 0, none⟩ (.int .i32 0)).cell? ⟨n, 1, none⟩ = some y
  c2 : (W.setCell ⟨q, 0, none⟩ (.int .i32 0)).cell? ⟨n, 2, none⟩ = some u
theorem cell_blk {w : World} {q n j k : Nat} {u v : Value} (h : w.cell? ⟨n, k, none⟩ = some v) (hn : q ≠ n) : (w.setCell ⟨q, j, none⟩ u).cell? ⟨n, k, none⟩ = some v := (World.cell?_setCell_other w ⟨q, j, none⟩ ⟨n, k, none⟩ u (by intro e; injection e with e; exact hn e)).trans h
theorem told_of {q n : Nat} {fs : List Fr} {h : Nat} {w w2 : World} {x y u a b c : Value} (P : IPool w2 q 1 fs h) (U : U2 q q w w2) (hq : q < w.heap.size) (hn : w.heap.size ≤ n) (k0 : w2.cell? ⟨n, 0, none⟩ = some a) (k1 : w2.cell? ⟨n, 1, none⟩ = some b) (k2 : w2.cell? ⟨n, 2, none⟩ = some c) : FinU q n x y u fs h w (((w2.setCell ⟨n, 0, none⟩ x).setCell ⟨n, 1, none⟩ y).setCell ⟨n, 2, none⟩ u) :=
  ⟨((P.setO (by omega)).setO (by omega)).setO (by omega), by
    refine ⟨U.os, U.tape, U.output, by simpa [World.setCell] using U.size, fun k hk h1 h2 => ?_⟩
    rw [Below.heap_setCell _ _ _ _ (by simp; omega), Below.heap_setCell _ _ _ _ (by simp; omega), Below.heap_setCell _ _ _ _ (by simp; omega)]
    exact U.block k hk h1 h2,
    cell_blk (set_cell3 (set_cell3 (World.cell?_setCell_same _ _ _ k0) (by omega)) (by omega)) (by omega),
    cell_blk (set_cell3 (World.cell?_setCell_same _ _ _ (set_cell3 k1 (by omega))) (by omega)) (by omega),
    cell_blk (World.cell?_setCell_same _ _ _ (set_cell3 (set_cell3 k2 (by omega)) (by omega))) (by omega)⟩
set_option maxHeartbeats 4000000 in
theorem use_hitI (q : Nat) (fs : List Fr) (h : Nat) (kd pg : Int) (w : World) (P : IPool w q 0 fs h) (h0 : 0 ≤ pg) (i : Nat) (hi : i < fs.length) (hf : findP pg fs = some i) :
    Calls Try.prog 32 #[.pointer (some ⟨q, 0, none⟩), .agg #[.int .i64 kd, .int .i64 pg]] w fun e w' => UseI q (⟨-1, -1, []⟩, (fs.set i (fs[i].m true)).set i (((fs.set i (fs[i].m true))[i]'(by simpa using hi)).d (fs[i].dy || decide (kd ≠ 1))), h) w e w' := by
  have hq := P.qlt
  have hl := P.len
  have hi8 : i < 8 := by omega
  have HP := hid P
  have HF := hid hf
  clear P hf
  go_enter_defers Try.func32, Try.ntmps32
  go_wp2_with (go_at_call 34; fail)
  refine (lock_free muLib ⟨q, 0, none⟩ _ ?_ ?_).mono ?_
  · exact (HP.out.below ((below_alloc w (.cells #[.int .i64 kd, .int .i64 pg] 26)).alloc (by simp) _)).blk.1.1
  · exact (HP.out.below ((below_alloc w (.cells #[.int .i64 kd, .int .i64 pg] 26)).alloc (by simp) _)).blk.2.1
  rintro e w1 ⟨rfl, hw1⟩
  have L := lkd_of kd pg HP.out
  rw [← hw1] at L
  clear hw1 HP
  have hs1 := L.size
  have b0 := L.b0
  have b1 := L.b1
  have HL := hid L
  clear L
  go_wp2_with (go_at_call 37; fail)
  refine (frameOf_any q 1 fs h pg _ (HL.out.pool.below (below_alloc _ _)) h0).mono ?_
  rintro e w2 ⟨rfl, hw2⟩
  have L2 := lk2_of HL.out
  rw [← hw2] at L2
  clear hw2 hs1 b0 b1 HL
  obtain ⟨P2, hs2, b0, b1, r0, r1, r2, z0, z1, z2, o0, o1, o2, y0, y1, y2, U2w⟩ := L2
  have HP2 := hid P2
  have HU2 := hid U2w
  have PM := P2.setM i hi true
  have UM : U2 q q w (w2.setCell ⟨q, 2 + i * 4 + 2, none⟩ (.bool true)) := U2w.setQ
  have hi2 : i < (fs.set i (fs[i].m true)).length := by simpa using hi
  have HPD := hid (fun b => told_of (n := w.heap.size + 1) (x := .int .i64 (-1)) (y := .int .i64 (-1)) (u := .slice none 0 0) (PM.setD i hi2 b) (UM.setQ (j := 2 + i * 4 + 3) (u := .bool b)) hq (Nat.le_succ _) (cell_blk (cell_blk r0 (by omega)) (by omega)) (cell_blk (cell_blk r1 (by omega)) (by omega)) (cell_blk (cell_blk r2 (by omega)) (by omega)))
  clear P2 U2w PM UM
  obtain ⟨⟨d0, d1, d2, d3⟩, f0, f1, f2, f3⟩ := HP2.out.frs i hi
  rw [HF.out]
  simp only [ptrF]
  cases hdy : fs[i].dy
  · rw [hdy] at d3
    by_cases hk : kd = 1
    · have hk1 : (kd == 1) = true := by simpa using hk
      have HB : Hid ((false || decide (kd ≠ 1)) = false) := (by simp [hk] : (false || decide (kd ≠ 1)) = false)
      have HPF := hid (HPD.out false)
      clear HPD HP2 HU2
      go_wp2
      unfold bodyPostD
      refine leaves_cons (f := 35) (args := #[.pointer (some ⟨q, 0, none⟩)]) (by simp) (by simp [go_sem]) ?_
      refine (unlock_deferred muLib ⟨q, 0, none⟩ .returning _ HPF.out.pool.blk.1.1 HPF.out.pool.blk.2.1).mono ?_
      rintro e u' w'' ⟨rfl, rfl, rfl⟩
      refine ⟨.agg #[.int .i64 (-1), .int .i64 (-1), .slice none 0 0], by simp [results, Try.results32, go_sem, HPF.out.c0, HPF.out.c1, HPF.out.c2], rfl, ?_, HPF.out.rest.setQ⟩
      rw [hdy, HB.out]
      exact HPF.out.pool.setL 0
    · have hk1 : (kd != 1) = true := by simpa using hk
      have HB : Hid ((false || decide (kd ≠ 1)) = true) := (by simp [hk] : (false || decide (kd ≠ 1)) = true)
      have HPF := hid (HPD.out true)
      clear HPD HP2 HU2
      go_wp2
      unfold bodyPostD
      refine leaves_cons (f := 35) (args := #[.pointer (some ⟨q, 0, none⟩)]) (by simp) (by simp [go_sem]) ?_
      refine (unlock_deferred muLib ⟨q, 0, none⟩ .returning _ HPF.out.pool.blk.1.1 HPF.out.pool.blk.2.1).mono ?_
      rintro e u' w'' ⟨rfl, rfl, rfl⟩
      refine ⟨.agg #[.int .i64 (-1), .int .i64 (-1), .slice none 0 0], by simp [results, Try.results32, go_sem, HPF.out.c0, HPF.out.c1, HPF.out.c2], rfl, ?_, HPF.out.rest.setQ⟩
      rw [hdy, HB.out]
      exact HPF.out.pool.setL 0
  · rw [hdy] at d3
    have HB : Hid ((true || decide (kd ≠ 1)) = true) := (by simp  : (true || decide (kd ≠ 1)) = true)
    have HPF := hid (HPD.out true)
    clear HPD HP2 HU2
    go_wp2
    unfold bodyPostD
    refine leaves_cons (f := 35) (args := #[.pointer (some ⟨q, 0, none⟩)]) (by simp) (by simp [go_sem]) ?_
    refine (unlock_deferred muLib ⟨q, 0, none⟩ .returning _ HPF.out.pool.blk.1.1 HPF.out.pool.blk.2.1).mono ?_
    rintro e u' w'' ⟨rfl, rfl, rfl⟩
    refine ⟨.agg #[.int .i64 (-1), .int .i64 (-1), .slice none 0 0], by simp [results, Try.results32, go_sem, HPF.out.c0, HPF.out.c1, HPF.out.c2], rfl, ?_, HPF.out.rest.setQ⟩
    rw [hdy, HB.out]
    exact HPF.out.pool.setL 0
end Go.Proofs.YtbndliedcanmgaaR
