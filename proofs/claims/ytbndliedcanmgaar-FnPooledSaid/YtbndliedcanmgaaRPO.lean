import Derived.Test.YtbndliedcanmgaaRDA
import Derived.Deep.RegionHeld
namespace Go.Proofs.YtbndliedcanmgaaR
open Go.ChangeShapes Go.WideShapes Go.ChangeAt Go.RowKit
set_option linter.unusedVariables false
set_option linter.unusedSimpArgs false
set_option maxRecDepth 100000
/-- A frame of a pool. -/
structure Fr where
  pg : Int
  ma : Bool
  dy : Bool
def Fr.m (f : Fr) (b : Bool) : Fr := ⟨f.pg, b, f.dy⟩
def Fr.d (f : Fr) (b : Bool) : Fr := ⟨f.pg, f.ma, b⟩
/-- The frames lie in a block. -/
def Frs (w : World) (g : Nat) (fs : List Fr) : Prop := ∀ i (h : i < fs.length), (w.cell? ⟨g, i * 3, none⟩ = some (.int .i64 fs[i].pg) ∧ w.cell? ⟨g, i * 3 + 1, none⟩ = some (.bool fs[i].ma) ∧ w.cell? ⟨g, i * 3 + 2, none⟩ = some (.bool fs[i].dy)) ∧ w.frozen? ⟨g, i * 3, none⟩ = false ∧ w.frozen? ⟨g, i * 3 + 1, none⟩ = false ∧ w.frozen? ⟨g, i * 3 + 2, none⟩ = false
/-- A pool. -/
structure Pool (w : World) (q g cap : Nat) (fs : List Fr) (h : Nat) : Prop where
  len : fs.length = 8
  hand : h < 8
  room : 8 ≤ cap
  ne : q ≠ g
  qlt : q < w.heap.size
  glt : g < w.heap.size
  blk : (w.cell? ⟨q, 0, none⟩ = some (.slice (some ⟨g, 0, none⟩) 8 cap) ∧ w.cell? ⟨q, 1, none⟩ = some (.int .i64 (h : Int))) ∧ w.frozen? ⟨q, 0, none⟩ = false ∧ w.frozen? ⟨q, 1, none⟩ = false
  frs : Frs w g fs
theorem Frs.same {w w' : World} {g : Nat} {fs : List Fr} (h : Frs w g fs) (hh : w'.heap[g]? = w.heap[g]?) : Frs w' g fs := fun i hi => by
  obtain ⟨⟨c0, c1, c2⟩, f0, f1, f2⟩ := h i hi
  exact ⟨⟨(World.cell?_of_block (a := ⟨g, i * 3, none⟩) hh).trans c0, (World.cell?_of_block (a := ⟨g, i * 3 + 1, none⟩) hh).trans c1, (World.cell?_of_block (a := ⟨g, i * 3 + 2, none⟩) hh).trans c2⟩, (World.frozen?_of_block (a := ⟨g, i * 3, none⟩) hh).trans f0, (World.frozen?_of_block (a := ⟨g, i * 3 + 1, none⟩) hh).trans f1, (World.frozen?_of_block (a := ⟨g, i * 3 + 2, none⟩) hh).trans f2⟩
theorem Pool.same {w w' : World} {q g cap : Nat} {fs : List Fr} {h : Nat} (p : Pool w q g cap fs h) (hs : w.heap.size ≤ w'.heap.size) (hq : w'.heap[q]? = w.heap[q]?) (hg : w'.heap[g]? = w.heap[g]?) : Pool w' q g cap fs h :=
  ⟨p.len, p.hand, p.room, p.ne, Nat.lt_of_lt_of_le p.qlt hs, Nat.lt_of_lt_of_le p.glt hs, ⟨⟨(World.cell?_of_block (a := ⟨q, 0, none⟩) hq).trans p.blk.1.1, (World.cell?_of_block (a := ⟨q, 1, none⟩) hq).trans p.blk.1.2⟩, (World.frozen?_of_block (a := ⟨q, 0, none⟩) hq).trans p.blk.2.1, (World.frozen?_of_block (a := ⟨q, 1, none⟩) hq).trans p.blk.2.2⟩, p.frs.same hg⟩
theorem Pool.below {w w' : World} {q g cap : Nat} {fs : List Fr} {h : Nat} (p : Pool w q g cap fs h) (hb : Below w.heap.size w w') : Pool w' q g cap fs h := p.same hb.size (hb.block q p.qlt) (hb.block g p.glt)
theorem Frs.other {w : World} {g b j : Nat} {u : Value} {fs : List Fr} (h : Frs w g fs) (hb : b ≠ g) : Frs (w.setCell ⟨b, j, none⟩ u) g fs := h.same (Below.heap_setCell _ _ _ _ (by simp; omega))
theorem set_cell3 {w : World} {g a b : Nat} {u v : Value} (h : w.cell? ⟨g, a, none⟩ = some v) (hab : a ≠ b) : (w.setCell ⟨g, b, none⟩ u).cell? ⟨g, a, none⟩ = some v := by
  rw [World.cell?_setCell_other w ⟨g, b, none⟩ ⟨g, a, none⟩ _ (fun e => hab (by injection e with _ e; exact e.symm))]
  exact h
theorem Frs.setM {w : World} {g : Nat} {fs : List Fr} (h : Frs w g fs) (i : Nat) (hi : i < fs.length) (b : Bool) : Frs (w.setCell ⟨g, i * 3 + 1, none⟩ (.bool b)) g (fs.set i (fs[i].m b)) := fun j hj => by
  rw [List.length_set] at hj
  obtain ⟨⟨c0, c1, c2⟩, f0, f1, f2⟩ := h j hj
  refine ⟨?_, by simpa using f0, by simpa using f1, by simpa using f2⟩
  by_cases e : j = i
  · subst e
    rw [List.getElem_set_self]
    exact ⟨set_cell3 c0 (by omega), World.cell?_setCell_same _ _ _ c1, set_cell3 c2 (by omega)⟩
  · rw [List.getElem_set_ne (by omega)]
    exact ⟨set_cell3 c0 (by omega), set_cell3 c1 (by omega), set_cell3 c2 (by omega)⟩
theorem Frs.setD {w : World} {g : Nat} {fs : List Fr} (h : Frs w g fs) (i : Nat) (hi : i < fs.length) (b : Bool) : Frs (w.setCell ⟨g, i * 3 + 2, none⟩ (.bool b)) g (fs.set i (fs[i].d b)) := fun j hj => by
  rw [List.length_set] at hj
  obtain ⟨⟨c0, c1, c2⟩, f0, f1, f2⟩ := h j hj
  refine ⟨?_, by simpa using f0, by simpa using f1, by simpa using f2⟩
  by_cases e : j = i
  · subst e
    rw [List.getElem_set_self]
    exact ⟨set_cell3 c0 (by omega), set_cell3 c1 (by omega), World.cell?_setCell_same _ _ _ c2⟩
  · rw [List.getElem_set_ne (by omega)]
    exact ⟨set_cell3 c0 (by omega), set_cell3 c1 (by omega), set_cell3 c2 (by omega)⟩
theorem Pool.setM {w : World} {q g cap : Nat} {fs : List Fr} {h : Nat} (p : Pool w q g cap fs h) (i : Nat) (hi : i < fs.length) (b : Bool) : Pool (w.setCell ⟨g, i * 3 + 1, none⟩ (.bool b)) q g cap (fs.set i (fs[i].m b)) h :=
  have hq : (w.setCell ⟨g, i * 3 + 1, none⟩ (.bool b)).heap[q]? = w.heap[q]? := Below.heap_setCell _ _ _ _ (by simp; exact p.ne)
  ⟨by rw [List.length_set]; exact p.len, p.hand, p.room, p.ne, by simpa [World.setCell] using p.qlt, by simpa [World.setCell] using p.glt, ⟨⟨(World.cell?_of_block (a := ⟨q, 0, none⟩) hq).trans p.blk.1.1, (World.cell?_of_block (a := ⟨q, 1, none⟩) hq).trans p.blk.1.2⟩, (World.frozen?_of_block (a := ⟨q, 0, none⟩) hq).trans p.blk.2.1, (World.frozen?_of_block (a := ⟨q, 1, none⟩) hq).trans p.blk.2.2⟩, p.frs.setM i hi b⟩
theorem Pool.setD {w : World} {q g cap : Nat} {fs : List Fr} {h : Nat} (p : Pool w q g cap fs h) (i : Nat) (hi : i < fs.length) (b : Bool) : Pool (w.setCell ⟨g, i * 3 + 2, none⟩ (.bool b)) q g cap (fs.set i (fs[i].d b)) h :=
  have hq : (w.setCell ⟨g, i * 3 + 2, none⟩ (.bool b)).heap[q]? = w.heap[q]? := Below.heap_setCell _ _ _ _ (by simp; exact p.ne)
  ⟨by rw [List.length_set]; exact p.len, p.hand, p.room, p.ne, by simpa [World.setCell] using p.qlt, by simpa [World.setCell] using p.glt, ⟨⟨(World.cell?_of_block (a := ⟨q, 0, none⟩) hq).trans p.blk.1.1, (World.cell?_of_block (a := ⟨q, 1, none⟩) hq).trans p.blk.1.2⟩, (World.frozen?_of_block (a := ⟨q, 0, none⟩) hq).trans p.blk.2.1, (World.frozen?_of_block (a := ⟨q, 1, none⟩) hq).trans p.blk.2.2⟩, p.frs.setD i hi b⟩
theorem Pool.setH {w : World} {q g cap : Nat} {fs : List Fr} {h : Nat} (p : Pool w q g cap fs h) (k : Nat) (hk : k < 8) : Pool (w.setCell ⟨q, 1, none⟩ (.int .i64 (k : Int))) q g cap fs k :=
  ⟨p.len, hk, p.room, p.ne, by simpa [World.setCell] using p.qlt, by simpa [World.setCell] using p.glt, ⟨⟨set_cell3 p.blk.1.1 (by omega), World.cell?_setCell_same _ _ _ p.blk.1.2⟩, by simpa using p.blk.2.1, by simpa using p.blk.2.2⟩, p.frs.other p.ne⟩
/-- Nothing but two blocks has changed. -/
structure U2 (q g : Nat) (w w' : World) : Prop where
  os : w'.os = w.os
  tape : w'.tape = w.tape
  output : w'.output = w.output
  size : w.heap.size ≤ w'.heap.size
  block : ∀ k, k < w.heap.size → k ≠ q → k ≠ g → w'.heap[k]? = w.heap[k]?
theorem U2.refl (q g : Nat) (w : World) : U2 q g w w := ⟨rfl, rfl, rfl, Nat.le_refl _, fun _ _ _ _ => rfl⟩
theorem U2.trans {q g : Nat} {a b c : World} (h : U2 q g a b) (k : U2 q g b c) : U2 q g a c := ⟨k.os.trans h.os, k.tape.trans h.tape, k.output.trans h.output, Nat.le_trans h.size k.size, fun i hi h1 h2 => (k.block i (Nat.lt_of_lt_of_le hi h.size) h1 h2).trans (h.block i hi h1 h2)⟩
theorem U2.below {q g : Nat} {w a : World} (h : Below w.heap.size w a) : U2 q g w a := ⟨h.os, h.tape, h.output, h.size, fun k hk _ _ => h.block k hk⟩
theorem U2.setG {q g j : Nat} {w a : World} {u : Value} (h : U2 q g w a) : U2 q g w (a.setCell ⟨g, j, none⟩ u) := ⟨h.os, h.tape, h.output, by simpa [World.setCell] using h.size, fun k hk h1 h2 => (Below.heap_setCell _ _ _ _ (by simpa using h2)).trans (h.block k hk h1 h2)⟩
theorem U2.setQ {q g j : Nat} {w a : World} {u : Value} (h : U2 q g w a) : U2 q g w (a.setCell ⟨q, j, none⟩ u) := ⟨h.os, h.tape, h.output, by simpa [World.setCell] using h.size, fun k hk h1 h2 => (Below.heap_setCell _ _ _ _ (by simpa using h1)).trans (h.block k hk h1 h2)⟩
theorem U2.alloc {q g : Nat} {w a : World} {o : Obj} (h : U2 q g w a) : U2 q g w (a.alloc o) := ⟨h.os, h.tape, h.output, by simp; have := h.size; omega, fun k hk h1 h2 => (Below.heap_alloc _ _ _ (Nat.lt_of_lt_of_le hk h.size)).trans (h.block k hk h1 h2)⟩
theorem Pool.drew {w : World} {q g cap : Nat} {fs : List Fr} {h : Nat} (p : Pool w q g cap fs h) : Pool w.drew q g cap fs h := p.below (Below.refl _ _).drew
theorem U2.drew {q g : Nat} {w a : World} (h : U2 q g w a) : U2 q g w a.drew := h.trans (U2.below (Below.refl _ _).drew)
theorem Pool.drewN {w : World} {q g cap : Nat} {fs : List Fr} {h : Nat} (p : Pool w q g cap fs h) (n : Nat) : Pool (w.drewN n) q g cap fs h := p.below (below_drewNt w n)
theorem U2.drewN {q g : Nat} {w a : World} (h : U2 q g w a) (n : Nat) : U2 q g w (a.drewN n) := h.trans (U2.below (below_drewNt a n))
theorem Frs.setF {w : World} {g : Nat} {fs : List Fr} (h : Frs w g fs) (i : Nat) (hi : i < fs.length) (x : Fr) : Frs (((w.setCell ⟨g, i * 3, none⟩ (.int .i64 x.pg)).setCell ⟨g, i * 3 + 1, none⟩ (.bool x.ma)).setCell ⟨g, i * 3 + 2, none⟩ (.bool x.dy)) g (fs.set i x) := fun j hj => by
  rw [List.length_set] at hj
  obtain ⟨⟨c0, c1, c2⟩, f0, f1, f2⟩ := h j hj
  refine ⟨?_, by simpa using f0, by simpa using f1, by simpa using f2⟩
  by_cases e : j = i
  · subst e
    rw [List.getElem_set_self]
    exact ⟨set_cell3 (set_cell3 (World.cell?_setCell_same _ _ _ c0) (by omega)) (by omega), set_cell3 (World.cell?_setCell_same _ _ _ (set_cell3 c1 (by omega))) (by omega), World.cell?_setCell_same _ _ _ (set_cell3 (set_cell3 c2 (by omega)) (by omega))⟩
  · rw [List.getElem_set_ne (by omega)]
    exact ⟨set_cell3 (set_cell3 (set_cell3 c0 (by omega)) (by omega)) (by omega), set_cell3 (set_cell3 (set_cell3 c1 (by omega)) (by omega)) (by omega), set_cell3 (set_cell3 (set_cell3 c2 (by omega)) (by omega)) (by omega)⟩
theorem Pool.setF {w : World} {q g cap : Nat} {fs : List Fr} {h : Nat} (p : Pool w q g cap fs h) (i : Nat) (hi : i < fs.length) (x : Fr) : Pool (((w.setCell ⟨g, i * 3, none⟩ (.int .i64 x.pg)).setCell ⟨g, i * 3 + 1, none⟩ (.bool x.ma)).setCell ⟨g, i * 3 + 2, none⟩ (.bool x.dy)) q g cap (fs.set i x) h :=
  have hq : (((w.setCell ⟨g, i * 3, none⟩ (.int .i64 x.pg)).setCell ⟨g, i * 3 + 1, none⟩ (.bool x.ma)).setCell ⟨g, i * 3 + 2, none⟩ (.bool x.dy)).heap[q]? = w.heap[q]? := ((Below.heap_setCell _ _ _ _ (by simp; exact p.ne)).trans (Below.heap_setCell _ _ _ _ (by simp; exact p.ne))).trans (Below.heap_setCell _ _ _ _ (by simp; exact p.ne))
  ⟨by rw [List.length_set]; exact p.len, p.hand, p.room, p.ne, by simpa [World.setCell] using p.qlt, by simpa [World.setCell] using p.glt, ⟨⟨(World.cell?_of_block (a := ⟨q, 0, none⟩) hq).trans p.blk.1.1, (World.cell?_of_block (a := ⟨q, 1, none⟩) hq).trans p.blk.1.2⟩, (World.frozen?_of_block (a := ⟨q, 0, none⟩) hq).trans p.blk.2.1, (World.frozen?_of_block (a := ⟨q, 1, none⟩) hq).trans p.blk.2.2⟩, p.frs.setF i hi x⟩
/-- Which frame has a page. -/
def findP (p : Int) : List Fr → Option Nat
  | [] => none
  | f :: r => if f.pg = p then some 0 else (findP p r).map (· + 1)
theorem findP_none {p : Int} : ∀ {fs : List Fr}, (∀ f ∈ fs, f.pg ≠ p) → findP p fs = none
  | [], _ => rfl
  | f :: r, h => by
    rw [findP, if_neg (h f (List.mem_cons_self ..)), findP_none (fun x hx => h x (List.mem_cons_of_mem _ hx))]
    rfl
theorem findP_some {p : Int} : ∀ {fs : List Fr} {i : Nat} (hi : i < fs.length), fs[i].pg = p → (∀ j (hj : j < i), (fs[j]'(by omega)).pg ≠ p) → findP p fs = some i
  | f :: r, 0, _, h, _ => by rw [findP, if_pos (by simpa using h)]
  | f :: r, i + 1, hi, h, hn => by
    have h0 := hn 0 (by omega)
    have ih := findP_some (fs := r) (i := i) (by simpa using hi) (by simpa using h) (fun j hj => by have := hn (j + 1) (by omega); simpa using this)
    rw [findP, if_neg (by simpa using h0), ih]
    rfl
def bitN (b : Bool) : Nat := if b then 1 else 0
def cnt : List Fr → Nat
  | [] => 0
  | f :: r => bitN f.ma + cnt r
theorem cnt_set : ∀ (fs : List Fr) (i : Nat) (hi : i < fs.length), fs[i].ma = true → cnt (fs.set i (fs[i].m false)) + 1 = cnt fs
  | f :: r, 0, _, h => by
    simp at h
    simp [cnt, h, bitN, Fr.m]
    omega
  | f :: r, i + 1, hi, h => by
    have ih := cnt_set r i (by simpa using hi) (by simpa using h)
    have e : (f :: r).set (i + 1) ((f :: r)[i + 1].m false) = f :: r.set i ((r[i]'(by simpa using hi)).m false) := rfl
    rw [e, cnt, cnt]
    omega
/-- The hand goes on. -/
def clk : Nat → List Fr → Nat → List Fr × Nat
  | 0, fs, h => (fs, h)
  | f + 1, fs, h => match fs[h]? with
    | some x => if 0 ≤ x.pg ∧ x.ma = true then clk f (fs.set h (x.m false)) ((h + 1) % 8) else (fs, h)
    | none => (fs, h)
theorem clk_on {f h : Nat} {fs : List Fr} (hh : h < fs.length) (h0 : 0 ≤ fs[h].pg) (h1 : fs[h].ma = true) : clk (f + 1) fs h = clk f (fs.set h (fs[h].m false)) ((h + 1) % 8) := by
  rw [clk, List.getElem?_eq_getElem hh]
  simp only
  rw [if_pos ⟨h0, h1⟩]
theorem clk_end {f h : Nat} {fs : List Fr} (hh : h < fs.length) (h0 : ¬ (0 ≤ fs[h].pg ∧ fs[h].ma = true)) : clk f fs h = (fs, h) := by
  cases f with
  | zero => rfl
  | succ f =>
    rw [clk, List.getElem?_eq_getElem hh]
    simp only
    rw [if_neg h0]
def mbit (w : World) (g i : Nat) : Nat := match w.cell? ⟨g, i * 3 + 1, none⟩ with
  | some (.bool b) => bitN b
  | _ => 0
def mcnt (w : World) (g : Nat) : Nat := mbit w g 0 + mbit w g 1 + mbit w g 2 + mbit w g 3 + mbit w g 4 + mbit w g 5 + mbit w g 6 + mbit w g 7
theorem mcnt_of {w : World} {g : Nat} {fs : List Fr} (h : Frs w g fs) (hl : fs.length = 8) : mcnt w g = cnt fs := by
  have hb : ∀ i (hi : i < fs.length), mbit w g i = bitN fs[i].ma := fun i hi => by
    unfold mbit
    rw [(h i hi).1.2.1]
  rcases fs with _ | ⟨f0, _ | ⟨f1, _ | ⟨f2, _ | ⟨f3, _ | ⟨f4, _ | ⟨f5, _ | ⟨f6, _ | ⟨f7, _ | ⟨f8, r⟩⟩⟩⟩⟩⟩⟩⟩⟩ <;> simp at hl
  have b0 := hb 0 (by simp); have b1 := hb 1 (by simp); have b2 := hb 2 (by simp); have b3 := hb 3 (by simp)
  have b4 := hb 4 (by simp); have b5 := hb 5 (by simp); have b6 := hb 6 (by simp); have b7 := hb 7 (by simp)
  simp at b0 b1 b2 b3 b4 b5 b6 b7
  unfold mcnt
  rw [b0, b1, b2, b3, b4, b5, b6, b7]
  simp [cnt]
  omega
end Go.Proofs.YtbndliedcanmgaaR
