import Derived.Test.YtbndliedcanmgaaRPR
namespace Go.Proofs.YtbndliedcanmgaaR
open Go.ChangeShapes Go.WideShapes Go.ChangeAt Go.RowKit
set_option linter.unusedVariables false
set_option linter.unusedSimpArgs false
set_option maxRecDepth 100000
/-- The page of a frame as the program keeps it: 0 in an empty one. -/
def pgC (f : Fr) : Int := if f.pg < 0 then 0 else f.pg
def tkC (f : Fr) : Bool := !decide (f.pg < 0)
/-- Frames in a pool: an empty one has no mark and is clean; pages are those that there are. -/
def Good (fs : List Fr) : Prop := ∀ f ∈ fs, f.pg < 300 ∧ (f.pg < 0 → f.ma = false ∧ f.dy = false)
def IFrs (w : World) (q : Nat) (fs : List Fr) : Prop := ∀ i (h : i < fs.length), (w.cell? ⟨q, 2 + i * 4, none⟩ = some (.int .i64 (pgC fs[i])) ∧ w.cell? ⟨q, 2 + i * 4 + 1, none⟩ = some (.bool (tkC fs[i])) ∧ w.cell? ⟨q, 2 + i * 4 + 2, none⟩ = some (.bool fs[i].ma) ∧ w.cell? ⟨q, 2 + i * 4 + 3, none⟩ = some (.bool fs[i].dy)) ∧ w.frozen? ⟨q, 2 + i * 4, none⟩ = false ∧ w.frozen? ⟨q, 2 + i * 4 + 1, none⟩ = false ∧ w.frozen? ⟨q, 2 + i * 4 + 2, none⟩ = false ∧ w.frozen? ⟨q, 2 + i * 4 + 3, none⟩ = false
/-- The program's pool: its lock, its frames, its hand. -/
structure IPool (w : World) (q : Nat) (l : Int) (fs : List Fr) (h : Nat) : Prop where
  len : fs.length = 8
  hand : h < 8
  qlt : q < w.heap.size
  blk : (w.cell? ⟨q, 0, none⟩ = some (.int .i32 l) ∧ w.cell? ⟨q, 34, none⟩ = some (.int .i64 (h : Int))) ∧ w.frozen? ⟨q, 0, none⟩ = false ∧ w.frozen? ⟨q, 34, none⟩ = false
  frs : IFrs w q fs
theorem IFrs.same {w w' : World} {q : Nat} {fs : List Fr} (h : IFrs w q fs) (hh : w'.heap[q]? = w.heap[q]?) : IFrs w' q fs := fun i hi => by
  obtain ⟨⟨c0, c1, c2, c3⟩, f0, f1, f2, f3⟩ := h i hi
  exact ⟨⟨(World.cell?_of_block (a := ⟨q, 2 + i * 4, none⟩) hh).trans c0, (World.cell?_of_block (a := ⟨q, 2 + i * 4 + 1, none⟩) hh).trans c1, (World.cell?_of_block (a := ⟨q, 2 + i * 4 + 2, none⟩) hh).trans c2, (World.cell?_of_block (a := ⟨q, 2 + i * 4 + 3, none⟩) hh).trans c3⟩, (World.frozen?_of_block (a := ⟨q, 2 + i * 4, none⟩) hh).trans f0, (World.frozen?_of_block (a := ⟨q, 2 + i * 4 + 1, none⟩) hh).trans f1, (World.frozen?_of_block (a := ⟨q, 2 + i * 4 + 2, none⟩) hh).trans f2, (World.frozen?_of_block (a := ⟨q, 2 + i * 4 + 3, none⟩) hh).trans f3⟩
theorem IPool.same {w w' : World} {q : Nat} {l : Int} {fs : List Fr} {h : Nat} (p : IPool w q l fs h) (hs : w.heap.size ≤ w'.heap.size) (hq : w'.heap[q]? = w.heap[q]?) : IPool w' q l fs h :=
  ⟨p.len, p.hand, Nat.lt_of_lt_of_le p.qlt hs, ⟨⟨(World.cell?_of_block (a := ⟨q, 0, none⟩) hq).trans p.blk.1.1, (World.cell?_of_block (a := ⟨q, 34, none⟩) hq).trans p.blk.1.2⟩, (World.frozen?_of_block (a := ⟨q, 0, none⟩) hq).trans p.blk.2.1, (World.frozen?_of_block (a := ⟨q, 34, none⟩) hq).trans p.blk.2.2⟩, p.frs.same hq⟩
theorem IPool.below {w w' : World} {q : Nat} {l : Int} {fs : List Fr} {h : Nat} (p : IPool w q l fs h) (hb : Below w.heap.size w w') : IPool w' q l fs h := p.same hb.size (hb.block q p.qlt)
theorem IPool.drew {w : World} {q : Nat} {l : Int} {fs : List Fr} {h : Nat} (p : IPool w q l fs h) : IPool w.drew q l fs h := p.below (Below.refl _ _).drew
theorem IPool.drewN {w : World} {q : Nat} {l : Int} {fs : List Fr} {h : Nat} (p : IPool w q l fs h) (n : Nat) : IPool (w.drewN n) q l fs h := p.below (below_drewNt w n)
theorem IPool.setO {w : World} {q : Nat} {l : Int} {fs : List Fr} {h c j : Nat} {u : Value} (p : IPool w q l fs h) (hq : c ≠ q) : IPool (w.setCell ⟨c, j, none⟩ u) q l fs h := p.same (by simp [World.setCell]) (Below.heap_setCell _ _ _ _ (by simpa using fun e : q = c => hq e.symm))
theorem IPool.grown {w w' : World} {q : Nat} {l : Int} {fs : List Fr} {h : Nat} {row : Option Nat} (p : IPool w q l fs h) (hg : w.grownBy w' row) (hq : some q ≠ row) : IPool w' q l fs h := p.same hg.size (hg.block q p.qlt hq)
/-- A cell of the block outside the frames. -/
theorem IFrs.out {w : World} {q j : Nat} {u : Value} {fs : List Fr} (h : IFrs w q fs) (hl : fs.length ≤ 8) (hj : j < 2 ∨ 34 ≤ j) : IFrs (w.setCell ⟨q, j, none⟩ u) q fs := fun i hi => by
  obtain ⟨⟨c0, c1, c2, c3⟩, f0, f1, f2, f3⟩ := h i hi
  exact ⟨⟨set_cell3 c0 (by omega), set_cell3 c1 (by omega), set_cell3 c2 (by omega), set_cell3 c3 (by omega)⟩, by simpa using f0, by simpa using f1, by simpa using f2, by simpa using f3⟩
theorem IPool.setL {w : World} {q : Nat} {l : Int} {fs : List Fr} {h : Nat} (p : IPool w q l fs h) (l' : Int) : IPool (w.setCell ⟨q, 0, none⟩ (.int .i32 l')) q l' fs h :=
  ⟨p.len, p.hand, by simpa [World.setCell] using p.qlt, ⟨⟨World.cell?_setCell_same _ _ _ p.blk.1.1, set_cell3 p.blk.1.2 (by omega)⟩, by simpa using p.blk.2.1, by simpa using p.blk.2.2⟩, p.frs.out (by have := p.len; omega) (by omega)⟩
theorem IPool.setH {w : World} {q : Nat} {l : Int} {fs : List Fr} {h : Nat} (p : IPool w q l fs h) (k : Nat) (hk : k < 8) : IPool (w.setCell ⟨q, 34, none⟩ (.int .i64 (k : Int))) q l fs k :=
  ⟨p.len, hk, by simpa [World.setCell] using p.qlt, ⟨⟨set_cell3 p.blk.1.1 (by omega), World.cell?_setCell_same _ _ _ p.blk.1.2⟩, by simpa using p.blk.2.1, by simpa using p.blk.2.2⟩, p.frs.out (by have := p.len; omega) (by omega)⟩
theorem IFrs.setM {w : World} {q : Nat} {fs : List Fr} (h : IFrs w q fs) (i : Nat) (hi : i < fs.length) (b : Bool) : IFrs (w.setCell ⟨q, 2 + i * 4 + 2, none⟩ (.bool b)) q (fs.set i (fs[i].m b)) := fun j hj => by
  rw [List.length_set] at hj
  obtain ⟨⟨c0, c1, c2, c3⟩, f0, f1, f2, f3⟩ := h j hj
  refine ⟨?_, by simpa using f0, by simpa using f1, by simpa using f2, by simpa using f3⟩
  by_cases e : j = i
  · subst e
    rw [List.getElem_set_self]
    exact ⟨set_cell3 c0 (by omega), set_cell3 c1 (by omega), World.cell?_setCell_same _ _ _ c2, set_cell3 c3 (by omega)⟩
  · rw [List.getElem_set_ne (by omega)]
    exact ⟨set_cell3 c0 (by omega), set_cell3 c1 (by omega), set_cell3 c2 (by omega), set_cell3 c3 (by omega)⟩
theorem IFrs.setD {w : World} {q : Nat} {fs : List Fr} (h : IFrs w q fs) (i : Nat) (hi : i < fs.length) (b : Bool) : IFrs (w.setCell ⟨q, 2 + i * 4 + 3, none⟩ (.bool b)) q (fs.set i (fs[i].d b)) := fun j hj => by
  rw [List.length_set] at hj
  obtain ⟨⟨c0, c1, c2, c3⟩, f0, f1, f2, f3⟩ := h j hj
  refine ⟨?_, by simpa using f0, by simpa using f1, by simpa using f2, by simpa using f3⟩
  by_cases e : j = i
  · subst e
    rw [List.getElem_set_self]
    exact ⟨set_cell3 c0 (by omega), set_cell3 c1 (by omega), set_cell3 c2 (by omega), World.cell?_setCell_same _ _ _ c3⟩
  · rw [List.getElem_set_ne (by omega)]
    exact ⟨set_cell3 c0 (by omega), set_cell3 c1 (by omega), set_cell3 c2 (by omega), set_cell3 c3 (by omega)⟩
theorem IFrs.setF {w : World} {q : Nat} {fs : List Fr} (h : IFrs w q fs) (i : Nat) (hi : i < fs.length) (x : Fr) : IFrs ((((w.setCell ⟨q, 2 + i * 4, none⟩ (.int .i64 (pgC x))).setCell ⟨q, 2 + i * 4 + 1, none⟩ (.bool (tkC x))).setCell ⟨q, 2 + i * 4 + 2, none⟩ (.bool x.ma)).setCell ⟨q, 2 + i * 4 + 3, none⟩ (.bool x.dy)) q (fs.set i x) := fun j hj => by
  rw [List.length_set] at hj
  obtain ⟨⟨c0, c1, c2, c3⟩, f0, f1, f2, f3⟩ := h j hj
  refine ⟨?_, by simpa using f0, by simpa using f1, by simpa using f2, by simpa using f3⟩
  by_cases e : j = i
  · subst e
    rw [List.getElem_set_self]
    exact ⟨set_cell3 (set_cell3 (set_cell3 (World.cell?_setCell_same _ _ _ c0) (by omega)) (by omega)) (by omega), set_cell3 (set_cell3 (World.cell?_setCell_same _ _ _ (set_cell3 c1 (by omega))) (by omega)) (by omega), set_cell3 (World.cell?_setCell_same _ _ _ (set_cell3 (set_cell3 c2 (by omega)) (by omega))) (by omega), World.cell?_setCell_same _ _ _ (set_cell3 (set_cell3 (set_cell3 c3 (by omega)) (by omega)) (by omega))⟩
  · rw [List.getElem_set_ne (by omega)]
    exact ⟨set_cell3 (set_cell3 (set_cell3 (set_cell3 c0 (by omega)) (by omega)) (by omega)) (by omega), set_cell3 (set_cell3 (set_cell3 (set_cell3 c1 (by omega)) (by omega)) (by omega)) (by omega), set_cell3 (set_cell3 (set_cell3 (set_cell3 c2 (by omega)) (by omega)) (by omega)) (by omega), set_cell3 (set_cell3 (set_cell3 (set_cell3 c3 (by omega)) (by omega)) (by omega)) (by omega)⟩
theorem IPool.frsOf {w w' : World} {q : Nat} {l : Int} {fs fs' : List Fr} {h : Nat} (p : IPool w q l fs h) (hs : w'.heap.size = w.heap.size) (h0 : w'.cell? ⟨q, 0, none⟩ = w.cell? ⟨q, 0, none⟩) (h4 : w'.cell? ⟨q, 34, none⟩ = w.cell? ⟨q, 34, none⟩) (z0 : w'.frozen? ⟨q, 0, none⟩ = w.frozen? ⟨q, 0, none⟩) (z4 : w'.frozen? ⟨q, 34, none⟩ = w.frozen? ⟨q, 34, none⟩) (hl : fs'.length = fs.length) (hf : IFrs w' q fs') : IPool w' q l fs' h :=
  ⟨hl.trans p.len, p.hand, by rw [hs]; exact p.qlt, ⟨⟨h0.trans p.blk.1.1, h4.trans p.blk.1.2⟩, z0.trans p.blk.2.1, z4.trans p.blk.2.2⟩, hf⟩
theorem cell_oth (w : World) {q a b : Nat} (u : Value) (h : a ≠ b) : (w.setCell ⟨q, b, none⟩ u).cell? ⟨q, a, none⟩ = w.cell? ⟨q, a, none⟩ := World.cell?_setCell_other w ⟨q, b, none⟩ ⟨q, a, none⟩ _ (fun e => h (by injection e with _ e; exact e.symm))
theorem IPool.setM {w : World} {q : Nat} {l : Int} {fs : List Fr} {h : Nat} (p : IPool w q l fs h) (i : Nat) (hi : i < fs.length) (b : Bool) : IPool (w.setCell ⟨q, 2 + i * 4 + 2, none⟩ (.bool b)) q l (fs.set i (fs[i].m b)) h :=
  have hl := p.len
  p.frsOf (by simp [World.setCell]) (cell_oth _ _ (by omega)) (cell_oth _ _ (by omega)) (by simp) (by simp) (List.length_set ..) (p.frs.setM i hi b)
theorem IPool.setD {w : World} {q : Nat} {l : Int} {fs : List Fr} {h : Nat} (p : IPool w q l fs h) (i : Nat) (hi : i < fs.length) (b : Bool) : IPool (w.setCell ⟨q, 2 + i * 4 + 3, none⟩ (.bool b)) q l (fs.set i (fs[i].d b)) h :=
  have hl := p.len
  p.frsOf (by simp [World.setCell]) (cell_oth _ _ (by omega)) (cell_oth _ _ (by omega)) (by simp) (by simp) (List.length_set ..) (p.frs.setD i hi b)
theorem IPool.setF {w : World} {q : Nat} {l : Int} {fs : List Fr} {h : Nat} (p : IPool w q l fs h) (i : Nat) (hi : i < fs.length) (x : Fr) : IPool ((((w.setCell ⟨q, 2 + i * 4, none⟩ (.int .i64 (pgC x))).setCell ⟨q, 2 + i * 4 + 1, none⟩ (.bool (tkC x))).setCell ⟨q, 2 + i * 4 + 2, none⟩ (.bool x.ma)).setCell ⟨q, 2 + i * 4 + 3, none⟩ (.bool x.dy)) q l (fs.set i x) h :=
  have hl := p.len
  p.frsOf (by simp [World.setCell]) (by rw [cell_oth _ _ (by omega), cell_oth _ _ (by omega), cell_oth _ _ (by omega), cell_oth _ _ (by omega)]) (by rw [cell_oth _ _ (by omega), cell_oth _ _ (by omega), cell_oth _ _ (by omega), cell_oth _ _ (by omega)]) (by simp) (by simp) (List.length_set ..) (p.frs.setF i hi x)
def mbitI (w : World) (q i : Nat) : Nat := match w.cell? ⟨q, 2 + i * 4 + 2, none⟩ with
  | some (.bool b) => bitN b
  | _ => 0
def mcntI (w : World) (q : Nat) : Nat := mbitI w q 0 + mbitI w q 1 + mbitI w q 2 + mbitI w q 3 + mbitI w q 4 + mbitI w q 5 + mbitI w q 6 + mbitI w q 7
theorem mcntI_of {w : World} {q : Nat} {fs : List Fr} (h : IFrs w q fs) (hl : fs.length = 8) : mcntI w q = cnt fs := by
  have hb : ∀ i (hi : i < fs.length), mbitI w q i = bitN fs[i].ma := fun i hi => by
    unfold mbitI
    rw [(h i hi).1.2.2.1]
  rcases fs with _ | ⟨f0, _ | ⟨f1, _ | ⟨f2, _ | ⟨f3, _ | ⟨f4, _ | ⟨f5, _ | ⟨f6, _ | ⟨f7, _ | ⟨f8, r⟩⟩⟩⟩⟩⟩⟩⟩⟩ <;> simp at hl
  have b0 := hb 0 (by simp); have b1 := hb 1 (by simp); have b2 := hb 2 (by simp); have b3 := hb 3 (by simp)
  have b4 := hb 4 (by simp); have b5 := hb 5 (by simp); have b6 := hb 6 (by simp); have b7 := hb 7 (by simp)
  simp at b0 b1 b2 b3 b4 b5 b6 b7
  unfold mcntI
  rw [b0, b1, b2, b3, b4, b5, b6, b7]
  simp [cnt]
  omega
end Go.Proofs.YtbndliedcanmgaaR
