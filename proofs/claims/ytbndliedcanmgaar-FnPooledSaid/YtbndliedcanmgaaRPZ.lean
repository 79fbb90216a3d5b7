import Derived.Test.YtbndliedcanmgaaRPY
import Derived.Test.YtbndliedcanmgaaRDP
import Derived.Test.YtbndliedcanmgaaRQL0
import Derived.ArgAppend
namespace Go.Proofs.YtbndliedcanmgaaR
open Go.ChangeShapes Go.WideShapes Go.ChangeAt Go.RowKit
set_option linter.unusedVariables false
set_option linter.unusedSimpArgs false
set_option maxRecDepth 100000
/-- A row of numbers at block g. -/
structure Arr (w : World) (g n : Nat) (f : Nat → Int) : Prop where
  lt : g < w.heap.size
  at' : ∀ j, j < n → w.cell? ⟨g, j, none⟩ = some (.int .i64 (f j)) ∧ w.frozen? ⟨g, j, none⟩ = false
structure BArr (w : World) (g n : Nat) (f : Nat → Bool) : Prop where
  lt : g < w.heap.size
  at' : ∀ j, j < n → w.cell? ⟨g, j, none⟩ = some (.bool (f j)) ∧ w.frozen? ⟨g, j, none⟩ = false
theorem Arr.same {w w' : World} {g n : Nat} {f : Nat → Int} (h : Arr w g n f) (hs : w.heap.size ≤ w'.heap.size) (hh : w'.heap[g]? = w.heap[g]?) : Arr w' g n f :=
  ⟨Nat.lt_of_lt_of_le h.lt hs, fun j hj => ⟨(World.cell?_of_block (a := ⟨g, j, none⟩) hh).trans (h.at' j hj).1, (World.frozen?_of_block (a := ⟨g, j, none⟩) hh).trans (h.at' j hj).2⟩⟩
theorem BArr.same {w w' : World} {g n : Nat} {f : Nat → Bool} (h : BArr w g n f) (hs : w.heap.size ≤ w'.heap.size) (hh : w'.heap[g]? = w.heap[g]?) : BArr w' g n f :=
  ⟨Nat.lt_of_lt_of_le h.lt hs, fun j hj => ⟨(World.cell?_of_block (a := ⟨g, j, none⟩) hh).trans (h.at' j hj).1, (World.frozen?_of_block (a := ⟨g, j, none⟩) hh).trans (h.at' j hj).2⟩⟩
theorem Arr.below {w w' : World} {g n : Nat} {f : Nat → Int} (h : Arr w g n f) (hb : Below w.heap.size w w') : Arr w' g n f := h.same hb.size (hb.block g h.lt)
theorem BArr.below {w w' : World} {g n : Nat} {f : Nat → Bool} (h : BArr w g n f) (hb : Below w.heap.size w w') : BArr w' g n f := h.same hb.size (hb.block g h.lt)
theorem Arr.other {w : World} {g n c j : Nat} {f : Nat → Int} {u : Value} (h : Arr w g n f) (hc : c ≠ g) : Arr (w.setCell ⟨c, j, none⟩ u) g n f := h.same (by simp [World.setCell]) (Below.heap_setCell _ _ _ _ (by simpa using fun e : g = c => hc e.symm))
theorem BArr.other {w : World} {g n c j : Nat} {f : Nat → Bool} {u : Value} (h : BArr w g n f) (hc : c ≠ g) : BArr (w.setCell ⟨c, j, none⟩ u) g n f := h.same (by simp [World.setCell]) (Below.heap_setCell _ _ _ _ (by simpa using fun e : g = c => hc e.symm))
theorem Arr.set {w : World} {g n : Nat} {f : Nat → Int} (h : Arr w g n f) (j : Nat) (hj : j < n) (x : Int) : Arr (w.setCell ⟨g, j, none⟩ (.int .i64 x)) g n (updN f j x) :=
  ⟨by simpa [World.setCell] using h.lt, fun k hk => ⟨by
    by_cases e : k = j
    · subst e; rw [updN_same]; exact World.cell?_setCell_same _ _ _ (h.at' k hk).1
    · rw [updN_ne _ _ e]; exact set_cell3 (h.at' k hk).1 e, by simpa using (h.at' k hk).2⟩⟩
theorem BArr.set {w : World} {g n : Nat} {f : Nat → Bool} (h : BArr w g n f) (j : Nat) (hj : j < n) (x : Bool) : BArr (w.setCell ⟨g, j, none⟩ (.bool x)) g n (updN f j x) :=
  ⟨by simpa [World.setCell] using h.lt, fun k hk => ⟨by
    by_cases e : k = j
    · subst e; rw [updN_same]; exact World.cell?_setCell_same _ _ _ (h.at' k hk).1
    · rw [updN_ne _ _ e]; exact set_cell3 (h.at' k hk).1 e, by simpa using (h.at' k hk).2⟩⟩
/-- A slice of operations, its cells from some place of a block of ours on, with what is spare. -/
structure SubO (B : Nat) (w : World) (g off cap : Nat) (ds : List POp) : Prop where
  ge : B ≤ g
  lt : g < w.heap.size
  le : ds.length ≤ cap
  cel : ∀ j u, (ds.flatMap opC)[j]? = some u → w.cell? ⟨g, off + j, none⟩ = some u
  spa : ∀ j, j < cap * 2 → (w.cell? ⟨g, off + j, none⟩).isSome = true ∧ w.frozen? ⟨g, off + j, none⟩ = false
def SubR (B : Nat) (w : World) (v : Value) (ds : List POp) : Prop := (v = .slice none 0 0 ∧ ds = []) ∨ ∃ g off cap, v = .slice (some ⟨g, off, none⟩) ds.length cap ∧ SubO B w g off cap ds
theorem flatO_len (ds : List POp) : (ds.flatMap opC).length = ds.length * 2 := by
  induction ds with
  | nil => rfl
  | cons a r ih => rw [List.flatMap_cons, List.length_append, ih]; simp [opC]; omega
theorem OpR.sub {B : Nat} {w : World} {v : Value} {ds : List POp} (h : OpR B w v ds) : SubR B w v ds := by
  have hlt := h.lt
  have hcell := h
  rcases h.2 with ⟨hv, h0⟩ | ⟨g, cap, cur, hv, hg1, hg2, hg3, hg4, hg5, hg6⟩
  · refine .inl ⟨hv, ?_⟩
    cases ds with
    | nil => rfl
    | cons a r => simp at h0
  · subst hv
    refine .inr ⟨g, 0, cap, rfl, hg1, (hlt g rfl).2, hg3, fun j u hj => ?_, fun j hj => ⟨?_, World.ownsRow.frozenAt hcell _⟩⟩
    · rw [Nat.zero_add]; exact own_cell hcell hj
    · have hj' : 0 + j < cur.size := by omega
      simp [World.cell?, hg2, Array.getElem?_eq_getElem hj']
      omega
theorem SubO.rs {B : Nat} {w : World} {g off cap c : Nat} {ds : List POp} (h : SubO B w g off cap ds) : RS 2 CPo 0 w (.slice (some ⟨g, off, none⟩) ds.length c) ds :=
  ⟨_, _, rfl, fun _ => ⟨g, off, rfl, Nat.zero_le _, h.lt, fun i hi => ⟨opC ds[i], rfl, fun j hj => by
    have hf := flatO ds i hi j hj
    have hl : j < (opC ds[i]).length := by simpa [opC] using hj
    rw [List.getElem?_eq_getElem hl] at hf ⊢
    have := h.cel _ _ hf
    rw [show off + i * 2 + j = off + (i * 2 + j) by omega]
    exact this⟩⟩⟩
theorem SubO.tail {B : Nat} {w : World} {g off cap : Nat} {d : POp} {ds : List POp} (h : SubO B w g off cap (d :: ds)) : SubO B w g (off + 2) (cap - 1) ds :=
  ⟨h.ge, h.lt, by have := h.le; simp at this; omega, fun j u hj => by
    have := h.cel (j + 2) u (by rw [List.flatMap_cons, List.getElem?_append_right (by simp [opC])]; simpa [opC] using hj)
    rw [show off + 2 + j = off + (j + 2) by omega]
    exact this, fun j hj => by
    have := h.spa (j + 2) (by omega)
    rw [show off + 2 + j = off + (j + 2) by omega]
    exact this⟩
theorem SubO.below {B : Nat} {w w' : World} {g off cap : Nat} {ds : List POp} (h : SubO B w g off cap ds) (hb : Below w.heap.size w w') : SubO B w' g off cap ds :=
  ⟨h.ge, Nat.lt_of_lt_of_le h.lt hb.size, h.le, fun j u hj => (hb.cell (p := ⟨g, off + j, none⟩) h.lt).trans (h.cel j u hj), fun j hj => by
    rw [hb.cell (p := ⟨g, off + j, none⟩) h.lt, hb.frozen (p := ⟨g, off + j, none⟩) h.lt]
    exact h.spa j hj⟩
theorem SubR.below {B : Nat} {w w' : World} {v : Value} {ds : List POp} (h : SubR B w v ds) (hb : Below w.heap.size w w') : SubR B w' v ds := by
  rcases h with h | ⟨g, off, cap, hv, ho⟩
  · exact .inl h
  · exact .inr ⟨g, off, cap, hv, ho.below hb⟩
/-- A list of operations in memory, not empty: where it lies. -/
structure OpsM (w : World) (v : Value) (us : List POp) : Prop where
  pos : 0 < us.length
  at' : ∃ g off cap, v = .slice (some ⟨g, off, none⟩) us.length cap ∧ g < w.heap.size ∧ ∀ j u, (us.flatMap opC)[j]? = some u → w.cell? ⟨g, off + j, none⟩ = some u
theorem OpsM.below {w w' : World} {v : Value} {us : List POp} (h : OpsM w v us) (hb : Below w.heap.size w w') : OpsM w' v us := by
  obtain ⟨hp, g, off, cap, hv, hg, hc⟩ := h
  exact ⟨hp, g, off, cap, hv, Nat.lt_of_lt_of_le hg hb.size, fun j u hj => (hb.cell (p := ⟨g, off + j, none⟩) hg).trans (hc j u hj)⟩
theorem OpsM.rs {w : World} {v : Value} {us : List POp} (h : OpsM w v us) : RS 2 CPo 0 w v us := by
  obtain ⟨hp, g, off, cap, rfl, hg, hc⟩ := h
  refine ⟨_, _, rfl, fun _ => ⟨g, off, rfl, Nat.zero_le _, hg, fun i hi => ⟨opC us[i], rfl, fun j hj => ?_⟩⟩⟩
  have hf := flatO us i hi j hj
  have hl : j < (opC us[i]).length := by simpa [opC] using hj
  rw [List.getElem?_eq_getElem hl] at hf ⊢
  rw [show off + i * 2 + j = off + (i * 2 + j) by omega]
  exact hc _ _ hf
theorem own_ops {B : Nat} {w : World} {v : Value} {ds : List POp} (h : OpR B w v ds) (hp : 0 < ds.length) : OpsM w v ds := by
  have hlt := h.lt
  have hcell := h
  rcases h.2 with ⟨hv, h0⟩ | ⟨g, cap, cur, hv, hg1, hg2, hg3, hg4, hg5, hg6⟩
  · omega
  · subst hv
    exact ⟨hp, g, 0, cap, rfl, (hlt g rfl).2, fun j u hj => by rw [Nat.zero_add]; exact own_cell hcell hj⟩
/-- One operation more behind a part of a list. -/
theorem append_sub {ops : Array Oper} {rest : List Oper} {o : Oper} {a : Act} {Q : Exit → Act → World → Prop} (hgd : o.guard = none) (s x : Operand)
    (ho : o.op = .call { callee := .builtin .append, args := #[s, x], argTypes := #[23, 23] })
    (B : Nat) (W w0 w : World) (v : Value) (ds : List POp) (d : POp) (hv : a.eval s = v) (h : SubR B w v ds) (hB : W.heap.size ≤ B) (hb : Below W.heap.size W w) (hl : ds.length ≤ 4001)
    (ad : Addr) (hx : a.eval x = .slice (some ad) 1 1) (hc : ∀ j u, (opC d)[j]? = some u → w.cell? (ad.add j) = some u)
    (hK : ∀ v' w', OpsM w' v' (ds ++ [d]) → Below W.heap.size W w' → wpList Try.prog ops Q rest (a.put o.dst v') w') : wpList Try.prog ops Q (o :: rest) a w := by
  obtain ⟨i0, hi0, hz0, hz1, hz2⟩ := info_parts infoOp
  have hfl : (ds ++ [d]).flatMap opC = ds.flatMap opC ++ opC d := by rw [List.flatMap_append]; simp
  have hll : (ds ++ [d]).length = ds.length + 1 := by simp
  have grow : ∀ v' w', w'.ownsRow w.heap.size 26 2 v' (ds.length + 1) (ds.flatMap opC ++ opC d) → w.grownBy w' none → wpList Try.prog ops Q rest (a.put o.dst v') w' := fun v' w' hr hg => by
    refine hK v' w' (own_ops (B := w.heap.size) (OpR.push hr) (by simp)) ⟨hg.os.trans hb.os, hg.tape.trans hb.tape, hg.output.trans hb.output, Nat.le_trans hb.size hg.size, fun k hk => (hg.block k (Nat.lt_of_lt_of_le hk hb.size) (by simp)).trans (hb.block k hk)⟩
  rcases h with ⟨rfl, rfl⟩ | ⟨g, off, cap, rfl, hs⟩
  · refine wpList_append_grows w hgd s x 23 ho 26 i0 _ 2 16 Try.underlying23 hi0 hz0 hz1 hz2 rfl (by decide) none 0 0 [] hv (fun _ => ⟨rfl, rfl⟩) rfl (fun b hb => by cases hb) ad 1 1 (opC d) hx rfl hc (by intro u hu; simp [opC] at hu; rcases hu with rfl | rfl <;> rfl) (by omega) (by unfold maxLen; omega) (by omega) ?_
    intro v' w' hr hg
    exact grow v' w' hr hg
  · refine wpList_append_arg w hgd s x 23 ho 26 i0 _ 2 16 Try.underlying23 hi0 hz0 hz1 hz2 rfl (by decide) g off ds.length cap (ds.flatMap opC) hv (flatO_len ds) hs.cel ad 1 1 (opC d) hx rfl hc (by intro u hu; simp [opC] at hu; rcases hu with rfl | rfl <;> rfl) (fun hr j hj => ?_) (by unfold maxLen; omega) (by omega) (fun hr => ?_) (fun hr v' w' h1 h2 => grow v' w' h1 h2)
    · have := hs.spa (ds.length * 2 + j) (by simp [opC] at hj; omega)
      rw [show off + ds.length * 2 + j = off + (ds.length * 2 + j) by omega]
      exact this
    · have s0 := hs.spa (ds.length * 2) (by omega)
      have s1 := hs.spa (ds.length * 2 + 1) (by omega)
      obtain ⟨u0, hu0⟩ := Option.isSome_iff_exists.1 s0.1
      obtain ⟨u1, hu1⟩ := Option.isSome_iff_exists.1 s1.1
      have e : w.setCells g (off + ds.length * 2) (opC d) = (w.setCell ⟨g, off + ds.length * 2, none⟩ (.int .i64 d.kd)).setCell ⟨g, off + ds.length * 2 + 1, none⟩ (.int .i64 d.pg) := rfl
      rw [e]
      have hgW : W.heap.size ≤ g := Nat.le_trans hB hs.ge
      refine hK _ _ ⟨by simp, g, off, cap, by rw [hll], by simpa [World.setCell] using hs.lt, fun j u hj => ?_⟩ ((hb.setCell (show W.heap.size ≤ (⟨g, off + ds.length * 2, none⟩ : Addr).block from hgW) _).setCell (show W.heap.size ≤ (⟨g, off + ds.length * 2 + 1, none⟩ : Addr).block from hgW) _)
      rw [hfl] at hj
      by_cases hjl : j < ds.length * 2
      · rw [List.getElem?_append_left (by rw [flatO_len]; exact hjl)] at hj
        exact set_cell3 (set_cell3 (hs.cel j u hj) (by omega)) (by omega)
      · rw [List.getElem?_append_right (by rw [flatO_len]; omega), flatO_len] at hj
        have hj2 : j - ds.length * 2 < 2 := by
          by_cases h : j - ds.length * 2 < 2
          · exact h
          · rw [List.getElem?_eq_none (by simp [opC]; omega)] at hj; cases hj
        have : j = ds.length * 2 ∨ j = ds.length * 2 + 1 := by omega
        rcases this with rfl | rfl
        · rw [Nat.sub_self] at hj
          simp [opC] at hj
          subst hj
          exact set_cell3 (World.cell?_setCell_same _ _ _ hu0) (by omega)
        · rw [Nat.add_sub_cancel_left] at hj
          simp [opC] at hj
          subst hj
          rw [show off + (ds.length * 2 + 1) = off + ds.length * 2 + 1 by omega]
          refine World.cell?_setCell_same _ _ _ (u := u1) (set_cell3 ?_ (by omega))
          rw [show off + ds.length * 2 + 1 = off + (ds.length * 2 + 1) by omega]
          exact hu1
end Go.Proofs.YtbndliedcanmgaaR
