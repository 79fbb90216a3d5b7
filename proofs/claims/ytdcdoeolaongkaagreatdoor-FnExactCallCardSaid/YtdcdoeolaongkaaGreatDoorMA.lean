import Derived.WalkKit
import Derived.ProofKit
import Derived.Maps.Own
import Derived.Maps.OwnOps
import Derived.Maps.OwnSet
namespace Go.Proofs.YtdcdoeolaongkaaGreatDoor.Mp
open Go.MapKept Go.ChangeMaps
open Go.ChangeShapes Go.WideShapes Go.ChangeAt Go.RowKit
set_option linter.unusedVariables false
/-- A block that is a map of whole numbers to the values of a list. -/
def MapAt (w : World) (b : Nat) (l : List (Int × Value)) : Prop :=
  ∃ es clock, w.heap[b]? = some (.map es clock) ∧ es.toList.map (fun e => (e.key, e.val)) = l.map (fun p => (Value.int .i64 p.1, p.2))
def lookL : List (Int × Value) → Int → Option Value
  | [], _ => none
  | p :: l, k => if k = p.1 then some p.2 else lookL l k
theorem findNow_L (k : Int) : ∀ (es : List MapEntry) (l : List (Int × Value)) (i : Nat), es.map (fun e => (e.key, e.val)) = l.map (fun p => (Value.int .i64 p.1, p.2)) →
    ∃ r, Instr.findNow (.int .i64) (.int .i64 k) es i = some r ∧ r.map (·.2) = lookL l k
  | [], [], i, _ => ⟨none, rfl, rfl⟩
  | [], p :: l, i, h => by simp at h
  | e :: es, [], i, h => by simp at h
  | e :: es, p :: l, i, h => by
    simp only [List.map_cons, List.cons.injEq, Prod.mk.injEq] at h
    obtain ⟨⟨h1, h2⟩, h3⟩ := h
    by_cases c : k = p.1
    · exact ⟨some (i, e.val), by simp [Instr.findNow, h1, Instr.sameNow, c], by simp [lookL, c, h2]⟩
    · obtain ⟨r, g1, g2⟩ := findNow_L k es l (i + 1) h3
      have cc : (k == p.1) = false := by simp [c]
      exact ⟨r, by simp [Instr.findNow, h1, Instr.sameNow, cc, g1], by simp [lookL, c, g2]⟩
theorem MapAt.made (w : World) : MapAt (w.alloc (.map #[] 0)) w.heap.size [] := ⟨#[], 0, (MapKept.heap_alloc w _).1, rfl⟩
theorem MapAt.lt {w : World} {b : Nat} {l : List (Int × Value)} (h : MapAt w b l) : b < w.heap.size := by
  obtain ⟨es, c, h1, _⟩ := h
  exact (Array.getElem?_eq_some_iff.1 h1).1
theorem MapAt.below {w w' : World} {b n : Nat} {l : List (Int × Value)} (h : MapAt w b l) (hb : Below n w w') (hn : b < n) : MapAt w' b l := by
  obtain ⟨es, c, h1, h2⟩ := h
  exact ⟨es, c, (hb.block b hn).trans h1, h2⟩
theorem MapAt.alloc {w : World} {b : Nat} {l : List (Int × Value)} (h : MapAt w b l) (o : Obj) : MapAt (w.alloc o) b l := by
  have hl := h.lt
  obtain ⟨es, c, h1, h2⟩ := h
  exact ⟨es, c, ((World.grownBy_alloc w o none).block b hl (by simp)).trans h1, h2⟩
theorem MapAt.update {P : Program} {w : World} {b : Nat} {l : List (Int × Value)} (h : MapAt w b l) {t K E : TypeId} (ht : P.underlying t = some (.map K E)) (hK : P.underlying K = some (.int .i64)) (k : Int) (v : Value) (hf : lookL l k = none) :
    ∃ w', (Instr.mapUpdate t (.map (some b)) (.int .i64 k) v).run P w = .ok () w' ∧ MapAt w' b (l ++ [(k, v)]) ∧ w.grownBy w' (some b) := by
  obtain ⟨es, c, h1, h2⟩ := h
  obtain ⟨r, g1, g2⟩ := findNow_L k es.toList l 0 h2
  rw [hf] at g2
  have g3 : r = none := by cases r <;> simp_all
  subst g3
  have e1 : (Instr.checkKey false 10000 K (.int .i64 k)).run P w = .ok () w := run_checkKey hK (by simp [IsKey]) false 9999
  have e2 := run_findKey (P := P) (w := w) hK g1
  refine ⟨setBlock w b (.map (es.push { key := .int .i64 k, val := v, born := c }) (c + 1)), ?_, ⟨_, _, heap_setBlock_same h1 _, ?_⟩, ⟨rfl, rfl, rfl, by simp [setBlock], fun i _ hi => heap_setBlock_other h1 _ (fun e => hi (by rw [e]))⟩⟩
  · simp [Instr.mapUpdate, run_underlying ht, MapKept.run_getObj_map h1, e1, e2, run_setObj_map _ h1, setBlock, Result.andThen]
  · simp [h2]
theorem MapAt.look {P : Program} {w : World} {b : Nat} {l : List (Int × Value)} (h : MapAt w b l) {t K E : TypeId} (ht : P.underlying t = some (.map K E)) (hK : P.underlying K = some (.int .i64)) {z : Value} (hz : (zeroValue E).run P w = .ok z w) (k : Int) :
    (Instr.lookup t (.map (some b)) (.int .i64 k) true).run P w = .ok (.tuple #[(lookL l k).getD z, .bool (lookL l k).isSome]) w := by
  obtain ⟨es, c, h1, h2⟩ := h
  obtain ⟨r, g1, g2⟩ := findNow_L k es.toList l 0 h2
  have e1 : ∀ em, (Instr.checkKey em 10000 K (.int .i64 k)).run P w = .ok () w := fun em => run_checkKey hK (by simp [IsKey]) em 9999
  have e2 := run_findKey (P := P) (w := w) hK g1
  cases r with
  | none => simp at g2; rw [← g2]; simp [Instr.lookup, run_underlying ht, MapKept.run_getObj_map h1, e1, e2, hz, Result.andThen]
  | some p => obtain ⟨p1, p2⟩ := p; simp at g2; rw [← g2]; simp [Instr.lookup, run_underlying ht, MapKept.run_getObj_map h1, e1, e2, Result.andThen]
theorem wpList_mapUpdate_at {P : Program} (w : World) {ops : Array Oper} {rest : List Oper} {o : Oper} {a : Act} {Q : Exit → Act → World → Prop}
    (hg : o.guard = none) (m x v : Operand) (t : TypeId) (hop : o.op = Op.mapUpdate t m x v) (K E : TypeId) (ht : P.underlying t = some (.map K E)) (hK : P.underlying K = some (.int .i64))
    (b : Nat) (l : List (Int × Value)) (hm : a.eval m = .map (some b)) (h : MapAt w b l) (k : Int) (val : Value) (hx : a.eval x = .int .i64 k) (hv : a.eval v = val) (hf : lookL l k = none)
    (hgo : ∀ w', MapAt w' b (l ++ [(k, val)]) → w.grownBy w' (some b) → wpList P ops Q rest (a.put o.dst undef) w') :
    wpList P ops Q (o :: rest) a w := by
  refine wpList_plain hg fun K' hK' => ?_
  obtain ⟨w', hrun, r1, r2⟩ := h.update ht hK k val hf
  unfold Oper.wp
  simp [execOp, hop, hm, hx, hv, hrun, Result.andThen]
  exact hK' _ _ (hgo w' r1 r2)
theorem wpList_insert_at {P : Program} (w : World) {ops : Array Oper} {rest : List Oper} {o : Oper} {a : Act} {Q : Exit → Act → World → Prop}
    (hg : o.guard = none) (m x v : Operand) (t : TypeId) (hop : o.op = Op.insert t m x v) (K E : TypeId) (ht : P.underlying t = some (.map K E)) (hK : P.underlying K = some (.int .i64))
    (b : Nat) (l : List (Int × Value)) (hm : a.eval m = .map (some b)) (h : MapAt w b l) (k : Int) (val : Value) (hx : a.eval x = .int .i64 k) (hv : a.eval v = val) (hf : lookL l k = none)
    (hgo : ∀ w', MapAt w' b (l ++ [(k, val)]) → w.grownBy w' (some b) → wpList P ops Q rest (a.put o.dst undef) w') :
    wpList P ops Q (o :: rest) a w := by
  refine wpList_plain hg fun K' hK' => ?_
  obtain ⟨w', hrun, r1, r2⟩ := h.update ht hK k val hf
  unfold Oper.wp
  simp [execOp, hop, hm, hx, hv, hrun, Result.andThen]
  exact hK' _ _ (hgo w' r1 r2)
end Go.Proofs.YtdcdoeolaongkaaGreatDoor.Mp
