import Derived.Test.YtdcdoeolaongkaaGreatDoorK4
import Derived.Test.YtdcdoeolaongkaaGreatDoorMA
import Derived.Deep.Light
namespace Go.Proofs.YtdcdoeolaongkaaGreatDoor.Mp
open Go.MapKept Go.ChangeMaps
open Go.ChangeShapes Go.WideShapes Go.ChangeAt Go.RowKit
set_option linter.unusedVariables false
set_option linter.unusedSimpArgs false
set_option maxRecDepth 100000
/-- Whole numbers that a slice leads to, from anywhere in its block. -/
def RIO (w : World) (v : Value) (ks : List Int) : Prop :=
  ∃ a cap, v = .slice a ks.length cap ∧ (0 < ks.length → ∃ g o, a = some ⟨g, o, none⟩ ∧ g < w.heap.size ∧ ∀ i (h : i < ks.length), w.cell? ⟨g, o + i, none⟩ = some (.int .i64 ks[i]))
theorem RIO.below {w w' : World} {v : Value} {ks : List Int} (h : RIO w v ks) (hb : Below w.heap.size w w') : RIO w' v ks := by
  obtain ⟨a, cap, rfl, h2⟩ := h
  refine ⟨a, cap, rfl, fun hp => ?_⟩
  obtain ⟨g, o, ha, hg, hc⟩ := h2 hp
  exact ⟨g, o, ha, Nat.lt_of_lt_of_le hg hb.size, fun i hi => (hb.cell (p := ⟨g, o + i, none⟩) hg).trans (hc i hi)⟩
/-- What 'taking' makes. -/
def Taker (w : World) (m : Nat) (v : Value) (r : Int) (ws : List Int) : Prop :=
  ∃ bw br sb, v = .func (.func 149) #[] #[.pointer (some ⟨bw, 0, none⟩), .pointer (some ⟨br, 0, none⟩)] ∧ (m < bw ∧ m < br ∧ m < sb) ∧ (bw < w.heap.size ∧ br < w.heap.size ∧ sb < w.heap.size) ∧
    w.cell? ⟨bw, 0, none⟩ = some (.slice (some ⟨sb, 0, none⟩) ws.length ws.length) ∧ w.cell? ⟨br, 0, none⟩ = some (.int .i64 r) ∧ ∀ i (h : i < ws.length), w.cell? ⟨sb, i, none⟩ = some (.int .i64 ws[i])
theorem Taker.below {w w' : World} {m : Nat} {v : Value} {r : Int} {ws : List Int} (h : Taker w m v r ws) (hb : Below w.heap.size w w') : Taker w' m v r ws := by
  obtain ⟨bw, br, sb, rfl, h1, ⟨h2, h3, h4⟩, c1, c2, c3⟩ := h
  have hs := hb.size
  exact ⟨bw, br, sb, rfl, h1, ⟨by omega, by omega, by omega⟩, (hb.cell (p := ⟨bw, 0, none⟩) h2).trans c1, (hb.cell (p := ⟨br, 0, none⟩) h3).trans c2, fun i hi => (hb.cell (p := ⟨sb, i, none⟩) h4).trans (c3 i hi)⟩
theorem cell_same {w w' : World} {b i : Nat} (h : w'.heap[b]? = w.heap[b]?) : w'.cell? ⟨b, i, none⟩ = w.cell? ⟨b, i, none⟩ := by
  simp [World.cell?, h]
theorem Taker.grown {w w' : World} {m : Nat} {v : Value} {r : Int} {ws : List Int} (h : Taker w m v r ws) (hg : w.grownBy w' (some m)) : Taker w' m v r ws := by
  obtain ⟨bw, br, sb, rfl, ⟨m1, m2, m3⟩, ⟨h2, h3, h4⟩, c1, c2, c3⟩ := h
  have hs := hg.size
  exact ⟨bw, br, sb, rfl, ⟨m1, m2, m3⟩, ⟨by omega, by omega, by omega⟩, (cell_same (hg.block bw h2 (by simp; omega))).trans c1, (cell_same (hg.block br h3 (by simp; omega))).trans c2, fun i hi => (cell_same (hg.block sb h4 (by simp; omega))).trans (c3 i hi)⟩
abbrev fnV (n : Nat) : Value := .func (.func n) #[] #[]
def resK (fn : Int) : Int := if fn = 2 ∨ fn = 7 ∨ fn = 8 ∨ fn = 9 then 1 else if fn = 10 then 2 else 3
def wantK (fn : Int) : List Int := if fn = 5 then [3, 1, 1] else if fn = 7 ∨ fn = 8 ∨ fn = 9 then [5] else if fn = 10 then [2] else [3]
def workN (fn : Int) : Nat := if fn = 1 then 83 else if fn = 2 then 85 else if fn = 3 then 86 else if fn = 4 then 87 else if fn = 5 then 88 else if fn = 6 then 90 else if fn = 7 then 91 else if fn = 8 then 92 else if fn = 9 then 93 else if fn = 10 then 94 else if fn = 11 then 95 else if fn = 12 then 97 else 98
def GoodG (w : World) (m : Nat) (fn : Int) (g : Value) : Prop :=
  if fn = 1 then g = fnV 82 else if fn = 6 then g = fnV 89 else if fn = 12 ∨ fn = 13 then g = fnV 96 else Taker w m g (resK fn) (wantK fn)
def GoodE (w : World) (m : Nat) (fn : Int) (v : Value) : Prop := ∃ g, v = .agg #[g, fnV (workN fn)] ∧ GoodG w m fn g
theorem GoodG.mono {w w' : World} {m : Nat} {fn : Int} {g : Value} (h : GoodG w m fn g) (ht : ∀ r ws, Taker w m g r ws → Taker w' m g r ws) : GoodG w' m fn g := by
  unfold GoodG at h ⊢
  by_cases c1 : fn = 1
  · rw [if_pos c1] at h ⊢; exact h
  rw [if_neg c1] at h ⊢
  by_cases c2 : fn = 6
  · rw [if_pos c2] at h ⊢; exact h
  rw [if_neg c2] at h ⊢
  by_cases c3 : fn = 12 ∨ fn = 13
  · rw [if_pos c3] at h ⊢; exact h
  rw [if_neg c3] at h ⊢
  exact ht _ _ h
theorem GoodE.below {w w' : World} {m : Nat} {fn : Int} {v : Value} (h : GoodE w m fn v) (hb : Below w.heap.size w w') : GoodE w' m fn v := by
  obtain ⟨g, h1, h2⟩ := h
  exact ⟨g, h1, h2.mono (fun r ws h => h.below hb)⟩
theorem GoodE.grown {w w' : World} {m : Nat} {fn : Int} {v : Value} (h : GoodE w m fn v) (hg : w.grownBy w' (some m)) : GoodE w' m fn v := by
  obtain ⟨g, h1, h2⟩ := h
  exact ⟨g, h1, h2.mono (fun r ws h => h.grown hg)⟩
/-- The table as far as it is made. -/
def St (w0 w : World) (ks : List Int) : Prop := ∃ l, MapAt w w0.heap.size l ∧ l.map (·.1) = ks ∧ (∀ p ∈ l, GoodE w w0.heap.size p.1 p.2) ∧ Below w0.heap.size w0 w
theorem St.made (w : World) : St w (w.alloc (.map #[] 0)) [] := ⟨[], MapAt.made w, rfl, fun p h => (by cases h), (Below.refl _ _).alloc (Nat.le_refl _) _⟩
theorem St.lt {w0 w : World} {ks : List Int} (h : St w0 w ks) : w0.heap.size < w.heap.size := by obtain ⟨l, h1, _⟩ := h; exact h1.lt
theorem St.below {w0 w w' : World} {ks : List Int} (h : St w0 w ks) (hb : Below w.heap.size w w') : St w0 w' ks := by
  have hl := h.lt
  obtain ⟨l, h1, h2, h3, h4⟩ := h
  exact ⟨l, h1.below hb hl, h2, fun p hp => (h3 p hp).below hb, h4.trans (hb.mono (by omega))⟩
theorem lookL_none {l : List (Int × Value)} {k : Int} (h : k ∉ l.map (·.1)) : lookL l k = none := by
  induction l with
  | nil => rfl
  | cons p l ih =>
    simp only [List.map_cons, List.mem_cons, not_or] at h
    simp only [lookL, if_neg h.1]
    exact ih h.2
theorem lookL_some {l : List (Int × Value)} {k : Int} (h : k ∈ l.map (·.1)) : ∃ v, lookL l k = some v ∧ (k, v) ∈ l := by
  induction l with
  | nil => simp at h
  | cons p l ih =>
    by_cases c : k = p.1
    · exact ⟨p.2, by simp [lookL, c], by rw [c]; exact List.mem_cons_self⟩
    · simp only [List.map_cons, List.mem_cons] at h
      obtain ⟨v, h1, h2⟩ := ih (h.resolve_left c)
      exact ⟨v, by simp [lookL, c, h1], List.mem_cons_of_mem _ h2⟩
theorem St.ins {w0 w w' : World} {ks : List Int} {k : Int} {v : Value} {l : List (Int × Value)} (h2 : l.map (·.1) = ks) (h3 : ∀ p ∈ l, GoodE w w0.heap.size p.1 p.2) (h4 : Below w0.heap.size w0 w) (hg : GoodE w w0.heap.size k v) (hm : MapAt w' w0.heap.size (l ++ [(k, v)])) (hgr : w.grownBy w' (some w0.heap.size)) : St w0 w' (ks ++ [k]) := by
  refine ⟨_, hm, by simp [h2], fun p hp => ?_, h4.grown hgr h4.size (fun j hj => by cases hj; exact Nat.le_refl _)⟩
  rcases List.mem_append.1 hp with h | h
  · exact (h3 p h).grown hgr
  · rw [List.mem_singleton] at h; subst h; exact hg.grown hgr
theorem wpList_insert_St {w0 w : World} {ks : List Int} {ops : Array Oper} {rest : List Oper} {o : Oper} {a : Act} {Q : Exit → Act → World → Prop}
    (hg : o.guard = none) (m x v : Operand) (hop : o.op = Op.insert 72 m x v) (hst : St w0 w ks) (hm : a.eval m = .map (some w0.heap.size)) (k : Int) (val : Value) (hx : a.eval x = .int .i64 k) (hv : a.eval v = val) (hf : k ∉ ks)
    (hgood : GoodE w w0.heap.size k val) (hgo : ∀ w', St w0 w' (ks ++ [k]) → wpList Tryz.prog ops Q rest (a.put o.dst undef) w') :
    wpList Tryz.prog ops Q (o :: rest) a w := by
  obtain ⟨l, h1, h2, h3, h4⟩ := hst
  exact wpList_insert_at w hg m x v 72 hop 3 70 Tryz.underlying72 Tryz.underlying3 _ l hm h1 k val hx hv (lookL_none (by rw [h2]; exact hf)) (fun w' hm' hgr => hgo w' (St.ins h2 h3 h4 hgood hm' hgr))
theorem good1 (w : World) (m : Nat) : GoodE w m 1 (.agg #[fnV 82, fnV 83]) := ⟨_, rfl, rfl⟩
theorem good6 (w : World) (m : Nat) : GoodE w m 6 (.agg #[fnV 89, fnV 90]) := ⟨_, rfl, rfl⟩
theorem good12 (w : World) (m : Nat) : GoodE w m 12 (.agg #[fnV 96, fnV 97]) := ⟨_, rfl, rfl⟩
theorem good13 (w : World) (m : Nat) : GoodE w m 13 (.agg #[fnV 96, fnV 98]) := ⟨_, rfl, rfl⟩
theorem goodT {w : World} {m : Nat} {fn : Int} {v : Value} {n : Nat} {r : Int} {ws : List Int} (ht : Taker w m v r ws) (h : fn = 2 ∨ fn = 3 ∨ fn = 4 ∨ fn = 5 ∨ fn = 7 ∨ fn = 8 ∨ fn = 9 ∨ fn = 10 ∨ fn = 11) (hr : r = resK fn) (hw : ws = wantK fn) (hn : n = workN fn) : GoodE w m fn (.agg #[v, fnV n]) := by
  subst hr hw hn
  refine ⟨v, rfl, ?_⟩
  unfold GoodG
  rw [if_neg (by omega), if_neg (by omega), if_neg (by omega)]
  exact ht
theorem taking_one (w0 w1 : World) (ks : List Int) (r c : Int) (hst : St w0 w1 ks) : Calls Tryz.prog 84 #[.int .i64 r, .slice (some ⟨w1.heap.size, 0, none⟩) 1 1] (w1.alloc (.cells #[.int .i64 c] 3)) fun e w' => ∃ cp, e = .returned (.func (.func 149) #[] cp) ∧ Taker w' w0.heap.size (.func (.func 149) #[] cp) r [c] ∧ St w0 w' ks := by
  have hl := hst.lt
  go_enter Tryz.func84, Tryz.ntmps84
  go_wp2
  go_ret
  refine ⟨_, rfl, ⟨w1.heap.size + 2, w1.heap.size + 1, w1.heap.size, rfl, ⟨by omega, by omega, by omega⟩, ⟨by simp, by simp, by simp; omega⟩, ?_, ?_, ?_⟩, ?_⟩
  · simp [go_sem]
  · simp [go_sem]
  · intro i h
    match i, h with
    | 0, _ => simp [go_sem]
  · refine hst.below ?_
    repeat (first | with_reducible exact Below.refl _ _ | refine Below.alloc ?_ (by simp; try omega) _)
theorem taking_three (w0 w1 : World) (ks : List Int) (r c d e : Int) (hst : St w0 w1 ks) : Calls Tryz.prog 84 #[.int .i64 r, .slice (some ⟨w1.heap.size, 0, none⟩) 3 3] (w1.alloc (.cells #[.int .i64 c, .int .i64 d, .int .i64 e] 3)) fun z w' => ∃ cp, z = .returned (.func (.func 149) #[] cp) ∧ Taker w' w0.heap.size (.func (.func 149) #[] cp) r [c, d, e] ∧ St w0 w' ks := by
  have hl := hst.lt
  go_enter Tryz.func84, Tryz.ntmps84
  go_wp2
  go_ret
  refine ⟨_, rfl, ⟨w1.heap.size + 2, w1.heap.size + 1, w1.heap.size, rfl, ⟨by omega, by omega, by omega⟩, ⟨by simp, by simp, by simp; omega⟩, ?_, ?_, ?_⟩, ?_⟩
  · simp [go_sem]
  · simp [go_sem]
  · intro i h
    match i, h with
    | 0, _ => simp [go_sem]
    | 1, _ => simp [go_sem]
    | 2, _ => simp [go_sem]
  · refine hst.below ?_
    repeat (first | with_reducible exact Below.refl _ _ | refine Below.alloc ?_ (by simp; try omega) _)
end Go.Proofs.YtdcdoeolaongkaaGreatDoor.Mp
