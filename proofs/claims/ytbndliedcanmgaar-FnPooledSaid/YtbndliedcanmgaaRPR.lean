import Derived.Test.YtbndliedcanmgaaRPF
namespace Go.Proofs.YtbndliedcanmgaaR
open Go.ChangeShapes Go.WideShapes Go.ChangeAt Go.RowKit
set_option linter.unusedVariables false
set_option linter.unusedSimpArgs false
set_option maxRecDepth 100000
theorem own_same {w w' : World} {b e k n : Nat} {v : Value} {xs : List Value} (h : w.ownsRow b e k v n xs) (hs : ∀ j, v.ownBlock = some j → w'.heap[j]? = w.heap[j]?) : w'.ownsRow b e k v n xs := by
  obtain ⟨h1, h2⟩ := h
  refine ⟨h1, ?_⟩
  rcases h2 with h2 | ⟨g, cap, cur, rfl, hg1, hg2, hg3⟩
  · exact .inl h2
  · exact .inr ⟨g, cap, cur, rfl, hg1, (hs g rfl).trans hg2, hg3⟩
theorem own_base {w : World} {b b' e k n : Nat} {v : Value} {xs : List Value} (h : w.ownsRow b e k v n xs) (hb : b' ≤ b) : w.ownsRow b' e k v n xs := by
  obtain ⟨h1, h2⟩ := h
  refine ⟨h1, ?_⟩
  rcases h2 with h2 | ⟨g, cap, cur, rfl, hg1, hg2⟩
  · exact .inl h2
  · exact .inr ⟨g, cap, cur, rfl, Nat.le_trans hb hg1, hg2⟩
theorem own_type {w : World} {b e k n j : Nat} {v : Value} {xs : List Value} (h : w.ownsRow b e k v n xs) (hj : v.ownBlock = some j) : ∃ cur, w.heap[j]? = some (.cells cur e (0, 0)) := by
  obtain ⟨_, h2⟩ := h
  rcases h2 with ⟨rfl, _⟩ | ⟨g, cap, cur, rfl, _, hg2, _⟩
  · simp [Value.ownBlock] at hj
  · simp [Value.ownBlock] at hj
    subst hj
    exact ⟨cur, hg2⟩
theorem own_ne {w : World} {b b' e e' k k' n n' j : Nat} {v v' : Value} {xs xs' : List Value} (h : w.ownsRow b e k v n xs) (h' : w.ownsRow b' e' k' v' n' xs') (he : e ≠ e') (hj : v.ownBlock = some j) : v'.ownBlock ≠ some j := by
  intro hj'
  obtain ⟨c, hc⟩ := own_type h hj
  obtain ⟨c', hc'⟩ := own_type h' hj'
  rw [hc] at hc'
  simp at hc'
  exact he hc'.2
theorem IOut.base {b b' : Nat} {w : World} {v : Value} {xs : List Int} (h : IOut b w v xs) (hb : b' ≤ b) : IOut b' w v xs := own_base h hb
def poC (x : Value × POut) : List Value := [.int .i64 x.2.rd, .int .i64 x.2.wr, x.1]
/-- The answers so far: a row that is owned, and what each leads to. -/
def OutR (b : Nat) (w : World) (v : Value) (ps : List (Value × POut)) : Prop := w.ownsRow b 33 3 v ps.length (ps.flatMap poC) ∧ (∀ x ∈ ps, IOut b w x.1 x.2.all) ∧ ps.Pairwise (fun x y => ∀ j, x.1.ownBlock = some j → y.1.ownBlock ≠ some j)
theorem OutR.u2 {b q g : Nat} {w w' : World} {v : Value} {ps : List (Value × POut)} (h : OutR b w v ps) (hu : U2 q g w w') (hq : q < b) (hg : g < b) : OutR b w' v ps :=
  ⟨own_same h.1 (fun j hj => hu.block j (h.1.lt j hj).2 (by have := (h.1.lt j hj).1; omega) (by have := (h.1.lt j hj).1; omega)),
   fun x hx => own_same (h.2.1 x hx) (fun j hj => hu.block j (World.ownsRow.lt (h.2.1 x hx) j hj).2 (by have := (World.ownsRow.lt (h.2.1 x hx) j hj).1; omega) (by have := (World.ownsRow.lt (h.2.1 x hx) j hj).1; omega)), h.2.2⟩
theorem OutR.below {b : Nat} {w w' : World} {v : Value} {ps : List (Value × POut)} (h : OutR b w v ps) (hb : Below w.heap.size w w') : OutR b w' v ps := ⟨own_below h.1 hb, fun x hx => own_below (h.2.1 x hx) hb, h.2.2⟩
theorem OutR.form {b : Nat} {w : World} {v : Value} {ps : List (Value × POut)} (h : OutR b w v ps) : ∃ oa oc, v = .slice oa ps.length oc := by
  obtain ⟨_, h2⟩ := h.1
  rcases h2 with ⟨rfl, h0⟩ | ⟨q, cap, cur, rfl, _⟩
  · exact ⟨none, 0, by rw [h0]⟩
  · exact ⟨_, _, rfl⟩
theorem OutR.push {b : Nat} {w w' : World} {v v' u : Value} {o : POut} {ps : List (Value × POut)} (h : OutR b w v ps) (hu : IOut b w u o.all) (hn : ∀ x ∈ ps, ∀ j, x.1.ownBlock = some j → u.ownBlock ≠ some j) (hg : w.grownBy w' v.ownBlock) (ho : w'.ownsRow b 33 3 v' (ps.length + 1) (ps.flatMap poC ++ poC (u, o))) : OutR b w' v' (ps ++ [(u, o)]) := by
  have key : ∀ (x : Value) (all : List Int), IOut b w x all → IOut b w' x all := fun x all hx => own_same hx (fun j hj => hg.block j (World.ownsRow.lt hx j hj).2 (fun e => own_ne hx h.1 (by decide) hj e.symm))
  refine ⟨by rw [List.flatMap_append, List.length_append]; simpa using ho, fun x hx => ?_, List.pairwise_append.2 ⟨h.2.2, List.pairwise_singleton _ _, fun x hx y hy => by simp at hy; subst hy; exact hn x hx⟩⟩
  rcases List.mem_append.1 hx with hx | hx
  · exact key _ _ (h.2.1 x hx)
  · simp at hx
    subst hx
    exact key _ _ hu
theorem OutR.made {b : Nat} (w : World) (hb : b ≤ w.heap.size) : OutR b (w.alloc (.cells #[] 33)) (.slice (some ⟨w.heap.size, 0, none⟩) 0 0) [] := ⟨World.ownsRow_made w #[] 0 hb (by unfold maxLen; omega) (by simp), fun x hx => (by cases hx), List.Pairwise.nil⟩
/-- The operations in memory. -/
def CPo (B : Nat) (w : World) (cs : List Value) (x : POp) : Prop := cs = [.int .i64 x.kd, .int .i64 x.pg]
theorem liesPo : Lies 2 CPo := ⟨fun h => by rw [h]; rfl, fun h _ => h, fun h _ => h, fun h _ => h⟩
theorem po_at {B : Nat} {w : World} {a : Option Addr} {c : Nat} {us : List POp} (h : RS 2 CPo B w (.slice a us.length c) us) (hp : 0 < us.length) : ∃ g o, a = some ⟨g, o, none⟩ ∧ B ≤ g ∧ g < w.heap.size ∧ ∀ i (h : i < us.length), w.cell? ⟨g, o + i * 2, none⟩ = some (.int .i64 us[i].kd) ∧ w.cell? ⟨g, o + i * 2 + 1, none⟩ = some (.int .i64 us[i].pg) := by
  obtain ⟨a', c', he, h2⟩ := h
  simp only [Value.slice.injEq] at he
  obtain ⟨rfl, _, rfl⟩ := he
  obtain ⟨g, o, ha, hB, hg, hc⟩ := h2 hp
  refine ⟨g, o, ha, hB, hg, fun i hi => ?_⟩
  obtain ⟨cs, hcs, hj⟩ := hc i hi
  unfold CPo at hcs
  subst hcs
  exact ⟨by simpa using hj 0 (by omega), by simpa using hj 1 (by omega)⟩
/-- What runF has done behind i operations. -/
def stN : Nat → List POp → List Fr × Nat → List POut × List Fr × Nat
  | 0, _, s => ([], s)
  | n + 1, os, s => match os[n]? with
    | some o => ((stN n os s).1 ++ [(stepF o (stN n os s).2.1 (stN n os s).2.2).1], (stepF o (stN n os s).2.1 (stN n os s).2.2).2)
    | none => stN n os s
theorem stN_on {n : Nat} {os : List POp} {s : List Fr × Nat} {out : List POut} {fs : List Fr} {h : Nat} (e : stN n os s = (out, fs, h)) (hn : n < os.length) : stN (n + 1) os s = (out ++ [(stepF os[n] fs h).1], (stepF os[n] fs h).2) := by
  rw [stN, List.getElem?_eq_getElem hn, e]
theorem stN_cons : ∀ (n : Nat) (o : POp) (r : List POp) (fs : List Fr) (h : Nat), n ≤ r.length → stN (n + 1) (o :: r) (fs, h) = ((stepF o fs h).1 :: (stN n r (stepF o fs h).2).1, (stN n r (stepF o fs h).2).2)
  | 0, o, r, fs, h, _ => by simp [stN]
  | n + 1, o, r, fs, h, hn => by
    have ih := stN_cons n o r fs h (by omega)
    rw [stN, ih, stN]
    have e1 : (o :: r)[n + 1]? = r[n]? := rfl
    have hl : n < r.length := by omega
    rw [e1, List.getElem?_eq_getElem hl]
    simp
theorem stN_run : ∀ (os : List POp) (fs : List Fr) (h : Nat), (stN os.length os (fs, h)).1 = runF os fs h
  | [], _, _ => rfl
  | o :: r, fs, h => by
    rw [List.length_cons, stN_cons r.length o r fs h (Nat.le_refl _), runF]
    have := stN_run r (stepF o fs h).2.1 (stepF o fs h).2.2
    simp only [this]
end Go.Proofs.YtbndliedcanmgaaR
