import Derived.Test.YtjfgojlnpbehfaaHD1
import Derived.Deep.RegionWith
namespace Go.Proofs.Ytjfgojlnpbehfaa
open Go.ChangeShapes Go.WideShapes Go.ChangeAt Go.RowKit
set_option linter.unusedVariables false
set_option linter.unusedSimpArgs false
set_option maxRecDepth 100000
theorem pick_one (c : Nat) (n : Int) (w : World) (h : n ≤ 1) : Calls Try.prog 45 #[.pointer (some ⟨c, 0, none⟩), .int .i64 n] w fun e w' => e = .returned (.int .i64 0) ∧ w' = w := by
  go_enter Try.func45, Try.ntmps45
  go_wp2
  go_ret
  exact ⟨rfl, rfl⟩
theorem flatT : ∀ (ts : List (Value × Value × TI)) (i : Nat) (h : i < ts.length) (j : Nat), j < 4 → (ts.flatMap tC)[i * 4 + j]? = (tC ts[i])[j]?
  | t :: r, 0, _, j, hj => by
    rw [List.flatMap_cons, Nat.zero_mul, Nat.zero_add, List.getElem?_append_left (by simpa [tC] using hj)]
    rfl
  | t :: r, i + 1, h, j, hj => by
    rw [List.flatMap_cons, List.getElem?_append_right (by simp [tC]; omega)]
    have : (i + 1) * 4 + j - (tC t).length = i * 4 + j := by simp [tC]; omega
    rw [this]
    exact flatT r i (by simpa using h) j hj
theorem flatT_set : ∀ (ts : List (Value × Value × TI)) (i : Nat) (h : i < ts.length) (x : Value × Value × TI) (j : Nat) (u : Value), j < 4 → (tC x) = (tC ts[i]).set j u → (ts.set i x).flatMap tC = (ts.flatMap tC).set (i * 4 + j) u
  | t :: r, 0, _, x, j, u, hj, he => by
    have he' : tC x = (tC t).set j u := he
    rw [List.set_cons_zero, List.flatMap_cons, List.flatMap_cons, Nat.zero_mul, Nat.zero_add, List.set_append_left _ _ (by simpa [tC] using hj), he']
  | t :: r, i + 1, h, x, j, u, hj, he => by
    rw [List.set_cons_succ, List.flatMap_cons, List.flatMap_cons, List.set_append_right _ _ (by simp [tC]; omega)]
    have : (i + 1) * 4 + j - (tC t).length = i * 4 + j := by simp [tC]; omega
    rw [this, flatT_set r i (by simpa using h) x j u hj he]
theorem nest_at : ∀ (ts : List (Value × Value × TI)) (i : Nat) (h : i < ts.length), (nestV ts)[i * 2]? = some ts[i].1 ∧ (nestV ts)[i * 2 + 1]? = some ts[i].2.1
  | t :: r, 0, _ => ⟨rfl, rfl⟩
  | t :: r, i + 1, h => by
    have ih := nest_at r i (by simpa using h)
    have e : nestV (t :: r) = t.1 :: t.2.1 :: nestV r := rfl
    rw [e, show (i + 1) * 2 = i * 2 + 1 + 1 by omega]
    exact ih
theorem Apart.symm {a c : Value} (h : Apart a c) : Apart c a := fun j hj e => h j e hj
theorem Hst.apart {b : Nat} {w : World} {v : Value} {ts : List (Value × Value × TI)} (h : Hst b w v ts) {p q : Nat} {a c : Value} (hp : (nestV ts)[p]? = some a) (hq : (nestV ts)[q]? = some c) (hn : p ≠ q) : Apart a c := by
  obtain ⟨hpl, ep⟩ := List.getElem?_eq_some_iff.1 hp
  obtain ⟨hql, eq⟩ := List.getElem?_eq_some_iff.1 hq
  have hd := List.pairwise_iff_getElem.1 h.dis
  subst ep eq
  rcases Nat.lt_or_gt_of_ne hn with hl | hl
  · exact hd p q hpl hql hl
  · exact (hd q p hql hpl hl).symm
/-- A history in a row that is owned, with its lists. -/
structure HstN (b : Nat) (w : World) (v : Value) (ts : List (Value × Value × TI)) : Prop where
  row : w.ownsRow b 31 4 v ts.length (ts.flatMap tC)
  nest : ∀ x ∈ ts, IOw b w x.1 x.2.2.reads ∧ IOw b w x.2.1 x.2.2.writes
theorem Hst.n {b : Nat} {w : World} {v : Value} {ts : List (Value × Value × TI)} (h : Hst b w v ts) : HstN b w v ts := ⟨h.row, h.nest⟩
theorem HstN.below {b : Nat} {w w' : World} {v : Value} {ts : List (Value × Value × TI)} (h : HstN b w v ts) (hb : Below w.heap.size w w') : HstN b w' v ts := ⟨own_below h.row hb, fun x hx => ⟨(h.nest x hx).1.below hb, (h.nest x hx).2.below hb⟩⟩
theorem io_set {b g o : Nat} {w : World} {v u : Value} {xs : List Int} {n cap : Nat} {rs : List Value} (h : IOw b w v xs) (hr : w.ownsRow b 31 4 (.slice (some ⟨g, 0, none⟩) n cap) n rs) : IOw b (w.setCell ⟨g, o, none⟩ u) v xs :=
  own_same h (fun q hq => Below.heap_setCell _ _ _ _ (fun e => own_ne h hr (by decide) hq (by rw [e]; rfl)))
/-- A field of one of them is another; its lists stay, or are told anew. -/
theorem HstN.set {b g cap i j : Nat} {w : World} {ts : List (Value × Value × TI)} {x : Value × Value × TI} {u : Value} (h : HstN b w (.slice (some ⟨g, 0, none⟩) ts.length cap) ts) (hi : i < ts.length) (hj : j < 4) (he : tC x = (tC ts[i]).set j u) (h1 : IOw b w x.1 x.2.2.reads) (h2 : IOw b w x.2.1 x.2.2.writes) : HstN b (w.setCell ⟨g, i * 4 + j, none⟩ u) (.slice (some ⟨g, 0, none⟩) ts.length cap) (ts.set i x) := by
  refine ⟨?_, fun z hz => ?_⟩
  · rw [List.length_set, flatT_set ts i hi x j u hj he]
    exact (h.row.stored (i * 4 + j) u).1
  · rcases List.mem_or_eq_of_mem_set hz with hm | rfl
    · exact ⟨io_set (h.nest z hm).1 h.row, io_set (h.nest z hm).2 h.row⟩
    · exact ⟨io_set h1 h.row, io_set h2 h.row⟩
/-- Behind an append onto one of the lists all others are as they were. -/
theorem Hst.grown {b p : Nat} {w w1 : World} {v u : Value} {ts : List (Value × Value × TI)} (h : Hst b w v ts) (hp : (nestV ts)[p]? = some u) {xs : List Int} (hu : IOw b w u xs) (hg : w.grownBy w1 u.ownBlock) : w1.ownsRow b 31 4 v ts.length (ts.flatMap tC) ∧ ∀ k (hk : k < ts.length), (k * 2 ≠ p → IOw b w1 ts[k].1 ts[k].2.2.reads) ∧ (k * 2 + 1 ≠ p → IOw b w1 ts[k].2.1 ts[k].2.2.writes) := by
  refine ⟨own_same h.row (fun q hq => hg.block q (h.row.lt q hq).2 (fun e => own_ne hu h.row (by decide) e.symm hq)), fun k hk => ⟨fun hn => ?_, fun hn => ?_⟩⟩
  · have hI := (h.nest ts[k] (List.getElem_mem hk)).1
    exact own_same hI (fun q hq => hg.block q (World.ownsRow.lt hI q hq).2 (fun e => (h.apart (nest_at ts k hk).1 hp hn) q hq e.symm))
  · have hI := (h.nest ts[k] (List.getElem_mem hk)).2
    exact own_same hI (fun q hq => hg.block q (World.ownsRow.lt hI q hq).2 (fun e => (h.apart (nest_at ts k hk).2 hp hn) q hq e.symm))
/-- One of the lists has grown, its place tells the new one. -/
theorem Hst.setR {b g cap i : Nat} {w w1 : World} {v2 : Value} {ts : List (Value × Value × TI)} {y : Int} (h : Hst b w (.slice (some ⟨g, 0, none⟩) ts.length cap) ts) (hi : i < ts.length) (hg : w.grownBy w1 ts[i].1.ownBlock) (h2 : IOw b w1 v2 (ts[i].2.2.reads ++ [y])) : HstN b (w1.setCell ⟨g, i * 4 + 2, none⟩ v2) (.slice (some ⟨g, 0, none⟩) ts.length cap) (ts.set i (v2, ts[i].2.1, ⟨ts[i].2.2.bgn, ts[i].2.2.com, ts[i].2.2.reads ++ [y], ts[i].2.2.writes⟩)) := by
  obtain ⟨hr, hk⟩ := h.grown (nest_at ts i hi).1 (h.nest ts[i] (List.getElem_mem hi)).1 hg
  refine ⟨?_, fun z hz => ?_⟩
  · rw [List.length_set, flatT_set ts i hi _ 2 v2 (by omega) rfl]
    exact (hr.stored (i * 4 + 2) v2).1
  · obtain ⟨k, hk1, rfl⟩ := List.getElem_of_mem hz
    have hk2 : k < ts.length := by simpa using hk1
    by_cases e : k = i
    · subst e
      rw [List.getElem_set_self]
      exact ⟨io_set h2 hr, io_set ((hk k hk2).2 (by omega)) hr⟩
    · rw [List.getElem_set_ne (fun e' => e e'.symm)]
      exact ⟨io_set ((hk k hk2).1 (by omega)) hr, io_set ((hk k hk2).2 (by omega)) hr⟩
theorem Hst.setW {b g cap i : Nat} {w w1 : World} {v2 : Value} {ts : List (Value × Value × TI)} {y : Int} (h : Hst b w (.slice (some ⟨g, 0, none⟩) ts.length cap) ts) (hi : i < ts.length) (hg : w.grownBy w1 ts[i].2.1.ownBlock) (h2 : IOw b w1 v2 (ts[i].2.2.writes ++ [y])) : HstN b (w1.setCell ⟨g, i * 4 + 3, none⟩ v2) (.slice (some ⟨g, 0, none⟩) ts.length cap) (ts.set i (ts[i].1, v2, ⟨ts[i].2.2.bgn, ts[i].2.2.com, ts[i].2.2.reads, ts[i].2.2.writes ++ [y]⟩)) := by
  obtain ⟨hr, hk⟩ := h.grown (nest_at ts i hi).2 (h.nest ts[i] (List.getElem_mem hi)).2 hg
  refine ⟨?_, fun z hz => ?_⟩
  · rw [List.length_set, flatT_set ts i hi _ 3 v2 (by omega) rfl]
    exact (hr.stored (i * 4 + 3) v2).1
  · obtain ⟨k, hk1, rfl⟩ := List.getElem_of_mem hz
    have hk2 : k < ts.length := by simpa using hk1
    by_cases e : k = i
    · subst e
      rw [List.getElem_set_self]
      exact ⟨io_set ((hk k hk2).1 (by omega)) hr, io_set h2 hr⟩
    · rw [List.getElem_set_ne (fun e' => e e'.symm)]
      exact ⟨io_set ((hk k hk2).1 (by omega)) hr, io_set ((hk k hk2).2 (by omega)) hr⟩
end Go.Proofs.Ytjfgojlnpbehfaa
