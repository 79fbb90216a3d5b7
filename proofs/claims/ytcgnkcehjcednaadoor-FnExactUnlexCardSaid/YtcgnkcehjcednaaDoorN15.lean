import Derived.Test.YtcgnkcehjcednaaDoorF1
import Derived.Test.YtcgnkcehjcednaaDoorUA
namespace Go.Proofs.YtcgnkcehjcednaaDoor
open Go.ChangeShapes Go.WideShapes Go.ChangeAt Go.RowKit Go.Lib Go.Shelf Go.Joins
set_option linter.unusedVariables false
set_option linter.unusedSimpArgs false
set_option maxRecDepth 100000
theorem cells84 : Tryd.prog.cellsOf 84 = 3 := by kernel_rfl
theorem cellsI : Tryd.prog.cellsOf 3 = 1 := by kernel_rfl
theorem cells9 : Tryd.prog.cellsOf 9 = 1 := by kernel_rfl
theorem tok_trod {H : Type} {enc : TypeId × Value → H} {W : World} {sp : Nat → Bool} {held : Bool} {n : Nat} {cs : List Value} {x : DataW H × List MemPlace} (h : DataW.trod enc Tryd.prog W 0 sp held n 84 cs = some x) :
    ∃ (k : Int) (s : ByteArray) (p : Int), cs = [.int .i64 k, .string s, .int .i64 p] ∧ x.2 = [] ∧ s.size ≤ maxLen := by
  obtain ⟨xs, m, rfl, rfl, hl, hxs, hf⟩ := DataW.trod_struct Tryd.underlying84 h
  rw [cells84] at hl
  match cs, hl, xs, hxs with
  | [a, b, c], _, [x0, x1, x2], _ =>
    have h0 := hf 0 _ rfl
    have h1 := hf 1 _ rfl
    have h2 := hf 2 _ rfl
    simp [cellsI, cells9] at h0 h1 h2
    obtain ⟨k, e0, rfl, wk⟩ := DataW.trod_int Tryd.underlying3 h0
    obtain ⟨s, e1, rfl, ws⟩ := DataW.trod_string Tryd.underlying9 h1
    obtain ⟨p, e2, rfl, wp⟩ := DataW.trod_int Tryd.underlying3 h2
    simp at e0 e1 e2
    subst e0 e1 e2
    exact ⟨k, s, p, rfl, rfl, ws⟩
theorem list_of {α : Type} (P : Nat → α → Prop) : ∀ n, (∀ i, i < n → ∃ x, P i x) → ∃ l : List α, l.length = n ∧ ∀ i (h : i < l.length), P i l[i]
  | 0, _ => ⟨[], rfl, fun i h => absurd h (Nat.not_lt_zero _)⟩
  | n + 1, hp => by
    obtain ⟨l, hl, hq⟩ := list_of P n (fun i hi => hp i (by omega))
    obtain ⟨x, hx⟩ := hp n (by omega)
    refine ⟨l ++ [x], by simp [hl], fun i h => ?_⟩
    by_cases e : i < l.length
    · rw [List.getElem_append_left e]; exact hq i e
    · have : i = l.length := by simp at h; omega
      subst this
      simp
      rw [hl]; exact hx
theorem open_toks {H : Type} {enc : TypeId × Value → H} {W : World} {base : Nat} {v : Value} {d : DataW H} {p : List MemPlace} (hval : Value.okWide Tryd.prog W .any base 38 v) (h : DataW.Trod enc Tryd.prog W 0 (fun _ => true) true 38 v d p) (hlt : ∀ x ∈ p, x.block < W.heap.size) :
    ∃ (a : Option Addr) (cap : Nat) (us : List TV), v = .slice a us.length cap ∧ us.length ≤ maxLen ∧ (∀ t ∈ us, t.2.1.size ≤ maxLen) ∧ RTO W (.slice a us.length cap) us ∧ ∀ x ∈ p, ∃ xb xo, x = .cell xb xo := by
  obtain ⟨a1, len, cap, rfl⟩ := okWide_slice Tryd.underlying38 hval
  obtain ⟨fuel, hf⟩ := h
  rcases DataW.trod_slice Tryd.underlying38 hf with ⟨hcs, hx⟩ | ⟨a, len', cap', elems, rest, n, rfl, hcs, hx, _, hl, hm, hel, hE, hR, _⟩
  · simp [Value.cells] at hcs
    obtain ⟨rfl, rfl, rfl⟩ := hcs
    simp only [Prod.mk.injEq] at hx
    obtain ⟨rfl, rfl⟩ := hx
    exact ⟨none, 0, [], rfl, Nat.zero_le _, fun t h => by simp at h, ⟨none, 0, rfl, fun h => absurd h (by simp)⟩, fun _ h => by cases h⟩
  · simp [Value.cells] at hcs
    obtain ⟨rfl, rfl, rfl⟩ := hcs
    simp only [Prod.mk.injEq] at hx
    obtain ⟨rfl, rfl⟩ := hx
    rw [cells84] at hE hR hlt
    have hE' : ∀ i, i < len → ∃ t : TV, W.cells? 0 (a.add (i * 3)) 3 = some [.int .i64 t.1, .string t.2.1, .int .i64 t.2.2] ∧ t.2.1.size ≤ maxLen ∧ ∀ y, elems[i]? = some y → y.2 = [] := fun i hi => by
      have h1 := hE i hi
      rw [List.getElem?_eq_getElem (by omega)] at h1
      obtain ⟨cs, h2, h3⟩ := Option.bind_eq_some_iff.1 h1
      obtain ⟨k, s, q, rfl, e, hs⟩ := tok_trod h3
      exact ⟨(k, s, q), h2, hs, fun y hy => by rw [List.getElem?_eq_getElem (by omega)] at hy; cases hy; exact e⟩
    obtain ⟨us, hul, hus⟩ := list_of _ len hE'
    subst hul
    have hrest : ∀ y ∈ rest, y.2 = [] := fun y hy => by
      obtain ⟨hr1, hr2⟩ := hR rfl
      obtain ⟨j, hj, rfl⟩ := List.getElem_of_mem hy
      have h1 := hr2 j (by omega)
      rw [List.getElem?_eq_getElem hj] at h1
      obtain ⟨cs, h2, h3⟩ := Option.bind_eq_some_iff.1 h1
      obtain ⟨k, s, q, rfl, e, hs⟩ := tok_trod h3
      exact e
    have helem : ∀ y ∈ elems, y.2 = [] := fun y hy => by
      obtain ⟨j, hj, rfl⟩ := List.getElem_of_mem hy
      exact (hus j (by omega)).2.2 _ (List.getElem?_eq_getElem hj)
    refine ⟨some a, cap, us, rfl, by omega, fun t ht => ?_, ⟨some a, cap, rfl, fun hp => ?_⟩, fun x hx => ?_⟩
    · obtain ⟨j, hj, rfl⟩ := List.getElem_of_mem ht
      exact (hus j hj).2.1
    · have hc0 := (World.cells?_some (hus 0 hp).1)
      have hblk := World.cells?_block (hus 0 hp).1 (by omega)
      obtain ⟨ab, ao, spot⟩ := a
      have hspot : spot = none := by simpa [Addr.add] using World.cell?_spot ((hc0.2.2 0 (by omega)).trans rfl)
      subst hspot
      refine ⟨ab, ao, rfl, by simpa [Addr.add_lit] using hblk, fun i hi => ?_⟩
      obtain ⟨_, _, hc⟩ := World.cells?_some (hus i hi).1
      have q0 := hc 0 (by omega)
      have q1 := hc 1 (by omega)
      have q2 := hc 2 (by omega)
      rw [Addr.add_lit, Addr.add_lit] at q0 q1 q2
      exact ⟨q0, q1, q2⟩
    · rcases List.mem_append.1 hx with h | h
      · simp only [MemPlace.row, List.mem_map] at h
        obtain ⟨i, _, rfl⟩ := h
        exact ⟨_, _, rfl⟩
      · obtain ⟨y, hy, hxy⟩ := List.mem_flatMap.1 h
        rcases List.mem_append.1 hy with h | h
        · rw [helem y h] at hxy; cases hxy
        · rw [hrest y h] at hxy; cases hxy
theorem laidOutP : laidOutB Tryd.prog = true := by kernel_rfl
theorem stayT {H : Type} {enc : TypeId × Value → H} {W W' : World} {v : Value} {d : DataW H} {p : List MemPlace} {sp : Nat → Bool} (h : DataW.Trod enc Tryd.prog W 0 (fun _ => true) true 38 v d p) (bel : Below W.heap.size W W') (hlt : ∀ x ∈ p, x.block < W.heap.size) (hcl : ∀ x ∈ p, ∃ xb xo, x = .cell xb xo) (hsp : ∀ x ∈ p, sp x.block = true) : DataW.Trod enc Tryd.prog W' 0 sp true 38 v d p :=
  WideElems.Trod_stays (P := Tryd.prog) laidOutP (by kernel_rfl) (of_decide_eq_true (by kernel_rfl)) h (fun x hx => by
    obtain ⟨xb, xo, rfl⟩ := hcl x hx
    exact bel.cell (p := ⟨xb, xo, none⟩) (hlt _ hx)) hsp
end Go.Proofs.YtcgnkcehjcednaaDoor
