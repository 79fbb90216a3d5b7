import Derived.Test.YtghdjagomdgnfaaDoorCards
import Derived.Test.YtghdjagomdgnfaaDoorTie
import Derived.Test.YtghdjagomdgnfaaDoorHAA
import Derived.Lib.LaidIn
import Derived.Lib.LaidU8T
import Derived.Deep.DeepHandedRow
import Derived.Deep.DeepWitnessRowRef
import Derived.ProofKit
import Derived.SizedLaws
import Derived.Lib.SmallJoins
namespace Go.Proofs.YtghdjagomdgnfaaDoor
open Go.ChangeShapes Go.WideShapes Go.ChangeAt Go.RowKit Go.Lib Go.Joins
set_option linter.unusedVariables false
set_option linter.unusedSimpArgs false
set_option maxRecDepth 100000
theorem cells3 : Tryd.prog.cellsOf 3 = 1 := by kernel_rfl
theorem cells9 : Tryd.prog.cellsOf 9 = 1 := by kernel_rfl
theorem cells42 : Tryd.prog.cellsOf 42 = 1 := by kernel_rfl
theorem cells24 : Tryd.prog.cellsOf 24 = 1 := by kernel_rfl
theorem cells26 : Tryd.prog.cellsOf 26 = 1 := by kernel_rfl
theorem cells67 : Tryd.prog.cellsOf 67 = 3 := by kernel_rfl
theorem cells69 : Tryd.prog.cellsOf 69 = 10 := by kernel_rfl
def AllCells (p : List MemPlace) : Prop := ∀ x ∈ p, ∃ xb xo, x = .cell xb xo
theorem list_of {α : Type} (P : Nat → α → Prop) : ∀ n, (∀ i, i < n → ∃ x, P i x) → ∃ l : List α, l.length = n ∧ ∀ i (h : i < l.length), P i l[i]
  | 0, _ => ⟨[], rfl, fun i h => absurd h (Nat.not_lt_zero _)⟩
  | n + 1, hp => by
    obtain ⟨l, hl, hq⟩ := list_of P n (fun i hi => hp i (by omega))
    obtain ⟨x, hx⟩ := hp n (by omega)
    refine ⟨l ++ [x], by simp [hl], fun i h => ?_⟩
    by_cases e : i < l.length
    · rw [List.getElem_append_left e]; exact hq i e
    · have : i = l.length := by simp at h; omega
      subst this
      simp
      rw [hl]; exact hx
theorem ints_trod {H : Type} {enc : TypeId × Value → H} {W : World} {n : Nat} {cs : List Value} {x : DataW H × List MemPlace} (h : DataW.trod enc Tryd.prog W 0 (fun _ => true) true n 42 cs = some x) :
    ∃ (kv : Value) (ks : List Int), cs = [kv] ∧ ks.length ≤ maxLen ∧ RI W kv ks ∧ AllCells x.2 := by
  rcases DataW.trod_slice Tryd.underlying42 h with ⟨hcs, hx⟩ | ⟨a, len, cap, elems, rest, m, hn, hcs, hx, _, hl, hm, hel, hE, hR, _⟩
  · subst hx
    exact ⟨_, [], hcs, Nat.zero_le _, ⟨none, 0, rfl, fun h => absurd h (by simp)⟩, fun _ h => by cases h⟩
  · subst hx
    rw [cells3] at hE hR
    have hE' : ∀ i, i < len → ∃ t : Int, W.cells? 0 (a.add (i * 1)) 1 = some [.int .i64 t] ∧ ∀ y, elems[i]? = some y → y.2 = [] := fun i hi => by
      have h1 := hE i hi
      rw [List.getElem?_eq_getElem (by omega)] at h1
      obtain ⟨cs, h2, h3⟩ := Option.bind_eq_some_iff.1 h1
      obtain ⟨k, e0, e1, wk⟩ := DataW.trod_int Tryd.underlying3 h3
      subst e0
      exact ⟨k, h2, fun y hy => by rw [List.getElem?_eq_getElem (by omega)] at hy; cases hy; rw [e1]⟩
    obtain ⟨us, hul, hus⟩ := list_of _ len hE'
    subst hul
    have hrest : ∀ y ∈ rest, y.2 = [] := fun y hy => by
      obtain ⟨hr1, hr2⟩ := hR rfl
      obtain ⟨j, hj, rfl⟩ := List.getElem_of_mem hy
      have h1 := hr2 j (by omega)
      rw [List.getElem?_eq_getElem hj] at h1
      obtain ⟨cs, h2, h3⟩ := Option.bind_eq_some_iff.1 h1
      obtain ⟨k, e0, e1, wk⟩ := DataW.trod_int Tryd.underlying3 h3
      rw [e1]
    have helem : ∀ y ∈ elems, y.2 = [] := fun y hy => by
      obtain ⟨j, hj, rfl⟩ := List.getElem_of_mem hy
      exact (hus j (by omega)).2 _ (List.getElem?_eq_getElem hj)
    refine ⟨.slice (some a) us.length cap, us, hcs, by omega, ⟨some a, cap, rfl, fun hp => ?_⟩, fun x hx => ?_⟩
    · have hc0 := (World.cells?_some (hus 0 hp).1)
      have hblk := World.cells?_block (hus 0 hp).1 (by omega)
      obtain ⟨ab, ao, spot⟩ := a
      have hspot : spot = none := by simpa [Addr.add] using World.cell?_spot ((hc0.2.2 0 (by omega)).trans rfl)
      subst hspot
      refine ⟨ab, ao, rfl, by simpa [Addr.add_lit] using hblk, fun i hi => ?_⟩
      obtain ⟨_, _, hc⟩ := World.cells?_some (hus i hi).1
      have q0 := hc 0 (by omega)
      rw [Addr.add_lit, Addr.add_lit] at q0
      simpa using q0
    · rcases List.mem_append.1 hx with h | h
      · simp only [MemPlace.row, List.mem_map] at h
        obtain ⟨i, _, rfl⟩ := h
        exact ⟨_, _, rfl⟩
      · obtain ⟨y, hy, hxy⟩ := List.mem_flatMap.1 h
        rcases List.mem_append.1 hy with h | h
        · rw [helem y h] at hxy; cases hxy
        · rw [hrest y h] at hxy; cases hxy
theorem val_trod {H : Type} {enc : TypeId × Value → H} {W : World} {sp : Nat → Bool} {held : Bool} {n : Nat} {cs : List Value} {x : DataW H × List MemPlace} (h : DataW.trod enc Tryd.prog W 0 sp held n 67 cs = some x) :
    ∃ (k p : Int) (s : ByteArray), cs = [.int .i64 k, .int .i64 p, .string s] ∧ x.2 = [] ∧ s.size ≤ maxLen := by
  obtain ⟨xs, m, rfl, rfl, hl, hxs, hf⟩ := DataW.trod_struct Tryd.underlying67 h
  rw [cells67] at hl
  match cs, hl, xs, hxs with
  | [a, b, c], _, [x0, x1, x2], _ =>
    have h0 := hf 0 _ rfl
    have h1 := hf 1 _ rfl
    have h2 := hf 2 _ rfl
    simp [cells3, cells9] at h0 h1 h2
    obtain ⟨k, e0, rfl, wk⟩ := DataW.trod_int Tryd.underlying3 h0
    obtain ⟨p, e1, rfl, wp⟩ := DataW.trod_int Tryd.underlying3 h1
    obtain ⟨s, e2, rfl, ws⟩ := DataW.trod_string Tryd.underlying9 h2
    simp at e0 e1 e2
    subst e0 e1 e2
    exact ⟨k, p, s, rfl, rfl, ws⟩
theorem node_trod {H : Type} {enc : TypeId × Value → H} {W : World} {n : Nat} {cs : List Value} {x : DataW H × List MemPlace} (h : DataW.trod enc Tryd.prog W 0 (fun _ => true) true n 69 cs = some x) :
    ∃ (t : Nd) (kv : Value), cs = ndC t kv ∧ RI W kv t.kids ∧ Small t ∧ AllCells x.2 := by
  obtain ⟨xs, m, rfl, rfl, hl, hxs, hf⟩ := DataW.trod_struct Tryd.underlying69 h
  rw [cells69] at hl
  match cs, hl, xs, hxs with
  | [a0, a1, a2, a3, a4, a5, a6, a7, a8, a9], _, [x0, x1, x2, x3, x4, x5, x6, x7], _ =>
    have h0 := hf 0 _ rfl
    have h1 := hf 1 _ rfl
    have h2 := hf 2 _ rfl
    have h3 := hf 3 _ rfl
    have h4 := hf 4 _ rfl
    have h5 := hf 5 _ rfl
    have h6 := hf 6 _ rfl
    have h7 := hf 7 _ rfl
    simp [cells3, cells9, cells67, cells42] at h0 h1 h2 h3 h4 h5 h6 h7
    obtain ⟨op, e0, rfl, _⟩ := DataW.trod_int Tryd.underlying3 h0
    obtain ⟨name, e1, rfl, z1⟩ := DataW.trod_string Tryd.underlying9 h1
    obtain ⟨qual, e2, rfl, z2⟩ := DataW.trod_string Tryd.underlying9 h2
    obtain ⟨nn, e3, rfl, _⟩ := DataW.trod_int Tryd.underlying3 h3
    obtain ⟨mm, e4, rfl, _⟩ := DataW.trod_int Tryd.underlying3 h4
    obtain ⟨vk, vn, vs, e5, f5, z3⟩ := val_trod h5
    obtain ⟨kv, ks, e6, z4, hk, f6⟩ := ints_trod h6
    obtain ⟨pos, e7, rfl, _⟩ := DataW.trod_int Tryd.underlying3 h7
    simp at e0 e1 e2 e3 e4 e5 e6 e7
    obtain ⟨rfl, rfl, rfl⟩ := e5
    subst e0 e1 e2 e3 e4 e6 e7
    refine ⟨⟨op, name, qual, nn, mm, vk, vn, vs, ks, pos⟩, _, rfl, hk, ⟨z1, z2, z3, z4⟩, ?_⟩
    intro y hy
    simp [f5] at hy
    exact f6 y hy
end Go.Proofs.YtghdjagomdgnfaaDoor
namespace Go.Proofs.YtghdjagomdgnfaaDoor
open Go.ChangeShapes Go.WideShapes Go.ChangeAt Go.RowKit Go.Lib Go.Joins
set_option linter.unusedVariables false
set_option linter.unusedSimpArgs false
set_option maxRecDepth 100000
theorem nodes_trod {H : Type} {enc : TypeId × Value → H} {W : World} {n : Nat} {cs : List Value} {x : DataW H × List MemPlace} (h : DataW.trod enc Tryd.prog W 0 (fun _ => true) true n 24 cs = some x) :
    ∃ (a : Option Addr) (cap : Nat) (us : List Nd), cs = [.slice a us.length cap] ∧ (us.length ≤ maxLen ∧ ∀ t ∈ us, Small t) ∧ RN W (.slice a us.length cap) us ∧ AllCells x.2 := by
  rcases DataW.trod_slice Tryd.underlying24 h with ⟨hcs, hx⟩ | ⟨a, len, cap, elems, rest, m, hn, hcs, hx, _, hl, hm, hel, hE, hR, _⟩
  · subst hx
    exact ⟨none, 0, [], hcs, ⟨Nat.zero_le _, fun t h => by simp at h⟩, ⟨none, 0, rfl, fun h => absurd h (by simp)⟩, fun _ h => by cases h⟩
  · subst hx
    rw [cells69] at hE hR
    have hE' : ∀ i, i < len → ∃ t : Nd × Value, W.cells? 0 (a.add (i * 10)) 10 = some (ndC t.1 t.2) ∧ (RI W t.2 t.1.kids ∧ Small t.1) ∧ ∀ y, elems[i]? = some y → AllCells y.2 := fun i hi => by
      have h1 := hE i hi
      rw [List.getElem?_eq_getElem (by omega)] at h1
      obtain ⟨cs, h2, h3⟩ := Option.bind_eq_some_iff.1 h1
      obtain ⟨t, kv, rfl, hk, hs, hc⟩ := node_trod h3
      exact ⟨(t, kv), h2, ⟨hk, hs⟩, fun y hy => by rw [List.getElem?_eq_getElem (by omega)] at hy; cases hy; exact hc⟩
    obtain ⟨us, hul, hus⟩ := list_of _ len hE'
    subst hul
    have hrest : ∀ y ∈ rest, AllCells y.2 := fun y hy => by
      obtain ⟨hr1, hr2⟩ := hR rfl
      obtain ⟨j, hj, rfl⟩ := List.getElem_of_mem hy
      have h1 := hr2 j (by omega)
      rw [List.getElem?_eq_getElem hj] at h1
      obtain ⟨cs, h2, h3⟩ := Option.bind_eq_some_iff.1 h1
      obtain ⟨t, kv, rfl, hk, hs, hc⟩ := node_trod h3
      exact hc
    have helem : ∀ y ∈ elems, AllCells y.2 := fun y hy => by
      obtain ⟨j, hj, rfl⟩ := List.getElem_of_mem hy
      exact (hus j (by omega)).2.2 _ (List.getElem?_eq_getElem hj)
    have hlm : (us.map (·.1)).length = us.length := by simp
    refine ⟨some a, cap, us.map (·.1), by rw [hlm]; exact hcs, ⟨by rw [hlm]; omega, fun t ht => ?_⟩, ⟨some a, cap, rfl, fun hp => ?_⟩, fun x hx => ?_⟩
    · obtain ⟨u, hu, rfl⟩ := List.mem_map.1 ht
      obtain ⟨j, hj, rfl⟩ := List.getElem_of_mem hu
      exact (hus j hj).2.1.2
    · rw [hlm] at hp
      have hc0 := (World.cells?_some (hus 0 hp).1)
      have hblk := World.cells?_block (hus 0 hp).1 (by omega)
      obtain ⟨ab, ao, spot⟩ := a
      have hspot : spot = none := by simpa [Addr.add] using World.cell?_spot ((hc0.2.2 0 (by omega)).trans rfl)
      subst hspot
      refine ⟨ab, ao, rfl, by simpa [Addr.add_lit] using hblk, fun i hi => ?_⟩
      have hi' : i < us.length := by rw [hlm] at hi; exact hi
      obtain ⟨_, _, hc⟩ := World.cells?_some (hus i hi').1
      have q0 := hc 0 (by omega)
      have q1 := hc 1 (by omega)
      have q2 := hc 2 (by omega)
      have q3 := hc 3 (by omega)
      have q4 := hc 4 (by omega)
      have q5 := hc 5 (by omega)
      have q6 := hc 6 (by omega)
      have q7 := hc 7 (by omega)
      have q8 := hc 8 (by omega)
      have q9 := hc 9 (by omega)
      rw [Addr.add_lit, Addr.add_lit] at q0 q1 q2 q3 q4 q5 q6 q7 q8 q9
      have hg : (us.map (·.1))[i] = us[i].1 := by simp
      rw [hg]
      exact ⟨us[i].2, ⟨q0, q1, q2, q3, q4, q5, q6, q7, q8, q9⟩, (hus i hi').2.1.1⟩
    · rcases List.mem_append.1 hx with h | h
      · simp only [MemPlace.row, List.mem_map] at h
        obtain ⟨i, _, rfl⟩ := h
        exact ⟨_, _, rfl⟩
      · obtain ⟨y, hy, hxy⟩ := List.mem_flatMap.1 h
        rcases List.mem_append.1 hy with h | h
        · exact helem y h x hxy
        · exact hrest y h x hxy
theorem open_tree {H : Type} {enc : TypeId × Value → H} {W : World} {base : Nat} {v : Value} {d : DataW H} {p : List MemPlace} (hval : Value.okWide Tryd.prog W .any base 26 v) (h : DataW.Trod enc Tryd.prog W 0 (fun _ => true) true 26 v d p) :
    ∃ (a : Option Addr) (cap : Nat) (us : List Nd), v = .agg #[.slice a us.length cap] ∧ (us.length ≤ maxLen ∧ ∀ t ∈ us, Small t) ∧ RN W (.slice a us.length cap) us ∧ ∀ x ∈ p, ∃ xb xo, x = .cell xb xo := by
  obtain ⟨cs, rfl, hsz⟩ := okWide_struct Tryd.underlying26 hval
  rw [cells26] at hsz
  obtain ⟨fuel, hf⟩ := h
  obtain ⟨c0, rfl⟩ : ∃ c0, cs = #[c0] := by
    obtain ⟨l⟩ := cs
    match l, hsz with
    | [c0], _ => exact ⟨c0, rfl⟩
  obtain ⟨y0, n, hx, _, h0⟩ := trod_struct1 Tryd.underlying26 hf
  simp only [Prod.mk.injEq] at hx
  simp [Value.cells, cells24] at h0
  obtain ⟨a, cap, us, e, hz, hr, hc⟩ := nodes_trod h0
  simp at e
  subst e
  rw [hx.2]
  exact ⟨a, cap, us, rfl, hz, hr, hc⟩
theorem laidOutP : laidOutB Tryd.prog = true := by kernel_rfl
theorem stayTree {H : Type} {enc : TypeId × Value → H} {W W' : World} {v : Value} {d : DataW H} {p : List MemPlace} {sp : Nat → Bool} (h : DataW.Trod enc Tryd.prog W 0 (fun _ => true) true 26 v d p) (bel : Below W.heap.size W W') (hlt : ∀ x ∈ p, x.block < W.heap.size) (hcl : ∀ x ∈ p, ∃ xb xo, x = .cell xb xo) (hsp : ∀ x ∈ p, sp x.block = true) : DataW.Trod enc Tryd.prog W' 0 sp true 26 v d p :=
  WideElems.Trod_stays (P := Tryd.prog) laidOutP (by kernel_rfl) (of_decide_eq_true (by kernel_rfl)) h (fun x hx => by
    obtain ⟨xb, xo, rfl⟩ := hcl x hx
    exact bel.cell (p := ⟨xb, xo, none⟩) (hlt _ hx)) hsp
end Go.Proofs.YtghdjagomdgnfaaDoor
namespace Go.Proofs.YtghdjagomdgnfaaDoor
open Go.ChangeShapes Go.WideShapes Go.ChangeAt Go.RowKit
set_option linter.unusedVariables false
set_option linter.unusedSimpArgs false
set_option maxRecDepth 100000
open Go.Lib Go.Joins
def SmI (t : Nd) : Prop := Small t ∧ (t.n ≤ 9223372036854775807 ∧ t.m ≤ 9223372036854775807)
theorem wf_le {n : Int} (h : (Lit.int .i64 n).wf = true) : n ≤ 9223372036854775807 := by
  simp [Lit.wf, IntKind.wrap_i64, wrap64] at h
  omega
theorem node_trod2 {H : Type} {enc : TypeId × Value → H} {W : World} {n : Nat} {cs : List Value} {x : DataW H × List MemPlace} (h : DataW.trod enc Tryd.prog W 0 (fun _ => true) true n 69 cs = some x) :
    ∃ (t : Nd) (kv : Value), cs = ndC t kv ∧ RI W kv t.kids ∧ SmI t ∧ AllCells x.2 := by
  obtain ⟨xs, m, rfl, rfl, hl, hxs, hf⟩ := DataW.trod_struct Tryd.underlying69 h
  rw [cells69] at hl
  match cs, hl, xs, hxs with
  | [a0, a1, a2, a3, a4, a5, a6, a7, a8, a9], _, [x0, x1, x2, x3, x4, x5, x6, x7], _ =>
    have h0 := hf 0 _ rfl
    have h1 := hf 1 _ rfl
    have h2 := hf 2 _ rfl
    have h3 := hf 3 _ rfl
    have h4 := hf 4 _ rfl
    have h5 := hf 5 _ rfl
    have h6 := hf 6 _ rfl
    have h7 := hf 7 _ rfl
    simp [cells3, cells9, cells67, cells42] at h0 h1 h2 h3 h4 h5 h6 h7
    obtain ⟨op, e0, rfl, _⟩ := DataW.trod_int Tryd.underlying3 h0
    obtain ⟨name, e1, rfl, z1⟩ := DataW.trod_string Tryd.underlying9 h1
    obtain ⟨qual, e2, rfl, z2⟩ := DataW.trod_string Tryd.underlying9 h2
    obtain ⟨nn, e3, rfl, w3⟩ := DataW.trod_int Tryd.underlying3 h3
    obtain ⟨mm, e4, rfl, w4⟩ := DataW.trod_int Tryd.underlying3 h4
    obtain ⟨vk, vn, vs, e5, f5, z3⟩ := val_trod h5
    obtain ⟨kv, ks, e6, z4, hk, f6⟩ := ints_trod h6
    obtain ⟨pos, e7, rfl, _⟩ := DataW.trod_int Tryd.underlying3 h7
    simp at e0 e1 e2 e3 e4 e5 e6 e7
    obtain ⟨rfl, rfl, rfl⟩ := e5
    subst e0 e1 e2 e3 e4 e6 e7
    refine ⟨⟨op, name, qual, nn, mm, vk, vn, vs, ks, pos⟩, _, rfl, hk, ⟨⟨z1, z2, z3, z4⟩, wf_le w3, wf_le w4⟩, ?_⟩
    intro y hy
    simp [f5] at hy
    exact f6 y hy
theorem nodes_trod2 {H : Type} {enc : TypeId × Value → H} {W : World} {n : Nat} {cs : List Value} {x : DataW H × List MemPlace} (h : DataW.trod enc Tryd.prog W 0 (fun _ => true) true n 24 cs = some x) :
    ∃ (a : Option Addr) (cap : Nat) (us : List Nd), cs = [.slice a us.length cap] ∧ (us.length ≤ maxLen ∧ ∀ t ∈ us, SmI t) ∧ RN W (.slice a us.length cap) us ∧ AllCells x.2 := by
  rcases DataW.trod_slice Tryd.underlying24 h with ⟨hcs, hx⟩ | ⟨a, len, cap, elems, rest, m, hn, hcs, hx, _, hl, hm, hel, hE, hR, _⟩
  · subst hx
    exact ⟨none, 0, [], hcs, ⟨Nat.zero_le _, fun t h => by simp at h⟩, ⟨none, 0, rfl, fun h => absurd h (by simp)⟩, fun _ h => by cases h⟩
  · subst hx
    rw [cells69] at hE hR
    have hE' : ∀ i, i < len → ∃ t : Nd × Value, W.cells? 0 (a.add (i * 10)) 10 = some (ndC t.1 t.2) ∧ (RI W t.2 t.1.kids ∧ SmI t.1) ∧ ∀ y, elems[i]? = some y → AllCells y.2 := fun i hi => by
      have h1 := hE i hi
      rw [List.getElem?_eq_getElem (by omega)] at h1
      obtain ⟨cs, h2, h3⟩ := Option.bind_eq_some_iff.1 h1
      obtain ⟨t, kv, rfl, hk, hs, hc⟩ := node_trod2 h3
      exact ⟨(t, kv), h2, ⟨hk, hs⟩, fun y hy => by rw [List.getElem?_eq_getElem (by omega)] at hy; cases hy; exact hc⟩
    obtain ⟨us, hul, hus⟩ := list_of _ len hE'
    subst hul
    have hrest : ∀ y ∈ rest, AllCells y.2 := fun y hy => by
      obtain ⟨hr1, hr2⟩ := hR rfl
      obtain ⟨j, hj, rfl⟩ := List.getElem_of_mem hy
      have h1 := hr2 j (by omega)
      rw [List.getElem?_eq_getElem hj] at h1
      obtain ⟨cs, h2, h3⟩ := Option.bind_eq_some_iff.1 h1
      obtain ⟨t, kv, rfl, hk, hs, hc⟩ := node_trod2 h3
      exact hc
    have helem : ∀ y ∈ elems, AllCells y.2 := fun y hy => by
      obtain ⟨j, hj, rfl⟩ := List.getElem_of_mem hy
      exact (hus j (by omega)).2.2 _ (List.getElem?_eq_getElem hj)
    have hlm : (us.map (·.1)).length = us.length := by simp
    refine ⟨some a, cap, us.map (·.1), by rw [hlm]; exact hcs, ⟨by rw [hlm]; omega, fun t ht => ?_⟩, ⟨some a, cap, rfl, fun hp => ?_⟩, fun x hx => ?_⟩
    · obtain ⟨u, hu, rfl⟩ := List.mem_map.1 ht
      obtain ⟨j, hj, rfl⟩ := List.getElem_of_mem hu
      exact (hus j hj).2.1.2
    · rw [hlm] at hp
      have hc0 := (World.cells?_some (hus 0 hp).1)
      have hblk := World.cells?_block (hus 0 hp).1 (by omega)
      obtain ⟨ab, ao, spot⟩ := a
      have hspot : spot = none := by simpa [Addr.add] using World.cell?_spot ((hc0.2.2 0 (by omega)).trans rfl)
      subst hspot
      refine ⟨ab, ao, rfl, by simpa [Addr.add_lit] using hblk, fun i hi => ?_⟩
      have hi' : i < us.length := by rw [hlm] at hi; exact hi
      obtain ⟨_, _, hc⟩ := World.cells?_some (hus i hi').1
      have q0 := hc 0 (by omega)
      have q1 := hc 1 (by omega)
      have q2 := hc 2 (by omega)
      have q3 := hc 3 (by omega)
      have q4 := hc 4 (by omega)
      have q5 := hc 5 (by omega)
      have q6 := hc 6 (by omega)
      have q7 := hc 7 (by omega)
      have q8 := hc 8 (by omega)
      have q9 := hc 9 (by omega)
      rw [Addr.add_lit, Addr.add_lit] at q0 q1 q2 q3 q4 q5 q6 q7 q8 q9
      have hg : (us.map (·.1))[i] = us[i].1 := by simp
      rw [hg]
      exact ⟨us[i].2, ⟨q0, q1, q2, q3, q4, q5, q6, q7, q8, q9⟩, (hus i hi').2.1.1⟩
    · rcases List.mem_append.1 hx with h | h
      · simp only [MemPlace.row, List.mem_map] at h
        obtain ⟨i, _, rfl⟩ := h
        exact ⟨_, _, rfl⟩
      · obtain ⟨y, hy, hxy⟩ := List.mem_flatMap.1 h
        rcases List.mem_append.1 hy with h | h
        · exact helem y h x hxy
        · exact hrest y h x hxy
theorem open_tree2 {H : Type} {enc : TypeId × Value → H} {W : World} {base : Nat} {v : Value} {d : DataW H} {p : List MemPlace} (hval : Value.okWide Tryd.prog W .any base 26 v) (h : DataW.Trod enc Tryd.prog W 0 (fun _ => true) true 26 v d p) :
    ∃ (a : Option Addr) (cap : Nat) (us : List Nd), v = .agg #[.slice a us.length cap] ∧ (us.length ≤ maxLen ∧ ∀ t ∈ us, SmI t) ∧ RN W (.slice a us.length cap) us ∧ ∀ x ∈ p, ∃ xb xo, x = .cell xb xo := by
  obtain ⟨cs, rfl, hsz⟩ := okWide_struct Tryd.underlying26 hval
  rw [cells26] at hsz
  obtain ⟨fuel, hf⟩ := h
  obtain ⟨c0, rfl⟩ : ∃ c0, cs = #[c0] := by
    obtain ⟨l⟩ := cs
    match l, hsz with
    | [c0], _ => exact ⟨c0, rfl⟩
  obtain ⟨y0, n, hx, _, h0⟩ := trod_struct1 Tryd.underlying26 hf
  simp only [Prod.mk.injEq] at hx
  simp [Value.cells, cells24] at h0
  obtain ⟨a, cap, us, e, hz, hr, hc⟩ := nodes_trod2 h0
  simp at e
  subst e
  rw [hx.2]
  exact ⟨a, cap, us, rfl, hz, hr, hc⟩
end Go.Proofs.YtghdjagomdgnfaaDoor
