import Derived.Test.YtoieiegjhjedoaaRows
import Derived.Test.YtoieiegjhjedoaaSLW
import Derived.ProofKit
import Derived.OpenShut
import Derived.SizedLaws
import Derived.Lib.SmallJoins
namespace Go.Proofs.Ytoieiegjhjedoaa
open Go.ChangeShapes Go.WideShapes Go.ChangeAt Go.RowKit Go.Lib Go.Joins
set_option linter.unusedVariables false
set_option linter.unusedSimpArgs false
set_option maxRecDepth 100000
def AllCells (p : List MemPlace) : Prop := ∀ x ∈ p, ∃ xb xo, x = .cell xb xo
theorem list_of {α : Type} (P : Nat → α → Prop) : ∀ n, (∀ i, i < n → ∃ x, P i x) → ∃ l : List α, l.length = n ∧ ∀ i (h : i < l.length), P i l[i]
  | 0, _ => ⟨[], rfl, fun i h => absurd h (Nat.not_lt_zero _)⟩
  | n + 1, hp => by
    obtain ⟨l, hl, hq⟩ := list_of P n (fun i hi => hp i (by omega))
    obtain ⟨x, hx⟩ := hp n (by omega)
    refine ⟨l ++ [x], by simp [hl], fun i h => ?_⟩
    by_cases e : i < l.length
    · rw [List.getElem_append_left e]; exact hq i e
    · have : i = l.length := by simp at h; omega
      subst this
      simp
      rw [hl]; exact hx
theorem cells3 : Try.prog.cellsOf 3 = 1 := by kernel_rfl
theorem cells4 : Try.prog.cellsOf 4 = 1 := by kernel_rfl
theorem cells9 : Try.prog.cellsOf 9 = 1 := by kernel_rfl
theorem cells22 : Try.prog.cellsOf 22 = 1 := by kernel_rfl
theorem cells24 : Try.prog.cellsOf 24 = 1 := by kernel_rfl
theorem cells35 : Try.prog.cellsOf 35 = 1 := by kernel_rfl
theorem cells54 : Try.prog.cellsOf 54 = 1 := by kernel_rfl
theorem cells55 : Try.prog.cellsOf 55 = 1 := by kernel_rfl
theorem cells56 : Try.prog.cellsOf 56 = 1 := by kernel_rfl
theorem cells93 : Try.prog.cellsOf 93 = 1 := by kernel_rfl
theorem cells95 : Try.prog.cellsOf 95 = 1 := by kernel_rfl
theorem cells99 : Try.prog.cellsOf 99 = 3 := by kernel_rfl
theorem cells103 : Try.prog.cellsOf 103 = 3 := by kernel_rfl
theorem cells113 : Try.prog.cellsOf 113 = 3 := by kernel_rfl
theorem cells115 : Try.prog.cellsOf 115 = 8 := by kernel_rfl
theorem cells58 : Try.prog.cellsOf 58 = 11 := by kernel_rfl
/-- A slice is read, where what is in it is. -/
theorem slice_trod {H : Type} {enc : TypeId × Value → H} {W : World} {α : Type} {C : Nat → World → List Value → α → Prop} {Q : α → Prop} {S E k : Nat} (hS : Try.prog.underlying S = some (.slice E)) (hk : Try.prog.cellsOf E = k) (hk0 : 0 < k)
    (el : ∀ {n : Nat} {cs : List Value} {x : DataW H × List MemPlace}, DataW.trod enc Try.prog W 0 (fun _ => true) true n E cs = some x → ∃ u, C 0 W cs u ∧ Q u ∧ AllCells x.2)
    {n : Nat} {cs : List Value} {x : DataW H × List MemPlace} (h : DataW.trod enc Try.prog W 0 (fun _ => true) true n S cs = some x) :
    ∃ (v : Value) (us : List α), cs = [v] ∧ us.length ≤ maxLen ∧ (∀ u ∈ us, Q u) ∧ RS k C 0 W v us ∧ AllCells x.2 := by
  rcases DataW.trod_slice hS h with ⟨hcs, hx⟩ | ⟨a, len, cap, elems, rest, m, hn, hcs, hx, _, hl, hm, hel, hE, hR, _⟩
  · subst hx
    exact ⟨_, [], hcs, Nat.zero_le _, fun u h => by simp at h, ⟨none, 0, rfl, fun h => absurd h (by simp)⟩, fun _ h => by cases h⟩
  · subst hx
    rw [hk] at hE hR
    have hE' : ∀ i, i < len → ∃ t : α × List Value, W.cells? 0 (a.add (i * k)) k = some t.2 ∧ (C 0 W t.2 t.1 ∧ Q t.1) ∧ ∀ y, elems[i]? = some y → AllCells y.2 := fun i hi => by
      have h1 := hE i hi
      rw [List.getElem?_eq_getElem (by omega)] at h1
      obtain ⟨cs, h2, h3⟩ := Option.bind_eq_some_iff.1 h1
      obtain ⟨u, hu, hq, hc⟩ := el h3
      exact ⟨(u, cs), h2, ⟨hu, hq⟩, fun y hy => by rw [List.getElem?_eq_getElem (by omega)] at hy; cases hy; exact hc⟩
    obtain ⟨us, hul, hus⟩ := list_of _ len hE'
    subst hul
    have hrest : ∀ y ∈ rest, AllCells y.2 := fun y hy => by
      obtain ⟨hr1, hr2⟩ := hR rfl
      obtain ⟨j, hj, rfl⟩ := List.getElem_of_mem hy
      have h1 := hr2 j (by omega)
      rw [List.getElem?_eq_getElem hj] at h1
      obtain ⟨cs, h2, h3⟩ := Option.bind_eq_some_iff.1 h1
      obtain ⟨u, hu, hq, hc⟩ := el h3
      exact hc
    have helem : ∀ y ∈ elems, AllCells y.2 := fun y hy => by
      obtain ⟨j, hj, rfl⟩ := List.getElem_of_mem hy
      exact (hus j (by omega)).2.2 _ (List.getElem?_eq_getElem hj)
    have hlm : (us.map (·.1)).length = us.length := by simp
    refine ⟨_, us.map (·.1), hcs, by rw [hlm]; omega, fun t ht => ?_, ⟨some a, cap, by rw [hlm], fun hp => ?_⟩, fun x hx => ?_⟩
    · obtain ⟨u, hu, rfl⟩ := List.mem_map.1 ht
      obtain ⟨j, hj, rfl⟩ := List.getElem_of_mem hu
      exact (hus j hj).2.1.2
    · rw [hlm] at hp
      have hc0 := (World.cells?_some (hus 0 hp).1)
      have hblk := World.cells?_block (hus 0 hp).1 (by omega)
      obtain ⟨ab, ao, spot⟩ := a
      have hlen0 : 0 < (us[0].2).length := by rw [hc0.2.1]; exact hk0
      have hspot : spot = none := by
        have := hc0.2.2 0 (by omega)
        rw [List.getElem?_eq_getElem hlen0] at this
        simpa [Addr.add] using World.cell?_spot this
      subst hspot
      refine ⟨ab, ao, rfl, Nat.zero_le _, by simpa [Addr.add_lit] using hblk, fun i hi => ?_⟩
      have hi' : i < us.length := by rw [hlm] at hi; exact hi
      obtain ⟨_, _, hc⟩ := World.cells?_some (hus i hi').1
      have hg : (us.map (·.1))[i] = us[i].1 := by simp
      rw [hg]
      refine ⟨us[i].2, (hus i hi').2.1.1, fun j hj => ?_⟩
      have q := hc j (by omega)
      rw [Addr.add_lit, Addr.add_lit] at q
      exact q
    · rcases List.mem_append.1 hx with h | h
      · simp only [MemPlace.row, List.mem_map] at h
        obtain ⟨i, _, rfl⟩ := h
        exact ⟨_, _, rfl⟩
      · obtain ⟨y, hy, hxy⟩ := List.mem_flatMap.1 h
        rcases List.mem_append.1 hy with h | h
        · exact helem y h x hxy
        · exact hrest y h x hxy
theorem wf_rg {n : Int} (h : (Lit.int .i64 n).wf = true) : -9223372036854775808 ≤ n ∧ n ≤ 9223372036854775807 := by
  have h1 : IntKind.i64.min = -9223372036854775808 := by decide
  have h2 : IntKind.i64.max = 9223372036854775807 := by decide
  simp [Lit.wf, IntKind.wrap_i64, wrap64, h1, h2] at h
  omega
theorem int_trod {H : Type} {enc : TypeId × Value → H} {W : World} {n : Nat} {cs : List Value} {x : DataW H × List MemPlace} (h : DataW.trod enc Try.prog W 0 (fun _ => true) true n 3 cs = some x) : ∃ u, CI 0 W cs u ∧ True ∧ AllCells x.2 := by
  obtain ⟨k, e0, e1, _⟩ := DataW.trod_int Try.underlying3 h
  exact ⟨k, e0, trivial, by rw [e1]; intro y hy; cases hy⟩
theorem val_trod {H : Type} {enc : TypeId × Value → H} {W : World} {sp : Nat → Bool} {held : Bool} {n : Nat} {cs : List Value} {x : DataW H × List MemPlace} (h : DataW.trod enc Try.prog W 0 sp held n 113 cs = some x) :
    ∃ (k p : Int) (s : ByteArray), cs = [.int .i64 k, .int .i64 p, .string s] ∧ x.2 = [] ∧ s.size ≤ maxLen := by
  obtain ⟨xs, m, rfl, rfl, hl, hxs, hf⟩ := DataW.trod_struct Try.underlying113 h
  rw [cells113] at hl
  match cs, hl, xs, hxs with
  | [a, b, c], _, [x0, x1, x2], _ =>
    have h0 := hf 0 _ rfl
    have h1 := hf 1 _ rfl
    have h2 := hf 2 _ rfl
    simp [cells3, cells9] at h0 h1 h2
    obtain ⟨k, e0, rfl, wk⟩ := DataW.trod_int Try.underlying3 h0
    obtain ⟨p, e1, rfl, wp⟩ := DataW.trod_int Try.underlying3 h1
    obtain ⟨s, e2, rfl, ws⟩ := DataW.trod_string Try.underlying9 h2
    simp at e0 e1 e2
    subst e0 e1 e2
    exact ⟨k, p, s, rfl, rfl, ws⟩
theorem ints_trod {H : Type} {enc : TypeId × Value → H} {W : World} {n : Nat} {cs : List Value} {x : DataW H × List MemPlace} (h : DataW.trod enc Try.prog W 0 (fun _ => true) true n 35 cs = some x) :
    ∃ (v : Value) (us : List Int), cs = [v] ∧ us.length ≤ maxLen ∧ (∀ u ∈ us, True) ∧ RS 1 CI 0 W v us ∧ AllCells x.2 :=
  slice_trod (C := CI) (Q := fun _ => True) (k := 1) Try.underlying35 cells3 (by omega) (fun h => int_trod h) h
theorem pagg_trod {H : Type} {enc : TypeId × Value → H} {W : World} {n : Nat} {cs : List Value} {x : DataW H × List MemPlace} (h : DataW.trod enc Try.prog W 0 (fun _ => true) true n 99 cs = some x) :
    ∃ u, CPA 0 W cs u ∧ True ∧ AllCells x.2 := by
  obtain ⟨xs, m, rfl, rfl, hl, hxs, hf⟩ := DataW.trod_struct Try.underlying99 h
  rw [cells99] at hl
  match cs, hl, xs, hxs with
  | [a0, a1, a2], _, [x0, x1, x2], _ =>
    have h0 := hf 0 _ rfl
    have h1 := hf 1 _ rfl
    have h2 := hf 2 _ rfl
    simp [cells3, cells4, cells9, cells22, cells35, cells54, cells55, cells56, cells93, cells113] at h0 h1 h2
    obtain ⟨i0, e0, rfl, w0⟩ := DataW.trod_int Try.underlying3 h0
    obtain ⟨i1, e1, rfl, w1⟩ := DataW.trod_int Try.underlying3 h1
    obtain ⟨i2, e2, rfl⟩ := DataW.trod_bool Try.underlying4 h2
    simp at e0 e1 e2
    subst e0 e1 e2
    refine ⟨⟨i0, i1, i2⟩, rfl, trivial, ?_⟩
    intro y hy
    simp [AllCells] at hy
    try exact absurd hy (by simp)
theorem skey_trod {H : Type} {enc : TypeId × Value → H} {W : World} {n : Nat} {cs : List Value} {x : DataW H × List MemPlace} (h : DataW.trod enc Try.prog W 0 (fun _ => true) true n 103 cs = some x) :
    ∃ u, CSK 0 W cs u ∧ True ∧ AllCells x.2 := by
  obtain ⟨xs, m, rfl, rfl, hl, hxs, hf⟩ := DataW.trod_struct Try.underlying103 h
  rw [cells103] at hl
  match cs, hl, xs, hxs with
  | [a0, a1, a2], _, [x0, x1, x2], _ =>
    have h0 := hf 0 _ rfl
    have h1 := hf 1 _ rfl
    have h2 := hf 2 _ rfl
    simp [cells3, cells4, cells9, cells22, cells35, cells54, cells55, cells56, cells93, cells113] at h0 h1 h2
    obtain ⟨i0, e0, rfl, w0⟩ := DataW.trod_int Try.underlying3 h0
    obtain ⟨i1, e1, rfl⟩ := DataW.trod_bool Try.underlying4 h1
    obtain ⟨i2, e2, rfl⟩ := DataW.trod_bool Try.underlying4 h2
    simp at e0 e1 e2
    subst e0 e1 e2
    refine ⟨⟨i0, i1, i2⟩, rfl, trivial, ?_⟩
    intro y hy
    simp [AllCells] at hy
    try exact absurd hy (by simp)
theorem paggs_trod {H : Type} {enc : TypeId × Value → H} {W : World} {n : Nat} {cs : List Value} {x : DataW H × List MemPlace} (h : DataW.trod enc Try.prog W 0 (fun _ => true) true n 55 cs = some x) :
    ∃ (v : Value) (us : List PA), cs = [v] ∧ us.length ≤ maxLen ∧ (∀ u ∈ us, True) ∧ RS 3 CPA 0 W v us ∧ AllCells x.2 :=
  slice_trod (C := CPA) (Q := fun _ => True) (k := 3) Try.underlying55 cells99 (by omega) (fun h => pagg_trod h) h
theorem skeys_trod {H : Type} {enc : TypeId × Value → H} {W : World} {n : Nat} {cs : List Value} {x : DataW H × List MemPlace} (h : DataW.trod enc Try.prog W 0 (fun _ => true) true n 56 cs = some x) :
    ∃ (v : Value) (us : List SK), cs = [v] ∧ us.length ≤ maxLen ∧ (∀ u ∈ us, True) ∧ RS 3 CSK 0 W v us ∧ AllCells x.2 :=
  slice_trod (C := CSK) (Q := fun _ => True) (k := 3) Try.underlying56 cells103 (by omega) (fun h => skey_trod h) h
theorem xnode_trod {H : Type} {enc : TypeId × Value → H} {W : World} {n : Nat} {cs : List Value} {x : DataW H × List MemPlace} (h : DataW.trod enc Try.prog W 0 (fun _ => true) true n 115 cs = some x) :
    ∃ u, CX 0 W cs u ∧ (BX maxLen u ∧ (-9223372036854775808 ≤ u.a ∧ u.a ≤ 9223372036854775807)) ∧ AllCells x.2 := by
  obtain ⟨xs, m, rfl, rfl, hl, hxs, hf⟩ := DataW.trod_struct Try.underlying115 h
  rw [cells115] at hl
  match cs, hl, xs, hxs with
  | [a0, a1, a2, a3, a4, a5, a6, a7], _, [x0, x1, x2, x3, x4, x5], _ =>
    have h0 := hf 0 _ rfl
    have h1 := hf 1 _ rfl
    have h2 := hf 2 _ rfl
    have h3 := hf 3 _ rfl
    have h4 := hf 4 _ rfl
    have h5 := hf 5 _ rfl
    simp [cells3, cells4, cells9, cells22, cells35, cells54, cells55, cells56, cells93, cells113] at h0 h1 h2 h3 h4 h5
    obtain ⟨i0, e0, rfl, w0⟩ := DataW.trod_int Try.underlying3 h0
    obtain ⟨i1, e1, rfl, w1⟩ := DataW.trod_int Try.underlying3 h1
    obtain ⟨i2, e2, rfl, w2⟩ := DataW.trod_int Try.underlying3 h2
    obtain ⟨i3, e3, rfl, w3⟩ := DataW.trod_int Try.underlying3 h3
    obtain ⟨vk, vn, vs, e4, f4, z4⟩ := val_trod h4
    obtain ⟨v5, l5, e5, z5, y5, r5, g5⟩ := ints_trod h5
    simp at e0 e1 e2 e3 e4 e5
    obtain ⟨rfl, rfl, rfl⟩ := e4
    subst e0 e1 e2 e3 e5
    refine ⟨⟨i0, i1, i2, i3, vk, vn, vs, l5⟩, ⟨_, rfl, r5⟩, ⟨⟨z4, z5⟩, wf_rg w2⟩, ?_⟩
    intro y hy
    simp [f4] at hy
    exact g5 y hy
theorem xnodes_trod {H : Type} {enc : TypeId × Value → H} {W : World} {n : Nat} {cs : List Value} {x : DataW H × List MemPlace} (h : DataW.trod enc Try.prog W 0 (fun _ => true) true n 93 cs = some x) :
    ∃ (v : Value) (us : List XN), cs = [v] ∧ us.length ≤ maxLen ∧ (∀ u ∈ us, BX maxLen u ∧ (-9223372036854775808 ≤ u.a ∧ u.a ≤ 9223372036854775807)) ∧ RS 8 CX 0 W v us ∧ AllCells x.2 :=
  slice_trod (C := CX) (Q := fun u => BX maxLen u ∧ (-9223372036854775808 ≤ u.a ∧ u.a ≤ 9223372036854775807)) (k := 8) Try.underlying93 cells115 (by omega) (fun h => xnode_trod h) h
theorem expr_trod {H : Type} {enc : TypeId × Value → H} {W : World} {n : Nat} {cs : List Value} {x : DataW H × List MemPlace} (h : DataW.trod enc Try.prog W 0 (fun _ => true) true n 95 cs = some x) :
    ∃ u, CE 0 W cs u ∧ (BE maxLen u ∧ RgE u) ∧ AllCells x.2 := by
  obtain ⟨xs, m, rfl, rfl, hl, hxs, hf⟩ := DataW.trod_struct Try.underlying95 h
  rw [cells95] at hl
  match cs, hl, xs, hxs with
  | [a0], _, [x0], _ =>
    have h0 := hf 0 _ rfl
    simp [cells3, cells4, cells9, cells22, cells35, cells54, cells55, cells56, cells93, cells113] at h0
    obtain ⟨v0, l0, e0, z0, y0, r0, g0⟩ := xnodes_trod h0
    simp at e0
    subst e0
    refine ⟨l0, ⟨_, rfl, r0⟩, ⟨⟨z0, fun t ht => (y0 t ht).1⟩, fun t ht => (y0 t ht).2⟩, ?_⟩
    intro y hy
    simp [AllCells] at hy
    exact g0 y hy
theorem exprs_trod {H : Type} {enc : TypeId × Value → H} {W : World} {n : Nat} {cs : List Value} {x : DataW H × List MemPlace} (h : DataW.trod enc Try.prog W 0 (fun _ => true) true n 54 cs = some x) :
    ∃ (v : Value) (us : List (List XN)), cs = [v] ∧ us.length ≤ maxLen ∧ (∀ u ∈ us, BE maxLen u ∧ RgE u) ∧ RS 1 CE 0 W v us ∧ AllCells x.2 :=
  slice_trod (C := CE) (Q := fun u => BE maxLen u ∧ RgE u) (k := 1) Try.underlying54 cells95 (by omega) (fun h => expr_trod h) h
theorem pnode_trod {H : Type} {enc : TypeId × Value → H} {W : World} {n : Nat} {cs : List Value} {x : DataW H × List MemPlace} (h : DataW.trod enc Try.prog W 0 (fun _ => true) true n 58 cs = some x) :
    ∃ u, CP 0 W cs u ∧ (BP maxLen u ∧ ∀ e ∈ u.exprs, RgE e) ∧ AllCells x.2 := by
  obtain ⟨xs, m, rfl, rfl, hl, hxs, hf⟩ := DataW.trod_struct Try.underlying58 h
  rw [cells58] at hl
  match cs, hl, xs, hxs with
  | [a0, a1, a2, a3, a4, a5, a6, a7, a8, a9, a10], _, [x0, x1, x2, x3, x4, x5, x6, x7, x8, x9, x10], _ =>
    have h0 := hf 0 _ rfl
    have h1 := hf 1 _ rfl
    have h2 := hf 2 _ rfl
    have h3 := hf 3 _ rfl
    have h4 := hf 4 _ rfl
    have h5 := hf 5 _ rfl
    have h6 := hf 6 _ rfl
    have h7 := hf 7 _ rfl
    have h8 := hf 8 _ rfl
    have h9 := hf 9 _ rfl
    have h10 := hf 10 _ rfl
    simp [cells3, cells4, cells9, cells22, cells35, cells54, cells55, cells56, cells93, cells113] at h0 h1 h2 h3 h4 h5 h6 h7 h8 h9 h10
    obtain ⟨i0, e0, rfl, w0⟩ := DataW.trod_int Try.underlying3 h0
    obtain ⟨i1, e1, rfl, w1⟩ := DataW.trod_int Try.underlying3 h1
    obtain ⟨i2, e2, rfl, w2⟩ := DataW.trod_int Try.underlying3 h2
    obtain ⟨i3, e3, rfl, w3⟩ := DataW.trod_int Try.underlying3 h3
    obtain ⟨i4, e4, rfl, w4⟩ := DataW.trod_int Try.underlying3 h4
    obtain ⟨i5, e5, rfl, w5⟩ := DataW.trod_int Try.underlying3 h5
    obtain ⟨v6, l6, e6, z6, y6, r6, g6⟩ := exprs_trod h6
    obtain ⟨v7, l7, e7, z7, y7, r7, g7⟩ := ints_trod h7
    obtain ⟨v8, l8, e8, z8, y8, r8, g8⟩ := paggs_trod h8
    obtain ⟨v9, l9, e9, z9, y9, r9, g9⟩ := skeys_trod h9
    obtain ⟨v10, l10, e10, z10, y10, r10, g10⟩ := ints_trod h10
    simp at e0 e1 e2 e3 e4 e5 e6 e7 e8 e9 e10
    subst e0 e1 e2 e3 e4 e5 e6 e7 e8 e9 e10
    refine ⟨⟨i0, i1, i2, i3, i4, i5, l6, l7, l8, l9, l10⟩, ⟨_, _, _, _, _, rfl, r6, r7, r8, r9, r10⟩, ⟨⟨⟨z6, fun e he => (y6 e he).1⟩, z7, z8, z9, z10⟩, fun e he => (y6 e he).2⟩, ?_⟩
    intro y hy
    simp [AllCells] at hy
    rcases hy with hy | hy | hy | hy | hy
    · exact g6 y hy
    · exact g7 y hy
    · exact g8 y hy
    · exact g9 y hy
    · exact g10 y hy
theorem pnodes_trod {H : Type} {enc : TypeId × Value → H} {W : World} {n : Nat} {cs : List Value} {x : DataW H × List MemPlace} (h : DataW.trod enc Try.prog W 0 (fun _ => true) true n 22 cs = some x) :
    ∃ (v : Value) (us : List PN), cs = [v] ∧ us.length ≤ maxLen ∧ (∀ u ∈ us, BP maxLen u ∧ ∀ e ∈ u.exprs, RgE e) ∧ RS 11 CP 0 W v us ∧ AllCells x.2 :=
  slice_trod (C := CP) (Q := fun u => BP maxLen u ∧ ∀ e ∈ u.exprs, RgE e) (k := 11) Try.underlying22 cells58 (by omega) (fun h => pnode_trod h) h
end Go.Proofs.Ytoieiegjhjedoaa
