import Derived.Test.YtjfgojlnpbehfaaRows
import Derived.Test.YtjfgojlnpbehfaaDF
import Derived.ProofKit
import Derived.OpenShut
import Derived.SizedLaws
import Derived.Lib.SmallJoins
namespace Go.Proofs.Ytjfgojlnpbehfaa
open Go.ChangeShapes Go.WideShapes Go.ChangeAt Go.RowKit Go.Lib Go.Joins
set_option linter.unusedVariables false
set_option linter.unusedSimpArgs false
set_option maxRecDepth 100000
def AllCells (p : List MemPlace) : Prop := ∀ x ∈ p, ∃ xb xo, x = .cell xb xo
theorem cells3 : Try.prog.cellsOf 3 = 1 := by kernel_rfl
theorem cells23 : Try.prog.cellsOf 23 = 1 := by kernel_rfl
theorem cells25 : Try.prog.cellsOf 25 = 4 := by kernel_rfl
theorem cells22 : Try.prog.cellsOf 22 = 1 := by kernel_rfl
/-- A slice is read, where what is in it is. -/
theorem slice_trod {H : Type} {enc : TypeId × Value → H} {W : World} {α : Type} {C : Nat → World → List Value → α → Prop} {Q : α → Prop} {S E k : Nat} (hS : Try.prog.underlying S = some (.slice E)) (hk : Try.prog.cellsOf E = k) (hk0 : 0 < k)
    (el : ∀ {n : Nat} {cs : List Value} {x : DataW H × List MemPlace}, DataW.trod enc Try.prog W 0 (fun _ => true) true n E cs = some x → ∃ u, C 0 W cs u ∧ Q u ∧ AllCells x.2)
    {n : Nat} {cs : List Value} {x : DataW H × List MemPlace} (h : DataW.trod enc Try.prog W 0 (fun _ => true) true n S cs = some x) :
    ∃ (v : Value) (us : List α), cs = [v] ∧ us.length ≤ maxLen ∧ (∀ u ∈ us, Q u) ∧ RS k C 0 W v us ∧ AllCells x.2 := by
  rcases DataW.trod_slice hS h with ⟨hcs, hx⟩ | ⟨a, len, cap, elems, rest, m, hn, hcs, hx, _, hl, hm, hel, hE, hR, _⟩
  · subst hx
    exact ⟨_, [], hcs, Nat.zero_le _, fun u h => by simp at h, ⟨none, 0, rfl, fun h => absurd h (by simp)⟩, fun _ h => by cases h⟩
  · subst hx
    rw [hk] at hE hR
    have hE' : ∀ i, i < len → ∃ t : α × List Value, W.cells? 0 (a.add (i * k)) k = some t.2 ∧ (C 0 W t.2 t.1 ∧ Q t.1) ∧ ∀ y, elems[i]? = some y → AllCells y.2 := fun i hi => by
      have h1 := hE i hi
      rw [List.getElem?_eq_getElem (by omega)] at h1
      obtain ⟨cs, h2, h3⟩ := Option.bind_eq_some_iff.1 h1
      obtain ⟨u, hu, hq, hc⟩ := el h3
      exact ⟨(u, cs), h2, ⟨hu, hq⟩, fun y hy => by rw [List.getElem?_eq_getElem (by omega)] at hy; cases hy; exact hc⟩
    obtain ⟨us, hul, hus⟩ := list_of _ len hE'
    subst hul
    have hrest : ∀ y ∈ rest, AllCells y.2 := fun y hy => by
      obtain ⟨hr1, hr2⟩ := hR rfl
      obtain ⟨j, hj, rfl⟩ := List.getElem_of_mem hy
      have h1 := hr2 j (by omega)
      rw [List.getElem?_eq_getElem hj] at h1
      obtain ⟨cs, h2, h3⟩ := Option.bind_eq_some_iff.1 h1
      obtain ⟨u, hu, hq, hc⟩ := el h3
      exact hc
    have helem : ∀ y ∈ elems, AllCells y.2 := fun y hy => by
      obtain ⟨j, hj, rfl⟩ := List.getElem_of_mem hy
      exact (hus j (by omega)).2.2 _ (List.getElem?_eq_getElem hj)
    have hlm : (us.map (·.1)).length = us.length := by simp
    refine ⟨_, us.map (·.1), hcs, by rw [hlm]; omega, fun t ht => ?_, ⟨some a, cap, by rw [hlm], fun hp => ?_⟩, fun x hx => ?_⟩
    · obtain ⟨u, hu, rfl⟩ := List.mem_map.1 ht
      obtain ⟨j, hj, rfl⟩ := List.getElem_of_mem hu
      exact (hus j hj).2.1.2
    · rw [hlm] at hp
      have hc0 := (World.cells?_some (hus 0 hp).1)
      have hblk := World.cells?_block (hus 0 hp).1 (by omega)
      obtain ⟨ab, ao, spot⟩ := a
      have hlen0 : 0 < (us[0].2).length := by rw [hc0.2.1]; exact hk0
      have hspot : spot = none := by
        have := hc0.2.2 0 (by omega)
        rw [List.getElem?_eq_getElem hlen0] at this
        simpa [Addr.add] using World.cell?_spot this
      subst hspot
      refine ⟨ab, ao, rfl, Nat.zero_le _, by simpa [Addr.add_lit] using hblk, fun i hi => ?_⟩
      have hi' : i < us.length := by rw [hlm] at hi; exact hi
      obtain ⟨_, _, hc⟩ := World.cells?_some (hus i hi').1
      have hg : (us.map (·.1))[i] = us[i].1 := by simp
      rw [hg]
      refine ⟨us[i].2, (hus i hi').2.1.1, fun j hj => ?_⟩
      have q := hc j (by omega)
      rw [Addr.add_lit, Addr.add_lit] at q
      exact q
    · rcases List.mem_append.1 hx with h | h
      · simp only [MemPlace.row, List.mem_map] at h
        obtain ⟨i, _, rfl⟩ := h
        exact ⟨_, _, rfl⟩
      · obtain ⟨y, hy, hxy⟩ := List.mem_flatMap.1 h
        rcases List.mem_append.1 hy with h | h
        · exact helem y h x hxy
        · exact hrest y h x hxy
theorem int_trod {H : Type} {enc : TypeId × Value → H} {W : World} {n : Nat} {cs : List Value} {x : DataW H × List MemPlace} (h : DataW.trod enc Try.prog W 0 (fun _ => true) true n 3 cs = some x) : ∃ u, CI 0 W cs u ∧ True ∧ AllCells x.2 := by
  obtain ⟨k, e0, e1, _⟩ := DataW.trod_int Try.underlying3 h
  exact ⟨k, e0, trivial, by rw [e1]; intro y hy; cases hy⟩
theorem ints_trod {H : Type} {enc : TypeId × Value → H} {W : World} {n : Nat} {cs : List Value} {x : DataW H × List MemPlace} (h : DataW.trod enc Try.prog W 0 (fun _ => true) true n 23 cs = some x) :
    ∃ (v : Value) (us : List Int), cs = [v] ∧ us.length ≤ maxLen ∧ (∀ u ∈ us, True) ∧ RS 1 CI 0 W v us ∧ AllCells x.2 :=
  slice_trod (C := CI) (Q := fun u => True) (k := 1) Try.underlying23 cells3 (by omega) (fun h => int_trod h) h
theorem tinfo_trod {H : Type} {enc : TypeId × Value → H} {W : World} {n : Nat} {cs : List Value} {x : DataW H × List MemPlace} (h : DataW.trod enc Try.prog W 0 (fun _ => true) true n 25 cs = some x) :
    ∃ u, CT 0 W cs u ∧ BT maxLen u ∧ AllCells x.2 := by
  obtain ⟨xs, m, rfl, rfl, hl, hxs, hf⟩ := DataW.trod_struct Try.underlying25 h
  rw [cells25] at hl
  match cs, hl, xs, hxs with
  | [a0, a1, a2, a3], _, [x0, x1, x2, x3], _ =>
    have h0 := hf 0 _ rfl
    have h1 := hf 1 _ rfl
    have h2 := hf 2 _ rfl
    have h3 := hf 3 _ rfl
    simp [cells3, cells23] at h0 h1 h2 h3
    obtain ⟨i0, e0, rfl, w0⟩ := DataW.trod_int Try.underlying3 h0
    obtain ⟨i1, e1, rfl, w1⟩ := DataW.trod_int Try.underlying3 h1
    obtain ⟨v2, i2, e2, z2, y2, r2, g2⟩ := ints_trod h2
    obtain ⟨v3, i3, e3, z3, y3, r3, g3⟩ := ints_trod h3
    simp at e0 e1 e2 e3
    subst e0 e1 e2 e3
    refine ⟨⟨i0, i1, i2, i3⟩, ⟨_, _, rfl, r2, r3⟩, ⟨z2, z3⟩, ?_⟩
    intro y hy
    simp [AllCells] at hy
    rcases hy with hy | hy
    · exact g2 y hy
    · exact g3 y hy
theorem tinfos_trod {H : Type} {enc : TypeId × Value → H} {W : World} {n : Nat} {cs : List Value} {x : DataW H × List MemPlace} (h : DataW.trod enc Try.prog W 0 (fun _ => true) true n 22 cs = some x) :
    ∃ (v : Value) (us : List TI), cs = [v] ∧ us.length ≤ maxLen ∧ (∀ u ∈ us, BT maxLen u) ∧ RS 4 CT 0 W v us ∧ AllCells x.2 :=
  slice_trod (C := CT) (Q := fun u => BT maxLen u) (k := 4) Try.underlying22 cells25 (by omega) (fun h => tinfo_trod h) h
theorem own : ownKnob Try.prog.godebug = none := by kernel_rfl
theorem laidOutP : laidOutB Try.prog = true := by kernel_rfl
theorem stayTS {H : Type} {enc : TypeId × Value → H} {W W' : World} {v : Value} {d : DataW H} {p : List MemPlace} {sp : Nat → Bool} (h : DataW.Trod enc Try.prog W 0 (fun _ => true) true 22 v d p) (bel : Below W.heap.size W W') (hlt : ∀ x ∈ p, x.block < W.heap.size) (hcl : AllCells p) (hsp : ∀ x ∈ p, sp x.block = true) : DataW.Trod enc Try.prog W' 0 sp true 22 v d p :=
  WideElems.Trod_stays (P := Try.prog) laidOutP (by kernel_rfl) (of_decide_eq_true (by kernel_rfl)) h (fun x hx => by
    obtain ⟨xb, xo, rfl⟩ := hcl x hx
    exact bel.cell (p := ⟨xb, xo, none⟩) (hlt _ hx)) hsp
theorem stayT {H : Type} {enc : TypeId × Value → H} {W W' : World} {v : Value} {d : DataW H} {p : List MemPlace} {sp : Nat → Bool} (h : DataW.Trod enc Try.prog W 0 (fun _ => true) true 25 v d p) (bel : Below W.heap.size W W') (hlt : ∀ x ∈ p, x.block < W.heap.size) (hcl : AllCells p) (hsp : ∀ x ∈ p, sp x.block = true) : DataW.Trod enc Try.prog W' 0 sp true 25 v d p :=
  WideElems.Trod_stays (P := Try.prog) laidOutP (by kernel_rfl) (of_decide_eq_true (by kernel_rfl)) h (fun x hx => by
    obtain ⟨xb, xo, rfl⟩ := hcl x hx
    exact bel.cell (p := ⟨xb, xo, none⟩) (hlt _ hx)) hsp
theorem open_TS {H : Type} {enc : TypeId × Value → H} {W : World} {v : Value} {d : DataW H} {p : List MemPlace} {base : Nat} (hval : Value.okWide Try.prog W .any base 22 v) (h : DataW.Trod enc Try.prog W 0 (fun _ => true) true 22 v d p) :
    ∃ (a : Option Addr) (cap : Nat) (us : List TI), v = .slice a us.length cap ∧ BH maxLen us ∧ RS 4 CT 0 W (.slice a us.length cap) us ∧ AllCells p := by
  obtain ⟨a, len, cap, rfl⟩ := okWide_slice Try.underlying22 hval
  obtain ⟨fuel, hf⟩ := h
  obtain ⟨v', us, e, hl, hq, hr, hc⟩ := tinfos_trod hf
  simp [Value.cells] at e
  subst e
  have R := hr
  obtain ⟨a', cap', he, _⟩ := hr
  rw [he] at R ⊢
  exact ⟨a', cap', us, rfl, ⟨hl, hq⟩, R, hc⟩
theorem open_T {H : Type} {enc : TypeId × Value → H} {W : World} {v : Value} {d : DataW H} {p : List MemPlace} {base : Nat} (hval : Value.okWide Try.prog W .any base 25 v) (h : DataW.Trod enc Try.prog W 0 (fun _ => true) true 25 v d p) :
    ∃ (cs : List Value) (t : TI), v = .agg cs.toArray ∧ BT maxLen t ∧ CT 0 W cs t ∧ AllCells p := by
  obtain ⟨cs, rfl, hsz⟩ := okWide_struct Try.underlying25 hval
  obtain ⟨fuel, hf⟩ := h
  obtain ⟨u, hC, hB, hc⟩ := tinfo_trod hf
  obtain ⟨l⟩ := cs
  exact ⟨l, u, rfl, hB, by simpa [Value.cells] using hC, hc⟩
end Go.Proofs.Ytjfgojlnpbehfaa
