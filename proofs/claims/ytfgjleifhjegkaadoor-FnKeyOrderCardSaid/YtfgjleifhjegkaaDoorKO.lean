import Derived.Test.YtfgjleifhjegkaaDoorCards
import Derived.Test.YtfgjleifhjegkaaDoorTie
import Derived.Test.YtfgjleifhjegkaaDoorKK
import Derived.Lib.LaidIn
import Derived.Lib.LaidU8T
import Derived.Deep.DeepHandedRow
import Derived.Deep.DeepWitnessRowRef
import Derived.ProofKit
import Derived.OpenShut
import Derived.SizedLaws
import Derived.Lib.SmallJoins
namespace Go.Proofs.YtfgjleifhjegkaaDoor
open Go.ChangeShapes Go.WideShapes Go.ChangeAt Go.RowKit Go.Lib Go.Shelf Go.Joins
set_option linter.unusedVariables false
set_option linter.unusedSimpArgs false
set_option maxRecDepth 100000
def AllCells (p : List MemPlace) : Prop := ∀ x ∈ p, ∃ xb xo, x = .cell xb xo
theorem cells3 : Tryd.prog.cellsOf 3 = 1 := by kernel_rfl
theorem cells9 : Tryd.prog.cellsOf 9 = 1 := by kernel_rfl
theorem cells46 : Tryd.prog.cellsOf 46 = 3 := by kernel_rfl
theorem cells22 : Tryd.prog.cellsOf 22 = 1 := by kernel_rfl
theorem cells5 : Tryd.prog.cellsOf 5 = 1 := by kernel_rfl
theorem cells24 : Tryd.prog.cellsOf 24 = 1 := by kernel_rfl
/-- A slice is read, where what is in it is. -/
theorem slice_trod {H : Type} {enc : TypeId × Value → H} {W : World} {α : Type} {C : Nat → World → List Value → α → Prop} {Q : α → Prop} {S E k : Nat} (hS : Tryd.prog.underlying S = some (.slice E)) (hk : Tryd.prog.cellsOf E = k) (hk0 : 0 < k)
    (el : ∀ {n : Nat} {cs : List Value} {x : DataW H × List MemPlace}, DataW.trod enc Tryd.prog W 0 (fun _ => true) true n E cs = some x → ∃ u, C 0 W cs u ∧ Q u ∧ AllCells x.2)
    {n : Nat} {cs : List Value} {x : DataW H × List MemPlace} (h : DataW.trod enc Tryd.prog W 0 (fun _ => true) true n S cs = some x) :
    ∃ (v : Value) (us : List α), cs = [v] ∧ us.length ≤ maxLen ∧ (∀ u ∈ us, Q u) ∧ RS k C 0 W v us ∧ AllCells x.2 := by
  rcases DataW.trod_slice hS h with ⟨hcs, hx⟩ | ⟨a, len, cap, elems, rest, m, hn, hcs, hx, _, hl, hm, hel, hE, hR, _⟩
  · subst hx
    exact ⟨_, [], hcs, Nat.zero_le _, fun u h => by simp at h, ⟨none, 0, rfl, fun h => absurd h (by simp)⟩, fun _ h => by cases h⟩
  · subst hx
    rw [hk] at hE hR
    have hE' : ∀ i, i < len → ∃ t : α × List Value, W.cells? 0 (a.add (i * k)) k = some t.2 ∧ (C 0 W t.2 t.1 ∧ Q t.1) ∧ ∀ y, elems[i]? = some y → AllCells y.2 := fun i hi => by
      have h1 := hE i hi
      rw [List.getElem?_eq_getElem (by omega)] at h1
      obtain ⟨cs, h2, h3⟩ := Option.bind_eq_some_iff.1 h1
      obtain ⟨u, hu, hq, hc⟩ := el h3
      exact ⟨(u, cs), h2, ⟨hu, hq⟩, fun y hy => by rw [List.getElem?_eq_getElem (by omega)] at hy; cases hy; exact hc⟩
    obtain ⟨us, hul, hus⟩ := list_of _ len hE'
    subst hul
    have hrest : ∀ y ∈ rest, AllCells y.2 := fun y hy => by
      obtain ⟨hr1, hr2⟩ := hR rfl
      obtain ⟨j, hj, rfl⟩ := List.getElem_of_mem hy
      have h1 := hr2 j (by omega)
      rw [List.getElem?_eq_getElem hj] at h1
      obtain ⟨cs, h2, h3⟩ := Option.bind_eq_some_iff.1 h1
      obtain ⟨u, hu, hq, hc⟩ := el h3
      exact hc
    have helem : ∀ y ∈ elems, AllCells y.2 := fun y hy => by
      obtain ⟨j, hj, rfl⟩ := List.getElem_of_mem hy
      exact (hus j (by omega)).2.2 _ (List.getElem?_eq_getElem hj)
    have hlm : (us.map (·.1)).length = us.length := by simp
    refine ⟨_, us.map (·.1), hcs, by rw [hlm]; omega, fun t ht => ?_, ⟨some a, cap, by rw [hlm], fun hp => ?_⟩, fun x hx => ?_⟩
    · obtain ⟨u, hu, rfl⟩ := List.mem_map.1 ht
      obtain ⟨j, hj, rfl⟩ := List.getElem_of_mem hu
      exact (hus j hj).2.1.2
    · rw [hlm] at hp
      have hc0 := (World.cells?_some (hus 0 hp).1)
      have hblk := World.cells?_block (hus 0 hp).1 (by omega)
      obtain ⟨ab, ao, spot⟩ := a
      have hlen0 : 0 < (us[0].2).length := by rw [hc0.2.1]; exact hk0
      have hspot : spot = none := by
        have := hc0.2.2 0 (by omega)
        rw [List.getElem?_eq_getElem hlen0] at this
        simpa [Addr.add] using World.cell?_spot this
      subst hspot
      refine ⟨ab, ao, rfl, Nat.zero_le _, by simpa [Addr.add_lit] using hblk, fun i hi => ?_⟩
      have hi' : i < us.length := by rw [hlm] at hi; exact hi
      obtain ⟨_, _, hc⟩ := World.cells?_some (hus i hi').1
      have hg : (us.map (·.1))[i] = us[i].1 := by simp
      rw [hg]
      refine ⟨us[i].2, (hus i hi').2.1.1, fun j hj => ?_⟩
      have q := hc j (by omega)
      rw [Addr.add_lit, Addr.add_lit] at q
      exact q
    · rcases List.mem_append.1 hx with h | h
      · simp only [MemPlace.row, List.mem_map] at h
        obtain ⟨i, _, rfl⟩ := h
        exact ⟨_, _, rfl⟩
      · obtain ⟨y, hy, hxy⟩ := List.mem_flatMap.1 h
        rcases List.mem_append.1 hy with h | h
        · exact helem y h x hxy
        · exact hrest y h x hxy
theorem wf_rg {n : Int} (h : (Lit.int .i64 n).wf = true) : -9223372036854775808 ≤ n ∧ n ≤ 9223372036854775807 := by
  have h1 : IntKind.i64.min = -9223372036854775808 := by decide
  have h2 : IntKind.i64.max = 9223372036854775807 := by decide
  simp [Lit.wf, IntKind.wrap_i64, wrap64, h1, h2] at h
  omega
theorem byte_trod {H : Type} {enc : TypeId × Value → H} {W : World} {n : Nat} {cs : List Value} {x : DataW H × List MemPlace} (h : DataW.trod enc Tryd.prog W 0 (fun _ => true) true n 5 cs = some x) : ∃ u, CY 0 W cs u ∧ (0 ≤ u ∧ u ≤ 255) ∧ AllCells x.2 := by
  obtain ⟨k, e0, e1, wf⟩ := DataW.trod_int Tryd.underlying5 h
  refine ⟨k, e0, ?_, by rw [e1]; intro y hy; cases hy⟩
  have h1 : IntKind.u8.min = 0 := by decide
  have h2 : IntKind.u8.max = 255 := by decide
  simp [Lit.wf, IntKind.wrap, IntKind.bits, IntKind.signed, h1, h2] at wf
  omega
theorem val_trod {H : Type} {enc : TypeId × Value → H} {W : World} {n : Nat} {cs : List Value} {x : DataW H × List MemPlace} (h : DataW.trod enc Tryd.prog W 0 (fun _ => true) true n 46 cs = some x) :
    ∃ u, CV 0 W cs u ∧ (BV maxLen u ∧ -9223372036854775808 ≤ u.n ∧ u.n ≤ 9223372036854775807) ∧ AllCells x.2 := by
  obtain ⟨xs, m, rfl, rfl, hl, hxs, hf⟩ := DataW.trod_struct Tryd.underlying46 h
  rw [cells46] at hl
  match cs, hl, xs, hxs with
  | [a0, a1, a2], _, [x0, x1, x2], _ =>
    have h0 := hf 0 _ rfl
    have h1 := hf 1 _ rfl
    have h2 := hf 2 _ rfl
    simp [cells3, cells9] at h0 h1 h2
    obtain ⟨i0, e0, rfl, w0⟩ := DataW.trod_int Tryd.underlying3 h0
    obtain ⟨i1, e1, rfl, w1⟩ := DataW.trod_int Tryd.underlying3 h1
    obtain ⟨i2, e2, rfl, z2⟩ := DataW.trod_string Tryd.underlying9 h2
    simp at e0 e1 e2
    subst e0 e1 e2
    refine ⟨⟨i0, i1, i2⟩, rfl, ⟨z2, wf_rg w1⟩, ?_⟩
    intro y hy
    simp [AllCells] at hy
    try exact absurd hy (by simp)
theorem vals_trod {H : Type} {enc : TypeId × Value → H} {W : World} {n : Nat} {cs : List Value} {x : DataW H × List MemPlace} (h : DataW.trod enc Tryd.prog W 0 (fun _ => true) true n 22 cs = some x) :
    ∃ (v : Value) (us : List VA), cs = [v] ∧ us.length ≤ maxLen ∧ (∀ u ∈ us, (BV maxLen u ∧ -9223372036854775808 ≤ u.n ∧ u.n ≤ 9223372036854775807)) ∧ RS 3 CV 0 W v us ∧ AllCells x.2 :=
  slice_trod (C := CV) (Q := fun u => (BV maxLen u ∧ -9223372036854775808 ≤ u.n ∧ u.n ≤ 9223372036854775807)) (k := 3) Tryd.underlying22 cells46 (by omega) (fun h => val_trod h) h
theorem bytes_trod {H : Type} {enc : TypeId × Value → H} {W : World} {n : Nat} {cs : List Value} {x : DataW H × List MemPlace} (h : DataW.trod enc Tryd.prog W 0 (fun _ => true) true n 24 cs = some x) :
    ∃ (v : Value) (us : List Int), cs = [v] ∧ us.length ≤ maxLen ∧ (∀ u ∈ us, (0 ≤ u ∧ u ≤ 255)) ∧ RS 1 CY 0 W v us ∧ AllCells x.2 :=
  slice_trod (C := CY) (Q := fun u => (0 ≤ u ∧ u ≤ 255)) (k := 1) Tryd.underlying24 cells5 (by omega) (fun h => byte_trod h) h
theorem own : ownKnob Tryd.prog.godebug = none := by kernel_rfl
theorem laidOutP : laidOutB Tryd.prog = true := by kernel_rfl
theorem stayVS {H : Type} {enc : TypeId × Value → H} {W W' : World} {v : Value} {d : DataW H} {p : List MemPlace} {sp : Nat → Bool} (h : DataW.Trod enc Tryd.prog W 0 (fun _ => true) true 22 v d p) (bel : Below W.heap.size W W') (hlt : ∀ x ∈ p, x.block < W.heap.size) (hcl : AllCells p) (hsp : ∀ x ∈ p, sp x.block = true) : DataW.Trod enc Tryd.prog W' 0 sp true 22 v d p :=
  WideElems.Trod_stays (P := Tryd.prog) laidOutP (by kernel_rfl) (of_decide_eq_true (by kernel_rfl)) h (fun x hx => by
    obtain ⟨xb, xo, rfl⟩ := hcl x hx
    exact bel.cell (p := ⟨xb, xo, none⟩) (hlt _ hx)) hsp
theorem stayYS {H : Type} {enc : TypeId × Value → H} {W W' : World} {v : Value} {d : DataW H} {p : List MemPlace} {sp : Nat → Bool} (h : DataW.Trod enc Tryd.prog W 0 (fun _ => true) true 24 v d p) (bel : Below W.heap.size W W') (hlt : ∀ x ∈ p, x.block < W.heap.size) (hcl : AllCells p) (hsp : ∀ x ∈ p, sp x.block = true) : DataW.Trod enc Tryd.prog W' 0 sp true 24 v d p :=
  WideElems.Trod_stays (P := Tryd.prog) laidOutP (by kernel_rfl) (of_decide_eq_true (by kernel_rfl)) h (fun x hx => by
    obtain ⟨xb, xo, rfl⟩ := hcl x hx
    exact bel.cell (p := ⟨xb, xo, none⟩) (hlt _ hx)) hsp
theorem open_VS {H : Type} {enc : TypeId × Value → H} {W : World} {v : Value} {d : DataW H} {p : List MemPlace} {base : Nat} (hval : Value.okWide Tryd.prog W .any base 22 v) (h : DataW.Trod enc Tryd.prog W 0 (fun _ => true) true 22 v d p) :
    ∃ (a : Option Addr) (cap : Nat) (us : List VA), v = .slice a us.length cap ∧ (us.length ≤ maxLen ∧ ∀ u ∈ us, (BV maxLen u ∧ -9223372036854775808 ≤ u.n ∧ u.n ≤ 9223372036854775807)) ∧ RS 3 CV 0 W (.slice a us.length cap) us ∧ AllCells p := by
  obtain ⟨a, len, cap, rfl⟩ := okWide_slice Tryd.underlying22 hval
  obtain ⟨fuel, hf⟩ := h
  obtain ⟨v', us, e, hl, hq, hr, hc⟩ := vals_trod hf
  simp [Value.cells] at e
  subst e
  have R := hr
  obtain ⟨a', cap', he, _⟩ := hr
  rw [he] at R ⊢
  exact ⟨a', cap', us, rfl, ⟨hl, hq⟩, R, hc⟩
theorem open_YS {H : Type} {enc : TypeId × Value → H} {W : World} {v : Value} {d : DataW H} {p : List MemPlace} {base : Nat} (hval : Value.okWide Tryd.prog W .any base 24 v) (h : DataW.Trod enc Tryd.prog W 0 (fun _ => true) true 24 v d p) :
    ∃ (a : Option Addr) (cap : Nat) (us : List Int), v = .slice a us.length cap ∧ (us.length ≤ maxLen ∧ ∀ u ∈ us, (0 ≤ u ∧ u ≤ 255)) ∧ RS 1 CY 0 W (.slice a us.length cap) us ∧ AllCells p := by
  obtain ⟨a, len, cap, rfl⟩ := okWide_slice Tryd.underlying24 hval
  obtain ⟨fuel, hf⟩ := h
  obtain ⟨v', us, e, hl, hq, hr, hc⟩ := bytes_trod hf
  simp [Value.cells] at e
  subst e
  have R := hr
  obtain ⟨a', cap', he, _⟩ := hr
  rw [he] at R ⊢
  exact ⟨a', cap', us, rfl, ⟨hl, hq⟩, R, hc⟩
theorem acc_eq : (Rows.laid_unicode_utf8_acceptRanges : DataW Unit) = Lib.acceptData := by kernel_rfl
theorem first_eq : Rows.laid_unicode_utf8_first = Lib.firstData := by kernel_rfl
theorem tabs_of {W : World} (hL : laidMet Tryd.prog [("unicode/utf8.acceptRanges", Rows.laid_unicode_utf8_acceptRanges), ("unicode/utf8.first", Rows.laid_unicode_utf8_first)] W) : Tabs W := by
  rw [acc_eq, first_eq] at hL
  exact utf8Tabs_of_readsT (U8Types.of196 Tryd.laysValid) ⟨by kernel_rfl, by kernel_rfl, by kernel_rfl, by kernel_rfl, by kernel_rfl, by kernel_rfl, by kernel_rfl⟩ (Lib.laidMet.reads hL (.tail _ (.head _))) (Lib.laidMet.reads hL (.head _))
end Go.Proofs.YtfgjleifhjegkaaDoor
