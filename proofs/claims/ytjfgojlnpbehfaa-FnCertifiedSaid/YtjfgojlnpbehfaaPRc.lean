import Derived.Test.YtjfgojlnpbehfaaRows
import Derived.Test.YtjfgojlnpbehfaaFC
import Derived.Test.YtjfgojlnpbehfaaXT
import Derived.ProofKit
import Derived.OpenShut
import Derived.SizedLaws
import Derived.Lib.SmallJoins
namespace Go.Proofs.Ytjfgojlnpbehfaa
open Go.ChangeShapes Go.WideShapes Go.ChangeAt Go.RowKit Go.Lib Go.Joins
set_option linter.unusedVariables false
set_option linter.unusedSimpArgs false
set_option maxRecDepth 100000
def AllCells (p : List MemPlace) : Prop := ∀ x ∈ p, ∃ xb xo, x = .cell xb xo
def CYb (B : Nat) (w : World) (cs : List Value) (x : Int) : Prop := cs = [.int .u8 x]
theorem cells5 : Try.prog.cellsOf 5 = 1 := by kernel_rfl
theorem cells42 : Try.prog.cellsOf 42 = 1 := by kernel_rfl
/-- A slice is read, where what is in it is. -/
theorem slice_trod {H : Type} {enc : TypeId × Value → H} {W : World} {α : Type} {C : Nat → World → List Value → α → Prop} {Q : α → Prop} {S E k : Nat} (hS : Try.prog.underlying S = some (.slice E)) (hk : Try.prog.cellsOf E = k) (hk0 : 0 < k)
    (el : ∀ {n : Nat} {cs : List Value} {x : DataW H × List MemPlace}, DataW.trod enc Try.prog W 0 (fun _ => true) true n E cs = some x → ∃ u, C 0 W cs u ∧ Q u ∧ AllCells x.2)
    {n : Nat} {cs : List Value} {x : DataW H × List MemPlace} (h : DataW.trod enc Try.prog W 0 (fun _ => true) true n S cs = some x) :
    ∃ (v : Value) (us : List α), cs = [v] ∧ us.length ≤ maxLen ∧ (∀ u ∈ us, Q u) ∧ RS k C 0 W v us ∧ AllCells x.2 := by
  rcases DataW.trod_slice hS h with ⟨hcs, hx⟩ | ⟨a, len, cap, elems, rest, m, hn, hcs, hx, _, hl, hm, hel, hE, hR, _⟩
  · subst hx
    exact ⟨_, [], hcs, Nat.zero_le _, fun u h => by simp at h, ⟨none, 0, rfl, fun h => absurd h (by simp)⟩, fun _ h => by cases h⟩
  · subst hx
    rw [hk] at hE hR
    have hE' : ∀ i, i < len → ∃ t : α × List Value, W.cells? 0 (a.add (i * k)) k = some t.2 ∧ (C 0 W t.2 t.1 ∧ Q t.1) ∧ ∀ y, elems[i]? = some y → AllCells y.2 := fun i hi => by
      have h1 := hE i hi
      rw [List.getElem?_eq_getElem (by omega)] at h1
      obtain ⟨cs, h2, h3⟩ := Option.bind_eq_some_iff.1 h1
      obtain ⟨u, hu, hq, hc⟩ := el h3
      exact ⟨(u, cs), h2, ⟨hu, hq⟩, fun y hy => by rw [List.getElem?_eq_getElem (by omega)] at hy; cases hy; exact hc⟩
    obtain ⟨us, hul, hus⟩ := list_of _ len hE'
    subst hul
    have hrest : ∀ y ∈ rest, AllCells y.2 := fun y hy => by
      obtain ⟨hr1, hr2⟩ := hR rfl
      obtain ⟨j, hj, rfl⟩ := List.getElem_of_mem hy
      have h1 := hr2 j (by omega)
      rw [List.getElem?_eq_getElem hj] at h1
      obtain ⟨cs, h2, h3⟩ := Option.bind_eq_some_iff.1 h1
      obtain ⟨u, hu, hq, hc⟩ := el h3
      exact hc
    have helem : ∀ y ∈ elems, AllCells y.2 := fun y hy => by
      obtain ⟨j, hj, rfl⟩ := List.getElem_of_mem hy
      exact (hus j (by omega)).2.2 _ (List.getElem?_eq_getElem hj)
    have hlm : (us.map (·.1)).length = us.length := by simp
    refine ⟨_, us.map (·.1), hcs, by rw [hlm]; omega, fun t ht => ?_, ⟨some a, cap, by rw [hlm], fun hp => ?_⟩, fun x hx => ?_⟩
    · obtain ⟨u, hu, rfl⟩ := List.mem_map.1 ht
      obtain ⟨j, hj, rfl⟩ := List.getElem_of_mem hu
      exact (hus j hj).2.1.2
    · rw [hlm] at hp
      have hc0 := (World.cells?_some (hus 0 hp).1)
      have hblk := World.cells?_block (hus 0 hp).1 (by omega)
      obtain ⟨ab, ao, spot⟩ := a
      have hlen0 : 0 < (us[0].2).length := by rw [hc0.2.1]; exact hk0
      have hspot : spot = none := by
        have := hc0.2.2 0 (by omega)
        rw [List.getElem?_eq_getElem hlen0] at this
        simpa [Addr.add] using World.cell?_spot this
      subst hspot
      refine ⟨ab, ao, rfl, Nat.zero_le _, by simpa [Addr.add_lit] using hblk, fun i hi => ?_⟩
      have hi' : i < us.length := by rw [hlm] at hi; exact hi
      obtain ⟨_, _, hc⟩ := World.cells?_some (hus i hi').1
      have hg : (us.map (·.1))[i] = us[i].1 := by simp
      rw [hg]
      refine ⟨us[i].2, (hus i hi').2.1.1, fun j hj => ?_⟩
      have q := hc j (by omega)
      rw [Addr.add_lit, Addr.add_lit] at q
      exact q
    · rcases List.mem_append.1 hx with h | h
      · simp only [MemPlace.row, List.mem_map] at h
        obtain ⟨i, _, rfl⟩ := h
        exact ⟨_, _, rfl⟩
      · obtain ⟨y, hy, hxy⟩ := List.mem_flatMap.1 h
        rcases List.mem_append.1 hy with h | h
        · exact helem y h x hxy
        · exact hrest y h x hxy
theorem byte_trod {H : Type} {enc : TypeId × Value → H} {W : World} {n : Nat} {cs : List Value} {x : DataW H × List MemPlace} (h : DataW.trod enc Try.prog W 0 (fun _ => true) true n 5 cs = some x) : ∃ u, CYb 0 W cs u ∧ (0 ≤ u ∧ u ≤ 255) ∧ AllCells x.2 := by
  obtain ⟨k, e0, e1, wf⟩ := DataW.trod_int Try.underlying5 h
  refine ⟨k, e0, ?_, by rw [e1]; intro y hy; cases hy⟩
  have h1 : IntKind.u8.min = 0 := by decide
  have h2 : IntKind.u8.max = 255 := by decide
  simp [Lit.wf, IntKind.wrap, IntKind.bits, IntKind.signed, h1, h2] at wf
  omega
theorem bytes_trod {H : Type} {enc : TypeId × Value → H} {W : World} {n : Nat} {cs : List Value} {x : DataW H × List MemPlace} (h : DataW.trod enc Try.prog W 0 (fun _ => true) true n 42 cs = some x) :
    ∃ (v : Value) (us : List Int), cs = [v] ∧ us.length ≤ maxLen ∧ (∀ u ∈ us, (0 ≤ u ∧ u ≤ 255)) ∧ RS 1 CYb 0 W v us ∧ AllCells x.2 :=
  slice_trod (C := CYb) (Q := fun u => (0 ≤ u ∧ u ≤ 255)) (k := 1) Try.underlying42 cells5 (by omega) (fun h => byte_trod h) h
theorem own : ownKnob Try.prog.godebug = none := by kernel_rfl
theorem laidOutP : laidOutB Try.prog = true := by kernel_rfl
theorem stayYb {H : Type} {enc : TypeId × Value → H} {W W' : World} {v : Value} {d : DataW H} {p : List MemPlace} {sp : Nat → Bool} (h : DataW.Trod enc Try.prog W 0 (fun _ => true) true 42 v d p) (bel : Below W.heap.size W W') (hlt : ∀ x ∈ p, x.block < W.heap.size) (hcl : AllCells p) (hsp : ∀ x ∈ p, sp x.block = true) : DataW.Trod enc Try.prog W' 0 sp true 42 v d p :=
  WideElems.Trod_stays (P := Try.prog) laidOutP (by kernel_rfl) (of_decide_eq_true (by kernel_rfl)) h (fun x hx => by
    obtain ⟨xb, xo, rfl⟩ := hcl x hx
    exact bel.cell (p := ⟨xb, xo, none⟩) (hlt _ hx)) hsp
theorem open_Yb {H : Type} {enc : TypeId × Value → H} {W : World} {v : Value} {d : DataW H} {p : List MemPlace} {base : Nat} (hval : Value.okWide Try.prog W .any base 42 v) (h : DataW.Trod enc Try.prog W 0 (fun _ => true) true 42 v d p) :
    ∃ (a : Option Addr) (cap len : Nat), v = .slice a len cap ∧ len ≤ maxLen ∧ Bytes W W.heap.size a len ∧ AllCells p := by
  obtain ⟨a, len, cap, rfl⟩ := okWide_slice Try.underlying42 hval
  obtain ⟨fuel, hf⟩ := h
  obtain ⟨v', us, e, hl, hq, hr, hc⟩ := bytes_trod hf
  simp [Value.cells] at e
  subst e
  obtain ⟨a', cap', he, hcell⟩ := hr
  rw [he]
  refine ⟨a', cap', us.length, rfl, hl, fun j hj => ?_, hc⟩
  obtain ⟨g, o, rfl, _, hg, hcs⟩ := hcell (by omega)
  obtain ⟨cs, h1, h2⟩ := hcs j hj
  have h3 := h2 0 (by omega)
  unfold CYb at h1
  subst h1
  have hb := hq us[j] (List.getElem_mem hj)
  refine ⟨g, o, us[j], rfl, hg, ?_, hb.1, by omega⟩
  rw [Nat.mul_one, Nat.add_zero] at h3
  exact h3
theorem certImpl_is : CertImpl := fun g ca us t cs w hb ht ha hC => certify_impl g ca us t cs w hb ht ha hC
theorem serImpl_is : SerImpl := fun a ca us w hb ha => (serial_impl3 a ca us w hb ha).mono fun e w' ⟨a, n, cap, c, l, h1, h2, h3, h4⟩ => by
  have hn : n = l.length := by
    obtain ⟨a', c', he, _⟩ := h3
    simp only [Value.slice.injEq] at he
    exact he.2.1
  subst hn
  exact ⟨a, cap, c, l, h1, h2, h3, h4⟩
end Go.Proofs.Ytjfgojlnpbehfaa
