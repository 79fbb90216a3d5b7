import Derived.Test.YtblkgicbimflhaaGreatRows
import Derived.Test.YtblkgicbimflhaaGreatKAV
import Derived.Test.YtblkgicbimflhaaGreatKBZ
import Derived.ProofKit
import Derived.OpenShut
import Derived.SizedLaws
import Derived.Lib.SmallJoins
namespace Go.Proofs.YtblkgicbimflhaaGreat
open Go.ChangeShapes Go.WideShapes Go.ChangeAt Go.RowKit Go.Lib Go.Joins
set_option linter.unusedVariables false
set_option linter.unusedSimpArgs false
set_option maxRecDepth 100000
def AllCells (p : List MemPlace) : Prop := ∀ x ∈ p, ∃ xb xo, x = .cell xb xo
theorem cells3 : Tryz.prog.cellsOf 3 = 1 := by kernel_rfl
theorem cells9 : Tryz.prog.cellsOf 9 = 1 := by kernel_rfl
theorem cells97 : Tryz.prog.cellsOf 97 = 7 := by kernel_rfl
theorem slice_trod {H : Type} {enc : TypeId × Value → H} {W : World} {α : Type} {C : Nat → World → List Value → α → Prop} {Q : α → Prop} {S E k : Nat} (hS : Tryz.prog.underlying S = some (.slice E)) (hk : Tryz.prog.cellsOf E = k) (hk0 : 0 < k)
 (el : ∀ {n : Nat} {cs : List Value} {x : DataW H × List MemPlace}, DataW.trod enc Tryz.prog W 0 (fun _ => true) true n E cs = some x → ∃ u, C 0 W cs u ∧ Q u ∧ AllCells x.2)
 {n : Nat} {cs : List Value} {x : DataW H × List MemPlace} (h : DataW.trod enc Tryz.prog W 0 (fun _ => true) true n S cs = some x) :
 ∃ (v : Value) (us : List α), cs = [v] ∧ us.length ≤ maxLen ∧ (∀ u ∈ us, Q u) ∧ RS k C 0 W v us ∧ AllCells x.2 := by
 rcases DataW.trod_slice hS h with ⟨hcs, hx⟩ | ⟨a, len, cap, elems, rest, m, hn, hcs, hx, _, hl, hm, hel, hE, hR, _⟩
 ·subst hx
  exact ⟨_, [], hcs, Nat.zero_le _, fun u h => by simp at h, ⟨none, 0, rfl, fun h => absurd h (by simp)⟩, fun _ h => by cases h⟩
 ·subst hx
  rw [hk] at hE hR
  have hE' : ∀ i, i < len → ∃ t : α × List Value, W.cells? 0 (a.add (i * k)) k = some t.2 ∧ (C 0 W t.2 t.1 ∧ Q t.1) ∧ ∀ y, elems[i]? = some y → AllCells y.2 := fun i hi => by
   have h1 := hE i hi
   rw [List.getElem?_eq_getElem (by omega)] at h1
   obtain ⟨cs, h2, h3⟩ := Option.bind_eq_some_iff.1 h1
   obtain ⟨u, hu, hq, hc⟩ := el h3
   exact ⟨(u, cs), h2, ⟨hu, hq⟩, fun y hy => by rw [List.getElem?_eq_getElem (by omega)] at hy; cases hy; exact hc⟩
  obtain ⟨us, hul, hus⟩ := list_of _ len hE'
  subst hul
  have hrest : ∀ y ∈ rest, AllCells y.2 := fun y hy => by
   obtain ⟨hr1, hr2⟩ := hR rfl
   obtain ⟨j, hj, rfl⟩ := List.getElem_of_mem hy
   have h1 := hr2 j (by omega)
   rw [List.getElem?_eq_getElem hj] at h1
   obtain ⟨cs, h2, h3⟩ := Option.bind_eq_some_iff.1 h1
   obtain ⟨u, hu, hq, hc⟩ := el h3
   exact hc
  have helem : ∀ y ∈ elems, AllCells y.2 := fun y hy => by
   obtain ⟨j, hj, rfl⟩ := List.getElem_of_mem hy
   exact (hus j (by omega)).2.2 _ (List.getElem?_eq_getElem hj)
  have hlm : (us.map (·.1)).length = us.length := by simp
  refine ⟨_, us.map (·.1), hcs, by rw [hlm]; omega, fun t ht => ?_, ⟨some a, cap, by rw [hlm], fun hp => ?_⟩, fun x hx => ?_⟩
  ·obtain ⟨u, hu, rfl⟩ := List.mem_map.1 ht
   obtain ⟨j, hj, rfl⟩ := List.getElem_of_mem hu
   exact (hus j hj).2.1.2
  ·rw [hlm] at hp
   have hc0 := (World.cells?_some (hus 0 hp).1)
   have hblk := World.cells?_block (hus 0 hp).1 (by omega)
   obtain ⟨ab, ao, spot⟩ := a
   have hlen0 : 0 < (us[0].2).length := by rw [hc0.2.1]; exact hk0
   have hspot : spot = none := by
    have := hc0.2.2 0 (by omega)
    rw [List.getElem?_eq_getElem hlen0] at this
    simpa [Addr.add] using World.cell?_spot this
   subst hspot
   refine ⟨ab, ao, rfl, Nat.zero_le _, by simpa [Addr.add_lit] using hblk, fun i hi => ?_⟩
   have hi' : i < us.length := by rw [hlm] at hi; exact hi
   obtain ⟨_, _, hc⟩ := World.cells?_some (hus i hi').1
   have hg : (us.map (·.1))[i] = us[i].1 := by simp
   rw [hg]
   refine ⟨us[i].2, (hus i hi').2.1.1, fun j hj => ?_⟩
   have q := hc j (by omega)
   rw [Addr.add_lit, Addr.add_lit] at q
   exact q
  ·rcases List.mem_append.1 hx with h | h
   ·simp only [MemPlace.row, List.mem_map] at h
    obtain ⟨i, _, rfl⟩ := h
    exact ⟨_, _, rfl⟩
   ·obtain ⟨y, hy, hxy⟩ := List.mem_flatMap.1 h
    rcases List.mem_append.1 hy with h | h
    ·exact helem y h x hxy
    ·exact hrest y h x hxy
theorem op_trod {H : Type} {enc : TypeId × Value → H} {W : World} {n : Nat} {cs : List Value} {x : DataW H × List MemPlace} (h : DataW.trod enc Tryz.prog W 0 (fun _ => true) true n 97 cs = some x) :
 ∃ u, CO 0 W cs u ∧ BO maxLen u ∧ AllCells x.2 := by
 obtain ⟨xs, m, rfl, rfl, hl, hxs, hf⟩ := DataW.trod_struct Tryz.underlying97 h
 rw [cells97] at hl
 match cs, hl, xs, hxs with
 | [a0, a1, a2, a3, a4, a5, a6], _, [x0, x1, x2, x3, x4, x5, x6], _ =>
   have h0 := hf 0 _ rfl
   have h1 := hf 1 _ rfl
   have h2 := hf 2 _ rfl
   have h3 := hf 3 _ rfl
   have h4 := hf 4 _ rfl
   have h5 := hf 5 _ rfl
   have h6 := hf 6 _ rfl
   simp [cells3, cells9] at h0 h1 h2 h3 h4 h5 h6
   obtain ⟨i0, e0, rfl, w0⟩ := DataW.trod_int Tryz.underlying3 h0
   obtain ⟨i1, e1, rfl, w1⟩ := DataW.trod_int Tryz.underlying3 h1
   obtain ⟨i2, e2, rfl, w2⟩ := DataW.trod_int Tryz.underlying3 h2
   obtain ⟨i3, e3, rfl, w3⟩ := DataW.trod_int Tryz.underlying3 h3
   obtain ⟨i4, e4, rfl, w4⟩ := DataW.trod_int Tryz.underlying3 h4
   obtain ⟨i5, e5, rfl, w5⟩ := DataW.trod_int Tryz.underlying3 h5
   obtain ⟨i6, e6, rfl, z6⟩ := DataW.trod_string Tryz.underlying9 h6
   simp at e0 e1 e2 e3 e4 e5 e6
   subst e0 e1 e2 e3 e4 e5 e6
   refine ⟨⟨i0, i1, i2, i3, i4, i5, i6⟩, rfl, z6, ?_⟩
   intro y hy
   simp [AllCells] at hy
   try exact absurd hy (by simp)
theorem ops_trod {H : Type} {enc : TypeId × Value → H} {W : World} {n : Nat} {cs : List Value} {x : DataW H × List MemPlace} (h : DataW.trod enc Tryz.prog W 0 (fun _ => true) true n 49 cs = some x) :
 ∃ (v : Value) (us : List Opn), cs = [v] ∧ us.length ≤ maxLen ∧ (∀ u ∈ us, BO maxLen u) ∧ RS 7 CO 0 W v us ∧ AllCells x.2 :=
 slice_trod (C := CO) (Q := fun u => BO maxLen u) (k := 7) Tryz.underlying49 cells97 (by omega) (fun h => op_trod h) h
theorem own : ownKnob Tryz.prog.godebug = none := by kernel_rfl
theorem laidOutP : laidOutB Tryz.prog = true := by kernel_rfl
theorem stayOp {H : Type} {enc : TypeId × Value → H} {W W' : World} {v : Value} {d : DataW H} {p : List MemPlace} {sp : Nat → Bool} (h : DataW.Trod enc Tryz.prog W 0 (fun _ => true) true 49 v d p) (bel : Below W.heap.size W W') (hlt : ∀ x ∈ p, x.block < W.heap.size) (hcl : AllCells p) (hsp : ∀ x ∈ p, sp x.block = true) : DataW.Trod enc Tryz.prog W' 0 sp true 49 v d p :=
 WideElems.Trod_stays (P := Tryz.prog) laidOutP (by kernel_rfl) (of_decide_eq_true (by kernel_rfl)) h (fun x hx => by
  obtain ⟨xb, xo, rfl⟩ := hcl x hx
  exact bel.cell (p := ⟨xb, xo, none⟩) (hlt _ hx)) hsp
theorem open_Op {H : Type} {enc : TypeId × Value → H} {W : World} {v : Value} {d : DataW H} {p : List MemPlace} {base : Nat} (hval : Value.okWide Tryz.prog W .any base 49 v) (h : DataW.Trod enc Tryz.prog W 0 (fun _ => true) true 49 v d p) :
 ∃ (a : Option Addr) (cap : Nat) (us : List Opn), v = .slice a us.length cap ∧ (us.length ≤ maxLen ∧ ∀ u ∈ us, BO maxLen u) ∧ RS 7 CO 0 W (.slice a us.length cap) us ∧ AllCells p := by
 obtain ⟨a, len, cap, rfl⟩ := okWide_slice Tryz.underlying49 hval
 obtain ⟨fuel, hf⟩ := h
 obtain ⟨v', us, e, hl, hq, hr, hc⟩ := ops_trod hf
 simp [Value.cells] at e
 subst e
 have R := hr
 obtain ⟨a', cap', he, _⟩ := hr
 rw [he] at R ⊢
 exact ⟨a', cap', us, rfl, ⟨hl, hq⟩, R, hc⟩
theorem txn_len (us : List Opn) : (txnL us).length ≤ 1000 ∧ ∀ t ∈ txnL us, t.ps.length ≤ 1048576 := by
 unfold txnL
 by_cases h : 1000 < us.length
 ·rw [if_pos h]; exact ⟨by simp, fun t ht => by simp at ht⟩
 ·rw [if_neg h]; exact ⟨by rw [runsF_len]; omega, runs_ps us 0 bas0 bndN0 (by omega) rfl⟩
end Go.Proofs.YtblkgicbimflhaaGreat
