import Derived.Test.YtdcdoeolaongkaaGreatDoorMG
import Derived.Test.YtdcdoeolaongkaaGreatDoorR8
import Derived.OneCell
namespace Go.Proofs.YtdcdoeolaongkaaGreatDoor.Ca
open Go.MapKept Go.ChangeMaps
open Go.ChangeShapes Go.WideShapes Go.ChangeAt Go.RowKit Go.Shelf
open Go.Proofs.YtdcdoeolaongkaaGreatDoor.Rd
set_option linter.unusedVariables false
set_option linter.unusedSimpArgs false
set_option maxRecDepth 100000
abbrev TA := Int × Int × ByteArray
/-- Values that a slice leads to, from anywhere in its block. -/
def RVO (w : World) (v : Value) (ts : List TA) : Prop :=
  ∃ a cap, v = .slice a ts.length cap ∧ (0 < ts.length → ∃ g o, a = some ⟨g, o, none⟩ ∧ g < w.heap.size ∧ ∀ i (h : i < ts.length), w.cell? ⟨g, o + i * 3, none⟩ = some (.int .i64 ts[i].1) ∧ w.cell? ⟨g, o + i * 3 + 1, none⟩ = some (.int .i64 ts[i].2.1) ∧ w.cell? ⟨g, o + i * 3 + 2, none⟩ = some (.string ts[i].2.2))
theorem RVO.below {w w' : World} {v : Value} {ts : List TA} (h : RVO w v ts) (hb : Below w.heap.size w w') : RVO w' v ts := by
  obtain ⟨a, cap, rfl, h2⟩ := h
  refine ⟨a, cap, rfl, fun hp => ?_⟩
  obtain ⟨g, o, ha, hg, hc⟩ := h2 hp
  refine ⟨g, o, ha, Nat.lt_of_lt_of_le hg hb.size, fun i hi => ?_⟩
  have h3 := hc i hi
  exact ⟨(hb.cell (p := ⟨g, o + i * 3, none⟩) hg).trans h3.1, (hb.cell (p := ⟨g, o + i * 3 + 1, none⟩) hg).trans h3.2.1, (hb.cell (p := ⟨g, o + i * 3 + 2, none⟩) hg).trans h3.2.2⟩
/-- The kinds so far, in a row of their own. -/
def OwnK (B : Nat) (kv : Value) (k : Nat) (ks : List Int) (wr : World) : Prop := wr.ownsRow B 3 1 kv k (ks.map (Value.int .i64))
def nullsA (ts : List TA) : Bool := ts.any fun t => t.1 == 0
def kindsA (ts : List TA) : List Int := ts.map (·.1)
theorem nullsA_snoc (ts : List TA) (t : TA) : nullsA (ts ++ [t]) = (nullsA ts || t.1 == 0) := by simp [nullsA]
theorem take_snoc {ts : List TA} {k : Nat} (h : k < ts.length) : ts.take (k + 1) = ts.take k ++ [ts[k]] := by
  rw [List.take_add_one, List.getElem?_eq_getElem h]; rfl
theorem OwnK.of {B k : Nat} {v : Value} {w2 : World} {ar : List TA} {t : TA} (h : ar.take (k + 1) = ar.take k ++ [t]) (ho : w2.ownsRow B 3 1 v (k + 1) ((kindsA (ar.take k)).map (Value.int .i64) ++ [.int .i64 t.1])) : OwnK B v (k + 1) (kindsA (ar.take (k + 1))) w2 := by
  unfold OwnK
  rw [h]
  simpa [kindsA] using ho
theorem info3 : (Tryz.prog.info? 3).map (fun i => (i.zero, i.size, i.bytes)) = some (some (.int .i64 0), 1, 8) := by kernel_rfl
theorem own_below {w w' : World} {b e k n : Nat} {v : Value} {xs : List Value} (h : w.ownsRow b e k v n xs) (hb : Below w.heap.size w w') : w'.ownsRow b e k v n xs := by
  have hl := h.lt
  obtain ⟨h1, h2⟩ := h
  refine ⟨h1, ?_⟩
  rcases h2 with h2 | ⟨g, cap, cur, rfl, hg1, hg2, hg3⟩
  · exact .inl h2
  · exact .inr ⟨g, cap, cur, rfl, hg1, (hb.block g (hl g rfl).2).trans hg2, hg3⟩
/-- A row of numbers is read ar such. -/
theorem own_rio {w : World} {b : Nat} {v : Value} {ks : List Int} (h : w.ownsRow b 3 1 v ks.length (ks.map (Value.int .i64))) : ∃ a cap, v = .slice a ks.length cap ∧ Mp.RIO w (.slice a ks.length cap) ks := by
  have hl := h.lt
  rcases h.2 with ⟨rfl, hn⟩ | ⟨g, cap, cur, rfl, hg1, hg2, hg3⟩
  · have : ks = [] := by cases ks with | nil => rfl | cons x l => simp at hn
    subst this
    exact ⟨_, _, rfl, ⟨_, _, rfl, fun h => absurd h (by simp)⟩⟩
  · refine ⟨_, _, rfl, ⟨_, _, rfl, fun hp => ⟨g, 0, rfl, (hl g rfl).2, fun i hi => ?_⟩⟩⟩
    have := h.cells rfl i (.int .i64 ks[i]) (by simp [hi])
    rw [Nat.zero_add]
    by_cases hz : i = 0
    · subst hz; simpa [Addr.add] using this
    · simpa [Addr.add, hz] using this
theorem cell_grown {w w' : World} {x : Option Nat} (h : w.grownBy w' x) {b o : Nat} (hb : b < w.heap.size) (hx : some b ≠ x) : w'.cell? ⟨b, o, none⟩ = w.cell? ⟨b, o, none⟩ := World.cell?_of_block (w := w) (a := ⟨b, o, none⟩) (h.block b hb hx)
theorem frozen_grown {w w' : World} {x : Option Nat} (h : w.grownBy w' x) {b o : Nat} (hb : b < w.heap.size) (hx : some b ≠ x) : w'.frozen? ⟨b, o, none⟩ = w.frozen? ⟨b, o, none⟩ := World.frozen?_of_block (w := w) (a := ⟨b, o, none⟩) (h.block b hb hx)
end Go.Proofs.YtdcdoeolaongkaaGreatDoor.Ca
