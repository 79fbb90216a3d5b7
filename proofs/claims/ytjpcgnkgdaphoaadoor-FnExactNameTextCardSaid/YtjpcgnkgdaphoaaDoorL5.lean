import Derived.Test.YtjpcgnkgdaphoaaDoorL4
namespace Go.Proofs.YtjpcgnkgdaphoaaDoor
open Go.ChangeShapes Go.WideShapes Go.ChangeAt Go.RowKit Go.Shelf
set_option linter.unusedVariables false
set_option linter.unusedSimpArgs false
set_option maxRecDepth 100000
/-- What stands between marks from a place on: text and place behind; -1 where it does not end. -/
def BetPost (s : ByteArray) (a : Nat) (q : UInt8) (w : World) (e : Ending) (w' : World) : Prop :=
  (match unq q (s.data.toList.drop (a + 1)) with
   | none => e = .returned (.tuple #[.string ⟨#[]⟩, .int .i64 (-1)])
   | some x => e = .returned (.tuple #[.string ⟨x.1.toArray⟩, .int .i64 ((a + 1 + x.2 : Nat) : Int)])) ∧ Below w.heap.size w w'
theorem BetPost.none {s : ByteArray} {a : Nat} {q : UInt8} {w w' : World} (h : unq q (s.data.toList.drop (a + 1)) = none) (hb : Below w.heap.size w w') : BetPost s a q w (.returned (.tuple #[.string ⟨#[]⟩, .int .i64 (-1)])) w' := by
  unfold BetPost; rw [h]; exact ⟨rfl, hb⟩
theorem BetPost.some {s : ByteArray} {a : Nat} {q : UInt8} {w w' : World} {x : List UInt8} {n : Nat} {p : Int} (h : unq q (s.data.toList.drop (a + 1)) = some (x, n)) (hp : p = ((a + 1 + n : Nat) : Int)) (hb : Below w.heap.size w w') : BetPost s a q w (.returned (.tuple #[.string ⟨x.toArray⟩, .int .i64 p])) w' := by
  unfold BetPost; rw [h, hp]; exact ⟨rfl, hb⟩
theorem get_at (s : ByteArray) (a p : Nat) (h1 : a ≤ p) (h : p < s.size) : (s.data.toList.drop a)[p - a]? = .some (s[p]'h) := by
  rw [List.getElem?_drop]; have : a + (p - a) = p := by omega
  rw [this]; exact bl_get s p h
theorem bcells_snoc (l : List UInt8) (c : UInt8) : bcells (l ++ [c]) = bcells l ++ [.int .u8 (c.toNat : Int)] := by simp [bcells]
end Go.Proofs.YtjpcgnkgdaphoaaDoor
