import Derived.Test.YtfgjleifhjegkaaDoorDA
namespace Go.Proofs.YtfgjleifhjegkaaDoor
open Go.ChangeShapes Go.WideShapes Go.ChangeAt Go.RowKit
set_option linter.unusedVariables false
set_option linter.unusedSimpArgs false
set_option maxRecDepth 100000
/-- A value. -/
structure VA where
  k : Int
  n : Int
  s : ByteArray
def CV (B : Nat) (w : World) (cs : List Value) (x : VA) : Prop := cs = [.int .i64 x.k, .int .i64 x.n, .string x.s]
theorem liesV : Lies 3 CV := ⟨fun h => by rw [h]; rfl, fun h _ => h, fun h _ => h, fun h _ => h⟩
def BV (M : Nat) (x : VA) : Prop := x.s.size ≤ M
def BVS (M : Nat) (x : List VA) : Prop := x.length ≤ M ∧ ∀ t ∈ x, BV M t
/-- A byte. -/
def CY (B : Nat) (w : World) (cs : List Value) (x : Int) : Prop := cs = [.int .u8 x]
theorem liesY : Lies 1 CY := ⟨fun h => by rw [h]; rfl, fun h _ => h, fun h _ => h, fun h _ => h⟩
/-- What is left of the room, and what that says. -/
def SzR (p : Prop) (left : Int) (e : Ending) : Prop := e = .returned (.int .i64 (-1)) ∨ ∃ m : Nat, (m : Int) ≤ left ∧ e = .returned (.int .i64 m) ∧ p
/-- A bool that tells whether something is so. -/
def RB (p : Prop) (e : Ending) : Prop := ∃ b : Bool, e = .returned (.bool b) ∧ (b = true ↔ p)
theorem rb_t {p : Prop} (h : p) : RB p (.returned (.bool true)) := ⟨true, rfl, ⟨fun _ => h, fun _ => rfl⟩⟩
theorem rb_f {p : Prop} (h : ¬ p) : RB p (.returned (.bool false)) := ⟨false, rfl, ⟨fun z => (by cases z), fun q => absurd q h⟩⟩
end Go.Proofs.YtfgjleifhjegkaaDoor
