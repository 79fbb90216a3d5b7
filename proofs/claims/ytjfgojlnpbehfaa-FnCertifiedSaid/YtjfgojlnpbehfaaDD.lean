import Derived.Test.YtjfgojlnpbehfaaDA
namespace Go.Proofs.Ytjfgojlnpbehfaa
open Go.ChangeShapes Go.WideShapes Go.ChangeAt Go.RowKit
set_option linter.unusedVariables false
set_option linter.unusedSimpArgs false
set_option maxRecDepth 100000
/-- A transaction that has committed. -/
structure TI where
  bgn : Int
  com : Int
  reads : List Int
  writes : List Int
def CT (B : Nat) (w : World) (cs : List Value) (x : TI) : Prop := ∃ rv wv, cs = [.int .i64 x.bgn, .int .i64 x.com, rv, wv] ∧ RS 1 CI B w rv x.reads ∧ RS 1 CI B w wv x.writes
theorem liesT : Lies 4 CT :=
  ⟨fun ⟨_, _, h, _⟩ => by rw [h]; rfl, fun ⟨a, b, h, r, s⟩ hd => ⟨a, b, h, r.mono liesI hd, s.mono liesI hd⟩, fun ⟨a, b, h, r, s⟩ hb => ⟨a, b, h, r.below liesI hb, s.below liesI hb⟩, fun ⟨a, b, h, r, s⟩ hc => ⟨a, b, h, r.set liesI hc, s.set liesI hc⟩⟩
def BT (M : Nat) (x : TI) : Prop := x.reads.length ≤ M ∧ x.writes.length ≤ M
def BH (M : Nat) (x : List TI) : Prop := x.length ≤ M ∧ ∀ t ∈ x, BT M t
/-- What is left of the room, and what that says. -/
def SzR (p : Prop) (left : Int) (e : Ending) : Prop := e = .returned (.int .i64 (-1)) ∨ ∃ m : Nat, (m : Int) ≤ left ∧ e = .returned (.int .i64 m) ∧ p
/-- A bool that tells whether something is so. -/
def RB (p : Prop) (e : Ending) : Prop := ∃ b : Bool, e = .returned (.bool b) ∧ (b = true ↔ p)
theorem rb_t {p : Prop} (h : p) : RB p (.returned (.bool true)) := ⟨true, rfl, ⟨fun _ => h, fun _ => rfl⟩⟩
theorem rb_f {p : Prop} (h : ¬ p) : RB p (.returned (.bool false)) := ⟨false, rfl, ⟨fun z => (by cases z), fun q => absurd q h⟩⟩
end Go.Proofs.Ytjfgojlnpbehfaa
