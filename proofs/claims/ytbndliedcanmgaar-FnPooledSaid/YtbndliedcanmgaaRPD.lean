import Derived.Test.YtbndliedcanmgaaRPR
namespace Go.Proofs.YtbndliedcanmgaaR
open Go.ChangeShapes Go.WideShapes Go.ChangeAt Go.RowKit
set_option linter.unusedVariables false
set_option linter.unusedSimpArgs false
set_option maxRecDepth 100000
def CPr (B : Nat) (w : World) (cs : List Value) (x : POut) : Prop := ∃ v, cs = [.int .i64 x.rd, .int .i64 x.wr, v] ∧ RS 1 CI B w v x.all
theorem liesPr : Lies 3 CPr :=
  ⟨fun ⟨_, h, _⟩ => by rw [h]; rfl, fun ⟨a, h, r⟩ hd => ⟨a, h, r.mono liesI hd⟩, fun ⟨a, h, r⟩ hb => ⟨a, h, r.below liesI hb⟩, fun ⟨a, h, r⟩ hc => ⟨a, h, r.set liesI hc⟩⟩
def BPo (M : Nat) (x : POp) : Prop := True
def BPr (M : Nat) (x : POut) : Prop := x.all.length ≤ M
/-- What is left of the room, and what that says. -/
def SzR (p : Prop) (left : Int) (e : Ending) : Prop := e = .returned (.int .i64 (-1)) ∨ ∃ m : Nat, (m : Int) ≤ left ∧ e = .returned (.int .i64 m) ∧ p
/-- A bool that tells whether something is so. -/
def RB (p : Prop) (e : Ending) : Prop := ∃ b : Bool, e = .returned (.bool b) ∧ (b = true ↔ p)
theorem rb_t {p : Prop} (h : p) : RB p (.returned (.bool true)) := ⟨true, rfl, ⟨fun _ => h, fun _ => rfl⟩⟩
theorem rb_f {p : Prop} (h : ¬ p) : RB p (.returned (.bool false)) := ⟨false, rfl, ⟨fun z => (by cases z), fun q => absurd q h⟩⟩
theorem szPoS_any (a : Option Addr) (n cap : Nat) (left : Int) (w : World) (h0 : 0 ≤ left) (hl : left ≤ 1048576) (hn : n ≤ maxLen) :
    Calls Try.prog 8 #[.slice a n cap, .int .i64 left] w fun e w' => SzR (n ≤ 1048576) left e ∧ w' = w := by
  unfold maxLen at hn
  have hw : IntKind.i64.wrap (left - n) = left - n := by simp only [IntKind.wrap_i64, wrap64]; omega
  by_cases h : (n : Int) ≤ left
  · have hn : ¬ left - (n : Int) < 0 := by omega
    obtain ⟨m, hm⟩ : ∃ m : Nat, left - (n : Int) = m := ⟨(left - n).toNat, by omega⟩
    have HR : Hid (SzR (n ≤ 1048576) left (.returned (.int .i64 (left - n)))) := .inr ⟨m, by omega, by rw [hm], by omega⟩
    clear hm
    go_enter Try.func8, Try.ntmps8
    go_wp2
    all_goals first | (exfalso; go_light; omega) | skip
    go_ret
    exact ⟨HR.out, rfl⟩
  · have hn : left - (n : Int) < 0 := by omega
    go_enter Try.func8, Try.ntmps8
    go_wp2
    all_goals first | (exfalso; go_light; omega) | skip
    go_ret
    exact ⟨.inl rfl, rfl⟩
end Go.Proofs.YtbndliedcanmgaaR
