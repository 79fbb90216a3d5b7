import Derived.Test.YtoieiegjhjedoaaSA
namespace Go.Proofs.Ytoieiegjhjedoaa
open Go.ChangeShapes Go.WideShapes Go.ChangeAt Go.RowKit
set_option linter.unusedVariables false
set_option linter.unusedSimpArgs false
set_option maxRecDepth 100000
/-- An aggregate, a key of an order, a node of an expression, a node of a plan. -/
structure PA where
  fn : Int
  col : Int
  d : Bool
structure SK where
  col : Int
  desc : Bool
  first : Bool
structure XN where
  op : Int
  kind : Int
  a : Int
  b : Int
  vk : Int
  vn : Int
  vs : ByteArray
  kids : List Int
structure PN where
  op : Int
  l : Int
  r : Int
  table : Int
  a : Int
  b : Int
  exprs : List (List XN)
  keys : List Int
  aggs : List PA
  sorts : List SK
  kinds : List Int
def CPA (B : Nat) (w : World) (cs : List Value) (x : PA) : Prop := cs = [.int .i64 x.fn, .int .i64 x.col, .bool x.d]
def CSK (B : Nat) (w : World) (cs : List Value) (x : SK) : Prop := cs = [.int .i64 x.col, .bool x.desc, .bool x.first]
def CX (B : Nat) (w : World) (cs : List Value) (x : XN) : Prop := ∃ kv, cs = [.int .i64 x.op, .int .i64 x.kind, .int .i64 x.a, .int .i64 x.b, .int .i64 x.vk, .int .i64 x.vn, .string x.vs, kv] ∧ RS 1 CI B w kv x.kids
def CE (B : Nat) (w : World) (cs : List Value) (x : List XN) : Prop := ∃ nv, cs = [nv] ∧ RS 8 CX B w nv x
def CP (B : Nat) (w : World) (cs : List Value) (x : PN) : Prop := ∃ ev kv av sv dv, cs = [.int .i64 x.op, .int .i64 x.l, .int .i64 x.r, .int .i64 x.table, .int .i64 x.a, .int .i64 x.b, ev, kv, av, sv, dv] ∧ RS 1 CE B w ev x.exprs ∧ RS 1 CI B w kv x.keys ∧ RS 3 CPA B w av x.aggs ∧ RS 3 CSK B w sv x.sorts ∧ RS 1 CI B w dv x.kinds
theorem liesPA : Lies 3 CPA := ⟨fun h => by rw [h]; rfl, fun h _ => h, fun h _ => h, fun h _ => h⟩
theorem liesSK : Lies 3 CSK := ⟨fun h => by rw [h]; rfl, fun h _ => h, fun h _ => h, fun h _ => h⟩
theorem liesX : Lies 8 CX :=
  ⟨fun ⟨_, h, _⟩ => by rw [h]; rfl, fun ⟨kv, h, r⟩ hd => ⟨kv, h, r.mono liesI hd⟩, fun ⟨kv, h, r⟩ hb => ⟨kv, h, r.below liesI hb⟩, fun ⟨kv, h, r⟩ hc => ⟨kv, h, r.set liesI hc⟩⟩
theorem liesE : Lies 1 CE :=
  ⟨fun ⟨_, h, _⟩ => by rw [h]; rfl, fun ⟨kv, h, r⟩ hd => ⟨kv, h, r.mono liesX hd⟩, fun ⟨kv, h, r⟩ hb => ⟨kv, h, r.below liesX hb⟩, fun ⟨kv, h, r⟩ hc => ⟨kv, h, r.set liesX hc⟩⟩
theorem liesP : Lies 11 CP :=
  ⟨fun ⟨_, _, _, _, _, h, _⟩ => by rw [h]; rfl,
   fun ⟨a, b, c, d, e, h, r1, r2, r3, r4, r5⟩ hd => ⟨a, b, c, d, e, h, r1.mono liesE hd, r2.mono liesI hd, r3.mono liesPA hd, r4.mono liesSK hd, r5.mono liesI hd⟩,
   fun ⟨a, b, c, d, e, h, r1, r2, r3, r4, r5⟩ hb => ⟨a, b, c, d, e, h, r1.below liesE hb, r2.below liesI hb, r3.below liesPA hb, r4.below liesSK hb, r5.below liesI hb⟩,
   fun ⟨a, b, c, d, e, h, r1, r2, r3, r4, r5⟩ hc => ⟨a, b, c, d, e, h, r1.set liesE hc, r2.set liesI hc, r3.set liesPA hc, r4.set liesSK hc, r5.set liesI hc⟩⟩
/-- How long the lists and texts are at most. -/
def BX (M : Nat) (x : XN) : Prop := x.vs.size ≤ M ∧ x.kids.length ≤ M
def BE (M : Nat) (x : List XN) : Prop := x.length ≤ M ∧ ∀ t ∈ x, BX M t
def BP (M : Nat) (x : PN) : Prop := (x.exprs.length ≤ M ∧ ∀ e ∈ x.exprs, BE M e) ∧ x.keys.length ≤ M ∧ x.aggs.length ≤ M ∧ x.sorts.length ≤ M ∧ x.kinds.length ≤ M
def BL (M : Nat) (x : List PN) : Prop := x.length ≤ M ∧ ∀ t ∈ x, BP M t
/-- What is left of the room, and what that says. -/
def SzR (p : Prop) (left : Int) (e : Ending) : Prop := e = .returned (.int .i64 (-1)) ∨ ∃ m : Nat, (m : Int) ≤ left ∧ e = .returned (.int .i64 m) ∧ p
end Go.Proofs.Ytoieiegjhjedoaa
