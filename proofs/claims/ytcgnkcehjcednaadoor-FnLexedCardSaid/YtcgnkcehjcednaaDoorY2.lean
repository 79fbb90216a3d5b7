import Derived.Test.YtcgnkcehjcednaaDoorY1
namespace Go.Proofs.YtcgnkcehjcednaaDoor
open Go.ChangeShapes Go.WideShapes Go.ChangeAt Go.RowKit Go.Shelf
set_option linter.unusedVariables false
set_option linter.unusedSimpArgs false
set_option maxRecDepth 100000
/-- A cut at a place, as the specification's functions tell it. -/
def cutT (a : Nat) : Cut → Value
  | .tok k x n => .tuple #[.agg #[.int .i64 k, .string ⟨x.toArray⟩, .int .i64 (a : Int)], .int .i64 ((a + n : Nat) : Int), .int .i64 0, .int .i64 0]
  | .err c f => .tuple #[.agg #[.int .i64 0, .string ⟨#[]⟩, .int .i64 0], .int .i64 0, .int .i64 c, .int .i64 ((a + f : Nat) : Int)]
theorem cutT_tok (a : Nat) (k : Int) (t : ByteArray) (n : Nat) (e : Int) (he : e = ((a + n : Nat) : Int)) : (.tuple #[.agg #[.int .i64 k, .string t, .int .i64 (a : Int)], .int .i64 e, .int .i64 0, .int .i64 0] : Value) = cutT a (.tok k t.data.toList n) := by
  rw [he]; simp only [cutT, ba_mk]
theorem cutT_err (a : Nat) (c : Int) (f : Nat) (e : Int) (he : e = ((a + f : Nat) : Int)) : (.tuple #[.agg #[.int .i64 0, .string ⟨#[]⟩, .int .i64 0], .int .i64 0, .int .i64 c, .int .i64 e] : Value) = cutT a (.err c f) := by
  rw [he]; rfl
end Go.Proofs.YtcgnkcehjcednaaDoor
