import Derived.Test.YtjpcgnkgdaphoaaDoorX1
namespace Go.Proofs.YtjpcgnkgdaphoaaDoor
open Go.ChangeShapes Go.WideShapes Go.ChangeAt Go.RowKit Go.Shelf
set_option linter.unusedVariables false
set_option linter.unusedSimpArgs false
set_option maxRecDepth 100000
theorem lowC_up2 (c : UInt8) (h1 : 65 ≤ (c.toNat : Int)) (h2 : (c.toNat : Int) ≤ 90) : ((lowC c).toNat : Int) = (c.toNat : Int) - 65 + 97 := by
  unfold lowC; rw [if_pos (by omega)]; simp; omega
theorem take_snoc (s : ByteArray) (k : Nat) (h : k < s.size) : s.data.toList.take (k + 1) = s.data.toList.take k ++ [s[k]'h] := by
  rw [List.take_add_one, bl_get s k h]; rfl
/-- The next token's place. -/
def SkipTo (l : List UInt8) (p q : Nat) : Prop := p ≤ q ∧ (q ≤ l.length ∨ q = p) ∧ (∀ acc r, LexR l q acc r → LexR l p acc r) ∧ (q < l.length → ∃ c, l[q]? = some c ∧ blank c = false ∧ cmtAt l q = false)
end Go.Proofs.YtjpcgnkgdaphoaaDoor
