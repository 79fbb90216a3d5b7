import Derived.Test.YtdcdoeolaongkaaGreatDoorR6a
import Derived.Test.YtdcdoeolaongkaaGreatDoorR6b
import Derived.Test.YtdcdoeolaongkaaGreatDoorR6c
namespace Go.Proofs.YtdcdoeolaongkaaGreatDoor.Rd
open Go.ChangeShapes Go.WideShapes Go.ChangeAt Go.RowKit Go.Shelf
set_option linter.unusedVariables false
set_option linter.unusedSimpArgs false
set_option maxRecDepth 100000
theorem body_no {l : List UInt8} (h : negL l = false) : bodyL l = l := by unfold bodyL; rw [h]; rfl
theorem body_yes {l : List UInt8} (h : negL l = true) : bodyL l = l.tail := by unfold bodyL; rw [h]; rfl
theorem rdD_no {l d : List UInt8} (hd : bodyL l = d) (h : okD (ptL d) = false) : rdD l = (0, false) := by unfold rdD; rw [hd, h]; rfl
theorem rdD_pos {l d : List UInt8} (hn : negL l = false) (hd : bodyL l = d) (h : okD (ptL d) = true) : rdD l = ((unitsL (ptL d).1 (ptL d).2.1 : Int), true) := by unfold rdD; rw [hd, if_pos h, hn]; rfl
theorem rdD_neg {l d : List UInt8} (hn : negL l = true) (hd : bodyL l = d) (h : okD (ptL d) = true) : rdD l = (-(unitsL (ptL d).1 (ptL d).2.1 : Int), true) := by unfold rdD; rw [hd, if_pos h, hn]; rfl
theorem readDec_spec (s : ByteArray) (w : World) (hs : s.size ≤ 1048576) :
    Calls Tryz.prog 130 #[.string s] w fun e w' => e = .returned (.tuple #[.int .i64 (rdD s.data.toList).1, .bool (rdD s.data.toList).2]) ∧ Below w.heap.size w w' := by
  by_cases h0 : 0 < s.size
  · cases hb : (((s[0]'h0).toNat : Int) == 45)
    · have hn := (neg_at h0).trans hb
      exact readDec_pos s w hs h0 hb _ (fun h => rdD_no (body_no hn) h) (fun h => rdD_pos hn (body_no hn) h)
    · have hn := (neg_at h0).trans hb
      have hd : bodyL s.data.toList = (s.extract 1 s.size).data.toList := (body_yes hn).trans (tail_bytes s).symm
      exact readDec_neg s w hs h0 hb _ (fun h => rdD_no hd h) (fun h => rdD_neg hn hd h)
  · have hn := neg_empty h0
    exact readDec_nil s w hs h0 _ (fun h => rdD_no (body_no hn) h) (fun h => rdD_pos hn (body_no hn) h)
end Go.Proofs.YtdcdoeolaongkaaGreatDoor.Rd
