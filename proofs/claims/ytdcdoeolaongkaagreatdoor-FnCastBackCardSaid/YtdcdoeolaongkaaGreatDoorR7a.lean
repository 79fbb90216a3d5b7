import Derived.Test.YtdcdoeolaongkaaGreatDoorR7
import Derived.Test.YtdcdoeolaongkaaGreatDoorR5a
namespace Go.Proofs.YtdcdoeolaongkaaGreatDoor.Rd
open Go.ChangeShapes Go.WideShapes Go.ChangeAt Go.RowKit Go.Shelf
set_option linter.unusedVariables false
set_option linter.unusedSimpArgs false
set_option maxRecDepth 100000
set_option maxHeartbeats 2000000 in
theorem castText_5 (s : ByteArray) (w : World) (hs : s.size ≤ 1048576) (hM : ML w) : Calls Tryz.prog 45 #[.string s, .int .i64 5] w fun e w' => e = .returned (ctK 5 (rdK 5 s)) ∧ Below w.heap.size w w' := by
  have HR : Hid (rdK 5 s = rdT s.data.toList) := rfl
  have hcon := fun w => readDate_impl s w hs
  rw [HR.out]
  generalize rdT s.data.toList = r at *
  obtain ⟨r1, r2⟩ := r
  simp only at hcon
  have bw0 := below_alloc w (.cells #[.int .i64 0, .int .i64 0, .string ⟨#[]⟩] 29)
  clear HR
  cases r2
  · go_enter Tryz.func45, Tryz.ntmps45
    go_wp2_with (go_at_call 104; fail)
    refine (hcon _).mono ?_
    rintro e w1 ⟨rfl, hb⟩
    obtain ⟨hc, hf⟩ := bcell hb
    have hz : w.heap.size < w1.heap.size := by have := hb.size; simp at this; omega
    have bw1 : Below w.heap.size w w1 := bw0.trans (hb.mono (by simp))
    go_wp2
    refine bodyPost_ret (v := cV 0 0 15) (by simp [results, Tryz.results45, go_sem, cV, zB, hc, hf, hz]) rfl ⟨rfl, ?_⟩
    exact ((bw1.setCell (Nat.le_refl _) _).setCell (Nat.le_refl _) _).setCell (Nat.le_refl _) _
  · go_enter Tryz.func45, Tryz.ntmps45
    go_wp2_with (go_at_call 104; fail)
    refine (hcon _).mono ?_
    rintro e w1 ⟨rfl, hb⟩
    obtain ⟨hc, hf⟩ := bcell hb
    have hz : w.heap.size < w1.heap.size := by have := hb.size; simp at this; omega
    have bw1 : Below w.heap.size w w1 := bw0.trans (hb.mono (by simp))
    go_wp2
    refine bodyPost_ret (v := cV 5 r1 0) (by simp [results, Tryz.results45, go_sem, cV, zB, hc, hf, hz]) rfl ⟨rfl, ?_⟩
    exact ((bw1.setCell (Nat.le_refl _) _).setCell (Nat.le_refl _) _).setCell (Nat.le_refl _) _
theorem castText_any (s : ByteArray) (kind : Int) (w : World) (hs : s.size ≤ 1048576) (hM : ML w) (hk : kind = 1 ∨ kind = 2 ∨ kind = 4 ∨ kind = 5) : Calls Tryz.prog 45 #[.string s, .int .i64 kind] w fun e w' => e = .returned (ctK kind (rdK kind s)) ∧ Below w.heap.size w w' := by
  rcases hk with rfl | rfl | rfl | rfl
  · exact castText_1 s w hs hM
  · exact castText_2 s w hs hM
  · exact castText_4 s w hs hM
  · exact castText_5 s w hs hM
end Go.Proofs.YtdcdoeolaongkaaGreatDoor.Rd
