import Derived.Test.YtdcdoeolaongkaaGreatDoorE3
import Derived.Lib.AppendStr
import Derived.Laws.BytesArg
namespace Go.Proofs.YtdcdoeolaongkaaGreatDoor.Dr
open Go.ChangeShapes Go.WideShapes Go.ChangeAt Go.RowKit
set_option linter.unusedVariables false
set_option linter.unusedSimpArgs false
set_option maxRecDepth 100000
theorem info5 : (Tryz.prog.info? 5).map (fun i => (i.zero, i.size, i.bytes)) = some (some (.int .u8 0), 1, 1) := by kernel_rfl
theorem strOf_size (ns : List Int) : (strOfNums ns).size = ns.length := by simp [strOfNums, ByteArray.size]
theorem strCells_map (s : ByteArray) : Lib.strCells s = (s.data.toList.map (fun b => (b.toNat : Int))).map (Value.int .u8) := by
  simp [Lib.strCells]
set_option maxHeartbeats 4000000 in
theorem times_any (n : Nat) (w : World) (h1 : 1 ≤ n) (h2 : n ≤ 300) : Calls Tryz.prog 99 #[.string ⟨#[195, 169]⟩, .int .i64 n] w fun e w' => ∃ t : ByteArray, t.size ≤ 600 ∧ e = .returned (.string t) ∧ Below w.heap.size w w' := by
  obtain ⟨i0, hi, hz0, hz1, hz2⟩ := info_parts info5
  go_enter Tryz.func99, Tryz.ntmps99
  go_wp2
  go_loopw [5, 6] (fun v i wr => ∃ (j : Nat) (ns : List Int), j ≤ n ∧ i = .int .i64 j ∧ ns.length = 2 * j ∧ wr.ownsRow w.heap.size 5 1 v ns.length (ns.map (Value.int .u8)) ∧ Below w.heap.size w wr) (fun _ i _ => n - (intOf i).toNat)
  case atStart => exact ⟨0, [], by omega, rfl, rfl, World.ownsRow_made w #[] 0 (Nat.le_refl _) (by unfold maxLen; omega) (by simp), (Below.refl _ _).alloc (Nat.le_refl _) _⟩
  case round =>
    obtain ⟨j, ns, hj, rfl, hl, hown, hbel⟩ := hrel
    have HL : Hid (ns.length = 2 * j) := hl
    have hl1 : ns.length ≤ 600 := by omega
    clear hl
    by_cases hlt : j < n
    · have hlt' : (j : Int) < n := by omega
      go_wp2_with (at_builtin; refine Lib.wpList_append_own_string _ rfl (.tmp 13) (.tmp 14) 27 9 rfl w.heap.size 5 i0 Tryz.underlying27 Tryz.underlying9 hi hz0 hz1 hz2 _ _ _ rfl hown ⟨#[195, 169]⟩ rfl (by show _ + 2 ≤ _; unfold maxLen; omega) (by show _ + 2 ≤ _; omega) hbel.size ?_; intro v' w1 hown' hgrow _)
      have HB1 : Hid (Below w.heap.size w w1) := hbel.grown hgrow hbel.size (fun k hk => (hown.lt k hk).1)
      have ho1 : w1.ownsRow w.heap.size 5 1 v' (ns ++ [195, 169]).length ((ns ++ [195, 169]).map (Value.int .u8)) := by
        rw [strCells_map, show ({ data := #[195, 169] } : ByteArray).size = 2 from rfl] at hown'
        simpa using hown'
      have HO : Hid (w1.ownsRow w.heap.size 5 1 v' (ns ++ [195, 169]).length ((ns ++ [195, 169]).map (Value.int .u8))) := ho1
      clear ho1
      clear hown' hgrow hown hbel
      go_wp2
      go_roundw
      case rel => exact ⟨j + 1, ns ++ [195, 169], by omega, by go_num, by have := HL.out; simp; omega, HO.out, HB1.out⟩
      case measure => simp [intOf]; omega
    · have hlt' : ¬ (j : Int) < n := by omega
      have hpos : 1 ≤ ns.length := by have := HL.out; omega
      have hown0 := hown
      obtain ⟨hlen, hcase⟩ := hown0
      rcases hcase with ⟨_, h0⟩ | ⟨g, cap, cur, rfl, hg1, hg2, hg3, hg4, hg5, hg6⟩
      · omega
      have hcells : ∀ i, i < ns.length → wr.cell? ⟨g, 0 + i, none⟩ = some (.int .u8 (ns.getD i 0)) := fun i hi => by
        have := hown.cells (g := g) rfl i (.int .u8 (ns.getD i 0)) (by simp [List.getD, hi])
        simp only [Addr.add] at this
        by_cases e : i = 0
        · subst e; simpa using this
        · simpa [e] using this
      clear hown hg2 hg3 hg4 hg5 hg6 hlen
      have hcv := run_convert_bytes_arg (P := Tryz.prog) wr 27 5 Tryz.underlying27 Tryz.underlying5 g 0 ns.length cap ns rfl hcells 9 Tryz.underlying9
      have hss := strOf_size ns
      generalize strOfNums ns = t at *
      have HS : Hid (t.size = ns.length) := hss
      clear hss hcells
      go_wp2
      go_ret
      exact ⟨t, by rw [HS.out]; omega, rfl, hbel⟩
end Go.Proofs.YtdcdoeolaongkaaGreatDoor.Dr
