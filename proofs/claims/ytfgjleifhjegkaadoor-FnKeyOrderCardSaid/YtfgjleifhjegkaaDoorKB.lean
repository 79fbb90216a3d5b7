import Derived.Test.YtfgjleifhjegkaaDoorRO
namespace Go.Proofs.YtfgjleifhjegkaaDoor
open Go.ChangeShapes Go.WideShapes Go.ChangeAt Go.RowKit
set_option linter.unusedVariables false
set_option linter.unusedSimpArgs false
set_option maxRecDepth 100000
theorem infoU8 : (Tryd.prog.info? 5).map (fun i => (i.zero, i.size, i.bytes)) = some (some (.int .u8 0), 1, 1) := by kernel_rfl
theorem set_last {x : Int} {tail : List Int} : ∀ {r : Nat}, (List.replicate (r + 1) (0 : Int) ++ tail).set r x = List.replicate r 0 ++ (x :: tail)
  | 0 => rfl
  | r + 1 => by
    have ih := set_last (x := x) (tail := tail) (r := r)
    rw [List.replicate_succ, List.cons_append, List.set_cons_succ, ih]
    rfl
set_option maxHeartbeats 4000000 in
theorem bytes_spec (n m : Nat) (w : World) (hn : n < 18446744073709551616) (hm : m ≤ 8) :
    Calls Tryd.prog 53 #[.int .u64 (n : Int), .int .i64 (m : Int)] w fun e w' => e = .returned (.slice (some ⟨w.heap.size, 0, none⟩) m m) ∧ YRow 5 w.heap.size w' w.heap.size (beL m n) ∧ Below w.heap.size w w' := by
  obtain ⟨i0, hi, hz0, hz1, hz2⟩ := info_parts infoU8
  go_enter Tryd.func53, Tryd.ntmps53
  go_wp2_with (refine wpList_make_full _ rfl (.tmp 7) (.tmp 7) 24 rfl w.heap.size 5 i0 _ 1 Tryd.underlying24 hi hz0 hz1 .i64 .i64 m m m rfl rfl rfl rfl (by rw [hz2]; omega) (by unfold maxLen; omega) (Nat.le_refl _) ?_; intro w1 hown hgrow)
  have hb1 : Below w.heap.size w w1 := (Below.refl _ _).grown hgrow (Nat.le_refl _) (fun k hk => by simp at hk)
  have R0 : Hid (YRow 5 w.heap.size w1 w.heap.size (List.replicate m 0)) := rowY (xs := List.replicate m (Value.int .u8 0)) (by simpa [toList_madeCells_one, Value.cells] using hown) (by simp)
  have hwm : IntKind.i64.wrap ((m : Int) - 1) = (m : Int) - 1 := by simp only [IntKind.wrap_i64, wrap64]; omega
  clear hown hgrow
  go_wp2
  go_loopw [0, 6] (fun uv iv wr => ∃ (r nr : Nat) (tail : List Int), r + tail.length = m ∧ nr < 18446744073709551616 ∧ uv = .int .u64 (nr : Int) ∧ iv = .int .i64 ((r : Int) - 1) ∧ Hid (YRow 5 w.heap.size wr w.heap.size (List.replicate r 0 ++ tail)) ∧ Hid (beL m n = beL r nr ++ tail) ∧ Below w.heap.size w wr) (fun _ iv _ => (intOf iv + 1).toNat)
  case atStart => exact ⟨m, n, [], by simp, hn, rfl, rfl, (by simpa using R0.out : YRow 5 w.heap.size w1 w.heap.size (List.replicate m 0 ++ [])), (by simp : beL m n = beL m n ++ []), hb1⟩
  case round =>
    clear R0 hb1 hwm
    obtain ⟨r, nr, tail, hr, hnr, rfl, rfl, R, HB, hb⟩ := hrel
    rcases r with _ | r
    · have HE : Hid (beL m n = tail) := (by have := HB.out; simpa [beL] using this : beL m n = tail)
      have HR : Hid (YRow 5 w.heap.size wr w.heap.size (beL m n)) := (by rw [HE.out]; simpa using R.out : YRow 5 w.heap.size wr w.heap.size (beL m n))
      clear R HB HE
      go_wp2
      go_ret
      exact ⟨rfl, HR.out, hb⟩
    · have hlen : (List.replicate (r + 1) (0 : Int) ++ tail).length = m := by simp; omega
      have hlt : r < (List.replicate (r + 1) (0 : Int) ++ tail).length := by omega
      have c0 := R.out.cell hlt
      have f0 := R.out.frozen r
      have R2 : Hid (YRow 5 w.heap.size (wr.setCell ⟨w.heap.size, r, none⟩ (.int .u8 ((nr % 256 : Nat) : Int))) w.heap.size (List.replicate r 0 ++ (((nr % 256 : Nat) : Int) :: tail))) := (by rw [← set_last]; exact R.out.set r _ : YRow 5 w.heap.size (wr.setCell ⟨w.heap.size, r, none⟩ (.int .u8 ((nr % 256 : Nat) : Int))) w.heap.size (List.replicate r 0 ++ (((nr % 256 : Nat) : Int) :: tail)))
      have HB2 : Hid (beL m n = beL r (nr / 256) ++ (((nr % 256 : Nat) : Int) :: tail)) := (by rw [HB.out]; show beL r (nr / 256) ++ [((nr % 256 : Nat) : Int)] ++ tail = _; simp : beL m n = beL r (nr / 256) ++ (((nr % 256 : Nat) : Int) :: tail))
      have b2 := hb.setCell (show w.heap.size ≤ (⟨w.heap.size, r, none⟩ : Addr).block by simp) (.int .u8 ((nr % 256 : Nat) : Int))
      have hrm : (r : Int) < m := by omega
      have hr1 : ((r + 1 : Nat) : Int) - 1 = r := by omega
      have hw1 : IntKind.i64.wrap ((r : Int) - 1) = (r : Int) - 1 := by simp only [IntKind.wrap_i64, wrap64]; omega
      rw [hr1]
      generalize (List.replicate (r + 1) (0 : Int) ++ tail)[r] = x0 at c0
      clear R HB hb hr1
      go_wp2
      go_roundw
      case rel => exact ⟨r, nr / 256, _, by first | (simp; done) | (simp; omega) | omega, by omega, by go_num, by go_num, R2, HB2, b2⟩
      case measure => first | (simp [intOf]; done) | (simp [intOf]; omega)
end Go.Proofs.YtfgjleifhjegkaaDoor
