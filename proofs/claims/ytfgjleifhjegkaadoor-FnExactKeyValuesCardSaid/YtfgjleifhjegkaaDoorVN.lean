import Derived.Test.YtfgjleifhjegkaaDoorVM
namespace Go.Proofs.YtfgjleifhjegkaaDoor
open Go.ChangeShapes Go.WideShapes Go.ChangeAt Go.RowKit
set_option linter.unusedVariables false
set_option linter.unusedSimpArgs false
set_option maxRecDepth 100000
/-- A row of bytes in which k, k + 1, .. have been written, i of them so far. -/
structure MYd (w wr : World) (g o k i n : Nat) : Prop where
  size : wr.heap.size = w.heap.size
  block : ∀ b, b ≠ g → wr.heap[b]? = w.heap[b]?
  told : ∀ j, j < i → wr.cell? ⟨g, o + j, none⟩ = some (.int .u8 (((k + j : Nat) : Int) % 256))
  room : ∀ j, j < n → (∃ x, wr.cell? ⟨g, o + j, none⟩ = some (.int .u8 x)) ∧ wr.frozen? ⟨g, o + j, none⟩ = false
theorem MYd.step {w wr : World} {g o k i n : Nat} (h : MYd w wr g o k i n) (hi : i < n) : MYd w (wr.setCell ⟨g, o + i, none⟩ (.int .u8 (((k + i : Nat) : Int) % 256))) g o k (i + 1) n := by
  have hs : (wr.setCell ⟨g, o + i, none⟩ (.int .u8 (((k + i : Nat) : Int) % 256))).cell? ⟨g, o + i, none⟩ = some (.int .u8 (((k + i : Nat) : Int) % 256)) := by
    obtain ⟨⟨x, hx⟩, hf⟩ := h.room i hi
    simp [go_sem, hx, hf]
  have ho : ∀ j, j ≠ i → (wr.setCell ⟨g, o + i, none⟩ (.int .u8 (((k + i : Nat) : Int) % 256))).cell? ⟨g, o + j, none⟩ = wr.cell? ⟨g, o + j, none⟩ := fun j hj => World.cell?_setCell_other wr ⟨g, o + i, none⟩ ⟨g, o + j, none⟩ _ (fun e => by have := congrArg Addr.off e; simp at this; omega)
  refine ⟨by simpa using h.size, fun b hb => (Go.Deep.blk_setCell_other wr ⟨g, o + i, none⟩ _ b hb).trans (h.block b hb), fun j hj => ?_, fun j hj => ⟨?_, by simpa using (h.room j hj).2⟩⟩
  · by_cases e : j = i
    · subst e; exact hs
    · rw [ho j e]; exact h.told j (by omega)
  · by_cases e : j = i
    · subst e; exact ⟨_, hs⟩
    · rw [ho j e]; exact (h.room j hj).1
set_option maxHeartbeats 4000000 in
theorem markByteS_any (g o n cap k : Nat) (w a0 : World) (B0 : Nat) (hk2 : k + n ≤ 4611686018427387904) (hb : Below B0 a0 w) (hB : B0 ≤ g) (hw : ∀ j, j < n → (∃ x, w.cell? ⟨g, o + j, none⟩ = some (.int .u8 x)) ∧ w.frozen? ⟨g, o + j, none⟩ = false) :
    Calls Tryd.prog 15 #[.slice (some ⟨g, o, none⟩) n cap, .int .i64 (k : Int)] w fun e w' => e = .returned (.int .i64 ((k + n : Nat) : Int)) ∧ Below B0 a0 w' ∧ MYd w w' g o k n n := by
  have M0 : Hid (MYd w w g o k 0 n) := ⟨rfl, fun _ _ => rfl, fun j h => absurd h (Nat.not_lt_zero _), hw⟩
  clear hw
  go_enter Tryd.func15, Tryd.ntmps15
  go_wp2
  go_loopw [1, 5] (fun kv iv wr => ∃ i : Nat, i ≤ n ∧ kv = .int .i64 ((k + i : Nat) : Int) ∧ iv = .int .i64 i ∧ Below B0 a0 wr ∧ Hid (MYd w wr g o k i n)) (fun _ iv _ => n - (intOf iv).toNat)
  case atStart => exact ⟨0, Nat.zero_le _, by simp, rfl, hb, M0⟩
  case round =>
    clear M0 hb
    obtain ⟨i, hi, rfl, rfl, hb, M⟩ := hrel
    by_cases hlt : i < n
    · have hlti : (i : Int) < n := by omega
      obtain ⟨⟨x, hx⟩, hf⟩ := M.out.room i hlt
      have M2 := hid (M.out.step hlt)
      have b2 := hb.setCell (show B0 ≤ (⟨g, o + i, none⟩ : Addr).block by simp; omega) (.int .u8 (((k + i : Nat) : Int) % 256))
      have hw1 : IntKind.i64.wrap (((k + i : Nat) : Int) + 1) = ((k + (i + 1) : Nat) : Int) := by simp only [IntKind.wrap_i64, wrap64]; omega
      clear M hb
      generalize hki : k + i = ki at *
      go_wp2
      go_roundw
      case rel => exact ⟨i + 1, by omega, by simp, by go_num, b2, M2⟩
      case measure => simp [intOf]; omega
    · have hin : i = n := by omega
      subst hin
      have hlti : ¬ (i : Int) < i := by omega
      go_wp2
      go_ret
      exact ⟨rfl, hb, M.out⟩
set_option maxHeartbeats 4000000 in
theorem heldByteS_any (g o n cap k : Nat) (w : World) (hk2 : k + n ≤ 4611686018427387904) (hw : ∀ j, j < n → w.cell? ⟨g, o + j, none⟩ = some (.int .u8 (((k + j : Nat) : Int) % 256))) :
    Calls Tryd.prog 16 #[.slice (some ⟨g, o, none⟩) n cap, .int .i64 (k : Int)] w fun e w' => e = .returned (.int .i64 ((k + n : Nat) : Int)) ∧ w' = w := by
  have HW := hid hw
  clear hw
  go_enter Tryd.func16, Tryd.ntmps16
  go_wp2
  go_loopw [1, 5] (fun kv iv wr => ∃ i : Nat, i ≤ n ∧ kv = .int .i64 ((k + i : Nat) : Int) ∧ iv = .int .i64 i ∧ wr = w) (fun _ iv _ => n - (intOf iv).toNat)
  case atStart => exact ⟨0, Nat.zero_le _, by simp, rfl, rfl⟩
  case round =>
    obtain ⟨i, hi, rfl, rfl, hww⟩ := hrel
    replace hww := hww.symm
    subst hww
    by_cases hlt : i < n
    · have hlti : (i : Int) < n := by omega
      have hx := HW.out i hlt
      have hw1 : IntKind.i64.wrap (((k + i : Nat) : Int) + 1) = ((k + (i + 1) : Nat) : Int) := by simp only [IntKind.wrap_i64, wrap64]; omega
      generalize hki : k + i = ki at *
      go_wp2
      go_roundw
      case rel => exact ⟨i + 1, by omega, by simp, by go_num, by first | exact rfl | trivial⟩
      case measure => simp [intOf]; omega
    · have hin : i = n := by omega
      subst hin
      have hlti : ¬ (i : Int) < i := by omega
      go_wp2
      go_ret
      exact ⟨rfl, rfl⟩
end Go.Proofs.YtfgjleifhjegkaaDoor
