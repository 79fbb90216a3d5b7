import Derived.Test.YtbndliedcanmgaaRPS
import Derived.Deep.Heap
namespace Go.Proofs.YtbndliedcanmgaaR
open Go.ChangeShapes Go.WideShapes Go.ChangeAt Go.RowKit
set_option linter.unusedVariables false
set_option linter.unusedSimpArgs false
set_option maxRecDepth 100000
/-- A row of ints in which k, k + 1, .. have been written, i of them so far. -/
structure MKz (w wr : World) (g : Nat) (k : Int) (i n : Nat) : Prop where
  size : wr.heap.size = w.heap.size
  block : ∀ b, b ≠ g → wr.heap[b]? = w.heap[b]?
  told : ∀ j, j < i → wr.cell? ⟨g, j, none⟩ = some (.int .i64 (k + j))
  room : ∀ j, j < n → (∃ x, wr.cell? ⟨g, j, none⟩ = some (.int .i64 x)) ∧ wr.frozen? ⟨g, j, none⟩ = false
  ints : ∀ j, wr.cell? ⟨g, j, none⟩ = w.cell? ⟨g, j, none⟩ ∨ ∃ x, wr.cell? ⟨g, j, none⟩ = some (.int .i64 x)
  froz : ∀ j, wr.frozen? ⟨g, j, none⟩ = w.frozen? ⟨g, j, none⟩
theorem MKz.step {w wr : World} {g i n : Nat} {k : Int} (h : MKz w wr g k i n) (hi : i < n) : MKz w (wr.setCell ⟨g, i, none⟩ (.int .i64 (k + i))) g k (i + 1) n := by
  have hs : (wr.setCell ⟨g, i, none⟩ (.int .i64 (k + i))).cell? ⟨g, i, none⟩ = some (.int .i64 (k + i)) := by
    obtain ⟨⟨x, hx⟩, hf⟩ := h.room i hi
    simp [go_sem, hx, hf]
  have ho : ∀ j, j ≠ i → (wr.setCell ⟨g, i, none⟩ (.int .i64 (k + i))).cell? ⟨g, j, none⟩ = wr.cell? ⟨g, j, none⟩ := fun j hj => World.cell?_setCell_other wr ⟨g, i, none⟩ ⟨g, j, none⟩ _ (fun e => by have := congrArg Addr.off e; simp at this; omega)
  refine ⟨by simpa using h.size, fun b hb => (Go.Deep.blk_setCell_other wr ⟨g, i, none⟩ _ b hb).trans (h.block b hb), fun j hj => ?_, fun j hj => ⟨?_, by simpa using (h.room j hj).2⟩, fun j => ?_, fun j => by simpa using h.froz j⟩
  · by_cases e : j = i
    · subst e; exact hs
    · rw [ho j e]; exact h.told j (by omega)
  · by_cases e : j = i
    · subst e; exact ⟨_, hs⟩
    · rw [ho j e]; exact (h.room j hj).1
  · by_cases e : j = i
    · subst e; exact .inr ⟨_, hs⟩
    · rw [World.cell?_setCell_other wr ⟨g, i, none⟩ ⟨g, j, none⟩ _ (fun e' => by have := congrArg Addr.off e'; simp at this; omega)]; exact h.ints j
set_option maxHeartbeats 8000000 in
theorem markPo_any (g n cap : Nat) (k : Int) (w a0 : World) (B0 : Nat) (hk : 0 ≤ k) (hk2 : k + 2 * n ≤ 4611686018427387904) (hb : Below B0 a0 w) (hB : B0 ≤ g) (hw : ∀ j, j < n * 2 → (∃ x, w.cell? ⟨g, j, none⟩ = some (.int .i64 x)) ∧ w.frozen? ⟨g, j, none⟩ = false) :
    Calls Try.prog 12 #[.slice (some ⟨g, 0, none⟩) n cap, .int .i64 k] w fun e w' => e = .returned (.int .i64 (k + 2 * n)) ∧ Below B0 a0 w' ∧ MKz w w' g k (n * 2) (n * 2) := by
  have M0 : Hid (MKz w w g k 0 (n * 2)) := ⟨rfl, fun _ _ => rfl, fun j h => absurd h (Nat.not_lt_zero _), hw, fun _ => .inl rfl, fun _ => rfl⟩
  clear hw
  go_enter Try.func12, Try.ntmps12
  go_wp2
  go_loopw [1, 5] (fun kv iv wr => ∃ i : Nat, i ≤ n ∧ kv = .int .i64 (k + 2 * i) ∧ iv = .int .i64 i ∧ Below B0 a0 wr ∧ Hid (MKz w wr g k (i * 2) (n * 2))) (fun _ iv _ => n - (intOf iv).toNat)
  case atStart => exact ⟨0, Nat.zero_le _, by simp, rfl, hb, M0⟩
  case round =>
    clear M0 hb
    obtain ⟨i, hi, rfl, rfl, hb, M⟩ := hrel
    by_cases hlt : i < n
    · have hlti : (i : Int) < n := by omega
      obtain ⟨⟨x, hx⟩, hf⟩ := M.out.room (i * 2) (by omega)
      obtain ⟨⟨y, hy⟩, hfy⟩ := M.out.room (i * 2 + 1) (by omega)
      have h1 : (k + ((i * 2 : Nat) : Int)) = k + 2 * (i : Int) := by omega
      have h2 : (k + ((i * 2 + 1 : Nat) : Int)) = k + 2 * (i : Int) + 1 := by omega
      have M1 := M.out.step (by omega)
      have M2 := M1.step (by omega)
      rw [h1, h2] at M2
      have HM2 := hid M2
      have b2 := (hb.setCell (show B0 ≤ (⟨g, i * 2, none⟩ : Addr).block by simp; omega) (.int .i64 (k + 2 * (i : Int)))).setCell (show B0 ≤ (⟨g, i * 2 + 1, none⟩ : Addr).block by simp; omega) (.int .i64 (k + 2 * (i : Int) + 1))
      have hw1 : IntKind.i64.wrap (k + 2 * (i : Int) + 1) = k + 2 * (i : Int) + 1 := by simp only [IntKind.wrap_i64, wrap64]; omega
      have hw2 : IntKind.i64.wrap (k + 2 * (i : Int) + 1 + 1) = k + 2 * (i : Int) + 1 + 1 := by simp only [IntKind.wrap_i64, wrap64]; omega
      clear M M1 M2 hb h1 h2
      go_wp2
      go_roundw
      case rel => exact ⟨i + 1, by omega, (by congr 1; omega), by go_num, b2, (by have := HM2.out; rwa [show i * 2 + 1 + 1 = (i + 1) * 2 by omega] at this)⟩
      case measure => simp [intOf]; omega
    · have hin : i = n := by omega
      subst hin
      have hlti : ¬ (i : Int) < i := by omega
      go_wp2
      go_ret
      exact ⟨rfl, hb, M.out⟩
end Go.Proofs.YtbndliedcanmgaaR
