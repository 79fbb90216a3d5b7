import Derived.Test.YtjfgojlnpbehfaaDD
import Derived.Deep.Heap
namespace Go.Proofs.Ytjfgojlnpbehfaa
open Go.ChangeShapes Go.WideShapes Go.ChangeAt Go.RowKit
set_option linter.unusedVariables false
set_option linter.unusedSimpArgs false
set_option maxRecDepth 100000
/-- A row of ints in which k, k + 1, .. have been written, i of them so far. -/
structure MKd (w wr : World) (g o : Nat) (k : Int) (i n : Nat) : Prop where
  size : wr.heap.size = w.heap.size
  block : ∀ b, b ≠ g → wr.heap[b]? = w.heap[b]?
  told : ∀ j, j < i → wr.cell? ⟨g, o + j, none⟩ = some (.int .i64 (k + j))
  room : ∀ j, j < n → (∃ x, wr.cell? ⟨g, o + j, none⟩ = some (.int .i64 x)) ∧ wr.frozen? ⟨g, o + j, none⟩ = false
  ints : ∀ j, wr.cell? ⟨g, j, none⟩ = w.cell? ⟨g, j, none⟩ ∨ ∃ x, wr.cell? ⟨g, j, none⟩ = some (.int .i64 x)
  froz : ∀ j, wr.frozen? ⟨g, j, none⟩ = w.frozen? ⟨g, j, none⟩
theorem MKd.step {w wr : World} {g o i n : Nat} {k : Int} (h : MKd w wr g o k i n) (hi : i < n) : MKd w (wr.setCell ⟨g, o + i, none⟩ (.int .i64 (k + i))) g o k (i + 1) n := by
  have hs : (wr.setCell ⟨g, o + i, none⟩ (.int .i64 (k + i))).cell? ⟨g, o + i, none⟩ = some (.int .i64 (k + i)) := by
    obtain ⟨⟨x, hx⟩, hf⟩ := h.room i hi
    simp [go_sem, hx, hf]
  have ho : ∀ j, j ≠ i → (wr.setCell ⟨g, o + i, none⟩ (.int .i64 (k + i))).cell? ⟨g, o + j, none⟩ = wr.cell? ⟨g, o + j, none⟩ := fun j hj => World.cell?_setCell_other wr ⟨g, o + i, none⟩ ⟨g, o + j, none⟩ _ (fun e => by have := congrArg Addr.off e; simp at this; omega)
  refine ⟨by simpa using h.size, fun b hb => (Go.Deep.blk_setCell_other wr ⟨g, o + i, none⟩ _ b hb).trans (h.block b hb), fun j hj => ?_, fun j hj => ⟨?_, by simpa using (h.room j hj).2⟩, fun j => ?_, fun j => by simpa using h.froz j⟩
  · by_cases e : j = i
    · subst e; exact hs
    · rw [ho j e]; exact h.told j (by omega)
  · by_cases e : j = i
    · subst e; exact ⟨_, hs⟩
    · rw [ho j e]; exact (h.room j hj).1
  · by_cases e : j = o + i
    · subst e; exact .inr ⟨_, hs⟩
    · rw [World.cell?_setCell_other wr ⟨g, o + i, none⟩ ⟨g, j, none⟩ _ (fun e' => by have := congrArg Addr.off e'; simp at this; omega)]; exact h.ints j
set_option maxHeartbeats 4000000 in
theorem markIntS_any (g o n cap : Nat) (k : Int) (w a0 : World) (B0 : Nat) (hk : 0 ≤ k) (hk2 : k + n ≤ 4611686018427387904) (hb : Below B0 a0 w) (hB : B0 ≤ g) (hw : ∀ j, j < n → (∃ x, w.cell? ⟨g, o + j, none⟩ = some (.int .i64 x)) ∧ w.frozen? ⟨g, o + j, none⟩ = false) :
    Calls Try.prog 18 #[.slice (some ⟨g, o, none⟩) n cap, .int .i64 k] w fun e w' => e = .returned (.int .i64 (k + n)) ∧ Below B0 a0 w' ∧ MKd w w' g o k n n := by
  have M0 : Hid (MKd w w g o k 0 n) := ⟨rfl, fun _ _ => rfl, fun j h => absurd h (Nat.not_lt_zero _), hw, fun _ => .inl rfl, fun _ => rfl⟩
  clear hw
  go_enter Try.func18, Try.ntmps18
  go_wp2
  go_loopw [1, 5] (fun kv iv wr => ∃ i : Nat, i ≤ n ∧ kv = .int .i64 (k + i) ∧ iv = .int .i64 i ∧ Below B0 a0 wr ∧ Hid (MKd w wr g o k i n)) (fun _ iv _ => n - (intOf iv).toNat)
  case atStart => exact ⟨0, Nat.zero_le _, by simp, rfl, hb, M0⟩
  case round =>
    clear M0 hb
    obtain ⟨i, hi, rfl, rfl, hb, M⟩ := hrel
    by_cases hlt : i < n
    · have hlti : (i : Int) < n := by omega
      obtain ⟨⟨x, hx⟩, hf⟩ := M.out.room i hlt
      have M2 := hid (M.out.step hlt)
      have b2 := hb.setCell (show B0 ≤ (⟨g, o + i, none⟩ : Addr).block by simp; omega) (.int .i64 (k + i))
      have hw1 : IntKind.i64.wrap (k + (i : Int) + 1) = k + ((i + 1 : Nat) : Int) := by simp only [IntKind.wrap_i64, wrap64]; omega
      clear M hb
      go_wp2
      go_roundw
      case rel => exact ⟨i + 1, by omega, by simp, by go_num, b2, M2⟩
      case measure => simp [intOf]; omega
    · have hin : i = n := by omega
      subst hin
      have hlti : ¬ (i : Int) < i := by omega
      go_wp2
      go_ret
      exact ⟨rfl, hb, M.out⟩
theorem markIntS_none (a : Option Addr) (cap : Nat) (k : Int) (w : World) :
    Calls Try.prog 18 #[.slice a 0 cap, .int .i64 k] w fun e w' => e = .returned (.int .i64 k) ∧ w' = w := by
  go_enter Try.func18, Try.ntmps18
  go_wp2
  go_loopw [1, 5] (fun kv iv wr => kv = .int .i64 k ∧ iv = .int .i64 0 ∧ wr = w) (fun _ _ _ => 0)
  case atStart => exact ⟨rfl, rfl, rfl⟩
  case round =>
    obtain ⟨rfl, rfl, hww⟩ := hrel
    replace hww := hww.symm
    subst hww
    go_wp2
    go_ret
    exact ⟨rfl, rfl⟩
set_option maxHeartbeats 4000000 in
theorem heldIntS_any (g o n cap : Nat) (k : Int) (w : World) (hk : 0 ≤ k) (hk2 : k + n ≤ 4611686018427387904) (hw : ∀ j, j < n → w.cell? ⟨g, o + j, none⟩ = some (.int .i64 (k + j))) :
    Calls Try.prog 19 #[.slice (some ⟨g, o, none⟩) n cap, .int .i64 k] w fun e w' => e = .returned (.int .i64 (k + n)) ∧ w' = w := by
  have HW := hid hw
  clear hw
  go_enter Try.func19, Try.ntmps19
  go_wp2
  go_loopw [1, 5] (fun kv iv wr => ∃ i : Nat, i ≤ n ∧ kv = .int .i64 (k + i) ∧ iv = .int .i64 i ∧ wr = w) (fun _ iv _ => n - (intOf iv).toNat)
  case atStart => exact ⟨0, Nat.zero_le _, by simp, rfl, rfl⟩
  case round =>
    obtain ⟨i, hi, rfl, rfl, hww⟩ := hrel
    replace hww := hww.symm
    subst hww
    by_cases hlt : i < n
    · have hlti : (i : Int) < n := by omega
      have hx := HW.out i hlt
      have hw1 : IntKind.i64.wrap (k + (i : Int) + 1) = k + ((i + 1 : Nat) : Int) := by simp only [IntKind.wrap_i64, wrap64]; omega
      go_wp2
      go_roundw
      case rel => exact ⟨i + 1, by omega, by simp, by go_num, by first | exact rfl | trivial⟩
      case measure => simp [intOf]; omega
    · have hin : i = n := by omega
      subst hin
      have hlti : ¬ (i : Int) < i := by omega
      go_wp2
      go_ret
      exact ⟨rfl, rfl⟩
theorem heldIntS_none (a : Option Addr) (cap : Nat) (k : Int) (w : World) :
    Calls Try.prog 19 #[.slice a 0 cap, .int .i64 k] w fun e w' => e = .returned (.int .i64 k) ∧ w' = w := by
  go_enter Try.func19, Try.ntmps19
  go_wp2
  go_loopw [1, 5] (fun kv iv wr => kv = .int .i64 k ∧ iv = .int .i64 0 ∧ wr = w) (fun _ _ _ => 0)
  case atStart => exact ⟨rfl, rfl, rfl⟩
  case round =>
    obtain ⟨rfl, rfl, hww⟩ := hrel
    replace hww := hww.symm
    subst hww
    go_wp2
    go_ret
    exact ⟨rfl, rfl⟩
/-- A cell that holds an int and can be written. -/
def Room (w : World) (b o : Nat) : Prop := (∃ x, w.cell? ⟨b, o, none⟩ = some (.int .i64 x)) ∧ w.frozen? ⟨b, o, none⟩ = false
/-- What marking does to blocks between g and E: ints stay ints; the others are as they were. -/
structure Inn (g E : Nat) (w w' : World) : Prop where
  size : w'.heap.size = w.heap.size
  block : ∀ b, b ≤ g ∨ E ≤ b → w'.heap[b]? = w.heap[b]?
  room : ∀ b o, Room w b o → Room w' b o
theorem Inn.refl (g E : Nat) (w : World) : Inn g E w w := ⟨rfl, fun _ _ => rfl, fun _ _ h => h⟩
theorem Inn.trans {g E : Nat} {w w' w'' : World} (h : Inn g E w w') (k : Inn g E w' w'') : Inn g E w w'' := ⟨k.size.trans h.size, fun b hb => (k.block b hb).trans (h.block b hb), fun b o hr => k.room b o (h.room b o hr)⟩
theorem MKd.inn {w wr : World} {b o n g E : Nat} {k : Int} (h : MKd w wr b o k n n) (hg : g < b) (hE : b < E) : Inn g E w wr := by
  refine ⟨h.size, fun c hc => h.block c (by omega), fun c j hr => ?_⟩
  by_cases e : c = b
  · subst e
    refine ⟨?_, (h.froz j).trans hr.2⟩
    rcases h.ints j with hi | hi
    · rw [hi]; exact hr.1
    · exact hi
  · have hb := h.block c e
    exact ⟨by rw [World.cell?_of_block (a := ⟨c, j, none⟩) hb]; exact hr.1, (World.frozen?_of_block (a := ⟨c, j, none⟩) hb).trans hr.2⟩
theorem markI_all (a : Option Addr) (n cap g E : Nat) (k : Int) (w a0 : World) (B0 : Nat) (hk : 0 ≤ k) (hk2 : k + n ≤ 4611686018427387904) (hb : Below B0 a0 w) (hB : B0 ≤ g) (hw : 0 < n → ∃ b o, a = some ⟨b, o, none⟩ ∧ g < b ∧ b < E ∧ ∀ j, j < n → Room w b (o + j)) :
    Calls Try.prog 18 #[.slice a n cap, .int .i64 k] w fun e w' => e = .returned (.int .i64 (k + n)) ∧ Below B0 a0 w' ∧ Inn g E w w' := by
  rcases Nat.eq_zero_or_pos n with h0 | h0
  · subst h0
    refine (markIntS_none a cap k w).mono ?_
    rintro e w' ⟨rfl, rfl⟩
    exact ⟨by simp, hb, Inn.refl _ _ _⟩
  · obtain ⟨b, o, rfl, hgb, hbE, hr⟩ := hw h0
    refine (markIntS_any b o n cap k w a0 B0 hk hk2 hb (by omega) hr).mono ?_
    rintro e w' ⟨rfl, hb', hm⟩
    exact ⟨rfl, hb', hm.inn hgb hbE⟩
end Go.Proofs.Ytjfgojlnpbehfaa
