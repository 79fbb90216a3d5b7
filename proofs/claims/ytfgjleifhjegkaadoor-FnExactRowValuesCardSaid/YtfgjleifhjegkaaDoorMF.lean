import Derived.Test.YtfgjleifhjegkaaDoorVM
import Derived.Test.YtfgjleifhjegkaaDoorRO
namespace Go.Proofs.YtfgjleifhjegkaaDoor
open Go.ChangeShapes Go.WideShapes Go.ChangeAt Go.RowKit
set_option linter.unusedVariables false
set_option linter.unusedSimpArgs false
set_option maxRecDepth 100000
/-- A row of bytes in which k, k + 1, .. have been written, i of them so far. -/
structure MYd (w wr : World) (g o k i n : Nat) : Prop where
  size : wr.heap.size = w.heap.size
  block : ∀ b, b ≠ g → wr.heap[b]? = w.heap[b]?
  told : ∀ j, j < i → wr.cell? ⟨g, o + j, none⟩ = some (.int .u8 (((k + j : Nat) : Int) % 256))
  room : ∀ j, j < n → (∃ x, wr.cell? ⟨g, o + j, none⟩ = some (.int .u8 x)) ∧ wr.frozen? ⟨g, o + j, none⟩ = false
theorem MYd.step {w wr : World} {g o k i n : Nat} (h : MYd w wr g o k i n) (hi : i < n) : MYd w (wr.setCell ⟨g, o + i, none⟩ (.int .u8 (((k + i : Nat) : Int) % 256))) g o k (i + 1) n := by
  have hs : (wr.setCell ⟨g, o + i, none⟩ (.int .u8 (((k + i : Nat) : Int) % 256))).cell? ⟨g, o + i, none⟩ = some (.int .u8 (((k + i : Nat) : Int) % 256)) := by
    obtain ⟨⟨x, hx⟩, hf⟩ := h.room i hi
    simp [go_sem, hx, hf]
  have ho : ∀ j, j ≠ i → (wr.setCell ⟨g, o + i, none⟩ (.int .u8 (((k + i : Nat) : Int) % 256))).cell? ⟨g, o + j, none⟩ = wr.cell? ⟨g, o + j, none⟩ := fun j hj => World.cell?_setCell_other wr ⟨g, o + i, none⟩ ⟨g, o + j, none⟩ _ (fun e => by have := congrArg Addr.off e; simp at this; omega)
  refine ⟨by simpa using h.size, fun b hb => (Go.Deep.blk_setCell_other wr ⟨g, o + i, none⟩ _ b hb).trans (h.block b hb), fun j hj => ?_, fun j hj => ⟨?_, by simpa using (h.room j hj).2⟩⟩
  · by_cases e : j = i
    · subst e; exact hs
    · rw [ho j e]; exact h.told j (by omega)
  · by_cases e : j = i
    · subst e; exact ⟨_, hs⟩
    · rw [ho j e]; exact (h.room j hj).1
set_option maxHeartbeats 4000000 in
theorem markByteS_any (g o n cap k : Nat) (w a0 : World) (B0 : Nat) (hk2 : k + n ≤ 4611686018427387904) (hb : Below B0 a0 w) (hB : B0 ≤ g) (hw : ∀ j, j < n → (∃ x, w.cell? ⟨g, o + j, none⟩ = some (.int .u8 x)) ∧ w.frozen? ⟨g, o + j, none⟩ = false) :
    Calls Tryd.prog 15 #[.slice (some ⟨g, o, none⟩) n cap, .int .i64 (k : Int)] w fun e w' => e = .returned (.int .i64 ((k + n : Nat) : Int)) ∧ Below B0 a0 w' ∧ MYd w w' g o k n n := by
  have M0 : Hid (MYd w w g o k 0 n) := ⟨rfl, fun _ _ => rfl, fun j h => absurd h (Nat.not_lt_zero _), hw⟩
  clear hw
  go_enter Tryd.func15, Tryd.ntmps15
  go_wp2
  go_loopw [1, 5] (fun kv iv wr => ∃ i : Nat, i ≤ n ∧ kv = .int .i64 ((k + i : Nat) : Int) ∧ iv = .int .i64 i ∧ Below B0 a0 wr ∧ Hid (MYd w wr g o k i n)) (fun _ iv _ => n - (intOf iv).toNat)
  case atStart => exact ⟨0, Nat.zero_le _, by simp, rfl, hb, M0⟩
  case round =>
    clear M0 hb
    obtain ⟨i, hi, rfl, rfl, hb, M⟩ := hrel
    by_cases hlt : i < n
    · have hlti : (i : Int) < n := by omega
      obtain ⟨⟨x, hx⟩, hf⟩ := M.out.room i hlt
      have M2 := hid (M.out.step hlt)
      have b2 := hb.setCell (show B0 ≤ (⟨g, o + i, none⟩ : Addr).block by simp; omega) (.int .u8 (((k + i : Nat) : Int) % 256))
      have hw1 : IntKind.i64.wrap (((k + i : Nat) : Int) + 1) = ((k + (i + 1) : Nat) : Int) := by simp only [IntKind.wrap_i64, wrap64]; omega
      clear M hb
      generalize hki : k + i = ki at *
      go_wp2
      go_roundw
      case rel => exact ⟨i + 1, by omega, by simp, by go_num, b2, M2⟩
      case measure => simp [intOf]; omega
    · have hin : i = n := by omega
      subst hin
      have hlti : ¬ (i : Int) < i := by omega
      go_wp2
      go_ret
      exact ⟨rfl, hb, M.out⟩
set_option maxHeartbeats 4000000 in
theorem heldByteS_any (g o n cap k : Nat) (w : World) (hk2 : k + n ≤ 4611686018427387904) (hw : ∀ j, j < n → w.cell? ⟨g, o + j, none⟩ = some (.int .u8 (((k + j : Nat) : Int) % 256))) :
    Calls Tryd.prog 16 #[.slice (some ⟨g, o, none⟩) n cap, .int .i64 (k : Int)] w fun e w' => e = .returned (.int .i64 ((k + n : Nat) : Int)) ∧ w' = w := by
  have HW := hid hw
  clear hw
  go_enter Tryd.func16, Tryd.ntmps16
  go_wp2
  go_loopw [1, 5] (fun kv iv wr => ∃ i : Nat, i ≤ n ∧ kv = .int .i64 ((k + i : Nat) : Int) ∧ iv = .int .i64 i ∧ wr = w) (fun _ iv _ => n - (intOf iv).toNat)
  case atStart => exact ⟨0, Nat.zero_le _, by simp, rfl, rfl⟩
  case round =>
    obtain ⟨i, hi, rfl, rfl, hww⟩ := hrel
    replace hww := hww.symm
    subst hww
    by_cases hlt : i < n
    · have hlti : (i : Int) < n := by omega
      have hx := HW.out i hlt
      have hw1 : IntKind.i64.wrap (((k + i : Nat) : Int) + 1) = ((k + (i + 1) : Nat) : Int) := by simp only [IntKind.wrap_i64, wrap64]; omega
      generalize hki : k + i = ki at *
      go_wp2
      go_roundw
      case rel => exact ⟨i + 1, by omega, by simp, by go_num, by first | exact rfl | trivial⟩
      case measure => simp [intOf]; omega
    · have hin : i = n := by omega
      subst hin
      have hlti : ¬ (i : Int) < i := by omega
      go_wp2
      go_ret
      exact ⟨rfl, rfl⟩
end Go.Proofs.YtfgjleifhjegkaaDoor
namespace Go.Proofs.YtfgjleifhjegkaaDoor
open Go.ChangeShapes Go.WideShapes Go.ChangeAt Go.RowKit
set_option linter.unusedVariables false
set_option linter.unusedSimpArgs false
set_option maxRecDepth 100000
/-- A row of values of which the first i have been marked. -/
structure MVd (w wr : World) (g o k i : Nat) : Prop where
  size : w.heap.size ≤ wr.heap.size
  glt : g < w.heap.size
  block : ∀ b, b < w.heap.size → b ≠ g → wr.heap[b]? = w.heap[b]?
  told : ∀ j, j < i → wr.cell? ⟨g, o + j * 3, none⟩ = some (.int .i64 ((k + 3 * j : Nat) : Int)) ∧ wr.cell? ⟨g, o + j * 3 + 1, none⟩ = some (.int .i64 ((k + 3 * j + 1 : Nat) : Int)) ∧ wr.cell? ⟨g, o + j * 3 + 2, none⟩ = some (.string (mtx (k + 3 * j + 2)))
  rest : ∀ c, o + i * 3 ≤ c → wr.cell? ⟨g, c, none⟩ = w.cell? ⟨g, c, none⟩
  froz : ∀ c, wr.frozen? ⟨g, c, none⟩ = w.frozen? ⟨g, c, none⟩
theorem MVd.step {w wr w3 : World} {g o k i : Nat} {x y : Int} {s : ByteArray} (h : MVd w wr g o k i) (h0 : wr.cell? ⟨g, o + i * 3, none⟩ = some (.int .i64 x)) (h1 : wr.cell? ⟨g, o + i * 3 + 1, none⟩ = some (.int .i64 y)) (h2 : wr.cell? ⟨g, o + i * 3 + 2, none⟩ = some (.string s)) (f0 : wr.frozen? ⟨g, o + i * 3, none⟩ = false) (f1 : wr.frozen? ⟨g, o + i * 3 + 1, none⟩ = false) (f2 : wr.frozen? ⟨g, o + i * 3 + 2, none⟩ = false)
    (hb : Below ((wr.setCell ⟨g, o + i * 3, none⟩ (.int .i64 ((k + 3 * i : Nat) : Int))).setCell ⟨g, o + i * 3 + 1, none⟩ (.int .i64 ((k + 3 * i + 1 : Nat) : Int))).heap.size ((wr.setCell ⟨g, o + i * 3, none⟩ (.int .i64 ((k + 3 * i : Nat) : Int))).setCell ⟨g, o + i * 3 + 1, none⟩ (.int .i64 ((k + 3 * i + 1 : Nat) : Int))) w3) :
    MVd w (w3.setCell ⟨g, o + i * 3 + 2, none⟩ (.string (mtx (k + 3 * i + 2)))) g o k (i + 1) := by
  have hs : ((wr.setCell ⟨g, o + i * 3, none⟩ (.int .i64 ((k + 3 * i : Nat) : Int))).setCell ⟨g, o + i * 3 + 1, none⟩ (.int .i64 ((k + 3 * i + 1 : Nat) : Int))).heap.size = wr.heap.size := by simp
  have hgr : g < wr.heap.size := Nat.lt_of_lt_of_le h.glt h.size
  have hg3 : g < w3.heap.size := Nat.lt_of_lt_of_le (by rw [hs]; exact hgr) hb.size
  have e3 : ∀ c, w3.cell? ⟨g, c, none⟩ = ((wr.setCell ⟨g, o + i * 3, none⟩ (.int .i64 ((k + 3 * i : Nat) : Int))).setCell ⟨g, o + i * 3 + 1, none⟩ (.int .i64 ((k + 3 * i + 1 : Nat) : Int))).cell? ⟨g, c, none⟩ := fun c => hb.cell (p := ⟨g, c, none⟩) (by rw [hs]; exact hgr)
  have z3 : ∀ c, w3.frozen? ⟨g, c, none⟩ = wr.frozen? ⟨g, c, none⟩ := fun c => (hb.frozen (p := ⟨g, c, none⟩) (by rw [hs]; exact hgr)).trans (by simp)
  have c0 : w3.cell? ⟨g, o + i * 3, none⟩ = some (.int .i64 ((k + 3 * i : Nat) : Int)) := by rw [e3]; simp [go_sem, h0, f0]
  have c1 : w3.cell? ⟨g, o + i * 3 + 1, none⟩ = some (.int .i64 ((k + 3 * i + 1 : Nat) : Int)) := by rw [e3]; simp [go_sem, h1, f1]
  have c2 : w3.cell? ⟨g, o + i * 3 + 2, none⟩ = some (.string s) := by rw [e3]; simp [go_sem, h2]
  have q2 : w3.frozen? ⟨g, o + i * 3 + 2, none⟩ = false := (z3 _).trans f2
  have oth : ∀ c, c ≠ o + i * 3 → c ≠ o + i * 3 + 1 → c ≠ o + i * 3 + 2 → (w3.setCell ⟨g, o + i * 3 + 2, none⟩ (.string (mtx (k + 3 * i + 2)))).cell? ⟨g, c, none⟩ = wr.cell? ⟨g, c, none⟩ := fun c n0 n1 n2 => by
    rw [World.cell?_setCell_other w3 ⟨g, o + i * 3 + 2, none⟩ ⟨g, c, none⟩ _ (fun e => n2 (congrArg Addr.off e).symm), e3, World.cell?_setCell_other _ ⟨g, o + i * 3 + 1, none⟩ ⟨g, c, none⟩ _ (fun e => n1 (congrArg Addr.off e).symm), World.cell?_setCell_other _ ⟨g, o + i * 3, none⟩ ⟨g, c, none⟩ _ (fun e => n0 (congrArg Addr.off e).symm)]
  refine ⟨?_, h.glt, fun b hb' hg => ?_, fun j hj => ?_, fun c hc => ?_, fun c => ?_⟩
  · have := hb.size; rw [hs] at this; have := h.size; simp; omega
  · rw [Go.Deep.blk_setCell_other _ _ _ _ hg, hb.block b (by rw [hs]; have := h.size; omega), Go.Deep.blk_setCell_other _ _ _ _ hg, Go.Deep.blk_setCell_other _ _ _ _ hg]
    exact h.block b hb' hg
  · by_cases e : j = i
    · subst e
      refine ⟨?_, ?_, by simp [go_sem, c2, q2]⟩
      · rw [World.cell?_setCell_other w3 ⟨g, o + j * 3 + 2, none⟩ ⟨g, o + j * 3, none⟩ _ (fun e => by have := congrArg Addr.off e; simp at this)]; exact c0
      · rw [World.cell?_setCell_other w3 ⟨g, o + j * 3 + 2, none⟩ ⟨g, o + j * 3 + 1, none⟩ _ (fun e => by have := congrArg Addr.off e; simp at this)]; exact c1
    · have t := h.told j (by omega)
      exact ⟨(oth _ (by omega) (by omega) (by omega)).trans t.1, (oth _ (by omega) (by omega) (by omega)).trans t.2.1, (oth _ (by omega) (by omega) (by omega)).trans t.2.2⟩
  · rw [oth c (by omega) (by omega) (by omega)]; exact h.rest c (by omega)
  · have : (w3.setCell ⟨g, o + i * 3 + 2, none⟩ (.string (mtx (k + 3 * i + 2)))).frozen? ⟨g, c, none⟩ = w3.frozen? ⟨g, c, none⟩ := by simp
    rw [this, z3]; exact h.froz c
set_option maxHeartbeats 8000000 in
theorem markVS_any (g o n cap k : Nat) (w a0 : World) (B0 : Nat) (hk : 0 < k) (hk2 : k + 3 * n ≤ 1152921504606846976) (hb : Below B0 a0 w) (hB : B0 ≤ g) (hg : g < w.heap.size) (hw : ∀ j, j < n → (∃ x, w.cell? ⟨g, o + j * 3, none⟩ = some (.int .i64 x)) ∧ (∃ y, w.cell? ⟨g, o + j * 3 + 1, none⟩ = some (.int .i64 y)) ∧ (∃ s, w.cell? ⟨g, o + j * 3 + 2, none⟩ = some (.string s)) ∧ w.frozen? ⟨g, o + j * 3, none⟩ = false ∧ w.frozen? ⟨g, o + j * 3 + 1, none⟩ = false ∧ w.frozen? ⟨g, o + j * 3 + 2, none⟩ = false) :
    Calls Tryd.prog 14 #[.slice (some ⟨g, o, none⟩) n cap, .int .i64 (k : Int)] w fun e w' => e = .returned (.int .i64 ((k + 3 * n : Nat) : Int)) ∧ Below B0 a0 w' ∧ MVd w w' g o k n := by
  have M0 : Hid (MVd w w g o k 0) := ⟨Nat.le_refl _, hg, fun _ _ _ => rfl, fun j h => absurd h (Nat.not_lt_zero _), fun _ _ => rfl, fun _ => rfl⟩
  have HW := hid hw
  clear hw
  go_enter Tryd.func14, Tryd.ntmps14
  go_wp2
  go_loopw [1, 5] (fun kv iv wr => ∃ i : Nat, i ≤ n ∧ kv = .int .i64 ((k + 3 * i : Nat) : Int) ∧ iv = .int .i64 i ∧ Below B0 a0 wr ∧ Hid (MVd w wr g o k i)) (fun _ iv _ => n - (intOf iv).toNat)
  case atStart => exact ⟨0, Nat.zero_le _, by simp, rfl, hb, M0⟩
  case round =>
    clear M0 hb
    obtain ⟨i, hi, rfl, rfl, hb, M⟩ := hrel
    by_cases hlt : i < n
    · have hlti : (i : Int) < n := by omega
      obtain ⟨⟨x, hx⟩, ⟨y, hy⟩, ⟨s, hs⟩, f0, f1, f2⟩ := HW.out i hlt
      have c0 := (M.out.rest (o + i * 3) (by omega)).trans hx
      have c1 := (M.out.rest (o + i * 3 + 1) (by omega)).trans hy
      have c2 := (M.out.rest (o + i * 3 + 2) (by omega)).trans hs
      have g0 := (M.out.froz (o + i * 3)).trans f0
      have g1 := (M.out.froz (o + i * 3 + 1)).trans f1
      have g2 := (M.out.froz (o + i * 3 + 2)).trans f2
      have hgr : g < wr.heap.size := Nat.lt_of_lt_of_le hg M.out.size
      clear hx hy hs f0 f1 f2
      have HS := hid (fun (w3 : World) h => M.out.step (w3 := w3) c0 c1 c2 g0 g1 g2 h)
      have hw1 : IntKind.i64.wrap (((k + 3 * i : Nat) : Int) + 1) = ((k + 3 * i + 1 : Nat) : Int) := by simp only [IntKind.wrap_i64, wrap64]; omega
      have hw2 : IntKind.i64.wrap (((k + 3 * i + 1 : Nat) : Int) + 1) = ((k + 3 * i + 2 : Nat) : Int) := by simp only [IntKind.wrap_i64, wrap64]; omega
      have hw3 : IntKind.i64.wrap (((k + 3 * i + 2 : Nat) : Int) + 1) = ((k + 3 * (i + 1) : Nat) : Int) := by simp only [IntKind.wrap_i64, wrap64]; omega
      have b2 : Below B0 a0 ((wr.setCell ⟨g, o + i * 3, none⟩ (.int .i64 ((k + 3 * i : Nat) : Int))).setCell ⟨g, o + i * 3 + 1, none⟩ (.int .i64 ((k + 3 * i + 1 : Nat) : Int))) := (hb.setCell (show B0 ≤ (⟨g, o + i * 3, none⟩ : Addr).block by simp; omega) _).setCell (show B0 ≤ (⟨g, o + i * 3 + 1, none⟩ : Addr).block by simp; omega) _
      have hmt := markText_any (k + 3 * i + 2) ((wr.setCell ⟨g, o + i * 3, none⟩ (.int .i64 ((k + 3 * i : Nat) : Int))).setCell ⟨g, o + i * 3 + 1, none⟩ (.int .i64 ((k + 3 * i + 1 : Nat) : Int))) (by omega) (by omega)
      have e2 : ((wr.setCell ⟨g, o + i * 3, none⟩ (.int .i64 ((k + 3 * i : Nat) : Int))).setCell ⟨g, o + i * 3 + 1, none⟩ (.int .i64 ((k + 3 * i + 1 : Nat) : Int))).cell? ⟨g, o + i * 3 + 2, none⟩ = some (.string s) := by simp [go_sem, c2]
      have z2 : ((wr.setCell ⟨g, o + i * 3, none⟩ (.int .i64 ((k + 3 * i : Nat) : Int))).setCell ⟨g, o + i * 3 + 1, none⟩ (.int .i64 ((k + 3 * i + 1 : Nat) : Int))).frozen? ⟨g, o + i * 3 + 2, none⟩ = false := by simpa using g2
      have hsz : B0 ≤ ((wr.setCell ⟨g, o + i * 3, none⟩ (.int .i64 ((k + 3 * i : Nat) : Int))).setCell ⟨g, o + i * 3 + 1, none⟩ (.int .i64 ((k + 3 * i + 1 : Nat) : Int))).heap.size := by simp; omega
      have hgs : g < ((wr.setCell ⟨g, o + i * 3, none⟩ (.int .i64 ((k + 3 * i : Nat) : Int))).setCell ⟨g, o + i * 3 + 1, none⟩ (.int .i64 ((k + 3 * i + 1 : Nat) : Int))).heap.size := by simpa using hgr
      clear M hb
      go_wp2_with (go_at_call 35; fail)
      refine hmt.mono ?_
      rintro e w3 ⟨rfl, hb3⟩
      have c23 := (hb3.cell (p := ⟨g, o + i * 3 + 2, none⟩) hgs).trans e2
      have z23 := (hb3.frozen (p := ⟨g, o + i * 3 + 2, none⟩) hgs).trans z2
      have HM := hid (HS.out w3 hb3)
      have bw3 : Below B0 a0 w3 := b2.trans (hb3.mono hsz)
      have bw4 := bw3.setCell (show B0 ≤ (⟨g, o + i * 3 + 2, none⟩ : Addr).block by simp; omega) (.string (mtx (k + 3 * i + 2)))
      clear hmt HS c0 c1 c2 g0 g1 g2 e2 z2 b2 hb3 bw3
      go_wp2
      go_roundw
      case rel => exact ⟨i + 1, by omega, rfl, by go_num, bw4, HM⟩
      case measure => simp [intOf]; omega
    · have hin : i = n := by omega
      subst hin
      have hlti : ¬ (i : Int) < i := by omega
      go_wp2
      go_ret
      exact ⟨rfl, hb, M.out⟩
end Go.Proofs.YtfgjleifhjegkaaDoor
namespace Go.Proofs.YtfgjleifhjegkaaDoor
open Go.ChangeShapes Go.WideShapes Go.ChangeAt Go.RowKit
set_option linter.unusedVariables false
set_option linter.unusedSimpArgs false
set_option maxRecDepth 100000
theorem RSW.roomsY {B : Nat} {w : World} {a : Option Addr} {cap : Nat} {us : List Int} (h : RSW 1 CY B w (.slice a us.length cap) us) : 0 < us.length → ∃ b o, a = some ⟨b, o, none⟩ ∧ B ≤ b ∧ b < w.heap.size ∧ ∀ j, j < us.length → (∃ x, w.cell? ⟨b, o + j, none⟩ = some (.int .u8 x)) ∧ w.frozen? ⟨b, o + j, none⟩ = false := fun hp => by
  obtain ⟨a', cap', he, h2⟩ := h
  simp only [Value.slice.injEq] at he
  obtain ⟨rfl, _, rfl⟩ := he
  obtain ⟨g, o, ha, hB, hg, hc⟩ := h2 hp
  refine ⟨g, o, ha, hB, hg, fun j hj => ?_⟩
  obtain ⟨cs, x, y⟩ := hc j hj
  have := y 0 (by omega)
  rw [Nat.mul_one, Nat.add_zero] at this
  unfold CY at x
  subst x
  exact ⟨⟨_, this.1⟩, this.2⟩
/-- The cells that a slice of bytes leads to hold k, k + 1, .. -/
def ToldY (w : World) (a : Option Addr) (n k : Nat) : Prop := 0 < n → ∃ b o, a = some ⟨b, o, none⟩ ∧ b < w.heap.size ∧ ∀ j, j < n → w.cell? ⟨b, o + j, none⟩ = some (.int .u8 (((k + j : Nat) : Int) % 256))
theorem ToldY.below {w w' : World} {a : Option Addr} {n k : Nat} (h : ToldY w a n k) (hb : Below w.heap.size w w') : ToldY w' a n k := fun hp => by
  obtain ⟨b, o, h1, h2, h3⟩ := h hp
  exact ⟨b, o, h1, Nat.lt_of_lt_of_le h2 hb.size, fun j hj => (hb.cell (p := ⟨b, o + j, none⟩) h2).trans (h3 j hj)⟩
theorem markByteS_none (a : Option Addr) (cap : Nat) (k : Int) (w : World) :
    Calls Tryd.prog 15 #[.slice a 0 cap, .int .i64 k] w fun e w' => e = .returned (.int .i64 k) ∧ w' = w := by
  go_enter Tryd.func15, Tryd.ntmps15
  go_wp2
  go_loopw [1, 5] (fun kv iv wr => kv = .int .i64 k ∧ iv = .int .i64 0 ∧ wr = w) (fun _ _ _ => 0)
  case atStart => exact ⟨rfl, rfl, rfl⟩
  case round =>
    obtain ⟨rfl, rfl, hww⟩ := hrel
    replace hww := hww.symm
    subst hww
    go_wp2
    go_ret
    exact ⟨rfl, rfl⟩
theorem heldByteS_none (a : Option Addr) (cap : Nat) (k : Int) (w : World) :
    Calls Tryd.prog 16 #[.slice a 0 cap, .int .i64 k] w fun e w' => e = .returned (.int .i64 k) ∧ w' = w := by
  go_enter Tryd.func16, Tryd.ntmps16
  go_wp2
  go_loopw [1, 5] (fun kv iv wr => kv = .int .i64 k ∧ iv = .int .i64 0 ∧ wr = w) (fun _ _ _ => 0)
  case atStart => exact ⟨rfl, rfl, rfl⟩
  case round =>
    obtain ⟨rfl, rfl, hww⟩ := hrel
    replace hww := hww.symm
    subst hww
    go_wp2
    go_ret
    exact ⟨rfl, rfl⟩
theorem markY_told (a : Option Addr) (cap B : Nat) (us : List Int) (k : Nat) (w a0 : World) (B0 : Nat) (hk2 : k + us.length ≤ 4611686018427387904) (hb : Below B0 a0 w) (hB : B0 ≤ B) (hv : RSW 1 CY B w (.slice a us.length cap) us) :
    Calls Tryd.prog 15 #[.slice a us.length cap, .int .i64 (k : Int)] w fun e w' => e = .returned (.int .i64 ((k + us.length : Nat) : Int)) ∧ Below B0 a0 w' ∧ ToldY w' a us.length k := by
  rcases Nat.eq_zero_or_pos us.length with h0 | h0
  · rw [h0]
    refine (markByteS_none a cap k w).mono ?_
    rintro e w' ⟨rfl, rfl⟩
    exact ⟨by simp, hb, fun h => absurd h (Nat.lt_irrefl _)⟩
  · obtain ⟨b, o, rfl, hgb, hbE, hr⟩ := hv.roomsY h0
    refine (markByteS_any b o us.length cap k w a0 B0 hk2 hb (by omega) hr).mono ?_
    rintro e w' ⟨rfl, hb', hm⟩
    exact ⟨rfl, hb', fun _ => ⟨b, o, rfl, by rw [hm.size]; exact hbE, hm.told⟩⟩
theorem heldY_told (a : Option Addr) (n cap k : Nat) (w : World) (hk2 : k + n ≤ 4611686018427387904) (hv : ToldY w a n k) :
    Calls Tryd.prog 16 #[.slice a n cap, .int .i64 (k : Int)] w fun e w' => e = .returned (.int .i64 ((k + n : Nat) : Int)) ∧ w' = w := by
  rcases Nat.eq_zero_or_pos n with h0 | h0
  · subst h0
    refine (heldByteS_none a cap k w).mono ?_
    rintro e w' ⟨rfl, rfl⟩
    exact ⟨by simp, rfl⟩
  · obtain ⟨b, o, rfl, hb, hc⟩ := hv h0
    exact heldByteS_any b o n cap k w hk2 hc
/-- Bytes in blocks that are as they were. -/
theorem RSW.kept {B : Nat} {w w' : World} {v : Value} {us : List Int} (h : RSW 1 CY B w v us) (hs : w.heap.size ≤ w'.heap.size) (hh : ∀ b, B ≤ b → b < w.heap.size → w'.heap[b]? = w.heap[b]?) : RSW 1 CY B w' v us := by
  obtain ⟨a, cap, rfl, h2⟩ := h
  refine ⟨a, cap, rfl, fun hp => ?_⟩
  obtain ⟨g, o, ha, hB, hg, hc⟩ := h2 hp
  refine ⟨g, o, ha, hB, by omega, fun i hi => ?_⟩
  obtain ⟨cs, x, y⟩ := hc i hi
  have hb := hh g hB hg
  exact ⟨cs, x, fun j hj => ⟨(World.cell?_of_block (a := ⟨g, o + i * 1 + j, none⟩) hb).trans (y j hj).1, (World.frozen?_of_block (a := ⟨g, o + i * 1 + j, none⟩) hb).trans (y j hj).2⟩⟩
/-- Marking a row of values that was made: its block alone is written. -/
theorem markV_row (g cap : Nat) (us : List VA) (w5 w a0 : World) (B0 B : Nat) (hn : us.length ≤ 1048576) (hrow : RowW 3 CV B w5 g us) (hold : Below w5.heap.size w5 w) (hb : Below B0 a0 w) (hB : B0 ≤ g) :
    Calls Tryd.prog 14 #[.slice (some ⟨g, 0, none⟩) us.length cap, .int .i64 1] w fun e w' => e = .returned (.int .i64 ((1 + 3 * us.length : Nat) : Int)) ∧ Below B0 a0 w' ∧ w.heap.size ≤ w'.heap.size ∧ ∀ b, b < w.heap.size → b ≠ g → w'.heap[b]? = w.heap[b]? := by
  have hr := hrow.below liesV hold
  refine (markVS_any g 0 us.length cap 1 w a0 B0 (by omega) (by omega) hb hB hr.1 (fun j hj => ?_)).mono ?_
  · obtain ⟨cs, x, y⟩ := hr.2 j hj
    unfold CV at x
    subst x
    have y0 := y 0 (by omega)
    have y1 := y 1 (by omega)
    have y2 := y 2 (by omega)
    rw [Nat.add_zero] at y0
    rw [Nat.zero_add]
    exact ⟨⟨_, y0.1⟩, ⟨_, y1.1⟩, ⟨_, y2.1⟩, y0.2, y1.2, y2.2⟩
  · rintro e w' ⟨rfl, hb', hm⟩
    exact ⟨rfl, hb', hm.size, hm.block⟩
end Go.Proofs.YtfgjleifhjegkaaDoor
