import Derived.Test.YtfgjleifhjegkaaDoorVN
namespace Go.Proofs.YtfgjleifhjegkaaDoor
open Go.ChangeShapes Go.WideShapes Go.ChangeAt Go.RowKit
set_option linter.unusedVariables false
set_option linter.unusedSimpArgs false
set_option maxRecDepth 100000
/-- A row of values of which the first i have been marked. -/
structure MVd (w wr : World) (g o k i : Nat) : Prop where
  size : w.heap.size ≤ wr.heap.size
  glt : g < w.heap.size
  block : ∀ b, b < w.heap.size → b ≠ g → wr.heap[b]? = w.heap[b]?
  told : ∀ j, j < i → wr.cell? ⟨g, o + j * 3, none⟩ = some (.int .i64 ((k + 3 * j : Nat) : Int)) ∧ wr.cell? ⟨g, o + j * 3 + 1, none⟩ = some (.int .i64 ((k + 3 * j + 1 : Nat) : Int)) ∧ wr.cell? ⟨g, o + j * 3 + 2, none⟩ = some (.string (mtx (k + 3 * j + 2)))
  rest : ∀ c, o + i * 3 ≤ c → wr.cell? ⟨g, c, none⟩ = w.cell? ⟨g, c, none⟩
  froz : ∀ c, wr.frozen? ⟨g, c, none⟩ = w.frozen? ⟨g, c, none⟩
theorem MVd.step {w wr w3 : World} {g o k i : Nat} {x y : Int} {s : ByteArray} (h : MVd w wr g o k i) (h0 : wr.cell? ⟨g, o + i * 3, none⟩ = some (.int .i64 x)) (h1 : wr.cell? ⟨g, o + i * 3 + 1, none⟩ = some (.int .i64 y)) (h2 : wr.cell? ⟨g, o + i * 3 + 2, none⟩ = some (.string s)) (f0 : wr.frozen? ⟨g, o + i * 3, none⟩ = false) (f1 : wr.frozen? ⟨g, o + i * 3 + 1, none⟩ = false) (f2 : wr.frozen? ⟨g, o + i * 3 + 2, none⟩ = false)
    (hb : Below ((wr.setCell ⟨g, o + i * 3, none⟩ (.int .i64 ((k + 3 * i : Nat) : Int))).setCell ⟨g, o + i * 3 + 1, none⟩ (.int .i64 ((k + 3 * i + 1 : Nat) : Int))).heap.size ((wr.setCell ⟨g, o + i * 3, none⟩ (.int .i64 ((k + 3 * i : Nat) : Int))).setCell ⟨g, o + i * 3 + 1, none⟩ (.int .i64 ((k + 3 * i + 1 : Nat) : Int))) w3) :
    MVd w (w3.setCell ⟨g, o + i * 3 + 2, none⟩ (.string (mtx (k + 3 * i + 2)))) g o k (i + 1) := by
  have hs : ((wr.setCell ⟨g, o + i * 3, none⟩ (.int .i64 ((k + 3 * i : Nat) : Int))).setCell ⟨g, o + i * 3 + 1, none⟩ (.int .i64 ((k + 3 * i + 1 : Nat) : Int))).heap.size = wr.heap.size := by simp
  have hgr : g < wr.heap.size := Nat.lt_of_lt_of_le h.glt h.size
  have hg3 : g < w3.heap.size := Nat.lt_of_lt_of_le (by rw [hs]; exact hgr) hb.size
  have e3 : ∀ c, w3.cell? ⟨g, c, none⟩ = ((wr.setCell ⟨g, o + i * 3, none⟩ (.int .i64 ((k + 3 * i : Nat) : Int))).setCell ⟨g, o + i * 3 + 1, none⟩ (.int .i64 ((k + 3 * i + 1 : Nat) : Int))).cell? ⟨g, c, none⟩ := fun c => hb.cell (p := ⟨g, c, none⟩) (by rw [hs]; exact hgr)
  have z3 : ∀ c, w3.frozen? ⟨g, c, none⟩ = wr.frozen? ⟨g, c, none⟩ := fun c => (hb.frozen (p := ⟨g, c, none⟩) (by rw [hs]; exact hgr)).trans (by simp)
  have c0 : w3.cell? ⟨g, o + i * 3, none⟩ = some (.int .i64 ((k + 3 * i : Nat) : Int)) := by rw [e3]; simp [go_sem, h0, f0]
  have c1 : w3.cell? ⟨g, o + i * 3 + 1, none⟩ = some (.int .i64 ((k + 3 * i + 1 : Nat) : Int)) := by rw [e3]; simp [go_sem, h1, f1]
  have c2 : w3.cell? ⟨g, o + i * 3 + 2, none⟩ = some (.string s) := by rw [e3]; simp [go_sem, h2]
  have q2 : w3.frozen? ⟨g, o + i * 3 + 2, none⟩ = false := (z3 _).trans f2
  have oth : ∀ c, c ≠ o + i * 3 → c ≠ o + i * 3 + 1 → c ≠ o + i * 3 + 2 → (w3.setCell ⟨g, o + i * 3 + 2, none⟩ (.string (mtx (k + 3 * i + 2)))).cell? ⟨g, c, none⟩ = wr.cell? ⟨g, c, none⟩ := fun c n0 n1 n2 => by
    rw [World.cell?_setCell_other w3 ⟨g, o + i * 3 + 2, none⟩ ⟨g, c, none⟩ _ (fun e => n2 (congrArg Addr.off e).symm), e3, World.cell?_setCell_other _ ⟨g, o + i * 3 + 1, none⟩ ⟨g, c, none⟩ _ (fun e => n1 (congrArg Addr.off e).symm), World.cell?_setCell_other _ ⟨g, o + i * 3, none⟩ ⟨g, c, none⟩ _ (fun e => n0 (congrArg Addr.off e).symm)]
  refine ⟨?_, h.glt, fun b hb' hg => ?_, fun j hj => ?_, fun c hc => ?_, fun c => ?_⟩
  · have := hb.size; rw [hs] at this; have := h.size; simp; omega
  · rw [Go.Deep.blk_setCell_other _ _ _ _ hg, hb.block b (by rw [hs]; have := h.size; omega), Go.Deep.blk_setCell_other _ _ _ _ hg, Go.Deep.blk_setCell_other _ _ _ _ hg]
    exact h.block b hb' hg
  · by_cases e : j = i
    · subst e
      refine ⟨?_, ?_, by simp [go_sem, c2, q2]⟩
      · rw [World.cell?_setCell_other w3 ⟨g, o + j * 3 + 2, none⟩ ⟨g, o + j * 3, none⟩ _ (fun e => by have := congrArg Addr.off e; simp at this)]; exact c0
      · rw [World.cell?_setCell_other w3 ⟨g, o + j * 3 + 2, none⟩ ⟨g, o + j * 3 + 1, none⟩ _ (fun e => by have := congrArg Addr.off e; simp at this)]; exact c1
    · have t := h.told j (by omega)
      exact ⟨(oth _ (by omega) (by omega) (by omega)).trans t.1, (oth _ (by omega) (by omega) (by omega)).trans t.2.1, (oth _ (by omega) (by omega) (by omega)).trans t.2.2⟩
  · rw [oth c (by omega) (by omega) (by omega)]; exact h.rest c (by omega)
  · have : (w3.setCell ⟨g, o + i * 3 + 2, none⟩ (.string (mtx (k + 3 * i + 2)))).frozen? ⟨g, c, none⟩ = w3.frozen? ⟨g, c, none⟩ := by simp
    rw [this, z3]; exact h.froz c
set_option maxHeartbeats 8000000 in
theorem markVS_any (g o n cap k : Nat) (w a0 : World) (B0 : Nat) (hk : 0 < k) (hk2 : k + 3 * n ≤ 1152921504606846976) (hb : Below B0 a0 w) (hB : B0 ≤ g) (hg : g < w.heap.size) (hw : ∀ j, j < n → (∃ x, w.cell? ⟨g, o + j * 3, none⟩ = some (.int .i64 x)) ∧ (∃ y, w.cell? ⟨g, o + j * 3 + 1, none⟩ = some (.int .i64 y)) ∧ (∃ s, w.cell? ⟨g, o + j * 3 + 2, none⟩ = some (.string s)) ∧ w.frozen? ⟨g, o + j * 3, none⟩ = false ∧ w.frozen? ⟨g, o + j * 3 + 1, none⟩ = false ∧ w.frozen? ⟨g, o + j * 3 + 2, none⟩ = false) :
    Calls Tryd.prog 14 #[.slice (some ⟨g, o, none⟩) n cap, .int .i64 (k : Int)] w fun e w' => e = .returned (.int .i64 ((k + 3 * n : Nat) : Int)) ∧ Below B0 a0 w' ∧ MVd w w' g o k n := by
  have M0 : Hid (MVd w w g o k 0) := ⟨Nat.le_refl _, hg, fun _ _ _ => rfl, fun j h => absurd h (Nat.not_lt_zero _), fun _ _ => rfl, fun _ => rfl⟩
  have HW := hid hw
  clear hw
  go_enter Tryd.func14, Tryd.ntmps14
  go_wp2
  go_loopw [1, 5] (fun kv iv wr => ∃ i : Nat, i ≤ n ∧ kv = .int .i64 ((k + 3 * i : Nat) : Int) ∧ iv = .int .i64 i ∧ Below B0 a0 wr ∧ Hid (MVd w wr g o k i)) (fun _ iv _ => n - (intOf iv).toNat)
  case atStart => exact ⟨0, Nat.zero_le _, by simp, rfl, hb, M0⟩
  case round =>
    clear M0 hb
    obtain ⟨i, hi, rfl, rfl, hb, M⟩ := hrel
    by_cases hlt : i < n
    · have hlti : (i : Int) < n := by omega
      obtain ⟨⟨x, hx⟩, ⟨y, hy⟩, ⟨s, hs⟩, f0, f1, f2⟩ := HW.out i hlt
      have c0 := (M.out.rest (o + i * 3) (by omega)).trans hx
      have c1 := (M.out.rest (o + i * 3 + 1) (by omega)).trans hy
      have c2 := (M.out.rest (o + i * 3 + 2) (by omega)).trans hs
      have g0 := (M.out.froz (o + i * 3)).trans f0
      have g1 := (M.out.froz (o + i * 3 + 1)).trans f1
      have g2 := (M.out.froz (o + i * 3 + 2)).trans f2
      have hgr : g < wr.heap.size := Nat.lt_of_lt_of_le hg M.out.size
      clear hx hy hs f0 f1 f2
      have HS := hid (fun (w3 : World) h => M.out.step (w3 := w3) c0 c1 c2 g0 g1 g2 h)
      have hw1 : IntKind.i64.wrap (((k + 3 * i : Nat) : Int) + 1) = ((k + 3 * i + 1 : Nat) : Int) := by simp only [IntKind.wrap_i64, wrap64]; omega
      have hw2 : IntKind.i64.wrap (((k + 3 * i + 1 : Nat) : Int) + 1) = ((k + 3 * i + 2 : Nat) : Int) := by simp only [IntKind.wrap_i64, wrap64]; omega
      have hw3 : IntKind.i64.wrap (((k + 3 * i + 2 : Nat) : Int) + 1) = ((k + 3 * (i + 1) : Nat) : Int) := by simp only [IntKind.wrap_i64, wrap64]; omega
      have b2 : Below B0 a0 ((wr.setCell ⟨g, o + i * 3, none⟩ (.int .i64 ((k + 3 * i : Nat) : Int))).setCell ⟨g, o + i * 3 + 1, none⟩ (.int .i64 ((k + 3 * i + 1 : Nat) : Int))) := (hb.setCell (show B0 ≤ (⟨g, o + i * 3, none⟩ : Addr).block by simp; omega) _).setCell (show B0 ≤ (⟨g, o + i * 3 + 1, none⟩ : Addr).block by simp; omega) _
      have hmt := markText_any (k + 3 * i + 2) ((wr.setCell ⟨g, o + i * 3, none⟩ (.int .i64 ((k + 3 * i : Nat) : Int))).setCell ⟨g, o + i * 3 + 1, none⟩ (.int .i64 ((k + 3 * i + 1 : Nat) : Int))) (by omega) (by omega)
      have e2 : ((wr.setCell ⟨g, o + i * 3, none⟩ (.int .i64 ((k + 3 * i : Nat) : Int))).setCell ⟨g, o + i * 3 + 1, none⟩ (.int .i64 ((k + 3 * i + 1 : Nat) : Int))).cell? ⟨g, o + i * 3 + 2, none⟩ = some (.string s) := by simp [go_sem, c2]
      have z2 : ((wr.setCell ⟨g, o + i * 3, none⟩ (.int .i64 ((k + 3 * i : Nat) : Int))).setCell ⟨g, o + i * 3 + 1, none⟩ (.int .i64 ((k + 3 * i + 1 : Nat) : Int))).frozen? ⟨g, o + i * 3 + 2, none⟩ = false := by simpa using g2
      have hsz : B0 ≤ ((wr.setCell ⟨g, o + i * 3, none⟩ (.int .i64 ((k + 3 * i : Nat) : Int))).setCell ⟨g, o + i * 3 + 1, none⟩ (.int .i64 ((k + 3 * i + 1 : Nat) : Int))).heap.size := by simp; omega
      have hgs : g < ((wr.setCell ⟨g, o + i * 3, none⟩ (.int .i64 ((k + 3 * i : Nat) : Int))).setCell ⟨g, o + i * 3 + 1, none⟩ (.int .i64 ((k + 3 * i + 1 : Nat) : Int))).heap.size := by simpa using hgr
      clear M hb
      go_wp2_with (go_at_call 35; fail)
      refine hmt.mono ?_
      rintro e w3 ⟨rfl, hb3⟩
      have c23 := (hb3.cell (p := ⟨g, o + i * 3 + 2, none⟩) hgs).trans e2
      have z23 := (hb3.frozen (p := ⟨g, o + i * 3 + 2, none⟩) hgs).trans z2
      have HM := hid (HS.out w3 hb3)
      have bw3 : Below B0 a0 w3 := b2.trans (hb3.mono hsz)
      have bw4 := bw3.setCell (show B0 ≤ (⟨g, o + i * 3 + 2, none⟩ : Addr).block by simp; omega) (.string (mtx (k + 3 * i + 2)))
      clear hmt HS c0 c1 c2 g0 g1 g2 e2 z2 b2 hb3 bw3
      go_wp2
      go_roundw
      case rel => exact ⟨i + 1, by omega, rfl, by go_num, bw4, HM⟩
      case measure => simp [intOf]; omega
    · have hin : i = n := by omega
      subst hin
      have hlti : ¬ (i : Int) < i := by omega
      go_wp2
      go_ret
      exact ⟨rfl, hb, M.out⟩
end Go.Proofs.YtfgjleifhjegkaaDoor
