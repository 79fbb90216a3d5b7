import Derived.Test.YtjfgojlnpbehfaaMK
import Derived.Test.YtjfgojlnpbehfaaDW
namespace Go.Proofs.Ytjfgojlnpbehfaa
open Go.ChangeShapes Go.WideShapes Go.ChangeAt Go.RowKit
set_option linter.unusedVariables false
set_option linter.unusedSimpArgs false
set_option maxRecDepth 100000
theorem RSW.rooms {B : Nat} {w : World} {a : Option Addr} {cap : Nat} {us : List Int} (h : RSW 1 CI B w (.slice a us.length cap) us) : 0 < us.length → ∃ b o, a = some ⟨b, o, none⟩ ∧ B ≤ b ∧ b < w.heap.size ∧ ∀ j, j < us.length → Room w b (o + j) := fun hp => by
  obtain ⟨a', cap', he, h2⟩ := h
  simp only [Value.slice.injEq] at he
  obtain ⟨rfl, _, rfl⟩ := he
  obtain ⟨g, o, ha, hB, hg, hc⟩ := h2 hp
  refine ⟨g, o, ha, hB, hg, fun j hj => ?_⟩
  obtain ⟨cs, hC, hcell⟩ := hc j hj
  unfold CI at hC
  subst hC
  have := hcell 0 (by omega)
  rw [Nat.mul_one, Nat.add_zero] at this
  exact ⟨⟨_, this.1⟩, this.2⟩
/-- What marking the first i of a row of histories leaves. -/
structure MTd (w5 w wr : World) (g i n : Nat) : Prop where
  size : wr.heap.size = w.heap.size
  high : ∀ b, w5.heap.size ≤ b → wr.heap[b]? = w.heap[b]?
  row : ∀ j, i ≤ j → j < n → ∀ l, l < 4 → wr.cell? ⟨g, j * 4 + l, none⟩ = w5.cell? ⟨g, j * 4 + l, none⟩ ∧ wr.frozen? ⟨g, j * 4 + l, none⟩ = w5.frozen? ⟨g, j * 4 + l, none⟩
  room : ∀ b o, g < b → b < w5.heap.size → Room w5 b o → Room wr b o
theorem MTd.step {w5 w wr w4 : World} {g i n : Nat} {u v : Value} (h : MTd w5 w wr g i n) (hg : g < w5.heap.size) (hn : Inn g w5.heap.size ((wr.setCell ⟨g, i * 4, none⟩ u).setCell ⟨g, i * 4 + 1, none⟩ v) w4) : MTd w5 w w4 g (i + 1) n := by
  refine ⟨by rw [hn.size]; simpa using h.size, fun b hb => ?_, fun j hj hjn l hl => ?_, fun b o hgb hbE hr => ?_⟩
  · rw [hn.block b (.inr hb), Go.Deep.blk_setCell_other _ _ _ _ (show b ≠ g by omega), Go.Deep.blk_setCell_other _ _ _ _ (show b ≠ g by omega)]
    exact h.high b hb
  · have hb := hn.block g (.inl (Nat.le_refl _))
    have e1 : ((wr.setCell ⟨g, i * 4, none⟩ u).setCell ⟨g, i * 4 + 1, none⟩ v).cell? ⟨g, j * 4 + l, none⟩ = wr.cell? ⟨g, j * 4 + l, none⟩ := by
      rw [World.cell?_setCell_other _ ⟨g, i * 4 + 1, none⟩ ⟨g, j * 4 + l, none⟩ _ (fun e => by have := congrArg Addr.off e; simp at this; omega), World.cell?_setCell_other _ ⟨g, i * 4, none⟩ ⟨g, j * 4 + l, none⟩ _ (fun e => by have := congrArg Addr.off e; simp at this; omega)]
    have e2 : ((wr.setCell ⟨g, i * 4, none⟩ u).setCell ⟨g, i * 4 + 1, none⟩ v).frozen? ⟨g, j * 4 + l, none⟩ = wr.frozen? ⟨g, j * 4 + l, none⟩ := by simp
    exact ⟨(World.cell?_of_block (a := ⟨g, j * 4 + l, none⟩) hb).trans (e1.trans (h.row j (by omega) hjn l hl).1), (World.frozen?_of_block (a := ⟨g, j * 4 + l, none⟩) hb).trans (e2.trans (h.row j (by omega) hjn l hl).2)⟩
  · refine hn.room b o ?_
    have hr' := h.room b o hgb hbE hr
    refine ⟨?_, by simpa using hr'.2⟩
    rw [World.cell?_setCell_other _ ⟨g, i * 4 + 1, none⟩ ⟨b, o, none⟩ _ (fun e => by have := congrArg Addr.block e; simp at this; omega), World.cell?_setCell_other _ ⟨g, i * 4, none⟩ ⟨b, o, none⟩ _ (fun e => by have := congrArg Addr.block e; simp at this; omega)]
    exact hr'.1
set_option maxHeartbeats 8000000 in
theorem markTS_any (g cap : Nat) (us : List TI) (w5 w a0 : World) (B0 : Nat) (hB : BH 1048576 us) (hrow : RowW 4 CTW (g + 1) w5 g us) (hold : Below w5.heap.size w5 w) (hb : Below B0 a0 w) (hB0 : B0 ≤ g) :
    Calls Try.prog 17 #[.slice (some ⟨g, 0, none⟩) us.length cap, .int .i64 1] w fun e w' => (∃ k' : Int, 0 ≤ k' ∧ e = .returned (.int .i64 k')) ∧ Below B0 a0 w' ∧ w'.heap.size = w.heap.size ∧ ∀ b, w5.heap.size ≤ b → w'.heap[b]? = w.heap[b]? := by
  have hg5 := hrow.1
  have HROW := hid hrow.2
  have hn := hB.1
  have HZ : Hid (∀ t ∈ us, BT 1048576 t) := hB.2
  have M0 : Hid (MTd w5 w w g 0 us.length) := ⟨rfl, fun _ _ => rfl, fun j _ hj l hl => ⟨hold.cell (p := ⟨g, j * 4 + l, none⟩) hg5, hold.frozen (p := ⟨g, j * 4 + l, none⟩) hg5⟩, fun b o hgb hbE hr => ⟨by rw [hold.cell (p := ⟨b, o, none⟩) hbE]; exact hr.1, (hold.frozen (p := ⟨b, o, none⟩) hbE).trans hr.2⟩⟩
  clear hrow hold hB
  go_enter Try.func17, Try.ntmps17
  go_wp2
  go_loopw [1, 5] (fun kv iv wr => ∃ (i : Nat) (k : Nat), i ≤ us.length ∧ k ≤ 1 + i * 4194304 ∧ kv = .int .i64 k ∧ iv = .int .i64 i ∧ Below B0 a0 wr ∧ Hid (MTd w5 w wr g i us.length)) (fun _ iv _ => us.length - (intOf iv).toNat)
  case atStart => exact ⟨0, 1, Nat.zero_le _, by omega, rfl, rfl, hb, M0⟩
  case round =>
    clear M0 hb
    obtain ⟨i, k, hi, hk, rfl, rfl, hb, M⟩ := hrel
    by_cases hlt : i < us.length
    · have hlti : (i : Int) < us.length := by omega
      obtain ⟨cs, hC, hcell⟩ := HROW.out i hlt
      have hBt := HZ.out us[i] (List.getElem_mem hlt)
      generalize us[i] = t at *
      obtain ⟨v0, v1, rfl, r0, r1⟩ := hC
      have R0 := hid r0
      have R1 := hid r1
      obtain ⟨a0', q0, rfl, _⟩ := r0
      obtain ⟨a1', q1, rfl, _⟩ := r1
      have m0 := M.out.row i (Nat.le_refl _) hlt 0 (by omega)
      have m1 := M.out.row i (Nat.le_refl _) hlt 1 (by omega)
      have m2 := M.out.row i (Nat.le_refl _) hlt 2 (by omega)
      have m3 := M.out.row i (Nat.le_refl _) hlt 3 (by omega)
      have c0 : wr.cell? ⟨g, i * 4, none⟩ = some (.int .i64 t.bgn) := m0.1.trans (hcell 0 (by omega)).1
      have c1 : wr.cell? ⟨g, i * 4 + 1, none⟩ = some (.int .i64 t.com) := m1.1.trans (hcell 1 (by omega)).1
      have c2 : wr.cell? ⟨g, i * 4 + 2, none⟩ = some (.slice a0' t.reads.length q0) := m2.1.trans (hcell 2 (by omega)).1
      have c3 : wr.cell? ⟨g, i * 4 + 3, none⟩ = some (.slice a1' t.writes.length q1) := m3.1.trans (hcell 3 (by omega)).1
      have f0 : wr.frozen? ⟨g, i * 4, none⟩ = false := m0.2.trans (hcell 0 (by omega)).2
      have f1 : wr.frozen? ⟨g, i * 4 + 1, none⟩ = false := m1.2.trans (hcell 1 (by omega)).2
      clear m0 m1 m2 m3 hcell
      have hw1 : IntKind.i64.wrap ((k : Int) + 1) = ((k + 1 : Nat) : Int) := by simp only [IntKind.wrap_i64, wrap64]; omega
      have hw2 : IntKind.i64.wrap (((k + 1 : Nat) : Int) + 1) = ((k + 2 : Nat) : Int) := by simp only [IntKind.wrap_i64, wrap64]; omega
      have b2 : Below B0 a0 ((wr.setCell ⟨g, i * 4, none⟩ (.int .i64 (k : Int))).setCell ⟨g, i * 4 + 1, none⟩ (.int .i64 ((k + 1 : Nat) : Int))) := (hb.setCell (show B0 ≤ (⟨g, i * 4, none⟩ : Addr).block by simp; omega) _).setCell (show B0 ≤ (⟨g, i * 4 + 1, none⟩ : Addr).block by simp; omega) _
      have HS : Hid (∀ w4, Inn g w5.heap.size ((wr.setCell ⟨g, i * 4, none⟩ (.int .i64 (k : Int))).setCell ⟨g, i * 4 + 1, none⟩ (.int .i64 ((k + 1 : Nat) : Int))) w4 → MTd w5 w w4 g (i + 1) us.length) := (fun w4 h => M.out.step hg5 h : ∀ w4, Inn g w5.heap.size ((wr.setCell ⟨g, i * 4, none⟩ (.int .i64 (k : Int))).setCell ⟨g, i * 4 + 1, none⟩ (.int .i64 ((k + 1 : Nat) : Int))) w4 → MTd w5 w w4 g (i + 1) us.length)
      have HRM : Hid (∀ b o, g < b → b < w5.heap.size → Room w5 b o → Room ((wr.setCell ⟨g, i * 4, none⟩ (.int .i64 (k : Int))).setCell ⟨g, i * 4 + 1, none⟩ (.int .i64 ((k + 1 : Nat) : Int))) b o) := (fun b o h1 h2 h3 => by
        have hr' := M.out.room b o h1 h2 h3
        refine ⟨?_, by simpa using hr'.2⟩
        rw [World.cell?_setCell_other _ ⟨g, i * 4 + 1, none⟩ ⟨b, o, none⟩ _ (fun e => by have := congrArg Addr.block e; simp at this; omega), World.cell?_setCell_other _ ⟨g, i * 4, none⟩ ⟨b, o, none⟩ _ (fun e => by have := congrArg Addr.block e; simp at this; omega)]
        exact hr'.1 : ∀ b o, g < b → b < w5.heap.size → Room w5 b o → Room ((wr.setCell ⟨g, i * 4, none⟩ (.int .i64 (k : Int))).setCell ⟨g, i * 4 + 1, none⟩ (.int .i64 ((k + 1 : Nat) : Int))) b o)
      have hl0 := hBt.1
      have hl1 := hBt.2
      have hm1 := markI_all a0' t.reads.length q0 g w5.heap.size ((k + 2 : Nat) : Int) _ a0 B0 (by omega) (by omega) b2 hB0 (fun hp => by
        obtain ⟨b, o, h1, h2, h3, h4⟩ := R0.out.rooms hp
        exact ⟨b, o, h1, by omega, h3, fun j hj => HRM.out b (o + j) (by omega) h3 (h4 j hj)⟩)
      have e3 : ((wr.setCell ⟨g, i * 4, none⟩ (.int .i64 (k : Int))).setCell ⟨g, i * 4 + 1, none⟩ (.int .i64 ((k + 1 : Nat) : Int))).cell? ⟨g, i * 4 + 3, none⟩ = some (.slice a1' t.writes.length q1) := by
        rw [World.cell?_setCell_other _ ⟨g, i * 4 + 1, none⟩ ⟨g, i * 4 + 3, none⟩ _ (fun e => by have := congrArg Addr.off e; simp at this), World.cell?_setCell_other _ ⟨g, i * 4, none⟩ ⟨g, i * 4 + 3, none⟩ _ (fun e => by have := congrArg Addr.off e; simp at this)]
        exact c3
      clear M hb
      go_wp2_with (go_at_call 18; fail)
      refine hm1.mono ?_
      rintro e w3 ⟨rfl, hb3, hi3⟩
      have c33 : w3.cell? ⟨g, i * 4 + 3, none⟩ = some (.slice a1' t.writes.length q1) := (World.cell?_of_block (a := ⟨g, i * 4 + 3, none⟩) (hi3.block g (.inl (Nat.le_refl _)))).trans e3
      have hk3 : ((k + 2 : Nat) : Int) + (t.reads.length : Int) = ((k + 2 + t.reads.length : Nat) : Int) := by omega
      rw [hk3]
      have hm2 := markI_all a1' t.writes.length q1 g w5.heap.size ((k + 2 + t.reads.length : Nat) : Int) w3 a0 B0 (by omega) (by omega) hb3 hB0 (fun hp => by
        obtain ⟨b, o, h1, h2, h3, h4⟩ := R1.out.rooms hp
        exact ⟨b, o, h1, by omega, h3, fun j hj => hi3.room b (o + j) (HRM.out b (o + j) (by omega) h3 (h4 j hj))⟩)
      have HI3 := hid hi3
      clear hm1 hi3 hb3 e3 c0 c1 c2 c3 f0 f1 b2 hk3
      go_wp2_with (go_at_call 18; fail)
      refine hm2.mono ?_
      rintro e w4 ⟨rfl, hb4, hi4⟩
      have HM := hid (HS.out w4 (HI3.out.trans hi4))
      have hk4 : ((k + 2 + t.reads.length : Nat) : Int) + (t.writes.length : Int) = ((k + 2 + t.reads.length + t.writes.length : Nat) : Int) := by omega
      have hkb : k + 2 + t.reads.length + t.writes.length ≤ 1 + (i + 1) * 4194304 := by have := hBt.1; have := hBt.2; omega
      rw [hk4]
      clear hm2 hi4 HI3 HS HRM R0 R1 c33 hk4
      go_wp2
      go_roundw
      case rel => exact ⟨i + 1, _, by omega, hkb, rfl, by go_num, hb4, HM⟩
      case measure => simp [intOf]; omega
    · have hin : i = us.length := by omega
      subst hin
      have hlti : ¬ (us.length : Int) < us.length := by omega
      go_wp2
      go_ret
      exact ⟨⟨k, by omega, rfl⟩, hb, M.out.size, M.out.high⟩
end Go.Proofs.Ytjfgojlnpbehfaa
