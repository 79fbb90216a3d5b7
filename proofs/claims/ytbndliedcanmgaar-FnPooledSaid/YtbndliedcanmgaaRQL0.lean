import Derived.Test.YtbndliedcanmgaaRPMw
import Derived.Test.YtbndliedcanmgaaRPW
import Derived.Test.YtbndliedcanmgaaRQP
namespace Go.Proofs.YtbndliedcanmgaaR
open Go.ChangeShapes Go.WideShapes Go.ChangeAt Go.RowKit
set_option linter.unusedVariables false
set_option linter.unusedSimpArgs false
set_option maxRecDepth 100000
theorem clI_len (p : Int) (a : List Int × List Fr) : ∀ i, (clI p i a).1.length ≤ a.1.length + i
  | 0 => by simp [clI]
  | i + 1 => by
    have ih := clI_len p a i
    rw [clI]
    split
    · split
      · simp; omega
      · omega
    · omega
theorem clP_len (fs : List Fr) : ∀ n, (clP n ([], fs)).1.length ≤ 8 * n
  | 0 => by simp [clP]
  | n + 1 => by
    have ih := clP_len fs n
    have := clI_len (n : Int) (clP n ([], fs)) 8
    have e : clP (n + 1) ([], fs) = clI (n : Int) 8 (clP n ([], fs)) := rfl
    rw [e]
    omega
theorem step_len (o : POp) (fs : List Fr) (h : Nat) : (stepF o fs h).1.all.length ≤ 2400 := by
  unfold stepF
  split
  · have := clP_len fs 300
    simp only
    omega
  · simp
theorem run_len : ∀ (os : List POp) (fs : List Fr) (h : Nat), (runF os fs h).length = os.length ∧ ∀ x ∈ runF os fs h, x.all.length ≤ 2400
  | [], _, _ => ⟨rfl, fun x hx => by cases hx⟩
  | o :: r, fs, h => by
    have ih := run_len r (stepF o fs h).2.1 (stepF o fs h).2.2
    rw [runF]
    refine ⟨by simp [ih.1], fun x hx => ?_⟩
    rcases List.mem_cons.1 hx with rfl | hx
    · exact step_len o fs h
    · exact ih.2 x hx
theorem poolF_len (us : List POp) : (poolF us).1.length ≤ 4000 ∧ ∀ x ∈ (poolF us).1, x.all.length ≤ 2400 := by
  unfold poolF
  split
  · exact ⟨by simp, fun x hx => by cases hx⟩
  · split
    · have := run_len us (List.replicate 8 f0) 0
      exact ⟨by simp only [this.1]; omega, this.2⟩
    · exact ⟨by simp, fun x hx => by cases hx⟩
theorem OutR.blk {b : Nat} {w w' : World} {v : Value} {ps : List (Value × POut)} (h : OutR b w v ps) (hs : ∀ j, b ≤ j → w'.heap[j]? = w.heap[j]?) : OutR b w' v ps :=
  ⟨own_same h.1 (fun j hj => hs j (h.1.lt j hj).1), fun x hx => own_same (h.2.1 x hx) (fun j hj => hs j (World.ownsRow.lt (h.2.1 x hx) j hj).1), h.2.2⟩
def HeldP (w : World) (v : Value) (ps : List (Value × POut)) : Prop := ∃ a cap, v = .slice a ps.length cap ∧ (0 < ps.length → ∃ g B, a = some ⟨g, 0, none⟩ ∧ OM B w g ps 1 ps.length ps.length)
theorem HeldP.below {w w' : World} {v : Value} {ps : List (Value × POut)} (h : HeldP w v ps) (hb : Below w.heap.size w w') : HeldP w' v ps := by
  obtain ⟨a, cap, rfl, h2⟩ := h
  refine ⟨a, cap, rfl, fun hp => ?_⟩
  obtain ⟨g, B, h3, h4⟩ := h2 hp
  exact ⟨g, B, h3, h4.below hb⟩
theorem markP_all (v : Value) (ps : List (Value × POut)) (w a0 : World) (B0 B : Nat) (hM : ∀ x ∈ ps, x.2.all.length ≤ 2400) (hn : ps.length ≤ 4000) (hb : Below B0 a0 w) (hB : B0 ≤ B) (h : OutR B w v ps) :
    Calls Try.prog 13 #[v, .int .i64 1] w fun e w' => e = .returned (.int .i64 (1 + kO ps ps.length)) ∧ Below B0 a0 w' ∧ HeldP w' v ps := by
  obtain ⟨a, cap, rfl⟩ := h.form
  rcases Nat.eq_zero_or_pos ps.length with h0 | h0
  · have hp : ps = [] := by cases ps with | nil => rfl | cons x r => simp at h0
    subst hp
    refine (markPr_none a cap 1 w).mono ?_
    rintro e w' ⟨rfl, rfl⟩
    exact ⟨by simp [kO], hb, a, cap, rfl, fun h => absurd h (Nat.lt_irrefl _)⟩
  · have h2 := h.1.2
    rcases h2 with ⟨_, hz⟩ | ⟨g, cp, cur, he, hg1, hg2⟩
    · omega
    · simp only [Value.slice.injEq] at he
      obtain ⟨rfl, _, rfl⟩ := he
      refine (markPr_any g cap ps 1 w a0 B0 B (by omega) (by omega) h.dis hM hn hb hB (h.om 1)).mono ?_
      rintro e w' ⟨rfl, hb', hm⟩
      exact ⟨rfl, hb', _, _, rfl, fun _ => ⟨g, B, rfl, hm⟩⟩
theorem heldP_all (v : Value) (ps : List (Value × POut)) (w : World) (hM : ∀ x ∈ ps, x.2.all.length ≤ 2400) (hn : ps.length ≤ 4000) (h : HeldP w v ps) :
    Calls Try.prog 14 #[v, .int .i64 1] w fun e w' => e = .returned (.int .i64 (1 + kO ps ps.length)) ∧ w' = w := by
  obtain ⟨a, cap, rfl, h2⟩ := h
  rcases Nat.eq_zero_or_pos ps.length with h0 | h0
  · have hp : ps = [] := by cases ps with | nil => rfl | cons x r => simp at h0
    subst hp
    refine (heldPr_none a cap 1 w).mono ?_
    rintro e w' ⟨rfl, rfl⟩
    exact ⟨by simp [kO], rfl⟩
  · obtain ⟨g, B, rfl, hm⟩ := h2 h0
    exact heldPr_any g cap ps 1 w B (by omega) (by omega) hM hn hm
theorem PoolP.all {us : List POp} {w w' : World} {e : Ending} (h : PoolP us w e w') : ∃ v ps, e = .returned (.tuple #[v, .int .i64 (poolF us).2]) ∧ OutR w.heap.size w' v ps ∧ RS 3 CPr 0 w' v (poolF us).1 ∧ Below w.heap.size w w' ∧ ps.length ≤ 4000 ∧ (∀ x ∈ ps, x.2.all.length ≤ 2400) ∧ ps.map Prod.snd = (poolF us).1 := by
  obtain ⟨v, ps, h1, h2, h3, h4⟩ := h
  have hl := poolF_len us
  refine ⟨v, ps, h1, h2, h3 ▸ h2.rs, h4, ?_, fun x hx => ?_, h3⟩
  · have := hl.1; rw [← h3, List.length_map] at this; exact this
  · exact hl.2 x.2 (by rw [← h3]; exact List.mem_map_of_mem hx)
end Go.Proofs.YtbndliedcanmgaaR
