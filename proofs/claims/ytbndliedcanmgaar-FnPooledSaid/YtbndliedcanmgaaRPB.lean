import Derived.Test.YtbndliedcanmgaaRPA
namespace Go.Proofs.YtbndliedcanmgaaR
open Go.ChangeShapes Go.WideShapes Go.ChangeAt Go.RowKit
set_option linter.unusedVariables false
set_option linter.unusedSimpArgs false
set_option maxRecDepth 100000
/-- What a round of the law reads: the operation and the answer, copied; the answer's list. -/
structure RdB (W : World) (nb : Nat) (kd pg rd wt : Int) (oa : Option Addr) (oc : Nat) (al : List Int) (gl : Nat) : Prop where
  o0 : W.cell? ⟨nb, 0, none⟩ = some (.int .i64 kd)
  o1 : W.cell? ⟨nb, 1, none⟩ = some (.int .i64 pg)
  p0 : W.cell? ⟨nb + 1, 0, none⟩ = some (.int .i64 rd)
  p1 : W.cell? ⟨nb + 1, 1, none⟩ = some (.int .i64 wt)
  p2 : W.cell? ⟨nb + 1, 2, none⟩ = some (.slice oa al.length oc)
  nest : 0 < al.length → ∃ b, oa = some ⟨b, 0, none⟩ ∧ b < gl ∧ ∀ t (ht : t < al.length), W.cell? ⟨b, t, none⟩ = some (.int .i64 al[t])
  sz : nb + 2 ≤ W.heap.size
theorem RdB.same {W W' : World} {nb : Nat} {kd pg rd wt : Int} {oa : Option Addr} {oc : Nat} {al : List Int} {gl : Nat} (h : RdB W nb kd pg rd wt oa oc al gl) (hs : W.heap.size ≤ W'.heap.size) (hb : ∀ k, k < gl ∨ k = nb ∨ k = nb + 1 → W'.heap[k]? = W.heap[k]?) : RdB W' nb kd pg rd wt oa oc al gl := by
  have b0 := hb nb (by omega)
  have b1 := hb (nb + 1) (by omega)
  refine ⟨(World.cell?_of_block (a := ⟨nb, 0, none⟩) b0).trans h.o0, (World.cell?_of_block (a := ⟨nb, 1, none⟩) b0).trans h.o1, (World.cell?_of_block (a := ⟨nb + 1, 0, none⟩) b1).trans h.p0, (World.cell?_of_block (a := ⟨nb + 1, 1, none⟩) b1).trans h.p1, (World.cell?_of_block (a := ⟨nb + 1, 2, none⟩) b1).trans h.p2, fun hp => ?_, Nat.le_trans h.sz hs⟩
  obtain ⟨b, e1, e2, e3⟩ := h.nest hp
  exact ⟨b, e1, e2, fun t ht => (World.cell?_of_block (a := ⟨b, t, none⟩) (hb b (by omega))).trans (e3 t ht)⟩
theorem RdB.setO {W : World} {nb : Nat} {kd pg rd wt : Int} {oa : Option Addr} {oc : Nat} {al : List Int} {gl c j : Nat} {u : Value} (h : RdB W nb kd pg rd wt oa oc al gl) (hc : gl ≤ c) (hn : c < nb) : RdB (W.setCell ⟨c, j, none⟩ u) nb kd pg rd wt oa oc al gl :=
  h.same (by simp [World.setCell]) (fun k hk => Below.heap_setCell _ _ _ _ (by simp; omega))
theorem RdB.drewN {W : World} {nb : Nat} {kd pg rd wt : Int} {oa : Option Addr} {oc : Nat} {al : List Int} {gl : Nat} (h : RdB W nb kd pg rd wt oa oc al gl) (n : Nat) : RdB (W.drewN n) nb kd pg rd wt oa oc al gl := h.same (Nat.le_refl _) (fun k _ => rfl)
theorem RdB.drew {W : World} {nb : Nat} {kd pg rd wt : Int} {oa : Option Addr} {oc : Nat} {al : List Int} {gl : Nat} (h : RdB W nb kd pg rd wt oa oc al gl) : RdB W.drew nb kd pg rd wt oa oc al gl := h.same (Nat.le_refl _) (fun k _ => rfl)
theorem rb_new {w : World} {kd pg rd wt : Int} {oa : Option Addr} {oc : Nat} {al : List Int} {gl : Nat} (hgl : gl ≤ w.heap.size) (hn : 0 < al.length → ∃ b, oa = some ⟨b, 0, none⟩ ∧ b < gl ∧ ∀ t (ht : t < al.length), w.cell? ⟨b, t, none⟩ = some (.int .i64 al[t])) : RdB ((w.alloc (.cells #[.int .i64 kd, .int .i64 pg] 26)).alloc (.cells #[.int .i64 rd, .int .i64 wt, .slice oa al.length oc] 33)) w.heap.size kd pg rd wt oa oc al gl := by
  have hb : Below w.heap.size w ((w.alloc (.cells #[.int .i64 kd, .int .i64 pg] 26)).alloc (.cells #[.int .i64 rd, .int .i64 wt, .slice oa al.length oc] 33)) := (below_alloc w (.cells #[.int .i64 kd, .int .i64 pg] 26)).alloc (by simp) _
  refine ⟨by simp [go_sem], by simp [go_sem], by simp [go_sem], by simp [go_sem], by simp [go_sem], fun hp => ?_, by simp⟩
  obtain ⟨b, e1, e2, e3⟩ := hn hp
  exact ⟨b, e1, e2, fun t ht => (hb.cell (p := ⟨b, t, none⟩) (by show b < w.heap.size; omega)).trans (e3 t ht)⟩
/-- The two kinds of a round. -/
def RCase (us : List POp) (i : Nat) (hi : i < us.length) (fs : List Fr) (hd : Nat) (la di : Nat → Int) (me : Nat → Bool) (kd pg rd wt : Int) (al : List Int) (fs2 : List Fr) (h2 : Nat) : Prop :=
  (kd = 4 ∧ rd = -1 ∧ wt = -1 ∧ clP 300 ([], fs) = (al, fs2) ∧ h2 = hd) ∨ ((kd = 1 ∨ kd = 2 ∨ kd = 3) ∧ 0 ≤ pg ∧ pg < 300 ∧ al = [] ∧ UseL us[i] fs hd la di me)
theorem rcase {us : List POp} {i : Nat} (hi : i < us.length) {fs : List Fr} {hd : Nat} {la di : Nat → Int} {me : Nat → Bool} {kd pg rd wt : Int} {al : List Int} {fs2 : List Fr} {h2 : Nat} (L : LS us i fs hd la di me) (hok : opOK us[i] = true) (hx : stepF us[i] fs hd = (⟨rd, wt, al⟩, fs2, h2)) (hk : us[i].kd = kd) (hp : us[i].pg = pg) : RCase us i hi fs hd la di me kd pg rd wt al fs2 h2 := by
  unfold opOK at hok
  simp only [Bool.and_eq_true, Bool.or_eq_true, decide_eq_true_eq] at hok
  by_cases h4 : us[i].kd = 4
  · refine .inl ?_
    unfold stepF at hx
    rw [if_pos h4] at hx
    simp only [Prod.mk.injEq, POut.mk.injEq] at hx
    obtain ⟨⟨h1, h3, h5⟩, h6, h7⟩ := hx
    exact ⟨by omega, h1.symm, h3.symm, Prod.ext h5 h6, h7.symm⟩
  · refine .inr ?_
    have hp3 : 0 ≤ us[i].pg ∧ us[i].pg < 300 := by rcases hok.2 with e | e; exact absurd e h4; exact e
    have hk3 : us[i].kd = 1 ∨ us[i].kd = 2 ∨ us[i].kd = 3 := by omega
    have U := use_law us[i] fs hd la di me L.inv hk3 hp3.1 hp3.2 L.hand
    have ha := U.all
    rw [hx] at ha
    exact ⟨by omega, by omega, by omega, ha, U⟩
/-- What is told of the list of a round. -/
def LOK (al : List Int) : Prop := (∀ x ∈ al, 0 ≤ x ∧ x < 300) ∧ ∀ k (h : k + 1 < al.length), al[k] < al[k + 1]
theorem RCase.lok {us : List POp} {i : Nat} {hi : i < us.length} {fs : List Fr} {hd : Nat} {la di : Nat → Int} {me : Nat → Bool} {kd pg rd wt : Int} {al : List Int} {fs2 : List Fr} {h2 : Nat} (h : RCase us i hi fs hd la di me kd pg rd wt al fs2 h2) (L : LS us i fs hd la di me) : LOK al := by
  rcases h with ⟨_, _, _, hc, _⟩ | ⟨_, _, _, rfl, _⟩
  · have C := clean_law fs la di me L.inv
    rw [hc] at C
    exact ⟨C.rng, C.inc⟩
  · exact ⟨fun x hx => (by cases hx), fun k h => (by simp at h)⟩
end Go.Proofs.YtbndliedcanmgaaR
