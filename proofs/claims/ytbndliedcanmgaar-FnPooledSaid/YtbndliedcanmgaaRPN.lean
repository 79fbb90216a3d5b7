import Derived.Test.YtbndliedcanmgaaRPO
namespace Go.Proofs.YtbndliedcanmgaaR
open Go.ChangeShapes Go.WideShapes Go.ChangeAt Go.RowKit
set_option linter.unusedVariables false
set_option linter.unusedSimpArgs false
set_option maxRecDepth 100000
theorem infoFr : (Try.prog.info? 54).map (fun i => (i.zero, i.size, i.bytes)) = some (some (.agg #[.int .i64 0, .bool false, .bool false]), 3, 16) := by kernel_rfl
def f0 : Fr := ⟨-1, false, false⟩
def frC (f : Fr) : List Value := [.int .i64 f.pg, .bool f.ma, .bool f.dy]
theorem flatF : ∀ (fs : List Fr) (i : Nat) (h : i < fs.length) (j : Nat), j < 3 → (fs.flatMap frC)[i * 3 + j]? = (frC fs[i])[j]?
  | t :: r, 0, _, j, hj => by
    rw [List.flatMap_cons, Nat.zero_mul, Nat.zero_add, List.getElem?_append_left (by simpa [frC] using hj)]
    rfl
  | t :: r, i + 1, h, j, hj => by
    rw [List.flatMap_cons, List.getElem?_append_right (by simp [frC]; omega)]
    have : (i + 1) * 3 + j - (frC t).length = i * 3 + j := by simp [frC]; omega
    rw [this]
    exact flatF r i (by simpa using h) j hj
def FOut (b : Nat) (w : World) (v : Value) (fs : List Fr) : Prop := w.ownsRow b 54 3 v fs.length (fs.flatMap frC)
theorem FOut.frs {b g cap : Nat} {w : World} {fs : List Fr} (h : FOut b w (.slice (some ⟨g, 0, none⟩) fs.length cap) fs) : Frs w g fs := fun i hi => by
  have c : ∀ j, j < 3 → w.cell? ⟨g, i * 3 + j, none⟩ = (frC fs[i])[j]? := fun j hj => by
    have := flatF fs i hi j hj
    have hl : j < (frC fs[i]).length := by simpa [frC] using hj
    rw [List.getElem?_eq_getElem hl] at this ⊢
    exact own_cell h this
  have f := fun j => World.ownsRow.frozenAt h j
  exact ⟨⟨by simpa [frC] using c 0 (by omega), by simpa [frC] using c 1 (by omega), by simpa [frC] using c 2 (by omega)⟩, f _, f _, f _⟩
theorem FOut.form {b : Nat} {w : World} {v : Value} {fs : List Fr} (h : FOut b w v fs) : ∃ oa oc, v = .slice oa fs.length oc := by
  obtain ⟨_, h2⟩ := h
  rcases h2 with ⟨rfl, h0⟩ | ⟨q, cap, cur, rfl, _⟩
  · exact ⟨none, 0, by rw [h0]⟩
  · exact ⟨_, _, rfl⟩
theorem FOut.push {b : Nat} {w : World} {v : Value} {fs : List Fr} {t : Fr} (h : w.ownsRow b 54 3 v (fs.length + 1) (fs.flatMap frC ++ frC t)) : FOut b w v (fs ++ [t]) := by
  unfold FOut
  rw [List.flatMap_append, List.length_append]
  simpa using h
theorem FOut.ne {b q : Nat} {w : World} {v u : Value} {fs : List Fr} (h : FOut b w v fs) (hB : w.cell? ⟨q, 0, none⟩ = some u) (hu : ∀ k, u ≠ .int .i64 k) (hpos : 0 < fs.length) : ∀ k, v.ownBlock = some k → k ≠ q := by
  intro k hk e
  subst e
  obtain ⟨hl, h2⟩ := h
  rcases h2 with ⟨rfl, h0⟩ | ⟨g, cap, cur, rfl, hg1, hg2, hg3⟩
  · omega
  · have ho : FOut b w (.slice (some ⟨g, 0, none⟩) fs.length cap) fs := ⟨hl, .inr ⟨g, cap, cur, rfl, hg1, hg2, hg3⟩⟩
    simp [Value.ownBlock] at hk
    subst hk
    have h1 := (ho.frs 0 hpos).1.1
    rw [Nat.zero_mul, hB] at h1
    simp at h1
    exact hu _ h1
def lenAt (q : Nat) (w : World) : Nat := match w.cell? ⟨q, 0, none⟩ with
  | some (.slice _ n _) => 8 - n
  | _ => 0
theorem lenAt_of {q n c : Nat} {a : Option Addr} {w : World} (h : w.cell? ⟨q, 0, none⟩ = some (.slice a n c)) : lenAt q w = 8 - n := by
  unfold lenAt
  rw [h]
set_option maxHeartbeats 8000000 in
theorem newPool_spec (w : World) :
    Calls Try.prog 17 #[] w fun e w' => ∃ g cap, e = .returned (.pointer (some ⟨w.heap.size, 0, none⟩)) ∧ Pool w' w.heap.size g cap (List.replicate 8 f0) 0 ∧ w.heap.size ≤ g ∧ Below w.heap.size w w' := by
  obtain ⟨i0, hi, hz0, hz1, hz2⟩ := info_parts infoFr
  go_enter Try.func17, Try.ntmps17
  go_wp2
  go_loopw [] (fun wx => ∃ (n : Nat) (oa : Option Addr) (oc : Nat), n ≤ 8 ∧ Hid (FOut w.heap.size wx (.slice oa n oc) (List.replicate n f0)) ∧ Hid (n = 0 → oa = none) ∧ (wx.cell? ⟨w.heap.size, 0, none⟩ = some (.slice oa n oc) ∧ wx.cell? ⟨w.heap.size, 1, none⟩ = some (.int .i64 0)) ∧ (wx.frozen? ⟨w.heap.size, 0, none⟩ = false ∧ wx.frozen? ⟨w.heap.size, 1, none⟩ = false) ∧ w.heap.size < wx.heap.size ∧ Below w.heap.size w wx) (fun wx => lenAt w.heap.size wx)
  case atStart => exact ⟨0, none, 0, Nat.zero_le _, (⟨rfl, .inl ⟨rfl, rfl⟩⟩ : FOut w.heap.size _ (.slice none 0 0) []), (fun _ => rfl : 0 = 0 → (none : Option Addr) = none), ⟨by simp [go_sem], by simp [go_sem]⟩, ⟨by simp [go_sem], by simp [go_sem]⟩, by simp, below_alloc _ _⟩
  case round =>
    obtain ⟨n, oa, oc, hn, HF, HO, ⟨c0, c1⟩, ⟨k0, k1⟩, hsz, hb⟩ := hrel
    by_cases hlt : n < 8
    · have hlti : (n : Int) < 8 := by omega
      have hrl : (List.replicate n f0).length = n := List.length_replicate
      have HNE : Hid (∀ k, (Value.slice oa n oc).ownBlock = some k → k ≠ w.heap.size) := (by
        rcases Nat.eq_zero_or_pos n with h0 | h0
        · rw [HO.out h0]
          intro k hk
          simp [Value.ownBlock] at hk
        · exact HF.out.ne c0 (fun k => by simp) (by omega) : ∀ k, (Value.slice oa n oc).ownBlock = some k → k ≠ w.heap.size)
      have HFA : Hid ((wr.alloc (.cells #[.int .i64 (-1), .bool false, .bool false] 54)).ownsRow w.heap.size 54 3 (.slice oa n oc) n ((List.replicate n f0).flatMap frC)) := (by have h : wr.ownsRow _ _ _ _ _ _ := HF.out; rw [hrl] at h; exact World.ownsRow.alloc h _ : (wr.alloc (.cells #[.int .i64 (-1), .bool false, .bool false] 54)).ownsRow w.heap.size 54 3 (.slice oa n oc) n ((List.replicate n f0).flatMap frC))
      have HLT := hid (World.ownsRow.lt HF.out)
      have bwA : Below w.heap.size w (wr.alloc (.cells #[.int .i64 (-1), .bool false, .bool false] 54)) := hb.alloc (by omega) _
      have HCA : Hid (∀ j u, (frC f0)[j]? = some u → (wr.alloc (.cells #[.int .i64 (-1), .bool false, .bool false] 54)).cell? ((⟨wr.heap.size, 0, none⟩ : Addr).add j) = some u) := (fun j u hj => by
        have hl : j < 3 := by
          by_cases h : j < 3
          · exact h
          · rw [List.getElem?_eq_none (by simp [frC]; omega)] at hj; cases hj
        rw [Addr.add_lit, Nat.zero_add, World.cell?_alloc_at _ _ _ _ rfl]
        have : j = 0 ∨ j = 1 ∨ j = 2 := by omega
        rcases this with rfl | rfl | rfl <;> exact hj : ∀ j u, (frC f0)[j]? = some u → (wr.alloc (.cells #[.int .i64 (-1), .bool false, .bool false] 54)).cell? ((⟨wr.heap.size, 0, none⟩ : Addr).add j) = some u)
      clear hrl
      go_wp2_with (at_builtin
                   refine wpList_append_own _ rfl (.tmp 14) (.tmp 16) 55 rfl w.heap.size 54 i0 _ 3 16 Try.underlying55 hi hz0 hz1 hz2 rfl (by decide) _ _ _ rfl HFA.out ⟨wr.heap.size, 0, none⟩ 1 1 (frC f0) rfl rfl HCA.out (by intro u hu; simp [frC] at hu; rcases hu with rfl | rfl | rfl <;> rfl) (by unfold maxLen; omega) (by omega) (by simp; omega) ?_
                   intro v2 w2 hown2 hgrow2 hiff2
                   clear hiff2
                   have b2 : Below w.heap.size w w2 := bwA.grown hgrow2 (by simp; omega) (fun j hj => (HLT.out j hj).1)
                   have hq2 : w2.heap[w.heap.size]? = wr.heap[w.heap.size]? := (hgrow2.block w.heap.size (by simp; omega) (fun e => (HNE.out _ e.symm) rfl)).trans (Below.heap_alloc _ _ _ hsz)
                   have e0 : w2.cell? ⟨w.heap.size, 0, none⟩ = some (.slice oa n oc) := (World.cell?_of_block (a := ⟨w.heap.size, 0, none⟩) hq2).trans c0
                   have e1 : w2.cell? ⟨w.heap.size, 1, none⟩ = some (.int .i64 0) := (World.cell?_of_block (a := ⟨w.heap.size, 1, none⟩) hq2).trans c1
                   have g0 : w2.frozen? ⟨w.heap.size, 0, none⟩ = false := (World.frozen?_of_block (a := ⟨w.heap.size, 0, none⟩) hq2).trans k0
                   have g1 : w2.frozen? ⟨w.heap.size, 1, none⟩ = false := (World.frozen?_of_block (a := ⟨w.heap.size, 1, none⟩) hq2).trans k1
                   have hs2 : w.heap.size < w2.heap.size := by have := hgrow2.size; simp at this; omega
                   have HR : Hid (FOut w.heap.size w2 v2 (List.replicate (n + 1) f0)) := (by
                     have h : w2.ownsRow w.heap.size 54 3 v2 ((List.replicate n f0).length + 1) ((List.replicate n f0).flatMap frC ++ frC f0) := by rw [List.length_replicate]; exact hown2
                     have := FOut.push h
                     rwa [← List.replicate_succ'] at this : FOut w.heap.size w2 v2 (List.replicate (n + 1) f0))
                   obtain ⟨oa2, oc2, hv2⟩ := HR.out.form
                   rw [List.length_replicate] at hv2
                   subst hv2
                   clear hown2 hgrow2 hq2 HFA HCA HLT HF)
      have HL0 := hid (lenAt_of c0)
      have HL2 := hid (lenAt_of (World.cell?_setCell_same w2 ⟨w.heap.size, 0, none⟩ (.slice oa2 (n + 1) oc2) e0))
      have HNE2 := hid (HR.out.ne e0 (fun k => by simp) (by rw [List.length_replicate]; omega))
      have HF3 : Hid (FOut w.heap.size (w2.setCell ⟨w.heap.size, 0, none⟩ (.slice oa2 (n + 1) oc2)) (.slice oa2 (n + 1) oc2) (List.replicate (n + 1) f0)) := ownsRow_setCell_other HR.out (fun e => HNE2.out _ e rfl) _
      go_wp2
      go_roundw
      case rel => exact ⟨n + 1, oa2, oc2, by omega, HF3, (fun e => by omega : n + 1 = 0 → oa2 = none), ⟨World.cell?_setCell_same _ _ _ e0, set_cell3 e1 (by omega)⟩, ⟨by simpa using g0, by simpa using g1⟩, by simpa [World.setCell] using hs2, b2.setCell (by simp) _⟩
      case measure =>
        rw [HL2.out, HL0.out]
        omega
    · have hn8 : n = 8 := by omega
      subst hn8
      have HPL : Hid (∃ g cap, Pool wr w.heap.size g cap (List.replicate 8 f0) 0 ∧ w.heap.size ≤ g) := (by
        have hf := HF.out
        have hlt := World.ownsRow.lt hf
        have hf' := hf
        obtain ⟨hl, h2⟩ := hf'
        rcases h2 with ⟨h, h0⟩ | ⟨g, cap, cur, h, hg1, hg2, hg3, hg4⟩
        · rw [List.length_replicate] at h0; cases h0
        · simp only [Value.slice.injEq] at h
          obtain ⟨rfl, _, rfl⟩ := h
          rw [List.length_replicate] at hg3
          have hne := hf.ne c0 (fun k => by simp) (by rw [List.length_replicate]; omega) g rfl
          have hfr : FOut w.heap.size wr (.slice (some ⟨g, 0, none⟩) (List.replicate 8 f0).length oc) (List.replicate 8 f0) := by rw [List.length_replicate]; exact hf
          exact ⟨g, oc, ⟨List.length_replicate, by omega, hg3, fun e => hne e.symm, hsz, (hlt g rfl).2, ⟨⟨c0, by simpa using c1⟩, k0, k1⟩, hfr.frs⟩, hg1⟩ : ∃ g cap, Pool wr w.heap.size g cap (List.replicate 8 f0) 0 ∧ w.heap.size ≤ g)
      clear HF HO
      go_wp2
      go_ret
      obtain ⟨g, cap, h1, h2⟩ := HPL.out
      exact ⟨g, cap, rfl, h1, h2, hb⟩
end Go.Proofs.YtbndliedcanmgaaR
