import Derived.Test.YtjfgojlnpbehfaaCD
import Derived.Test.YtjfgojlnpbehfaaDF
namespace Go.Proofs.Ytjfgojlnpbehfaa
open Go.ChangeShapes Go.WideShapes Go.ChangeAt Go.RowKit
set_option linter.unusedVariables false
set_option linter.unusedSimpArgs false
set_option maxRecDepth 100000
theorem own_bs {w : World} {b b' e k n : Nat} {v : Value} {xs : List Value} (h : w.ownsRow b e k v n xs) (hb : b' ≤ b) : w.ownsRow b' e k v n xs := by
  obtain ⟨h1, h2⟩ := h
  refine ⟨h1, ?_⟩
  rcases h2 with h2 | ⟨g, cap, cur, rfl, hg1, hg2⟩
  · exact .inl h2
  · exact .inr ⟨g, cap, cur, rfl, Nat.le_trans hb hg1, hg2⟩
theorem oneT : ∀ {B : Nat} {w : World} {cs : List Value} {x : TI}, CT B w cs x → ∀ u ∈ cs, u.oneCell' = true := fun h u hu => by
  obtain ⟨v0, v1, rfl, r0, r1⟩ := h
  obtain ⟨a0, q0, rfl, _⟩ := r0
  obtain ⟨a1, q1, rfl, _⟩ := r1
  simp at hu
  rcases hu with rfl | rfl | rfl | rfl <;> rfl
theorem KTB {w w1 : World} {A E : Obj} {cs : List Value} {t : Nat} {row : Option Nat} (h : (((w.alloc A).alloc E).alloc (.cells cs.toArray t)).drew.grownBy w1 row) (hr : some (w.heap.size + 1 + 1) ≠ row) : Blk w1 (w.heap.size + 1 + 1) cs := by
  have := blk_new ((w.alloc A).alloc E) cs t
  rw [show ((w.alloc A).alloc E).heap.size = w.heap.size + 1 + 1 by simp] at this
  exact (this.below (Below.refl _ _).drew (by simp)).grown h (by simp) hr
theorem KTC {w w1 : World} {A E : Obj} {cs : List Value} {t : Nat} {row : Option Nat} (h : (((w.alloc A).alloc (.cells cs.toArray t)).alloc E).drew.grownBy w1 row) (hr : some (w.heap.size + 1) ≠ row) : Blk w1 (w.heap.size + 1) cs := by
  have := blk_new (w.alloc A) cs t
  rw [show (w.alloc A).heap.size = w.heap.size + 1 by simp] at this
  exact (this.below (below_alloc _ E).drew (by simp)).grown h (by simp) hr
def CertR (us : List TI) (e : Ending) : Prop := (¬ histP us ∧ e = .returned (.int .i64 1)) ∨ (histP us ∧ dangP us ∧ e = .returned (.int .i64 21)) ∨ (histP us ∧ ¬ dangP us ∧ e = .returned (.int .i64 0))
set_option maxHeartbeats 8000000 in
theorem certify_spec (g ca : Nat) (us : List TI) (t : TI) (cs : List Value) (w : World) (hb : BH 1048576 us) (ht : BT 1048576 t) (ha : RS 4 CT 0 w (.slice (some ⟨g, 0, none⟩) us.length ca) us) (hC : CT 0 w cs t) :
    Calls Try.prog 8 #[.slice (some ⟨g, 0, none⟩) us.length ca, .agg cs.toArray] w fun e w' => CertR (us ++ [t]) e ∧ Below w.heap.size w w' := by
  have HCT := hid hC
  obtain ⟨v0, v1, rfl, r0, r1⟩ := hC
  obtain ⟨a0, q0, rfl, _⟩ := r0
  obtain ⟨a1, q1, rfl, _⟩ := r1
  have hn := hb.1
  by_cases hbig : (1000 : Int) ≤ us.length
  · have HF : Hid (CertR (us ++ [t]) (.returned (.int .i64 1))) := .inl ⟨fun h => by have := h.1; rw [List.length_append] at this; simp at this; omega, rfl⟩
    clear ha hb ht
    go_enter Try.func8, Try.ntmps8
    go_wp2
    go_ret
    exact ⟨HF.out, below_alloc _ _⟩
  obtain ⟨i0, hi, hz0, hz1, hz2⟩ := info_parts info31
  obtain ⟨news, hfill, hcells⟩ := RS.flat liesT ha
  have HFI := hid hfill
  have HNL : Hid (news.length = us.length * 4) := hfill.1
  have HON : Hid (∀ u ∈ news, u.oneCell' = true) := hfill.one oneT liesT
  have HG : Hid (0 < us.length → g < w.heap.size) := (fun h => by obtain ⟨_, _, he, hh⟩ := ha; obtain ⟨g', o', e2, _, h3, _⟩ := hh h; simp only [Value.slice.injEq] at he; rw [← he.1] at e2; cases e2; exact h3 : 0 < us.length → g < w.heap.size)
  have HCW : Hid (∀ W, Below w.heap.size w W → ∀ j u, news[j]? = some u → W.cell? ((⟨g, 0, none⟩ : Addr).add j) = some u) := (fun W hW j u hj => by
    have hp : 0 < us.length := by
      have h1 := (List.getElem?_eq_some_iff.1 hj).1
      rw [hfill.1] at h1; omega
    rw [Addr.add_lit]
    exact (hW.cell (p := ⟨g, 0 + j, none⟩) (HG.out hp)).trans (hcells j u hj) : ∀ W, Below w.heap.size w W → ∀ j u, news[j]? = some u → W.cell? ((⟨g, 0, none⟩ : Addr).add j) = some u)
  have HOC : Hid (∀ u ∈ ([.int .i64 t.bgn, .int .i64 t.com, .slice a0 t.reads.length q0, .slice a1 t.writes.length q1] : List Value), u.oneCell' = true) := oneT HCT.out
  obtain ⟨al, hal⟩ : ∃ al : List TI, al = us ++ [t] := ⟨_, rfl⟩
  have HAL : Hid (al.length = us.length + 1) := (by rw [hal]; simp : al.length = us.length + 1)
  have HBA : Hid (BH 1048576 al) := (by
    rw [hal]
    refine ⟨by rw [List.length_append]; simp; omega, fun x hx => ?_⟩
    rcases List.mem_append.1 hx with h | h
    · exact hb.2 x h
    · rw [List.mem_singleton] at h; rw [h]; exact ht : BH 1048576 al)
  have HRS0 : Hid (∀ W v n xs, Below w.heap.size w W → n = us.length + 1 → xs = news ++ [.int .i64 t.bgn, .int .i64 t.com, .slice a0 t.reads.length q0, .slice a1 t.writes.length q1] → W.ownsRow w.heap.size 31 4 v n xs → RS 4 CT 0 W v al) := (fun W v n xs hW hn' hx ho => by
    subst hn' hx
    have F := (HFI.out.below liesT hW).append (fill_one liesT (liesT.below HCT.out hW))
    rw [hal]
    exact F.own liesT (own_bs (by simpa using ho) (Nat.zero_le _)) (Nat.le_refl _) : ∀ W v n xs, Below w.heap.size w W → n = us.length + 1 → xs = news ++ [.int .i64 t.bgn, .int .i64 t.com, .slice a0 t.reads.length q0, .slice a1 t.writes.length q1] → W.ownsRow w.heap.size 31 4 v n xs → RS 4 CT 0 W v al)
  rw [← hal]
  clear hal ha hb hfill hcells HFI
  have OA : Hid ((((w.alloc (.cells #[.int .i64 t.bgn, .int .i64 t.com, .slice a0 t.reads.length q0, .slice a1 t.writes.length q1] 31)).alloc (.cells #[] 31)).drew).ownsRow w.heap.size 31 4 (.slice (some ⟨w.heap.size + 1, 0, none⟩) 0 0) 0 []) := (by
    have := World.ownsRow_made (base := w.heap.size) (e := 31) (size := 4) (w.alloc (.cells #[.int .i64 t.bgn, .int .i64 t.com, .slice a0 t.reads.length q0, .slice a1 t.writes.length q1] 31)) #[] 0 (by simp) (by unfold maxLen; omega) (by simp)
    simpa using this.drew : (((w.alloc (.cells #[.int .i64 t.bgn, .int .i64 t.com, .slice a0 t.reads.length q0, .slice a1 t.writes.length q1] 31)).alloc (.cells #[] 31)).drew).ownsRow w.heap.size 31 4 (.slice (some ⟨w.heap.size + 1, 0, none⟩) 0 0) 0 [])
  have OB : Hid (((((w.alloc (.cells #[.int .i64 t.bgn, .int .i64 t.com, .slice a0 t.reads.length q0, .slice a1 t.writes.length q1] 31)).alloc (.cells #[] 31)).alloc (.cells #[.int .i64 t.bgn, .int .i64 t.com, .slice a0 t.reads.length q0, .slice a1 t.writes.length q1] 31)).drew).ownsRow w.heap.size 31 4 (.slice (some ⟨w.heap.size + 1, 0, none⟩) 0 0) 0 []) := (by
    have := (World.ownsRow_made (base := w.heap.size) (e := 31) (size := 4) (w.alloc (.cells #[.int .i64 t.bgn, .int .i64 t.com, .slice a0 t.reads.length q0, .slice a1 t.writes.length q1] 31)) #[] 0 (by simp) (by unfold maxLen; omega) (by simp)).alloc (.cells #[.int .i64 t.bgn, .int .i64 t.com, .slice a0 t.reads.length q0, .slice a1 t.writes.length q1] 31)
    simpa using this.drew : ((((w.alloc (.cells #[.int .i64 t.bgn, .int .i64 t.com, .slice a0 t.reads.length q0, .slice a1 t.writes.length q1] 31)).alloc (.cells #[] 31)).alloc (.cells #[.int .i64 t.bgn, .int .i64 t.com, .slice a0 t.reads.length q0, .slice a1 t.writes.length q1] 31)).drew).ownsRow w.heap.size 31 4 (.slice (some ⟨w.heap.size + 1, 0, none⟩) 0 0) 0 [])
  have OC : Hid (((((w.alloc (.cells #[.int .i64 t.bgn, .int .i64 t.com, .slice a0 t.reads.length q0, .slice a1 t.writes.length q1] 31)).alloc (.cells #[.int .i64 t.bgn, .int .i64 t.com, .slice a0 t.reads.length q0, .slice a1 t.writes.length q1] 31)).alloc (.cells #[] 31)).drew).ownsRow w.heap.size 31 4 (.slice (some ⟨w.heap.size + 1 + 1, 0, none⟩) 0 0) 0 []) := (by
    have := World.ownsRow_made (base := w.heap.size) (e := 31) (size := 4) ((w.alloc (.cells #[.int .i64 t.bgn, .int .i64 t.com, .slice a0 t.reads.length q0, .slice a1 t.writes.length q1] 31)).alloc (.cells #[.int .i64 t.bgn, .int .i64 t.com, .slice a0 t.reads.length q0, .slice a1 t.writes.length q1] 31)) #[] 0 (by simp; omega) (by unfold maxLen; omega) (by simp)
    simpa using this.drew : ((((w.alloc (.cells #[.int .i64 t.bgn, .int .i64 t.com, .slice a0 t.reads.length q0, .slice a1 t.writes.length q1] 31)).alloc (.cells #[.int .i64 t.bgn, .int .i64 t.com, .slice a0 t.reads.length q0, .slice a1 t.writes.length q1] 31)).alloc (.cells #[] 31)).drew).ownsRow w.heap.size 31 4 (.slice (some ⟨w.heap.size + 1 + 1, 0, none⟩) 0 0) 0 [])
  go_enter Try.func8, Try.ntmps8
  go_wp2
  go_region_law (first
    | (refine step_append_own rfl (.tmp 9) (.tmp 10) 29 rfl w.heap.size 31 i0 _ 4 64 Try.underlying29 hi hz0 hz1 hz2 rfl (by decide) (.slice (some ⟨_, 0, none⟩) 0 0) 0 [] rfl ?_ ⟨g, 0, none⟩ us.length ca news rfl HNL.out ?_ HON.out ?_ ?_ ?_ ?_
       · first | with_reducible exact OA.out | with_reducible exact OB.out | with_reducible exact OC.out
       · exact HCW.out _ (by (go_light; repeat (first | with_reducible assumption | with_reducible exact Below.refl _ _ | (with_reducible refine Below.setCell ?_ ?_ _; rotate_left; (focus first | (simp; done) | (simp; omega) | omega)) | (with_reducible refine Below.alloc ?_ ?_ _; rotate_left; (focus first | (simp; done) | (simp; omega) | omega)) | with_reducible refine Below.drew ?_)))
       · unfold maxLen; omega
       · omega
       · first | (simp; done) | (simp; omega) | omega
       intro v1 w1 hown1 hgrow1 _
       have bw1 : Below w.heap.size w w1 := by
         refine Below.grown ?_ hgrow1 ?_ ?_
         · exact (by (go_light; repeat (first | with_reducible assumption | with_reducible exact Below.refl _ _ | (with_reducible refine Below.setCell ?_ ?_ _; rotate_left; (focus first | (simp; done) | (simp; omega) | omega)) | (with_reducible refine Below.alloc ?_ ?_ _; rotate_left; (focus first | (simp; done) | (simp; omega) | omega)) | with_reducible refine Below.drew ?_)))
         · first | (simp; done) | (simp; omega) | omega
         · intro k hk; simp [Value.ownBlock] at hk; first | omega | (subst hk; omega)
       have K1 : Hid (Blk w1 w.heap.size [.int .i64 t.bgn, .int .i64 t.com, .slice a0 t.reads.length q0, .slice a1 t.writes.length q1]) := by
         refine Blk.grown (Blk.below (blk_new w [.int .i64 t.bgn, .int .i64 t.com, .slice a0 t.reads.length q0, .slice a1 t.writes.length q1] 31) ?_ (by simp)) hgrow1 ?_ ?_
         · exact (by (go_light; repeat (first | with_reducible assumption | with_reducible exact Below.refl _ _ | (with_reducible refine Below.setCell ?_ ?_ _; rotate_left; (focus first | (simp; done) | (simp; omega) | omega)) | (with_reducible refine Below.alloc ?_ ?_ _; rotate_left; (focus first | (simp; done) | (simp; omega) | omega)) | with_reducible refine Below.drew ?_)))
         · first | (simp; done) | (simp; omega) | omega
         · first | (simp [Value.ownBlock]; done) | (simp [Value.ownBlock]; omega)
       have o0 : w1.cell? ⟨w.heap.size, 0, none⟩ = some (.int .i64 t.bgn) := (K1.out 0 (by simp)).1
       have o1 : w1.cell? ⟨w.heap.size, 1, none⟩ = some (.int .i64 t.com) := (K1.out 1 (by simp)).1
       have o2 : w1.cell? ⟨w.heap.size, 2, none⟩ = some (.slice a0 t.reads.length q0) := (K1.out 2 (by simp)).1
       have o3 : w1.cell? ⟨w.heap.size, 3, none⟩ = some (.slice a1 t.writes.length q1) := (K1.out 3 (by simp)).1
       have KN : Hid (∀ j u, ([.int .i64 t.bgn, .int .i64 t.com, .slice a0 t.reads.length q0, .slice a1 t.writes.length q1] : List Value)[j]? = some u → (w1.alloc (.cells #[.int .i64 t.bgn, .int .i64 t.com, .slice a0 t.reads.length q0, .slice a1 t.writes.length q1] 31)).cell? ((⟨w1.heap.size, 0, none⟩ : Addr).add j) = some u) := (blk_new w1 [.int .i64 t.bgn, .int .i64 t.com, .slice a0 t.reads.length q0, .slice a1 t.writes.length q1] 31).cells
       first
         | have KT := hid (Blk.cells (KTB (cs := [.int .i64 t.bgn, .int .i64 t.com, .slice a0 t.reads.length q0, .slice a1 t.writes.length q1]) hgrow1 (by first | (simp [Value.ownBlock]; done) | (simp [Value.ownBlock]; omega))))
         | have KT := hid (Blk.cells (KTC (cs := [.int .i64 t.bgn, .int .i64 t.com, .slice a0 t.reads.length q0, .slice a1 t.writes.length q1]) hgrow1 (by first | (simp [Value.ownBlock]; done) | (simp [Value.ownBlock]; omega))))
         | skip
       clear hgrow1 K1)
    | (refine step_append_own rfl (.tmp 11) (.tmp 13) 29 rfl w.heap.size 31 i0 _ 4 64 Try.underlying29 hi hz0 hz1 hz2 rfl (by decide) v1 (0 + us.length) ([] ++ news) rfl ?_ ⟨_, 0, none⟩ 1 1 [.int .i64 t.bgn, .int .i64 t.com, .slice a0 t.reads.length q0, .slice a1 t.writes.length q1] rfl rfl ?_ HOC.out ?_ ?_ ?_ ?_
       · first | with_reducible exact hown1 | with_reducible exact hown1.alloc _
       · first | with_reducible exact KN.out | with_reducible exact KT.out
       · unfold maxLen; omega
       · omega
       · have := bw1.size; first | (simp; done) | (simp; omega) | omega
       intro v2 w2 hown2 hgrow2 _
       have bw2 : Below w.heap.size w w2 := by
         refine Below.grown ?_ hgrow2 ?_ ?_
         · first | with_reducible exact bw1 | with_reducible exact bw1.alloc bw1.size _
         · have := bw1.size; first | (simp; done) | (simp; omega) | omega
         · intro k hk; exact (hown1.lt k hk).1
       have HR := hid (HRS0.out w2 v2 _ _ bw2 (by omega) (by simp) hown2)
       clear hown1 hown2 hgrow2 o0 o1 o2 o3 KN
       obtain ⟨a2, c2, hv2, _⟩ := id HR.out
       subst hv2))
  all_goals
    clear OA OB OC HCW HNL HON HG HRS0
    have hh := history_spec a2 c2 al w2 HBA.out HR.out
    go_wp2_with (go_at_call 23; fail)
    refine hh.mono ?_
    rintro e w3 ⟨⟨r, rfl, hr⟩, hb3⟩
    have bw3 : Below w.heap.size w w3 := bw2.trans (hb3.mono bw2.size)
    have hd := danger_spec a2 c2 al w3 HBA.out (HR.out.below liesT hb3)
    clear hh hb3
    rcases r with _ | _
    · have HF : Hid (CertR al (.returned (.int .i64 1))) := .inl ⟨fun h => (by simpa using hr.2 h), rfl⟩
      clear hr hd
      go_wp2
      go_ret
      exact ⟨HF.out, bw3⟩
    · have HH := hid (hr.1 rfl)
      clear hr
      go_wp2_with (go_at_call 24; fail)
      refine hd.mono ?_
      rintro e w4 ⟨⟨r, rfl, hr⟩, hb4⟩
      have bw4 : Below w.heap.size w w4 := bw3.trans (hb4.mono bw3.size)
      clear hd hb4
      rcases r with _ | _
      · have HF : Hid (CertR al (.returned (.int .i64 0))) := .inr (.inr ⟨HH.out, fun h => (by simpa using hr.2 h), rfl⟩)
        clear hr
        go_wp2
        go_ret
        exact ⟨HF.out, bw4⟩
      · have HF : Hid (CertR al (.returned (.int .i64 21))) := .inr (.inl ⟨HH.out, hr.1 rfl, rfl⟩)
        clear hr
        go_wp2
        go_ret
        exact ⟨HF.out, bw4⟩
end Go.Proofs.Ytjfgojlnpbehfaa
