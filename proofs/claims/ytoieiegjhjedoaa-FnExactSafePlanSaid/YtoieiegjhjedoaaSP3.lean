import Derived.Test.YtoieiegjhjedoaaSP2
namespace Go.Proofs.Ytoieiegjhjedoaa
open Go.ChangeShapes Go.WideShapes Go.ChangeAt Go.RowKit
set_option linter.unusedVariables false
set_option linter.unusedSimpArgs false
set_option maxRecDepth 100000
def nodS (p : PN) : Bool := !(p.aggs.any ads) && !(p.exprs.any mfE)
set_option maxHeartbeats 16000000 in
theorem safePlan_impl (ps : List PN) (na : Option Addr) (nc : Nat) (w : World) (hB : BL 1048576 ps) (hR : ∀ p ∈ ps, ∀ e ∈ p.exprs, RgE e) (hv : RS 11 CP 0 w (.slice na ps.length nc) ps) :
    Calls Try.prog 7 #[.agg #[.slice na ps.length nc]] w fun e w' => e = .returned (.bool (ps.all nodS)) ∧ Below w.heap.size w w' := by
  have HB : Hid (BL 1048576 ps) := hB
  have HR := hid hR
  have hL := hB.1
  clear hB hR
  obtain ⟨a', c', he, hcells⟩ := hv
  simp only [Value.slice.injEq] at he
  obtain ⟨rfl, _, rfl⟩ := he
  have bw0 := below_alloc w (.cells #[.slice na ps.length nc] 29)
  go_enter Try.func7, Try.ntmps7
  go_wp2
  go_loopw [8] (fun iv wr => ∃ k : Nat, k ≤ ps.length ∧ iv = .int .i64 k ∧ Hid (∀ t ∈ ps.take k, nodS t = true) ∧ Below w.heap.size w wr) (fun iv _ => ps.length - (intOf iv).toNat)
  case atStart => exact ⟨0, Nat.zero_le _, rfl, (fun t h => by simp at h : ∀ t ∈ ps.take 0, nodS t = true), bw0⟩
  case round =>
    obtain ⟨k, hk, rfl, HO, hbel⟩ := hrel
    have hbs := hbel.size
    by_cases hlt : k < ps.length
    · have hlti : (k : Int) < ps.length := by omega
      obtain ⟨g, o, rfl, _, hg, hgc⟩ := hcells (by omega)
      obtain ⟨cs, hC, hcell⟩ := hgc k hlt
      have hB1 := HB.out.2 _ (List.getElem_mem hlt)
      have hR1 := HR.out _ (List.getElem_mem hlt)
      have HST : Hid (nodS ps[k] = true → ∀ t ∈ ps.take (k + 1), nodS t = true) := (fun z t ht => by
        rw [show ps.take (k + 1) = ps.take k ++ [ps[k]] by rw [List.take_add_one, List.getElem?_eq_getElem hlt]; rfl] at ht
        rcases List.mem_append.1 ht with h | h
        · exact HO.out t h
        · rw [List.mem_singleton] at h; rw [h]; exact z : nodS ps[k] = true → ∀ t ∈ ps.take (k + 1), nodS t = true)
      have HNo : Hid (nodS ps[k] = false → ps.all nodS = false) := (fun z => by
        rw [List.all_eq_false]
        exact ⟨ps[k], List.getElem_mem hlt, by simpa using z⟩ : nodS ps[k] = false → ps.all nodS = false)
      clear hgc hcells HO
      generalize ps[k] = t at *
      have HC0 := hid hC
      obtain ⟨v0, v1, v2, v3, v4, rfl, r0, r1, r2, r3, r4⟩ := hC
      have R0 := hid r0
      have R2 := hid r2
      obtain ⟨a0, q0, rfl, _⟩ := r0
      obtain ⟨a1, q1, rfl, _⟩ := r1
      obtain ⟨a2, q2, rfl, _⟩ := r2
      obtain ⟨a3, q3, rfl, _⟩ := r3
      obtain ⟨a4, q4, rfl, _⟩ := r4
      have c0 : wr.cell? ⟨g, o + k * 11, none⟩ = some (.int .i64 t.op) := (hbel.cell (p := ⟨g, o + k * 11, none⟩) hg).trans (hcell 0 (by omega))
      have c1 : wr.cell? ⟨g, o + k * 11 + 1, none⟩ = some (.int .i64 t.l) := (hbel.cell (p := ⟨g, o + k * 11 + 1, none⟩) hg).trans (hcell 1 (by omega))
      have c2 : wr.cell? ⟨g, o + k * 11 + 2, none⟩ = some (.int .i64 t.r) := (hbel.cell (p := ⟨g, o + k * 11 + 2, none⟩) hg).trans (hcell 2 (by omega))
      have c3 : wr.cell? ⟨g, o + k * 11 + 3, none⟩ = some (.int .i64 t.table) := (hbel.cell (p := ⟨g, o + k * 11 + 3, none⟩) hg).trans (hcell 3 (by omega))
      have c4 : wr.cell? ⟨g, o + k * 11 + 4, none⟩ = some (.int .i64 t.a) := (hbel.cell (p := ⟨g, o + k * 11 + 4, none⟩) hg).trans (hcell 4 (by omega))
      have c5 : wr.cell? ⟨g, o + k * 11 + 5, none⟩ = some (.int .i64 t.b) := (hbel.cell (p := ⟨g, o + k * 11 + 5, none⟩) hg).trans (hcell 5 (by omega))
      have c6 : wr.cell? ⟨g, o + k * 11 + 6, none⟩ = some (.slice a0 t.exprs.length q0) := (hbel.cell (p := ⟨g, o + k * 11 + 6, none⟩) hg).trans (hcell 6 (by omega))
      have c7 : wr.cell? ⟨g, o + k * 11 + 7, none⟩ = some (.slice a1 t.keys.length q1) := (hbel.cell (p := ⟨g, o + k * 11 + 7, none⟩) hg).trans (hcell 7 (by omega))
      have c8 : wr.cell? ⟨g, o + k * 11 + 8, none⟩ = some (.slice a2 t.aggs.length q2) := (hbel.cell (p := ⟨g, o + k * 11 + 8, none⟩) hg).trans (hcell 8 (by omega))
      have c9 : wr.cell? ⟨g, o + k * 11 + 9, none⟩ = some (.slice a3 t.sorts.length q3) := (hbel.cell (p := ⟨g, o + k * 11 + 9, none⟩) hg).trans (hcell 9 (by omega))
      have c10 : wr.cell? ⟨g, o + k * 11 + 10, none⟩ = some (.slice a4 t.kinds.length q4) := (hbel.cell (p := ⟨g, o + k * 11 + 10, none⟩) hg).trans (hcell 10 (by omega))
      clear hcell
      have bwA : Below w.heap.size w (wr.alloc (.cells #[.int .i64 t.op, .int .i64 t.l, .int .i64 t.r, .int .i64 t.table, .int .i64 t.a, .int .i64 t.b, .slice a0 t.exprs.length q0, .slice a1 t.keys.length q1, .slice a2 t.aggs.length q2, .slice a3 t.sorts.length q3, .slice a4 t.kinds.length q4] 39)) := hbel.alloc hbs _
      have K0 := hid (blk_new wr [.int .i64 t.op, .int .i64 t.l, .int .i64 t.r, .int .i64 t.table, .int .i64 t.a, .int .i64 t.b, .slice a0 t.exprs.length q0, .slice a1 t.keys.length q1, .slice a2 t.aggs.length q2, .slice a3 t.sorts.length q3, .slice a4 t.kinds.length q4] 39)
      have hzA : wr.heap.size < (wr.alloc (.cells #[.int .i64 t.op, .int .i64 t.l, .int .i64 t.r, .int .i64 t.table, .int .i64 t.a, .int .i64 t.b, .slice a0 t.exprs.length q0, .slice a1 t.keys.length q1, .slice a2 t.aggs.length q2, .slice a3 t.sorts.length q3, .slice a4 t.kinds.length q4] 39)).heap.size := by simp
      have h12 := anyAgg (.slice a2 t.aggs.length q2) t.aggs _ hB1.2.2.1 (fun _ _ => trivial) (R2.out.below liesPA bwA)
      have H14 := fun W (h : Below w.heap.size w W) => anyExpr (.slice a0 t.exprs.length q0) t.exprs W hB1.1.1 (fun e he => ⟨hB1.1.2 e he, hR1 e he⟩) (R0.out.below liesE h)
      have HD : Hid (nodS t = (!(t.aggs.any ads) && !(t.exprs.any mfE))) := rfl
      cases hA : t.aggs.any ads
      · have HEx : Hid (t.exprs.any mfE = t.exprs.any mfE) := rfl
        cases hX : t.exprs.any mfE
        · have HY := hid (HST.out (by rw [HD.out, hA, hX]; rfl))
          rw [hA] at h12
          simp only [hX] at H14
          clear hA hX HD HEx HST HNo
          go_wp2_with (go_at_call 12; fail)
          refine h12.mono ?_
          rintro e w1 ⟨rfl, hb1⟩
          have bw1 : Below w.heap.size w w1 := bwA.trans (hb1.mono bwA.size)
          replace K0 := hid (K0.out.below hb1 hzA)
          have n6 : w1.cell? ⟨wr.heap.size, 6, none⟩ = some (.slice a0 t.exprs.length q0) := (K0.out 6 (by simp)).1
          have h14 := H14 w1 bw1
          clear hb1 h12 H14 K0
          go_wp2_with (go_at_call 14; fail)
          refine h14.mono ?_
          rintro e w2 ⟨rfl, hb2⟩
          have bw2 : Below w.heap.size w w2 := bw1.trans (hb2.mono bw1.size)
          clear hb2 h14
          go_wp2
          go_roundw
          case rel => exact ⟨k + 1, by omega, by go_num, HY, bw2⟩
          case measure => simp [intOf]; omega
        · have HF := hid (HNo.out (by rw [HD.out, hA, hX]; rfl))
          rw [hA] at h12
          simp only [hX] at H14
          clear hA hX HD HEx HST HNo
          go_wp2_with (go_at_call 12; fail)
          refine h12.mono ?_
          rintro e w1 ⟨rfl, hb1⟩
          have bw1 : Below w.heap.size w w1 := bwA.trans (hb1.mono bwA.size)
          replace K0 := hid (K0.out.below hb1 hzA)
          have n6 : w1.cell? ⟨wr.heap.size, 6, none⟩ = some (.slice a0 t.exprs.length q0) := (K0.out 6 (by simp)).1
          have h14 := H14 w1 bw1
          clear hb1 h12 H14 K0
          go_wp2_with (go_at_call 14; fail)
          refine h14.mono ?_
          rintro e w2 ⟨rfl, hb2⟩
          have bw2 : Below w.heap.size w w2 := bw1.trans (hb2.mono bw1.size)
          clear hb2 h14
          go_wp2
          go_ret
          exact ⟨ret_b HF.out.symm, bw2⟩
      · have HF := hid (HNo.out (by rw [HD.out, hA]; rfl))
        rw [hA] at h12
        clear hA HD HST HNo H14
        go_wp2_with (go_at_call 12; fail)
        refine h12.mono ?_
        rintro e w1 ⟨rfl, hb1⟩
        have bw1 : Below w.heap.size w w1 := bwA.trans (hb1.mono bwA.size)
        clear hb1 h12 K0
        go_wp2
        go_ret
        exact ⟨ret_b HF.out.symm, bw1⟩

    · have hkn : k = ps.length := by omega
      subst hkn
      have hlti : ¬ (ps.length : Int) < ps.length := by omega
      have HT : Hid (ps.all nodS = true) := (by
        rw [List.all_eq_true]
        have := HO.out
        rw [List.take_length] at this
        exact this : ps.all nodS = true)
      clear HO
      go_wp2
      go_ret
      exact ⟨ret_b HT.out.symm, hbel⟩
end Go.Proofs.Ytoieiegjhjedoaa
