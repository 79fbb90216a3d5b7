import Derived.Test.YtbndliedcanmgaaRQS
import Derived.Test.YtbndliedcanmgaaRLK
namespace Go.Proofs.YtbndliedcanmgaaR
open Go.ChangeShapes Go.WideShapes Go.ChangeAt Go.RowKit
set_option linter.unusedVariables false
set_option linter.unusedSimpArgs false
set_option maxRecDepth 100000
open Go.MuLone
def clF (i : Nat) (fs : List Fr) : List Fr := (fs.take i).map (fun f => f.d false) ++ fs.drop i
theorem clF_len (i : Nat) (fs : List Fr) (h : i ≤ fs.length) : (clF i fs).length = fs.length := by simp [clF]; omega
theorem clF_at (i : Nat) (fs : List Fr) (h : i < fs.length) (h' : i < (clF i fs).length) : (clF i fs)[i] = fs[i] := by
  have hd : fs.drop i = fs[i] :: fs.drop (i + 1) := List.drop_eq_getElem_cons h
  have hl : ((fs.take i).map (fun f : Fr => f.d false)).length = i := by simp; omega
  apply Option.some.inj
  rw [← List.getElem?_eq_getElem]
  unfold clF
  rw [List.getElem?_append_right (by omega), hl, Nat.sub_self, hd]
  rfl
theorem clF_on (i : Nat) (fs : List Fr) (h : i < fs.length) (h' : i < (clF i fs).length) : (clF i fs).set i ((clF i fs)[i].d false) = clF (i + 1) fs := by
  rw [clF_at i fs h h']
  have hd : fs.drop i = fs[i] :: fs.drop (i + 1) := List.drop_eq_getElem_cons h
  have ht : fs.take (i + 1) = fs.take i ++ [fs[i]] := by rw [List.take_add_one, List.getElem?_eq_getElem h]; rfl
  have hl : ((fs.take i).map (fun f : Fr => f.d false)).length = i := by simp; omega
  unfold clF
  rw [List.set_append_right _ _ (by omega), hl, Nat.sub_self, hd, ht, List.map_append, List.append_assoc]
  rfl
theorem clF_pass (i : Nat) (fs : List Fr) (h : i < fs.length) (hd : fs[i].dy = false) : clF i fs = clF (i + 1) fs := by
  have hd' : fs.drop i = fs[i] :: fs.drop (i + 1) := List.drop_eq_getElem_cons h
  have ht : fs.take (i + 1) = fs.take i ++ [fs[i]] := by rw [List.take_add_one, List.getElem?_eq_getElem h]; rfl
  have e : fs[i].d false = fs[i] := by rw [Fr.d, ← hd]
  unfold clF
  rw [hd', ht, List.map_append, List.append_assoc, List.map_cons, List.map_nil, e]
  rfl
theorem dirt_on (i : Nat) (fs : List Fr) (h : i < fs.length) (hd : fs[i].dy = true) : dirt (fs.take (i + 1)) = dirt (fs.take i) ++ [fs[i].pg] := by
  have ht : fs.take (i + 1) = fs.take i ++ [fs[i]] := by rw [List.take_add_one, List.getElem?_eq_getElem h]; rfl
  rw [ht]
  generalize fs.take i = a
  simp [dirt, hd]
theorem dirt_pass (i : Nat) (fs : List Fr) (h : i < fs.length) (hd : fs[i].dy = false) : dirt (fs.take (i + 1)) = dirt (fs.take i) := by
  have ht : fs.take (i + 1) = fs.take i ++ [fs[i]] := by rw [List.take_add_one, List.getElem?_eq_getElem h]; rfl
  rw [ht]
  generalize fs.take i = a
  simp [dirt, hd]
theorem dirt_le (fs : List Fr) : (dirt fs).length ≤ fs.length := by unfold dirt; rw [List.length_map]; exact List.length_filter_le _ _
set_option maxHeartbeats 8000000 in
theorem clean_any (q : Nat) (fs : List Fr) (h : Nat) (w : World) (P : IPool w q 0 fs h) (hg : Good fs) :
    Calls Try.prog 31 #[.pointer (some ⟨q, 0, none⟩)] w fun e w' => ∃ v, e = .returned v ∧ IOut w.heap.size w' v (clP 300 ([], fs)).1 ∧ IPool w' q 0 (clP 300 ([], fs)).2 h ∧ U2 q q w w' := by
  obtain ⟨i0, hi, hz0, hz1, hz2⟩ := info_parts infoI
  have hq := P.qlt
  have hl := P.len
  have HG := hid hg
  have HE := hid (clP_good fs hl hg)
  have HP := hid (P.setL 1)
  have c0 := P.blk.1.1
  have f0 := P.blk.2.1
  clear P hg
  go_enter_defers Try.func31, Try.ntmps31
  go_wp2_with (go_at_call 34; fail)
  refine (lock_free muLib ⟨q, 0, none⟩ _ c0 f0).mono ?_
  rintro e w1 ⟨rfl, hw1⟩
  have HU1 : Hid (U2 q q w w1) := (by rw [hw1]; exact (U2.refl q q w).setQ : U2 q q w w1)
  have hs1 : w1.heap.size = w.heap.size := by rw [hw1]; simp [World.setCell]
  rw [← hw1] at HP
  clear hw1 c0 f0
  go_wp2
  go_loopw [3, 12] (fun ov iv wx => ∃ (i : Nat) (oa : Option Addr) (oc : Nat), i ≤ 8 ∧ iv = .int .i64 (i : Int) ∧ ov = .slice oa (dirt (fs.take i)).length oc ∧ Hid (IOut w.heap.size wx (.slice oa (dirt (fs.take i)).length oc) (dirt (fs.take i))) ∧ Hid (IPool wx q 1 (clF i fs) h) ∧ Hid (U2 q q w wx) ∧ w.heap.size ≤ wx.heap.size) (fun _ iv _ => 8 - (intOf iv).toNat)
  case atStart => exact ⟨0, none, 0, Nat.zero_le _, rfl, rfl, ⟨by simp [dirt], .inl ⟨rfl, rfl⟩⟩, HP, HU1, by omega⟩
  case round =>
    clear HP HU1 hs1
    obtain ⟨i, oa, oc, hi8, rfl, rfl, HI, HPL, HU, hsz⟩ := hrel
    by_cases hlt : i < 8
    · have hli : (i : Int) < 8 := by omega
      have hif : i < fs.length := by omega
      have hic : i < (clF i fs).length := by rw [clF_len _ _ (by omega)]; exact hif
      obtain ⟨⟨d0, d1, d2, d3⟩, f0, f1, f2, f3⟩ := HPL.out.frs i hic
      have hqr := HPL.out.qlt
      rw [clF_at i fs hif hic] at d0 d1 d2 d3
      have hdl : (dirt (fs.take i)).length ≤ 8 := by have := dirt_le (fs.take i); simp at this; omega
      cases hdy : fs[i].dy
      · have HI2 := HI
        rw [← dirt_pass i fs hif hdy] at HI2
        have HP2 := HPL
        rw [clF_pass i fs hif hdy] at HP2
        have HDL := hid (dirt_pass i fs hif hdy)
        rw [hdy] at d3
        clear hdy HI HPL
        generalize pgC fs[i] = p0 at d0
        generalize tkC fs[i] = p1 at d1
        generalize fs[i].ma = p2 at d2
        go_wp2
        go_roundw
        case rel => exact ⟨i + 1, oa, oc, by omega, by go_num, by rw [HDL.out], by rw [HDL.out] at HI2 ⊢; exact HI2, HP2, HU, hsz⟩
        case measure => simp [intOf]; omega
      · have hpc : pgC fs[i] = fs[i].pg := by
          unfold pgC
          rw [if_neg]
          intro hn
          have := ((HG.out _ (List.getElem_mem hif)).2 hn).2
          rw [hdy] at this
          cases this
        have HDO := hid (dirt_on i fs hif hdy)
        have HCO := hid (clF_on i fs hif hic)
        rw [hdy] at d3
        rw [hpc] at d0
        clear hdy hpc
        obtain ⟨p0, hpe⟩ : ∃ z, fs[i].pg = z := ⟨_, rfl⟩
        rw [hpe] at d0 HDO
        clear hpe
        generalize tkC fs[i] = p1 at d1
        generalize fs[i].ma = p2 at d2
        have HB7 : Hid (Below wr.heap.size wr (wr.alloc (.cells #[.int .i64 p0] 3))) := below_alloc _ _
        have HN : Hid (∀ (j : Nat) (u : Value), [Value.int .i64 p0][j]? = some u → (wr.alloc (.cells #[.int .i64 p0] 3)).cell? ((⟨wr.heap.size, 0, none⟩ : Addr).add j) = some u) := (fun j u hj => by
          have hl : j = 0 := by
            by_cases h : j < 1
            · omega
            · rw [List.getElem?_eq_none (by simp; omega)] at hj; cases hj
          subst hl
          rw [Addr.add_lit, Nat.zero_add, World.cell?_alloc_at _ _ _ _ (by simp)]
          exact hj : ∀ (j : Nat) (u : Value), [Value.int .i64 p0][j]? = some u → (wr.alloc (.cells #[.int .i64 p0] 3)).cell? ((⟨wr.heap.size, 0, none⟩ : Addr).add j) = some u)
        have HO7 : Hid ((wr.alloc (.cells #[.int .i64 p0] 3)).ownsRow w.heap.size 3 1 (.slice oa (dirt (fs.take i)).length oc) (dirt (fs.take i)).length ((dirt (fs.take i)).map (Value.int .i64))) := own_below HI.out HB7.out
        have hs7 : w.heap.size ≤ (wr.alloc (.cells #[.int .i64 p0] 3)).heap.size := Nat.le_trans hsz HB7.out.size
        have HLT := hid (World.ownsRow.lt HI.out)
        have HP7 : Hid (IPool (wr.alloc (.cells #[.int .i64 p0] 3)) q 1 (clF i fs) h) := HPL.out.below HB7.out
        have HU7 : Hid (U2 q q w (wr.alloc (.cells #[.int .i64 p0] 3))) := HU.out.trans (U2.below HB7.out)
        clear HI HPL HU
        generalize dirt (fs.take i) = out1 at *
        go_wp2_with (at_builtin
                     refine wpList_append_own _ rfl (.tmp 22) (.tmp 30) 30 rfl w.heap.size 3 i0 (.int .i64 0) 1 8 Try.underlying30 hi hz0 hz1 hz2 rfl (by decide) _ _ _ rfl HO7.out ⟨wr.heap.size, 0, none⟩ 1 1 [.int .i64 p0] rfl rfl HN.out (by intro u hu; simp at hu; subst hu; rfl) (by unfold maxLen; omega) (by omega) hs7 ?_
                     intro v2 w2 hown2 hgrow2 hiff2
                     clear hiff2 d0 d1 d2 d3 f0 f1 f2 f3
                     have P2 := HP7.out.grown hgrow2 (fun e => by have := (HLT.out _ e.symm).1; omega)
                     have HU2 := hid (U2.grown (B := 0) HU7.out hgrow2 (fun k e => (HLT.out k e).1))
                     have hs2 : w.heap.size ≤ w2.heap.size := Nat.le_trans hs7 hgrow2.size
                     have HL2 := hid (World.ownsRow.lt hown2)
                     have HR := hid (IOut.push hown2)
                     obtain ⟨oa2, oc2, hv2⟩ := HR.out.form
                     subst hv2
                     obtain ⟨⟨d0, d1, d2, d3⟩, f0, f1, f2, f3⟩ := P2.frs i hic
                     have HP3 := hid (P2.setD i hic false)
                     have HU3 : Hid (U2 q q w (w2.setCell ⟨q, 2 + i * 4 + 3, none⟩ (.bool false))) := HU2.out.setQ
                     have HR3 : Hid (IOut w.heap.size (w2.setCell ⟨q, 2 + i * 4 + 3, none⟩ (.bool false)) (.slice oa2 (out1 ++ [p0]).length oc2) (out1 ++ [p0])) := ownsRow_setCell_other HR.out (fun e => Nat.not_le_of_lt hq (HL2.out _ e).1) _
                     have hq2 := P2.qlt
                     clear hown2 hgrow2 HB7 P2 HU2 HR HL2 HLT HP7 HU7 HO7)
        go_roundw
        case rel => exact ⟨i + 1, oa2, oc2, by omega, by go_num, by rw [HDO.out]; simp, by rw [HDO.out]; exact HR3, by rw [← HCO.out]; exact HP3, HU3, by simpa [World.setCell] using hs2⟩
        case measure => simp [intOf]; omega
    · have hli : ¬ (i : Int) < 8 := by omega
      have hi8' : i = 8 := by omega
      subst hi8'
      have e8 : fs.take 8 = fs := List.take_of_length_le (by omega)
      have e9 : clF 8 fs = fs.map (fun f => f.d false) := by unfold clF; rw [e8, List.drop_eq_nil_of_le (by omega), List.append_nil]
      rw [e8] at HI
      rw [e9] at HPL
      rw [e8]
      have hdl : (dirt fs).length ≤ 8 := by have := dirt_le fs; omega
      have HLT := hid (World.ownsRow.lt HI.out)
      go_wp2_with (go_at_call 36; fail)
      refine (sort_any w.heap.size wr _ (dirt fs) HI.out hdl).mono ?_
      rintro e w2 ⟨rfl, hI2, hgr⟩
      have HI2 := hid hI2
      have HP2 := hid (HPL.out.grown hgr (fun e => by have := (HLT.out _ e.symm).1; omega))
      have HU2 := hid (U2.grown (B := 0) HU.out hgr (fun k e => (HLT.out k e).1))
      clear hI2 hgr HI HPL HU
      go_wp2
      unfold bodyPostD
      refine leaves_cons (f := 35) (args := #[.pointer (some ⟨q, 0, none⟩)]) (by simp) (by simp [go_sem]) ?_
      refine (unlock_deferred muLib ⟨q, 0, none⟩ .returning _ HP2.out.blk.1.1 HP2.out.blk.2.1).mono ?_
      rintro e u' w'' ⟨rfl, rfl, rfl⟩
      refine ⟨_, results_tmp rfl _ _ _, _, rfl, ?_, ?_, HU2.out.setQ⟩
      · rw [HE.out]
        exact ownsRow_setCell_other HI2.out (fun e => Nat.not_le_of_lt hq (HLT.out _ e).1) _
      · rw [HE.out]
        exact HP2.out.setL 0
end Go.Proofs.YtbndliedcanmgaaR
