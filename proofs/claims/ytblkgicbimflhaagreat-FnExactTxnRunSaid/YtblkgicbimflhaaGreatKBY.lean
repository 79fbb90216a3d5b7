import Derived.Test.YtblkgicbimflhaaGreatKBX
namespace Go.Proofs.YtblkgicbimflhaaGreat
open Go.ChangeShapes Go.WideShapes Go.ChangeAt Go.RowKit
set_option linter.unusedVariables false
set_option linter.unusedSimpArgs false
set_option maxRecDepth 100000
open List (setIfInBounds_toArray set_cons_zero set_cons_succ)
theorem TrM.mark {B : Nat} {w : World} {t : TG} {x : Txn} (h : TrM B w t x) {m : Nat} (hm : m < 32) : TrM B (w.setCell ⟨t.g, 2 + m, none⟩ (.bool true)) t { x with rs := x.rs.set m true } := by
 have f := Fr.setCell w t.g (2 + m) (.bool true)
 refine ⟨?_, by simpa using h.gl, by simpa using h.rl, h.mp.fr f (fun e => h.g_mb e.symm), h.mr, h.mi, h.sl, h.s8, own_fr h.sr f (fun g hg e => h.sg (by rw [← (show g = t.g from e)]; exact hg)), fun j hj hj' => ⟨(h.ss j hj hj').1.fr f (fun e => ?_), (h.ss j hj hj').2⟩, h.nd, h.sg, h.ge⟩
 ·have k := h.bk.set (2 + m) (.bool true) (by rw [tranC_len _ _ _ _ _ h.rl]; omega)
  rw [tranC_setrd _ _ _ _ _ _ (by rw [h.rl]; exact hm)] at k
  exact k
 ·have e2 : t.sm[j].1 = t.g := e
  exact h.g_sm (by rw [← e2]; exact List.mem_map_of_mem (List.getElem_mem hj))
theorem TrM.rd {B : Nat} {w : World} {t : TG} {x : Txn} (h : TrM B w t x) {m : Nat} (hm : m < 32) : ∃ b, w.cell? ⟨t.g, 2 + m, none⟩ = some (.bool b) ∧ w.frozen? ⟨t.g, 2 + m, none⟩ = false := by
 have k := h.bk (2 + m) (by rw [tranC_len _ _ _ _ _ h.rl]; omega)
 rw [tranC_rd _ _ _ _ _ (by rw [h.rl]; exact hm)] at k
 exact ⟨_, k.1, k.2⟩
theorem TrP.mark {B : Nat} {w : World} {t : TG} {x : Txn} (h : TrM B w t x) {m : Nat} (hm : m < 32) : TrP B w t { x with rs := x.rs.set m true } (w.setCell ⟨t.g, 2 + m, none⟩ (.bool true)) := ⟨t, h.mark hm, rfl, fun b hb => .inl hb, (Fr.setCell w t.g (2 + m) (.bool true)).mono (fun g e => .inl e)⟩
theorem run_i2 (x : Bas) (n m : Nat) (ky vl md : Int) (nm : ByteArray) (hn1 : 1 ≤ n) (hn2 : n ≤ 4) (ho : opn x (n - 1) = true) (hm : m < 32) : runF x ⟨2, (n : Int), (m : Int), ky, vl, md, nm⟩ = ({ x with tx := x.tx.set (n - 1) { (x.tx.getD (n - 1) tx0) with rs := (x.tx.getD (n - 1) tx0).rs.set m true } }, ⟨0, (seesN x.cms (x.tx.getD (n - 1) tx0).bg (x.tx.getD (n - 1) tx0).own (m : Int) ky).1, 0, (seesN x.cms (x.tx.getD (n - 1) tx0).bg (x.tx.getD (n - 1) tx0).own (m : Int) ky).2, []⟩) := by
 have e : ((n : Int) - 1).toNat = n - 1 := by omega
 unfold runF
 simp only [e]
 rw [if_neg (by omega), if_neg (by rw [show (x.tx.getD (n - 1) tx0).op = true from ho]; decide)]
 rw [if_neg (by omega), ← seesF_N]
 cases (seesF x.cms (x.tx.getD (n - 1) tx0).bg (x.tx.getD (n - 1) tx0).own (m : Int) ky).2 <;> simp
set_option maxHeartbeats 8000000 in
theorem ans_2 (B sb n m : Nat) (ky vl md : Int) (nm : ByteArray) (w : World) (x : Bas) (L : LIx → Value) (c : Led) (gh : Nat → TG) (op : Nat → Option Addr) (h : IMem B sb w x L c gh op) (hb : Bnd x) (hck : x.ck < 1000) (hhl : x.hs.length < 1000) (hB : B ≤ w.heap.size) (hn1 : 1 ≤ n) (hn2 : n ≤ 4) (ho : opn x (n - 1) = true) (hm : m < 32) :
 Calls Tryz.prog 22 #[.pointer (some ⟨sb, 0, none⟩), .agg #[.int .i64 2, .int .i64 (n : Int), .int .i64 (m : Int), .int .i64 ky, .int .i64 vl, .int .i64 md, .string nm]] w fun e w' => AnsP B sb w x L gh (runF x ⟨2, (n : Int), (m : Int), ky, vl, md, nm⟩) e w' := by
 have hi : n - 1 < 4 := by omega
 have e1 : n - 1 + 1 = n := by omega
 obtain ⟨w0, hw0⟩ : ∃ z, z = (w.alloc (.cells #[.int .i64 2, .int .i64 (n : Int), .int .i64 (m : Int), .int .i64 ky, .int .i64 vl, .int .i64 md, .string nm] 41)).alloc (.cells #[.int .i64 0, .int .i64 0, .int .i64 0, .bool false, .slice none 0 0] 38) := ⟨_, rfl⟩
 have hb0 : Below w.heap.size w w0 := by rw [hw0]; exact (below_alloc _ _).trans ((below_alloc _ _).mono (by simp))
 have hz0 : w0.heap.size = w.heap.size + 1 + 1 := by rw [hw0]; simp
 have KO0 : Blk w0 w.heap.size (opC 2 n (m : Int) ky vl md nm) := by rw [hw0]; exact (blk_new w (opC 2 n (m : Int) ky vl md nm) _).below (below_alloc _ _) (by simp)
 have KR0 : Blk w0 (w.heap.size + 1) (obsC 0 0 0 false (.slice none 0 0)) := by
  have := blk_new (w.alloc (.cells #[.int .i64 2, .int .i64 (n : Int), .int .i64 (m : Int), .int .i64 ky, .int .i64 vl, .int .i64 md, .string nm] 41)) (obsC 0 0 0 false (.slice none 0 0)) 38
  have e : (w.alloc (.cells #[.int .i64 2, .int .i64 (n : Int), .int .i64 (m : Int), .int .i64 ky, .int .i64 vl, .int .i64 md, .string nm] 41)).heap.size = w.heap.size + 1 := by simp
  rw [e] at this
  rw [hw0]
  exact this
 have h0 := h.below hb0
 obtain ⟨hop, hT⟩ := h0.tr (n - 1) hi ho
 rw [e1] at hop
 clear hT
 obtain ⟨c0, _⟩ := ses_cell h0.ses (j := 66 + n) (by omega)
 rw [sesAt_op, hop] at c0
 have hfa := fault_in sb n 2 (m : Int) md ky vl (.string nm) (some ⟨(gh (n - 1)).g, 0, none⟩) w0 h0.sl (by omega) (by omega) hn1 hn2 c0
 rw [show faultC 2 n (m : Int) md ((some ⟨(gh (n - 1)).g, 0, none⟩)).isNone = 0 from (fault_t 2 n (m : Int) md _ (by omega) (by omega) (by omega) (by omega) (by omega))] at hfa
 have hni : (n : Int) < 5 := by omega
 have hsl := h.sl
 have hfl : ∀ g, foot sb L x gh g → g < w.heap.size := fun g hg => (h.lt hg).2
 have HFL := hid hfl
 have HB := hid hb
 have HM := hid h0
 have HKO := hid KO0
 have HKR := hid KR0
 clear h0 h KO0 KR0 hfl hb
 rw [hw0] at hfa
 go_enter Tryz.func22, Tryz.ntmps22
 go_wp2_with (go_at_call 42; fail)
 refine hfa.mono ?_
 rw [← hw0]
 rintro e w1 ⟨rfl, hb1⟩
 have hs1 := hb1.size
 have HB1 := hid (hb0.trans (hb1.mono hb0.size) : Below w.heap.size w w1)
 have KO := HKO.out.below hb1 (by omega)
 have KR := HKR.out.below hb1 (by omega)
 have c1 := (World.cell?_of_block (a := ⟨sb, 66 + n, none⟩) (hb1.block sb (by omega))).trans c0
 have o0 : w1.cell? ⟨w.heap.size, 0, none⟩ = some (.int .i64 2) := (KO 0 (by simp [opC])).1
 have o1 : w1.cell? ⟨w.heap.size, 1, none⟩ = some (.int .i64 (n : Int)) := (KO 1 (by simp [opC])).1
 have o2 : w1.cell? ⟨w.heap.size, 2, none⟩ = some (.int .i64 (m : Int)) := (KO 2 (by simp [opC])).1
 have o3 : w1.cell? ⟨w.heap.size, 3, none⟩ = some (.int .i64 ky) := (KO 3 (by simp [opC])).1
 obtain ⟨w2, hw2⟩ : ∃ z, z = (w1.alloc (.cells #[.int .i64 (m : Int), .int .i64 ky] 113)).drew := ⟨_, rfl⟩
 have b2 : Below w1.heap.size w1 w2 := by rw [hw2]; exact (below_alloc _ _).drew
 have hz2 : w1.heap.size < w2.heap.size := by rw [hw2]; simp
 have KO2 := KO.below b2 (by omega)
 have KR2 := KR.below b2 (by omega)
 have KS2 : Blk w2 w1.heap.size [.int .i64 (m : Int), .int .i64 ky] := by rw [hw2]; exact (blk_new w1 [.int .i64 (m : Int), .int .i64 ky] _).drewR
 have q0 : (w1.alloc (.cells #[.int .i64 (m : Int), .int .i64 ky] 113)).cell? ⟨w.heap.size, 0, none⟩ = some (.int .i64 2) := by rw [hw2] at KO2; exact (KO2 0 (by simp [opC])).1
 have HKO := hid KO2
 have HKR := hid KR2
 have HKS := hid KS2
 have HM2 := hid ((HM.out.below hb1).below b2)
 have HB2 := hid (HB1.out.trans (b2.mono HB1.out.size) : Below w.heap.size w w2)
 have HW2 := hid hw2
 clear hfa c0 hb1 HM KO KR KO2 KR2 KS2 b2 HB1
 clear hw2
 have hzz : w.heap.size + 1 < w1.heap.size := by omega
 go_wp2
 go_region
 go_wp2
 rw [← HW2.out]
 have hT := (HM2.out.tr (n - 1) hi ho).2
 obtain ⟨rb, rd1, rd2⟩ := hT.rd hm
 have q2 : w2.cell? ⟨w.heap.size, 2, none⟩ = some (.int .i64 (m : Int)) := (HKO.out 2 (by simp [opC])).1
 have hmi : (m : Int) < 32 := by omega
 clear q0 o0 o1 o2 o3 hT
 go_region
 obtain ⟨W3, hW3⟩ : ∃ z, z = (w2.setCell ⟨(gh (n - 1)).g, 2 + m, none⟩ (.bool true)).drew := ⟨_, rfl⟩
 rw [← hW3]
 have hT := (HM2.out.tr (n - 1) hi ho).2
 obtain ⟨gh', hM3, hfr, hft⟩ := HM2.out.put hi ho (x' := { (x.tx.getD (n - 1) tx0) with rs := (x.tx.getD (n - 1) tx0).rs.set m true }) ho (TrP.mark hT hm)
 have hT3 := (hT.mark hm).fr (Fr.refl (fun _ => False) _).drewR (fun _ _ z => z)
 have hM3 := hM3.drew
 have hfr := hfr.drewR
 rw [← hW3] at hM3 hfr hT3
 have hs3 := hfr.size
 have KS3 := HKS.out.fr hfr hz2 (fun z => by have := HFL.out _ z; omega)
 have KO3 := HKO.out.fr hfr (by omega) (fun z => by have := HFL.out _ z; omega)
 have HT3 := hid hT3
 have HM3 := hid hM3
 have HFR := hid hfr
 have HFT := hid hft
 have HKO3 := hid KO3
 have HSE := hid (HM2.out.sees (bg := (x.tx.getD (n - 1) tx0).bg) hT.mr hm)
 clear hM3 hfr hft hW3 rd1 rd2 q2 hT3 hT KO3
 go_wp2
 have k0 : W3.cell? ⟨w1.heap.size, 0, none⟩ = some (.int .i64 (m : Int)) := (KS3 0 (by simp)).1
 have k1 : W3.cell? ⟨w1.heap.size, 1, none⟩ = some (.int .i64 ky) := (KS3 1 (by simp)).1
 have HSEEN := hid (fun (W : World) (b : Below W3.heap.size W3 W) => (HM3.out.below b).led.seen (HM2.out.bnd HB.out).1 (HM3.out.below b).ses (HM3.out.below b).sl (HT3.out.below b) m hm ky)
 have HKR3 := hid (HKR.out.fr HFR.out (by omega) (fun z => by have := HFL.out _ z; omega))
 clear KS3
 refine wp_region_till_drew (S := (fun W => W.cell? ⟨w1.heap.size, 0, none⟩ = some (.int .i64 (m : Int)) ∧ W.cell? ⟨w1.heap.size, 1, none⟩ = some (.int .i64 ky))) (late := [7]) (by kernel_rfl) ⟨k0, k1⟩ (fun hHeld => ?_)
 refine till_tk (i := 0) (v := ?_) rfl (Or.inl ⟨by rfl, ?_⟩) hHeld ?_
 rotate_left
 ·intro w
  go_simp
  try with_reducible rfl
 try simp only [Act.put, setIfInBounds_toArray, set_cons_zero, set_cons_succ]
 refine till_tk (i := 1) (v := ?_) rfl (Or.inl ⟨by rfl, ?_⟩) hHeld ?_
 rotate_left
 ·intro w
  go_simp
  try with_reducible rfl
 try simp only [Act.put, setIfInBounds_toArray, set_cons_zero, set_cons_succ]
 refine till_tk (i := 2) (v := ?_) rfl (Or.inl ⟨by rfl, ?_⟩) hHeld ?_
 rotate_left
 ·intro w
  go_simp
  try with_reducible rfl
 try simp only [Act.put, setIfInBounds_toArray, set_cons_zero, set_cons_succ]
 refine till_tk (i := 3) (v := ?_) rfl (Or.inl ⟨by rfl, ?_⟩) hHeld ?_
 rotate_left
 ·intro w
  go_simp
  try with_reducible rfl
 try simp only [Act.put, setIfInBounds_toArray, set_cons_zero, set_cons_succ]
 refine till_ld (i := 4) (v := ?_) rfl (Or.inl ⟨by rfl, ?_⟩) hHeld ?_
 rotate_left
 ·intro w hSw
  try dsimp only at hSw
  go_simp
  try with_reducible rfl
 try simp only [Act.put, setIfInBounds_toArray, set_cons_zero, set_cons_succ]
 refine till_ready (rs := [5, 6]) (by kernel_rfl) (by simp) (TillAll.cons rfl (fun K hK => ?_) (TillAll.cons rfl (fun K hK => ?_) TillAll.nil))
 ·go_simp
  obtain ⟨wd, hwd⟩ : ∃ z, z = W3.drew := ⟨_, rfl⟩
  have bd : Below W3.heap.size W3 wd := by rw [hwd]; exact (Below.refl _ _).drew
  rw [← hwd]
  have HBD := hid bd
  clear hwd bd
  refine (HSEEN.out wd HBD.out).mono ?_
  rintro e W5 ⟨⟨⟨v1, v2⟩, rfl, hv⟩, hb5⟩
  have HV := hid (hv.trans (HSE.out ky))
  have b5 : Below W3.heap.size W3 W5 := HBD.out.trans (hb5.mono HBD.out.size)
  have HB5 := hid b5
  have hs5 := b5.size
  refine hK _ _ ⟨⟨(b5.cell (p := ⟨w1.heap.size, 0, none⟩) (by show w1.heap.size < _; omega)).trans k0, (b5.cell (p := ⟨w1.heap.size, 1, none⟩) (by show w1.heap.size < _; omega)).trans k1⟩, ?_⟩
  clear hK K hv hb5 b5
  try simp only [Act.put, setIfInBounds_toArray, set_cons_zero, set_cons_succ]
  refine till_ready (rs := [6]) (by kernel_rfl) (by simp) (TillAll.cons rfl (fun K hK => ?_) TillAll.nil)
  go_simp
  have b6 : Below W3.heap.size W3 (W5.alloc (.cells #[.int .i64 0, .bool false] 121)) := HB5.out.alloc hs5 _
  refine hK _ _ ⟨⟨(b6.cell (p := ⟨w1.heap.size, 0, none⟩) (by show w1.heap.size < _; omega)).trans k0, (b6.cell (p := ⟨w1.heap.size, 1, none⟩) (by show w1.heap.size < _; omega)).trans k1⟩, ?_⟩
  clear hK K b6
  try simp only [Act.put, setIfInBounds_toArray, set_cons_zero, set_cons_succ]
  refine till_ready (rs := [7]) (by kernel_rfl) (by simp) (TillAll.cons2 rfl (by kernel_rfl) (fun K hK => ?_) TillAll.nil)
  go_simp
  refine hK _ _ ?_
  clear hK K
  try simp only [Act.put, setIfInBounds_toArray, set_cons_zero, set_cons_succ]
  refine till_done (by kernel_rfl) ?_ _
  obtain ⟨W6, hW6⟩ : ∃ z, z = W5.alloc (.cells #[.int .i64 v1, .bool v2] 121) := ⟨_, rfl⟩
  rw [← hW6]
  have b6 : Below W3.heap.size W3 W6 := by rw [hW6]; exact HB5.out.alloc hs5 _
  have kk : Blk W6 W5.heap.size [.int .i64 v1, .bool v2] := by rw [hW6]; exact blk_new W5 [.int .i64 v1, .bool v2] _
  have m0 : W6.cell? ⟨W5.heap.size, 0, none⟩ = some (.int .i64 v1) := (kk 0 (by simp)).1
  have m1 : W6.cell? ⟨W5.heap.size, 1, none⟩ = some (.bool v2) := (kk 1 (by simp)).1
  have HB6 := hid b6
  have hs6 := b6.size
  clear b6 kk
  clear hW6
  have KR3 := (HKR.out.fr HFR.out (by omega) (fun z => by have := HFL.out _ z; omega)).below HB6.out (by omega)
  have r0 : W6.cell? ⟨w.heap.size + 1, 0, none⟩ = some (.int .i64 0) := (KR3 0 (by simp [obsC, opC])).1
  have fr0 : W6.frozen? ⟨w.heap.size + 1, 0, none⟩ = false := (KR3 0 (by simp [obsC, opC])).2
  have r1 : W6.cell? ⟨w.heap.size + 1, 1, none⟩ = some (.int .i64 0) := (KR3 1 (by simp [obsC, opC])).1
  have fr1 : W6.frozen? ⟨w.heap.size + 1, 1, none⟩ = false := (KR3 1 (by simp [obsC, opC])).2
  have r2 : W6.cell? ⟨w.heap.size + 1, 2, none⟩ = some (.int .i64 0) := (KR3 2 (by simp [obsC, opC])).1
  have fr2 : W6.frozen? ⟨w.heap.size + 1, 2, none⟩ = false := (KR3 2 (by simp [obsC, opC])).2
  have r3 : W6.cell? ⟨w.heap.size + 1, 3, none⟩ = some (.bool false) := (KR3 3 (by simp [obsC, opC])).1
  have fr3 : W6.frozen? ⟨w.heap.size + 1, 3, none⟩ = false := (KR3 3 (by simp [obsC, opC])).2
  have r4 : W6.cell? ⟨w.heap.size + 1, 4, none⟩ = some (.slice none 0 0) := (KR3 4 (by simp [obsC, opC])).1
  have fr4 : W6.frozen? ⟨w.heap.size + 1, 4, none⟩ = false := (KR3 4 (by simp [obsC, opC])).2
  obtain ⟨W4, hW4⟩ : ∃ z, z = set5 W6 (w.heap.size + 1) (.int .i64 0) (.int .i64 v1) (.int .i64 0) (.bool v2) (.slice none 0 0) := ⟨_, rfl⟩
  have f4 : Fr (fun q => q = w.heap.size + 1) W6 W4 := by rw [hW4]; exact chg_5 _ _ _ _ _ _ _
  have K4 : Blk W4 (w.heap.size + 1) (obsC 0 v1 0 v2 (.slice none 0 0)) := by rw [hW4]; exact blk_set5 KR3 rfl
  have t0 : W4.cell? ⟨w.heap.size + 1, 0, none⟩ = some (.int .i64 0) := (K4 0 (by simp [obsC, opC])).1
  have t1 : W4.cell? ⟨w.heap.size + 1, 1, none⟩ = some (.int .i64 v1) := (K4 1 (by simp [obsC, opC])).1
  have t2 : W4.cell? ⟨w.heap.size + 1, 2, none⟩ = some (.int .i64 0) := (K4 2 (by simp [obsC, opC])).1
  have t3 : W4.cell? ⟨w.heap.size + 1, 3, none⟩ = some (.bool v2) := (K4 3 (by simp [obsC, opC])).1
  have t4 : W4.cell? ⟨w.heap.size + 1, 4, none⟩ = some (.slice none 0 0) := (K4 4 (by simp [obsC, opC])).1
  have HF4 := hid f4
  unfold set5 at hW4
  clear K4 KR3 f4
  go_wp2
  rw [← hW4]
  refine bodyPost_ret (v := .agg #[.int .i64 0, .int .i64 v1, .int .i64 0, .bool v2, .slice none 0 0]) (by simp [results, Tryz.results22, go_sem, t0, t1, t2, t3, t4]) rfl ?_
  have e2 := run_i2 x n m ky vl md nm hn1 hn2 ho hm
  rw [← HV.out] at e2
  rw [e2]
  exact AnsP.of (q := w.heap.size + 1) (pv := .slice none 0 0) HFL.out HB2.out (by omega) (by omega) (HM3.out.below HB6.out) (HFR.out.trans (Fr.of_below _ HB6.out)) HFT.out HF4.out (gr_nil _ _ _ _ _) (fun g hg => (nil_own g hg).elim) rfl
 ·go_simp
  obtain ⟨wd, hwd⟩ : ∃ z, z = (W3.alloc (.cells #[.int .i64 0, .bool false] 121)).drew := ⟨_, rfl⟩
  have bd : Below W3.heap.size W3 wd := by rw [hwd]; exact (below_alloc _ _).drew
  have kd : Blk wd W3.heap.size [.int .i64 0, .bool false] := by rw [hwd]; exact (blk_new W3 [.int .i64 0, .bool false] _).drewR
  have hzd : W3.heap.size < wd.heap.size := by rw [hwd]; simp
  have HKD := hid kd
  have HBD := hid bd
  have p0 : wd.cell? ⟨w1.heap.size, 0, none⟩ = some (.int .i64 (m : Int)) := (bd.cell (p := ⟨w1.heap.size, 0, none⟩) (by show w1.heap.size < _; omega)).trans k0
  have p1 : wd.cell? ⟨w1.heap.size, 1, none⟩ = some (.int .i64 ky) := (bd.cell (p := ⟨w1.heap.size, 1, none⟩) (by show w1.heap.size < _; omega)).trans k1
  rw [← hwd]
  refine hK _ _ ⟨⟨p0, p1⟩, ?_⟩
  clear hK K hwd bd kd
  try simp only [Act.put, setIfInBounds_toArray, set_cons_zero, set_cons_succ]
  refine till_ready (rs := [5]) (by kernel_rfl) (by simp) (TillAll.cons rfl (fun K hK => ?_) TillAll.nil)
  go_simp
  refine (HSEEN.out wd HBD.out).mono ?_
  rintro e W5 ⟨⟨⟨v1, v2⟩, rfl, hv⟩, hb5⟩
  have HV := hid (hv.trans (HSE.out ky))
  have b5 : Below W3.heap.size W3 W5 := HBD.out.trans (hb5.mono HBD.out.size)
  have K5 := HKD.out.below hb5 hzd
  have g0 : W5.cell? ⟨W3.heap.size, 0, none⟩ = some (.int .i64 0) := (K5 0 (by simp)).1
  have g1 : W5.cell? ⟨W3.heap.size, 1, none⟩ = some (.bool false) := (K5 1 (by simp)).1
  have fg0 : W5.frozen? ⟨W3.heap.size, 0, none⟩ = false := (K5 0 (by simp)).2
  have fg1 : W5.frozen? ⟨W3.heap.size, 1, none⟩ = false := (K5 1 (by simp)).2
  have HB5 := hid b5
  have HK5 := hid K5
  have hs5 := b5.size
  refine hK _ _ ⟨⟨(b5.cell (p := ⟨w1.heap.size, 0, none⟩) (by show w1.heap.size < _; omega)).trans k0, (b5.cell (p := ⟨w1.heap.size, 1, none⟩) (by show w1.heap.size < _; omega)).trans k1⟩, ?_⟩
  clear hK K hv hb5 b5 K5
  try simp only [Act.put, setIfInBounds_toArray, set_cons_zero, set_cons_succ]
  refine till_ready (rs := [7]) (by kernel_rfl) (by simp) (TillAll.cons2 rfl (by kernel_rfl) (fun K hK => ?_) TillAll.nil)
  go_simp
  refine hK _ _ ?_
  clear hK K
  try simp only [Act.put, setIfInBounds_toArray, set_cons_zero, set_cons_succ]
  refine till_done (by kernel_rfl) ?_ _
  obtain ⟨W6, hW6⟩ : ∃ z, z = (W5.setCell ⟨W3.heap.size, 0, none⟩ (.int .i64 v1)).setCell ⟨W3.heap.size, 1, none⟩ (.bool v2) := ⟨_, rfl⟩
  rw [← hW6]
  have b6 : Below W3.heap.size W3 W6 := by rw [hW6]; exact (HB5.out.setCell (p := ⟨W3.heap.size, 0, none⟩) (Nat.le_refl _) _).setCell (p := ⟨W3.heap.size, 1, none⟩) (Nat.le_refl _) _
  have kk : Blk W6 W3.heap.size [.int .i64 v1, .bool v2] := by rw [hW6]; exact (HK5.out.set 0 (.int .i64 v1) (by simp)).set 1 (.bool v2) (by simp)
  have m0 : W6.cell? ⟨W3.heap.size, 0, none⟩ = some (.int .i64 v1) := (kk 0 (by simp)).1
  have m1 : W6.cell? ⟨W3.heap.size, 1, none⟩ = some (.bool v2) := (kk 1 (by simp)).1
  have HB6 := hid b6
  have hs6 := b6.size
  clear b6 kk g0 g1 fg0 fg1
  clear hW6
  have KR3 := (HKR.out.fr HFR.out (by omega) (fun z => by have := HFL.out _ z; omega)).below HB6.out (by omega)
  have r0 : W6.cell? ⟨w.heap.size + 1, 0, none⟩ = some (.int .i64 0) := (KR3 0 (by simp [obsC, opC])).1
  have fr0 : W6.frozen? ⟨w.heap.size + 1, 0, none⟩ = false := (KR3 0 (by simp [obsC, opC])).2
  have r1 : W6.cell? ⟨w.heap.size + 1, 1, none⟩ = some (.int .i64 0) := (KR3 1 (by simp [obsC, opC])).1
  have fr1 : W6.frozen? ⟨w.heap.size + 1, 1, none⟩ = false := (KR3 1 (by simp [obsC, opC])).2
  have r2 : W6.cell? ⟨w.heap.size + 1, 2, none⟩ = some (.int .i64 0) := (KR3 2 (by simp [obsC, opC])).1
  have fr2 : W6.frozen? ⟨w.heap.size + 1, 2, none⟩ = false := (KR3 2 (by simp [obsC, opC])).2
  have r3 : W6.cell? ⟨w.heap.size + 1, 3, none⟩ = some (.bool false) := (KR3 3 (by simp [obsC, opC])).1
  have fr3 : W6.frozen? ⟨w.heap.size + 1, 3, none⟩ = false := (KR3 3 (by simp [obsC, opC])).2
  have r4 : W6.cell? ⟨w.heap.size + 1, 4, none⟩ = some (.slice none 0 0) := (KR3 4 (by simp [obsC, opC])).1
  have fr4 : W6.frozen? ⟨w.heap.size + 1, 4, none⟩ = false := (KR3 4 (by simp [obsC, opC])).2
  obtain ⟨W4, hW4⟩ : ∃ z, z = set5 W6 (w.heap.size + 1) (.int .i64 0) (.int .i64 v1) (.int .i64 0) (.bool v2) (.slice none 0 0) := ⟨_, rfl⟩
  have f4 : Fr (fun q => q = w.heap.size + 1) W6 W4 := by rw [hW4]; exact chg_5 _ _ _ _ _ _ _
  have K4 : Blk W4 (w.heap.size + 1) (obsC 0 v1 0 v2 (.slice none 0 0)) := by rw [hW4]; exact blk_set5 KR3 rfl
  have t0 : W4.cell? ⟨w.heap.size + 1, 0, none⟩ = some (.int .i64 0) := (K4 0 (by simp [obsC, opC])).1
  have t1 : W4.cell? ⟨w.heap.size + 1, 1, none⟩ = some (.int .i64 v1) := (K4 1 (by simp [obsC, opC])).1
  have t2 : W4.cell? ⟨w.heap.size + 1, 2, none⟩ = some (.int .i64 0) := (K4 2 (by simp [obsC, opC])).1
  have t3 : W4.cell? ⟨w.heap.size + 1, 3, none⟩ = some (.bool v2) := (K4 3 (by simp [obsC, opC])).1
  have t4 : W4.cell? ⟨w.heap.size + 1, 4, none⟩ = some (.slice none 0 0) := (K4 4 (by simp [obsC, opC])).1
  have HF4 := hid f4
  unfold set5 at hW4
  clear K4 KR3 f4
  go_wp2
  rw [← hW4]
  refine bodyPost_ret (v := .agg #[.int .i64 0, .int .i64 v1, .int .i64 0, .bool v2, .slice none 0 0]) (by simp [results, Tryz.results22, go_sem, t0, t1, t2, t3, t4]) rfl ?_
  have e2 := run_i2 x n m ky vl md nm hn1 hn2 ho hm
  rw [← HV.out] at e2
  rw [e2]
  exact AnsP.of (q := w.heap.size + 1) (pv := .slice none 0 0) HFL.out HB2.out (by omega) (by omega) (HM3.out.below HB6.out) (HFR.out.trans (Fr.of_below _ HB6.out)) HFT.out HF4.out (gr_nil _ _ _ _ _) (fun g hg => (nil_own g hg).elim) rfl
end Go.Proofs.YtblkgicbimflhaaGreat
