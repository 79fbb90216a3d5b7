import Derived.Test.YtblkgicbimflhaaGreatKBW
namespace Go.Proofs.YtblkgicbimflhaaGreat
open Go.ChangeShapes Go.WideShapes Go.ChangeAt Go.RowKit
set_option linter.unusedVariables false
set_option linter.unusedSimpArgs false
set_option maxRecDepth 100000
open List (setIfInBounds_toArray set_cons_zero set_cons_succ)
open Go.ChangeMaps (setBlock)
theorem fault_t (k n : Int) (tb md : Int) (pt : Addr) (hk : 2 ≤ k) (hk2 : k ≤ 5) (h1 : 1 ≤ n) (h2 : n ≤ 4) (ht : 0 ≤ tb ∧ tb < 32) : faultC k n tb md (some pt).isNone = 0 := by
 unfold faultC
 rw [if_neg (by omega), if_neg (by simp; omega), if_neg (by omega), if_neg (by omega)]
theorem run_i4 (x : Bas) (n : Nat) (tb ky vl md : Int) (nm : ByteArray) (hn1 : 1 ≤ n) (hn2 : n ≤ 4) (ho : opn x (n - 1) = true) (ht : 0 ≤ tb ∧ tb < 32) : runF x ⟨4, (n : Int), tb, ky, vl, md, nm⟩ = ({ x with tx := x.tx.set (n - 1) { (x.tx.getD (n - 1) tx0) with own := (x.tx.getD (n - 1) tx0).own ++ [⟨tb, ky, vl, false⟩] } }, ⟨0, 0, 0, false, []⟩) := by
 have e : ((n : Int) - 1).toNat = n - 1 := by omega
 unfold runF
 simp only [e]
 rw [if_neg (by omega), if_neg (by rw [show (x.tx.getD (n - 1) tx0).op = true from ho]; decide)]
 rw [if_neg (by omega)]
 simp
set_option maxHeartbeats 8000000 in
theorem ans_4 (B sb n : Nat) (tb ky vl md : Int) (nm : ByteArray) (w : World) (x : Bas) (L : LIx → Value) (c : Led) (gh : Nat → TG) (op : Nat → Option Addr) (h : IMem B sb w x L c gh op) (hb : Bnd x) (hck : x.ck < 1000) (hhl : x.hs.length < 1000) (hB : B ≤ w.heap.size) (hn1 : 1 ≤ n) (hn2 : n ≤ 4) (ho : opn x (n - 1) = true) (ht : 0 ≤ tb ∧ tb < 32) :
 Calls Tryz.prog 22 #[.pointer (some ⟨sb, 0, none⟩), .agg #[.int .i64 4, .int .i64 (n : Int), .int .i64 tb, .int .i64 ky, .int .i64 vl, .int .i64 md, .string nm]] w fun e w' => AnsP B sb w x L gh (runF x ⟨4, (n : Int), tb, ky, vl, md, nm⟩) e w' := by
 have hi : n - 1 < 4 := by omega
 have e1 : n - 1 + 1 = n := by omega
 obtain ⟨w0, hw0⟩ : ∃ z, z = (w.alloc (.cells #[.int .i64 4, .int .i64 (n : Int), .int .i64 tb, .int .i64 ky, .int .i64 vl, .int .i64 md, .string nm] 41)).alloc (.cells #[.int .i64 0, .int .i64 0, .int .i64 0, .bool false, .slice none 0 0] 38) := ⟨_, rfl⟩
 have hb0 : Below w.heap.size w w0 := by rw [hw0]; exact (below_alloc _ _).trans ((below_alloc _ _).mono (by simp))
 have hz0 : w0.heap.size = w.heap.size + 1 + 1 := by rw [hw0]; simp
 have KO0 : Blk w0 w.heap.size (opC 4 n tb ky vl md nm) := by rw [hw0]; exact (blk_new w (opC 4 n tb ky vl md nm) _).below (below_alloc _ _) (by simp)
 have KR0 : Blk w0 (w.heap.size + 1) (obsC 0 0 0 false (.slice none 0 0)) := by
  have := blk_new (w.alloc (.cells #[.int .i64 4, .int .i64 (n : Int), .int .i64 tb, .int .i64 ky, .int .i64 vl, .int .i64 md, .string nm] 41)) (obsC 0 0 0 false (.slice none 0 0)) 38
  have e : (w.alloc (.cells #[.int .i64 4, .int .i64 (n : Int), .int .i64 tb, .int .i64 ky, .int .i64 vl, .int .i64 md, .string nm] 41)).heap.size = w.heap.size + 1 := by simp
  rw [e] at this
  rw [hw0]
  exact this
 have h0 := h.below hb0
 obtain ⟨hop, hT⟩ := h0.tr (n - 1) hi ho
 rw [e1] at hop
 clear hT
 obtain ⟨c0, _⟩ := ses_cell h0.ses (j := 66 + n) (by omega)
 rw [sesAt_op, hop] at c0
 have hfa := fault_in sb n 4 tb md ky vl (.string nm) (some ⟨(gh (n - 1)).g, 0, none⟩) w0 h0.sl (by omega) (by omega) hn1 hn2 c0
 rw [show faultC 4 n tb md ((some ⟨(gh (n - 1)).g, 0, none⟩)).isNone = 0 from (fault_t 4 n tb md _ (by omega) (by omega) (by omega) (by omega) ht)] at hfa
 have hni : (n : Int) < 5 := by omega
 have hsl := h.sl
 have hfl : ∀ g, foot sb L x gh g → g < w.heap.size := fun g hg => (h.lt hg).2
 have HFL := hid hfl
 have HB := hid hb
 have HM := hid h0
 have HKO := hid KO0
 have HKR := hid KR0
 clear h0 h KO0 KR0 hfl hb
 rw [hw0] at hfa
 go_enter Tryz.func22, Tryz.ntmps22
 go_wp2_with (go_at_call 42; fail)
 refine hfa.mono ?_
 rw [← hw0]
 rintro e w1 ⟨rfl, hb1⟩
 have hs1 := hb1.size
 have HB1 := hid (hb0.trans (hb1.mono hb0.size) : Below w.heap.size w w1)
 have KO := HKO.out.below hb1 (by omega)
 have KR := HKR.out.below hb1 (by omega)
 have c1 := (World.cell?_of_block (a := ⟨sb, 66 + n, none⟩) (hb1.block sb (by omega))).trans c0
 have o0 : w1.cell? ⟨w.heap.size, 0, none⟩ = some (.int .i64 4) := (KO 0 (by simp [opC])).1
 have o1 : w1.cell? ⟨w.heap.size, 1, none⟩ = some (.int .i64 (n : Int)) := (KO 1 (by simp [opC])).1
 have o2 : w1.cell? ⟨w.heap.size, 2, none⟩ = some (.int .i64 tb) := (KO 2 (by simp [opC])).1
 have o3 : w1.cell? ⟨w.heap.size, 3, none⟩ = some (.int .i64 ky) := (KO 3 (by simp [opC])).1
 obtain ⟨w2, hw2⟩ : ∃ z, z = (w1.alloc (.cells #[.int .i64 tb, .int .i64 ky] 113)).drew := ⟨_, rfl⟩
 have b2 : Below w1.heap.size w1 w2 := by rw [hw2]; exact (below_alloc _ _).drew
 have hz2 : w1.heap.size < w2.heap.size := by rw [hw2]; simp
 have KO2 := KO.below b2 (by omega)
 have KR2 := KR.below b2 (by omega)
 have KS2 : Blk w2 w1.heap.size [.int .i64 tb, .int .i64 ky] := by rw [hw2]; exact (blk_new w1 [.int .i64 tb, .int .i64 ky] _).drewR
 have q0 : (w1.alloc (.cells #[.int .i64 tb, .int .i64 ky] 113)).cell? ⟨w.heap.size, 0, none⟩ = some (.int .i64 4) := by rw [hw2] at KO2; exact (KO2 0 (by simp [opC])).1
 have HKO := hid KO2
 have HKR := hid KR2
 have HKS := hid KS2
 have HM2 := hid ((HM.out.below hb1).below b2)
 have HB2 := hid (HB1.out.trans (b2.mono HB1.out.size) : Below w.heap.size w w2)
 have HW2 := hid hw2
 clear hfa c0 hb1 HM KO KR KO2 KR2 KS2 b2 HB1
 clear hw2
 have hzz : w.heap.size + 1 < w1.heap.size := by omega
 go_wp2
 go_region
 go_wp2
 rw [← HW2.out]
 have HMD := hid HM2.out.drew
 have hT := (HMD.out.tr (n - 1) hi ho).2
 have c34 := hT.c34
 obtain ⟨o2', hu, hmp⟩ := run_upd w2.drew (gh (n - 1)).mb (gh (n - 1)).M hT.mp (tb, ky) (vl, !false)
 have q4 : w2.cell? ⟨w.heap.size, 4, none⟩ = some (.int .i64 vl) := (HKO.out 4 (by simp [opC])).1
 have k0 : w2.cell? ⟨w1.heap.size, 0, none⟩ = some (.int .i64 tb) := (HKS.out 0 (by simp)).1
 have k1 : w2.cell? ⟨w1.heap.size, 1, none⟩ = some (.int .i64 ky) := (HKS.out 1 (by simp)).1
 have HP : Hid (TrP B w2.drew (gh (n - 1)) { (x.tx.getD (n - 1) tx0) with own := (x.tx.getD (n - 1) tx0).own ++ [⟨tb, ky, vl, false⟩] } (setBlock w2.drew (gh (n - 1)).mb o2')) := hid (⟨_, hT.remap (fr_setBlock w2.drew (gh (n - 1)).mb o2') hmp (hT.mr.put ⟨tb, ky, vl, false⟩) (hT.mi.put hT.mp.nodup ht), rfl, fun b hb => .inl hb, (fr_setBlock w2.drew (gh (n - 1)).mb o2').mono (fun g e => .inr (.inl e))⟩)
 simp only [sptV, vsnV, Bool.not_false, Bool.not_true] at hu
 clear hmp hT q0 o0 o1 o2 o3
 go_region
 obtain ⟨W3, hW3⟩ : ∃ z, z = setBlock w2.drew (gh (n - 1)).mb o2' := ⟨_, rfl⟩
 rw [← hW3]
 obtain ⟨gh', hM3, hfr, hft⟩ := HMD.out.put hi ho (x' := { (x.tx.getD (n - 1) tx0) with own := (x.tx.getD (n - 1) tx0).own ++ [⟨tb, ky, vl, false⟩] }) ho HP.out
 rw [← hW3] at hM3 hfr
 have hfr := ((Fr.refl (foot sb L x gh) w2).drewR).trans hfr
 have hs3 := hfr.size
 have HM3 := hid hM3
 have HFR := hid hfr
 have HFT := hid hft
 clear hM3 hfr hft hW3 hu c34 q4 k0 k1 HP
 have KR3 := HKR.out.fr HFR.out (by omega) (fun z => by have := HFL.out _ z; omega)
 have r0 : W3.cell? ⟨w.heap.size + 1, 0, none⟩ = some (.int .i64 0) := (KR3 0 (by simp [obsC, opC])).1
 have fr0 : W3.frozen? ⟨w.heap.size + 1, 0, none⟩ = false := (KR3 0 (by simp [obsC, opC])).2
 have r1 : W3.cell? ⟨w.heap.size + 1, 1, none⟩ = some (.int .i64 0) := (KR3 1 (by simp [obsC, opC])).1
 have fr1 : W3.frozen? ⟨w.heap.size + 1, 1, none⟩ = false := (KR3 1 (by simp [obsC, opC])).2
 have r2 : W3.cell? ⟨w.heap.size + 1, 2, none⟩ = some (.int .i64 0) := (KR3 2 (by simp [obsC, opC])).1
 have fr2 : W3.frozen? ⟨w.heap.size + 1, 2, none⟩ = false := (KR3 2 (by simp [obsC, opC])).2
 have r3 : W3.cell? ⟨w.heap.size + 1, 3, none⟩ = some (.bool false) := (KR3 3 (by simp [obsC, opC])).1
 have fr3 : W3.frozen? ⟨w.heap.size + 1, 3, none⟩ = false := (KR3 3 (by simp [obsC, opC])).2
 have r4 : W3.cell? ⟨w.heap.size + 1, 4, none⟩ = some (.slice none 0 0) := (KR3 4 (by simp [obsC, opC])).1
 have fr4 : W3.frozen? ⟨w.heap.size + 1, 4, none⟩ = false := (KR3 4 (by simp [obsC, opC])).2
 obtain ⟨W4, hW4⟩ : ∃ z, z = set5 W3 (w.heap.size + 1) (.int .i64 0) (.int .i64 0) (.int .i64 0) (.bool false) (.slice none 0 0) := ⟨_, rfl⟩
 have f4 : Fr (fun q => q = w.heap.size + 1) W3 W4 := by rw [hW4]; exact chg_5 _ _ _ _ _ _ _
 have K4 : Blk W4 (w.heap.size + 1) (obsC 0 0 0 false (.slice none 0 0)) := by rw [hW4]; exact blk_set5 KR3 rfl
 have t0 : W4.cell? ⟨w.heap.size + 1, 0, none⟩ = some (.int .i64 0) := (K4 0 (by simp [obsC, opC])).1
 have t1 : W4.cell? ⟨w.heap.size + 1, 1, none⟩ = some (.int .i64 0) := (K4 1 (by simp [obsC, opC])).1
 have t2 : W4.cell? ⟨w.heap.size + 1, 2, none⟩ = some (.int .i64 0) := (K4 2 (by simp [obsC, opC])).1
 have t3 : W4.cell? ⟨w.heap.size + 1, 3, none⟩ = some (.bool false) := (K4 3 (by simp [obsC, opC])).1
 have t4 : W4.cell? ⟨w.heap.size + 1, 4, none⟩ = some (.slice none 0 0) := (K4 4 (by simp [obsC, opC])).1
 have HF4 := hid f4
 unfold set5 at hW4
 clear K4 KR3 f4
 go_wp2
 rw [← hW4]
 refine bodyPost_ret (v := .agg #[.int .i64 0, .int .i64 0, .int .i64 0, .bool false, .slice none 0 0]) (by simp [results, Tryz.results22, go_sem, t0, t1, t2, t3, t4]) rfl ?_
 rw [run_i4 x n tb ky vl md nm hn1 hn2 ho ht]
 exact AnsP.of (q := w.heap.size + 1) (pv := .slice none 0 0) HFL.out HB2.out (by omega) (by omega) HM3.out HFR.out HFT.out HF4.out (gr_nil _ _ _ _ _) (fun g hg => (nil_own g hg).elim) rfl
theorem run_i5 (x : Bas) (n : Nat) (tb ky vl md : Int) (nm : ByteArray) (hn1 : 1 ≤ n) (hn2 : n ≤ 4) (ho : opn x (n - 1) = true) (ht : 0 ≤ tb ∧ tb < 32) : runF x ⟨5, (n : Int), tb, ky, vl, md, nm⟩ = ({ x with tx := x.tx.set (n - 1) { (x.tx.getD (n - 1) tx0) with own := (x.tx.getD (n - 1) tx0).own ++ [⟨tb, ky, vl, true⟩] } }, ⟨0, 0, 0, false, []⟩) := by
 have e : ((n : Int) - 1).toNat = n - 1 := by omega
 unfold runF
 simp only [e]
 rw [if_neg (by omega), if_neg (by rw [show (x.tx.getD (n - 1) tx0).op = true from ho]; decide)]
 rw [if_neg (by omega)]
 simp
set_option maxHeartbeats 8000000 in
theorem ans_5 (B sb n : Nat) (tb ky vl md : Int) (nm : ByteArray) (w : World) (x : Bas) (L : LIx → Value) (c : Led) (gh : Nat → TG) (op : Nat → Option Addr) (h : IMem B sb w x L c gh op) (hb : Bnd x) (hck : x.ck < 1000) (hhl : x.hs.length < 1000) (hB : B ≤ w.heap.size) (hn1 : 1 ≤ n) (hn2 : n ≤ 4) (ho : opn x (n - 1) = true) (ht : 0 ≤ tb ∧ tb < 32) :
 Calls Tryz.prog 22 #[.pointer (some ⟨sb, 0, none⟩), .agg #[.int .i64 5, .int .i64 (n : Int), .int .i64 tb, .int .i64 ky, .int .i64 vl, .int .i64 md, .string nm]] w fun e w' => AnsP B sb w x L gh (runF x ⟨5, (n : Int), tb, ky, vl, md, nm⟩) e w' := by
 have hi : n - 1 < 4 := by omega
 have e1 : n - 1 + 1 = n := by omega
 obtain ⟨w0, hw0⟩ : ∃ z, z = (w.alloc (.cells #[.int .i64 5, .int .i64 (n : Int), .int .i64 tb, .int .i64 ky, .int .i64 vl, .int .i64 md, .string nm] 41)).alloc (.cells #[.int .i64 0, .int .i64 0, .int .i64 0, .bool false, .slice none 0 0] 38) := ⟨_, rfl⟩
 have hb0 : Below w.heap.size w w0 := by rw [hw0]; exact (below_alloc _ _).trans ((below_alloc _ _).mono (by simp))
 have hz0 : w0.heap.size = w.heap.size + 1 + 1 := by rw [hw0]; simp
 have KO0 : Blk w0 w.heap.size (opC 5 n tb ky vl md nm) := by rw [hw0]; exact (blk_new w (opC 5 n tb ky vl md nm) _).below (below_alloc _ _) (by simp)
 have KR0 : Blk w0 (w.heap.size + 1) (obsC 0 0 0 false (.slice none 0 0)) := by
  have := blk_new (w.alloc (.cells #[.int .i64 5, .int .i64 (n : Int), .int .i64 tb, .int .i64 ky, .int .i64 vl, .int .i64 md, .string nm] 41)) (obsC 0 0 0 false (.slice none 0 0)) 38
  have e : (w.alloc (.cells #[.int .i64 5, .int .i64 (n : Int), .int .i64 tb, .int .i64 ky, .int .i64 vl, .int .i64 md, .string nm] 41)).heap.size = w.heap.size + 1 := by simp
  rw [e] at this
  rw [hw0]
  exact this
 have h0 := h.below hb0
 obtain ⟨hop, hT⟩ := h0.tr (n - 1) hi ho
 rw [e1] at hop
 clear hT
 obtain ⟨c0, _⟩ := ses_cell h0.ses (j := 66 + n) (by omega)
 rw [sesAt_op, hop] at c0
 have hfa := fault_in sb n 5 tb md ky vl (.string nm) (some ⟨(gh (n - 1)).g, 0, none⟩) w0 h0.sl (by omega) (by omega) hn1 hn2 c0
 rw [show faultC 5 n tb md ((some ⟨(gh (n - 1)).g, 0, none⟩)).isNone = 0 from (fault_t 5 n tb md _ (by omega) (by omega) (by omega) (by omega) ht)] at hfa
 have hni : (n : Int) < 5 := by omega
 have hsl := h.sl
 have hfl : ∀ g, foot sb L x gh g → g < w.heap.size := fun g hg => (h.lt hg).2
 have HFL := hid hfl
 have HB := hid hb
 have HM := hid h0
 have HKO := hid KO0
 have HKR := hid KR0
 clear h0 h KO0 KR0 hfl hb
 rw [hw0] at hfa
 go_enter Tryz.func22, Tryz.ntmps22
 go_wp2_with (go_at_call 42; fail)
 refine hfa.mono ?_
 rw [← hw0]
 rintro e w1 ⟨rfl, hb1⟩
 have hs1 := hb1.size
 have HB1 := hid (hb0.trans (hb1.mono hb0.size) : Below w.heap.size w w1)
 have KO := HKO.out.below hb1 (by omega)
 have KR := HKR.out.below hb1 (by omega)
 have c1 := (World.cell?_of_block (a := ⟨sb, 66 + n, none⟩) (hb1.block sb (by omega))).trans c0
 have o0 : w1.cell? ⟨w.heap.size, 0, none⟩ = some (.int .i64 5) := (KO 0 (by simp [opC])).1
 have o1 : w1.cell? ⟨w.heap.size, 1, none⟩ = some (.int .i64 (n : Int)) := (KO 1 (by simp [opC])).1
 have o2 : w1.cell? ⟨w.heap.size, 2, none⟩ = some (.int .i64 tb) := (KO 2 (by simp [opC])).1
 have o3 : w1.cell? ⟨w.heap.size, 3, none⟩ = some (.int .i64 ky) := (KO 3 (by simp [opC])).1
 obtain ⟨w2, hw2⟩ : ∃ z, z = (w1.alloc (.cells #[.int .i64 tb, .int .i64 ky] 113)).drew := ⟨_, rfl⟩
 have b2 : Below w1.heap.size w1 w2 := by rw [hw2]; exact (below_alloc _ _).drew
 have hz2 : w1.heap.size < w2.heap.size := by rw [hw2]; simp
 have KO2 := KO.below b2 (by omega)
 have KR2 := KR.below b2 (by omega)
 have KS2 : Blk w2 w1.heap.size [.int .i64 tb, .int .i64 ky] := by rw [hw2]; exact (blk_new w1 [.int .i64 tb, .int .i64 ky] _).drewR
 have q0 : (w1.alloc (.cells #[.int .i64 tb, .int .i64 ky] 113)).cell? ⟨w.heap.size, 0, none⟩ = some (.int .i64 5) := by rw [hw2] at KO2; exact (KO2 0 (by simp [opC])).1
 have HKO := hid KO2
 have HKR := hid KR2
 have HKS := hid KS2
 have HM2 := hid ((HM.out.below hb1).below b2)
 have HB2 := hid (HB1.out.trans (b2.mono HB1.out.size) : Below w.heap.size w w2)
 have HW2 := hid hw2
 clear hfa c0 hb1 HM KO KR KO2 KR2 KS2 b2 HB1
 clear hw2
 have hzz : w.heap.size + 1 < w1.heap.size := by omega
 go_wp2
 go_region
 go_wp2
 rw [← HW2.out]
 have HMD := hid HM2.out.drew
 have hT := (HMD.out.tr (n - 1) hi ho).2
 have c34 := hT.c34
 obtain ⟨o2', hu, hmp⟩ := run_upd w2.drew (gh (n - 1)).mb (gh (n - 1)).M hT.mp (tb, ky) (0, !true)
 have q4 : w2.cell? ⟨w.heap.size, 4, none⟩ = some (.int .i64 vl) := (HKO.out 4 (by simp [opC])).1
 have k0 : w2.cell? ⟨w1.heap.size, 0, none⟩ = some (.int .i64 tb) := (HKS.out 0 (by simp)).1
 have k1 : w2.cell? ⟨w1.heap.size, 1, none⟩ = some (.int .i64 ky) := (HKS.out 1 (by simp)).1
 have HP : Hid (TrP B w2.drew (gh (n - 1)) { (x.tx.getD (n - 1) tx0) with own := (x.tx.getD (n - 1) tx0).own ++ [⟨tb, ky, vl, true⟩] } (setBlock w2.drew (gh (n - 1)).mb o2')) := hid (⟨_, hT.remap (fr_setBlock w2.drew (gh (n - 1)).mb o2') hmp (hT.mr.put ⟨tb, ky, vl, true⟩) (hT.mi.put hT.mp.nodup ht), rfl, fun b hb => .inl hb, (fr_setBlock w2.drew (gh (n - 1)).mb o2').mono (fun g e => .inr (.inl e))⟩)
 simp only [sptV, vsnV, Bool.not_false, Bool.not_true] at hu
 clear hmp hT q0 o0 o1 o2 o3
 go_region
 obtain ⟨W3, hW3⟩ : ∃ z, z = setBlock w2.drew (gh (n - 1)).mb o2' := ⟨_, rfl⟩
 rw [← hW3]
 obtain ⟨gh', hM3, hfr, hft⟩ := HMD.out.put hi ho (x' := { (x.tx.getD (n - 1) tx0) with own := (x.tx.getD (n - 1) tx0).own ++ [⟨tb, ky, vl, true⟩] }) ho HP.out
 rw [← hW3] at hM3 hfr
 have hfr := ((Fr.refl (foot sb L x gh) w2).drewR).trans hfr
 have hs3 := hfr.size
 have HM3 := hid hM3
 have HFR := hid hfr
 have HFT := hid hft
 clear hM3 hfr hft hW3 hu c34 q4 k0 k1 HP
 have KR3 := HKR.out.fr HFR.out (by omega) (fun z => by have := HFL.out _ z; omega)
 have r0 : W3.cell? ⟨w.heap.size + 1, 0, none⟩ = some (.int .i64 0) := (KR3 0 (by simp [obsC, opC])).1
 have fr0 : W3.frozen? ⟨w.heap.size + 1, 0, none⟩ = false := (KR3 0 (by simp [obsC, opC])).2
 have r1 : W3.cell? ⟨w.heap.size + 1, 1, none⟩ = some (.int .i64 0) := (KR3 1 (by simp [obsC, opC])).1
 have fr1 : W3.frozen? ⟨w.heap.size + 1, 1, none⟩ = false := (KR3 1 (by simp [obsC, opC])).2
 have r2 : W3.cell? ⟨w.heap.size + 1, 2, none⟩ = some (.int .i64 0) := (KR3 2 (by simp [obsC, opC])).1
 have fr2 : W3.frozen? ⟨w.heap.size + 1, 2, none⟩ = false := (KR3 2 (by simp [obsC, opC])).2
 have r3 : W3.cell? ⟨w.heap.size + 1, 3, none⟩ = some (.bool false) := (KR3 3 (by simp [obsC, opC])).1
 have fr3 : W3.frozen? ⟨w.heap.size + 1, 3, none⟩ = false := (KR3 3 (by simp [obsC, opC])).2
 have r4 : W3.cell? ⟨w.heap.size + 1, 4, none⟩ = some (.slice none 0 0) := (KR3 4 (by simp [obsC, opC])).1
 have fr4 : W3.frozen? ⟨w.heap.size + 1, 4, none⟩ = false := (KR3 4 (by simp [obsC, opC])).2
 obtain ⟨W4, hW4⟩ : ∃ z, z = set5 W3 (w.heap.size + 1) (.int .i64 0) (.int .i64 0) (.int .i64 0) (.bool false) (.slice none 0 0) := ⟨_, rfl⟩
 have f4 : Fr (fun q => q = w.heap.size + 1) W3 W4 := by rw [hW4]; exact chg_5 _ _ _ _ _ _ _
 have K4 : Blk W4 (w.heap.size + 1) (obsC 0 0 0 false (.slice none 0 0)) := by rw [hW4]; exact blk_set5 KR3 rfl
 have t0 : W4.cell? ⟨w.heap.size + 1, 0, none⟩ = some (.int .i64 0) := (K4 0 (by simp [obsC, opC])).1
 have t1 : W4.cell? ⟨w.heap.size + 1, 1, none⟩ = some (.int .i64 0) := (K4 1 (by simp [obsC, opC])).1
 have t2 : W4.cell? ⟨w.heap.size + 1, 2, none⟩ = some (.int .i64 0) := (K4 2 (by simp [obsC, opC])).1
 have t3 : W4.cell? ⟨w.heap.size + 1, 3, none⟩ = some (.bool false) := (K4 3 (by simp [obsC, opC])).1
 have t4 : W4.cell? ⟨w.heap.size + 1, 4, none⟩ = some (.slice none 0 0) := (K4 4 (by simp [obsC, opC])).1
 have HF4 := hid f4
 unfold set5 at hW4
 clear K4 KR3 f4
 go_wp2
 rw [← hW4]
 refine bodyPost_ret (v := .agg #[.int .i64 0, .int .i64 0, .int .i64 0, .bool false, .slice none 0 0]) (by simp [results, Tryz.results22, go_sem, t0, t1, t2, t3, t4]) rfl ?_
 rw [run_i5 x n tb ky vl md nm hn1 hn2 ho ht]
 exact AnsP.of (q := w.heap.size + 1) (pv := .slice none 0 0) HFL.out HB2.out (by omega) (by omega) HM3.out HFR.out HFT.out HF4.out (gr_nil _ _ _ _ _) (fun g hg => (nil_own g hg).elim) rfl
end Go.Proofs.YtblkgicbimflhaaGreat
