import Derived.Test.YtblkgicbimflhaaGreatSBW
import Derived.Test.YtblkgicbimflhaaGreatSAR
import Derived.Maps.AppendAt
namespace Go.Proofs.YtblkgicbimflhaaGreat
open Go.ChangeShapes Go.WideShapes Go.ChangeAt Go.RowKit
set_option linter.unusedVariables false
set_option linter.unusedSimpArgs false
set_option maxRecDepth 100000
set_option maxHeartbeats 16000000
theorem TrM.mark {B : Nat} {w : World} {t : TG} {x : Txn} (h : TrM B w t x) {m : Nat} (hm : m < 32) : TrM B (w.setCell ⟨t.g, 2 + m, none⟩ (.bool true)) t { x with rs := x.rs.set m true } := by
 have f := Fr.setCell w t.g (2 + m) (.bool true)
 refine ⟨?_, by simpa using h.gl, by simpa using h.rl, h.mp.fr f (fun e => h.g_mb e.symm), h.mr, h.mi, h.sl, h.s8, own_fr h.sr f (fun g hg e => h.sg (by rw [<- (show g = t.g from e)]; exact hg)), fun j hj hj' => ⟨(h.ss j hj hj').1.fr f (fun e => ?_), (h.ss j hj hj').2⟩, h.nd, h.sg, h.ge⟩
 .have k := h.bk.set (2 + m) (.bool true) (by rw [tranC_len _ _ _ _ _ h.rl]; omega)
  rw [tranC_setrd _ _ _ _ _ _ (by rw [h.rl]; exact hm)] at k
  exact k
 .have e2 : t.sm[j].1 = t.g := e
  exact h.g_sm (by rw [<- e2]; exact List.mem_map_of_mem (List.getElem_mem hj))
theorem TrM.rd {B : Nat} {w : World} {t : TG} {x : Txn} (h : TrM B w t x) {m : Nat} (hm : m < 32) : ∃ b, w.cell? ⟨t.g, 2 + m, none⟩ = some (.bool b) /\ w.frozen? ⟨t.g, 2 + m, none⟩ = false := by
 have k := h.bk (2 + m) (by rw [tranC_len _ _ _ _ _ h.rl]; omega)
 rw [tranC_rd _ _ _ _ _ (by rw [h.rl]; exact hm)] at k
 exact ⟨_, k.1, k.2⟩
theorem TrP.mark {B : Nat} {w : World} {t : TG} {x : Txn} (h : TrM B w t x) {m : Nat} (hm : m < 32) : TrP B w t { x with rs := x.rs.set m true } (w.setCell ⟨t.g, 2 + m, none⟩ (.bool true)) := ⟨t, h.mark hm, rfl, fun b hb => .inl hb, (Fr.setCell w t.g (2 + m) (.bool true)).mono (fun g e => .inl e)⟩
theorem run_i2 (x : Bas) (n m : Nat) (ky vl md : Int) (nm : ByteArray) (hn1 : 1 <= n) (hn2 : n <= 4) (ho : opn x (n - 1) = true) (hm : m < 32) : runF x ⟨2, (n : Int), (m : Int), ky, vl, md, nm⟩ = ({ x with tx := x.tx.set (n - 1) { (x.tx.getD (n - 1) tx0) with rs := (x.tx.getD (n - 1) tx0).rs.set m true } }, ⟨0, (seesN x.cms (x.tx.getD (n - 1) tx0).bg (x.tx.getD (n - 1) tx0).own (m : Int) ky).1, 0, (seesN x.cms (x.tx.getD (n - 1) tx0).bg (x.tx.getD (n - 1) tx0).own (m : Int) ky).2, []⟩) := by
 have e : ((n : Int) - 1).toNat = n - 1 := by omega
 unfold runF
 simp only [e]
 rw [if_neg (by omega), if_neg (by rw [show (x.tx.getD (n - 1) tx0).op = true from ho]; decide)]
 rw [if_neg (by omega), <- seesF_N]
 cases (seesF x.cms (x.tx.getD (n - 1) tx0).bg (x.tx.getD (n - 1) tx0).own (m : Int) ky).2 <;> simp
theorem ans_2 (B sb n m : Nat) (ky vl md : Int) (nm : ByteArray) (w : World) (x : Bas) (L : LIx -> Value) (c : Led) (gh : Nat -> TG) (op : Nat -> Option Addr) (h : IMem B sb w x L c gh op) (hb : Bnd x) (hck : x.ck < 1000) (hhl : x.hs.length < 1000) (hB : B <= w.heap.size) (hn1 : 1 <= n) (hn2 : n <= 4) (ho : opn x (n - 1) = true) (hm : m < 32) :
 Calls Tryz.prog 22 #[.pointer (some ⟨sb, 0, none⟩), .agg #[.int .i64 2, .int .i64 (n : Int), .int .i64 (m : Int), .int .i64 ky, .int .i64 vl, .int .i64 md, .string nm]] w fun e w' => AnsP B sb w x L gh (runF x ⟨2, (n : Int), (m : Int), ky, vl, md, nm⟩) e w' := by
 have hi : n - 1 < 4 := by omega
 have e1 : n - 1 + 1 = n := by omega
 obtain ⟨w0, hw0⟩ : ∃ z, z = (w.alloc (.cells #[.int .i64 2, .int .i64 (n : Int), .int .i64 (m : Int), .int .i64 ky, .int .i64 vl, .int .i64 md, .string nm] 41)).alloc (.cells #[.int .i64 0, .int .i64 0, .int .i64 0, .bool false, .slice none 0 0] 38) := ⟨_, rfl⟩
 have hb0 : Below w.heap.size w w0 := by rw [hw0]; exact (below_alloc _ _).trans ((below_alloc _ _).mono (by simp))
 have hz0 : w0.heap.size = w.heap.size + 1 + 1 := by rw [hw0]; simp
 have KO0 : Blk w0 w.heap.size (opC 2 n (m : Int) ky vl md nm) := by rw [hw0]; exact (blk_new w (opC 2 n (m : Int) ky vl md nm) _).below (below_alloc _ _) (by simp)
 have KR0 : Blk w0 (w.heap.size + 1) (obsC 0 0 0 false (.slice none 0 0)) := by
  have := blk_new (w.alloc (.cells #[.int .i64 2, .int .i64 (n : Int), .int .i64 (m : Int), .int .i64 ky, .int .i64 vl, .int .i64 md, .string nm] 41)) (obsC 0 0 0 false (.slice none 0 0)) 38
  have e : (w.alloc (.cells #[.int .i64 2, .int .i64 (n : Int), .int .i64 (m : Int), .int .i64 ky, .int .i64 vl, .int .i64 md, .string nm] 41)).heap.size = w.heap.size + 1 := by simp
  rw [e] at this
  rw [hw0]
  exact this
 have h0 := h.below hb0
 obtain ⟨hop, hT⟩ := h0.tr (n - 1) hi ho
 rw [e1] at hop
 clear hT
 obtain ⟨c0, _⟩ := ses_cell h0.ses (j := 66 + n) (by omega)
 rw [sesAt_op, hop] at c0
 have hfa := fault_in sb n 2 (m : Int) md ky vl (.string nm) (some ⟨(gh (n - 1)).g, 0, none⟩) w0 h0.sl (by omega) (by omega) hn1 hn2 c0
 rw [show faultC 2 n (m : Int) md ((some ⟨(gh (n - 1)).g, 0, none⟩)).isNone = 0 from (fault_t 2 n (m : Int) md _ (by omega) (by omega) (by omega) (by omega) (by omega))] at hfa
 have hni : (n : Int) < 5 := by omega
 have hsl := h.sl
 have hfl : ∀ g, foot sb L x gh g -> g < w.heap.size := fun g hg => (h.lt hg).2
 have HFL := hid hfl
 have HB := hid hb
 have HM := hid h0
 have HKO := hid KO0
 have HKR := hid KR0
 clear h0 h KO0 KR0 hfl hb
 rw [hw0] at hfa
 go_enter Tryz.func22, Tryz.ntmps22
 go_wp2_with (go_at_call 42; fail)
 refine hfa.mono ?_
 rw [<- hw0]
 rintro e w1 ⟨rfl, hb1⟩
 have hs1 := hb1.size
 have HB1 := hid (hb0.trans (hb1.mono hb0.size) : Below w.heap.size w w1)
 have KO := HKO.out.below hb1 (by omega)
 have KR := HKR.out.below hb1 (by omega)
 have c1 := (World.cell?_of_block (a := ⟨sb, 66 + n, none⟩) (hb1.block sb (by omega))).trans c0
 obtain ⟨o0, o1, o2, o3⟩ := kc3 KO
 obtain ⟨w2, hw2⟩ : ∃ z, z = (w1.alloc (.cells #[.int .i64 (m : Int), .int .i64 ky] 113)).drew := ⟨_, rfl⟩
 have b2 : Below w1.heap.size w1 w2 := by rw [hw2]; exact (below_alloc _ _).drew
 have hz2 : w1.heap.size < w2.heap.size := by rw [hw2]; simp
 have KO2 := KO.below b2 (by omega)
 have KR2 := KR.below b2 (by omega)
 have KS2 : Blk w2 w1.heap.size [.int .i64 (m : Int), .int .i64 ky] := by rw [hw2]; exact (blk_new w1 [.int .i64 (m : Int), .int .i64 ky] _).drewR
 have q0 : (w1.alloc (.cells #[.int .i64 (m : Int), .int .i64 ky] 113)).cell? ⟨w.heap.size, 0, none⟩ = some (.int .i64 2) := by rw [hw2] at KO2; exact (KO2 0 (by simp [opC])).1
 have HKO := hid KO2
 have HKR := hid KR2
 have HKS := hid KS2
 have HM2 := hid ((HM.out.below hb1).below b2)
 have HB2 := hid (HB1.out.trans (b2.mono HB1.out.size) : Below w.heap.size w w2)
 have HW2 := hid hw2
 clear hfa c0 hb1 HM KO KR KO2 KR2 KS2 b2 HB1
 clear hw2
 have hzz : w.heap.size + 1 < w1.heap.size := by omega
 go_wp2
 go_region
 go_wp2
 rw [<- HW2.out]
 have hT := (HM2.out.tr (n - 1) hi ho).2
 obtain ⟨rb, rd1, rd2⟩ := hT.rd hm
 have q2 : w2.cell? ⟨w.heap.size, 2, none⟩ = some (.int .i64 (m : Int)) := (HKO.out 2 (by simp [opC])).1
 have hmi : (m : Int) < 32 := by omega
 clear q0 o0 o1 o2 o3 hT
 go_region
 obtain ⟨W3, hW3⟩ : ∃ z, z = (w2.setCell ⟨(gh (n - 1)).g, 2 + m, none⟩ (.bool true)).drew := ⟨_, rfl⟩
 rw [<- hW3]
 have hT := (HM2.out.tr (n - 1) hi ho).2
 obtain ⟨gh', hM3, hfr, hft⟩ := HM2.out.put hi ho (x' := { (x.tx.getD (n - 1) tx0) with rs := (x.tx.getD (n - 1) tx0).rs.set m true }) ho (TrP.mark hT hm)
 have hT3 := (hT.mark hm).fr (Fr.refl (fun _ => False) _).drewR (fun _ _ z => z)
 have hM3 := hM3.drew
 have hfr := hfr.drewR
 rw [<- hW3] at hM3 hfr hT3
 have hs3 := hfr.size
 have KS3 := HKS.out.fr hfr hz2 (fun z => by have := HFL.out _ z; omega)
 have KO3 := HKO.out.fr hfr (by omega) (fun z => by have := HFL.out _ z; omega)
 have HT3 := hid hT3
 have HM3 := hid hM3
 have HFR := hid hfr
 have HFT := hid hft
 have HKO3 := hid KO3
 have HSE := hid (HM2.out.sees (bg := (x.tx.getD (n - 1) tx0).bg) hT.mr hm)
 clear hM3 hfr hft hW3 rd1 rd2 q2 hT3 hT KO3
 go_wp2
 obtain ⟨k0, k1⟩ := kc1 KS3
 have HSEEN := hid (fun (W : World) (b : Below W3.heap.size W3 W) => (HM3.out.below b).led.seen (HM2.out.bnd HB.out).1 (HM3.out.below b).ses (HM3.out.below b).sl (HT3.out.below b) m hm ky)
 have HKR3 := hid (HKR.out.fr HFR.out (by omega) (fun z => by have := HFL.out _ z; omega))
 clear KS3
 refine wp_region_till_drew (S := (fun W => W.cell? ⟨w1.heap.size, 0, none⟩ = some (.int .i64 (m : Int)) /\ W.cell? ⟨w1.heap.size, 1, none⟩ = some (.int .i64 ky))) (late := [7]) (by kernel_rfl) ⟨k0, k1⟩ (fun hHeld => ?_)
 refine tT 0 rfl hHeld ?_
 try simp only [Act.put, q1, q2, q3]
 refine tT 1 rfl hHeld ?_
 try simp only [Act.put, q1, q2, q3]
 refine tT 2 rfl hHeld ?_
 try simp only [Act.put, q1, q2, q3]
 refine tT 3 rfl hHeld ?_
 try simp only [Act.put, q1, q2, q3]
 refine till_ld (i := 4) (v := ?_) rfl (Or.inl ⟨by rfl, ?_⟩) hHeld ?_
 rotate_left
 .intro w hSw
  try dsimp only at hSw
  go_simp
  try with_reducible rfl
 try simp only [Act.put, q1, q2, q3]
 refine till_ready (rs := [5, 6]) (by kernel_rfl) (by simp) (TillAll.cons rfl (fun K hK => ?_) (TillAll.cons rfl (fun K hK => ?_) TillAll.nil))
 .go_simp
  obtain ⟨wd, hwd⟩ : ∃ z, z = W3.drew := ⟨_, rfl⟩
  have bd : Below W3.heap.size W3 wd := by rw [hwd]; exact (Below.refl _ _).drew
  rw [<- hwd]
  have HBD := hid bd
  clear hwd bd
  refine (HSEEN.out wd HBD.out).mono ?_
  rintro e W5 ⟨⟨⟨v1, v2⟩, rfl, hv⟩, hb5⟩
  have HV := hid (hv.trans (HSE.out ky))
  have b5 : Below W3.heap.size W3 W5 := HBD.out.trans (hb5.mono HBD.out.size)
  have HB5 := hid b5
  have hs5 := b5.size
  refine hK _ _ ⟨⟨(b5.cell (p := ⟨w1.heap.size, 0, none⟩) (by show w1.heap.size < _; omega)).trans k0, (b5.cell (p := ⟨w1.heap.size, 1, none⟩) (by show w1.heap.size < _; omega)).trans k1⟩, ?_⟩
  clear hK K hv hb5 b5
  try simp only [Act.put, q1, q2, q3]
  refine rE 6 rfl fun K hK => ?_
  go_simp
  have b6 : Below W3.heap.size W3 (W5.alloc (.cells #[.int .i64 0, .bool false] 121)) := HB5.out.alloc hs5 _
  refine hK _ _ ⟨⟨(b6.cell (p := ⟨w1.heap.size, 0, none⟩) (by show w1.heap.size < _; omega)).trans k0, (b6.cell (p := ⟨w1.heap.size, 1, none⟩) (by show w1.heap.size < _; omega)).trans k1⟩, ?_⟩
  clear hK K b6
  try simp only [Act.put, q1, q2, q3]
  refine rL 7 rfl fun K hK => ?_
  go_simp
  refine hK _ _ ?_
  clear hK K
  try simp only [Act.put, q1, q2, q3]
  refine till_done (by kernel_rfl) ?_ _
  obtain ⟨W6, hW6⟩ : ∃ z, z = W5.alloc (.cells #[.int .i64 v1, .bool v2] 121) := ⟨_, rfl⟩
  rw [<- hW6]
  have b6 : Below W3.heap.size W3 W6 := by rw [hW6]; exact HB5.out.alloc hs5 _
  have kk : Blk W6 W5.heap.size [.int .i64 v1, .bool v2] := by rw [hW6]; exact blk_new W5 [.int .i64 v1, .bool v2] _
  obtain ⟨m0, m1⟩ := kc1 kk
  have HB6 := hid b6
  have hs6 := b6.size
  clear b6 kk
  clear hW6
  have KR3 := (HKR.out.fr HFR.out (by omega) (fun z => by have := HFL.out _ z; omega)).below HB6.out (by omega)
  obtain ⟨⟨r0, fr0⟩, ⟨r1, fr1⟩, ⟨r2, fr2⟩, ⟨r3, fr3⟩, ⟨r4, fr4⟩⟩ := kb4 KR3
  obtain ⟨W4, hW4⟩ : ∃ z, z = set5 W6 (w.heap.size + 1) (.int .i64 0) (.int .i64 v1) (.int .i64 0) (.bool v2) (.slice none 0 0) := ⟨_, rfl⟩
  have f4 : Fr (fun q => q = w.heap.size + 1) W6 W4 := by rw [hW4]; exact chg_5 _ _ _ _ _ _ _
  have K4 : Blk W4 (w.heap.size + 1) (obsC 0 v1 0 v2 (.slice none 0 0)) := by rw [hW4]; exact blk_set5 KR3 rfl
  obtain ⟨t0, t1, t2, t3, t4⟩ := kc4 K4
  have HF4 := hid f4
  unfold set5 at hW4
  clear K4 KR3 f4
  go_wp2
  rw [<- hW4]
  refine bodyPost_ret (v := .agg #[.int .i64 0, .int .i64 v1, .int .i64 0, .bool v2, .slice none 0 0]) (by simp [results, Tryz.results22, go_sem, t0, t1, t2, t3, t4]) rfl ?_
  have e2 := run_i2 x n m ky vl md nm hn1 hn2 ho hm
  rw [<- HV.out] at e2
  rw [e2]
  exact AnsP.of (q := w.heap.size + 1) (pv := .slice none 0 0) HFL.out HB2.out (by omega) (by omega) (HM3.out.below HB6.out) (HFR.out.trans (Fr.of_below _ HB6.out)) HFT.out HF4.out (gr_nil _ _ _ _ _) (fun g hg => (nil_own g hg).elim) rfl
 .go_simp
  obtain ⟨wd, hwd⟩ : ∃ z, z = (W3.alloc (.cells #[.int .i64 0, .bool false] 121)).drew := ⟨_, rfl⟩
  have bd : Below W3.heap.size W3 wd := by rw [hwd]; exact (below_alloc _ _).drew
  have kd : Blk wd W3.heap.size [.int .i64 0, .bool false] := by rw [hwd]; exact (blk_new W3 [.int .i64 0, .bool false] _).drewR
  have hzd : W3.heap.size < wd.heap.size := by rw [hwd]; simp
  have HKD := hid kd
  have HBD := hid bd
  have p0 : wd.cell? ⟨w1.heap.size, 0, none⟩ = some (.int .i64 (m : Int)) := ct bd (by show w1.heap.size < _; omega) k0
  have p1 : wd.cell? ⟨w1.heap.size, 1, none⟩ = some (.int .i64 ky) := ct bd (by show w1.heap.size < _; omega) k1
  rw [<- hwd]
  refine hK _ _ ⟨⟨p0, p1⟩, ?_⟩
  clear hK K hwd bd kd
  try simp only [Act.put, q1, q2, q3]
  refine rE 5 rfl fun K hK => ?_
  go_simp
  refine (HSEEN.out wd HBD.out).mono ?_
  rintro e W5 ⟨⟨⟨v1, v2⟩, rfl, hv⟩, hb5⟩
  have HV := hid (hv.trans (HSE.out ky))
  have b5 : Below W3.heap.size W3 W5 := HBD.out.trans (hb5.mono HBD.out.size)
  have K5 := HKD.out.below hb5 hzd
  obtain ⟨⟨g0, fg0⟩, ⟨g1, fg1⟩⟩ := kb1 K5
  have HB5 := hid b5
  have HK5 := hid K5
  have hs5 := b5.size
  refine hK _ _ ⟨⟨(b5.cell (p := ⟨w1.heap.size, 0, none⟩) (by show w1.heap.size < _; omega)).trans k0, (b5.cell (p := ⟨w1.heap.size, 1, none⟩) (by show w1.heap.size < _; omega)).trans k1⟩, ?_⟩
  clear hK K hv hb5 b5 K5
  try simp only [Act.put, q1, q2, q3]
  refine rL 7 rfl fun K hK => ?_
  go_simp
  refine hK _ _ ?_
  clear hK K
  try simp only [Act.put, q1, q2, q3]
  refine till_done (by kernel_rfl) ?_ _
  obtain ⟨W6, hW6⟩ : ∃ z, z = (W5.setCell ⟨W3.heap.size, 0, none⟩ (.int .i64 v1)).setCell ⟨W3.heap.size, 1, none⟩ (.bool v2) := ⟨_, rfl⟩
  rw [<- hW6]
  have b6 : Below W3.heap.size W3 W6 := by rw [hW6]; exact (HB5.out.setCell (p := ⟨W3.heap.size, 0, none⟩) (Nat.le_refl _) _).setCell (p := ⟨W3.heap.size, 1, none⟩) (Nat.le_refl _) _
  have kk : Blk W6 W3.heap.size [.int .i64 v1, .bool v2] := by rw [hW6]; exact (HK5.out.set 0 (.int .i64 v1) (by simp)).set 1 (.bool v2) (by simp)
  obtain ⟨m0, m1⟩ := kc1 kk
  have HB6 := hid b6
  have hs6 := b6.size
  clear b6 kk g0 g1 fg0 fg1
  clear hW6
  have KR3 := (HKR.out.fr HFR.out (by omega) (fun z => by have := HFL.out _ z; omega)).below HB6.out (by omega)
  obtain ⟨⟨r0, fr0⟩, ⟨r1, fr1⟩, ⟨r2, fr2⟩, ⟨r3, fr3⟩, ⟨r4, fr4⟩⟩ := kb4 KR3
  obtain ⟨W4, hW4⟩ : ∃ z, z = set5 W6 (w.heap.size + 1) (.int .i64 0) (.int .i64 v1) (.int .i64 0) (.bool v2) (.slice none 0 0) := ⟨_, rfl⟩
  have f4 : Fr (fun q => q = w.heap.size + 1) W6 W4 := by rw [hW4]; exact chg_5 _ _ _ _ _ _ _
  have K4 : Blk W4 (w.heap.size + 1) (obsC 0 v1 0 v2 (.slice none 0 0)) := by rw [hW4]; exact blk_set5 KR3 rfl
  obtain ⟨t0, t1, t2, t3, t4⟩ := kc4 K4
  have HF4 := hid f4
  unfold set5 at hW4
  clear K4 KR3 f4
  go_wp2
  rw [<- hW4]
  refine bodyPost_ret (v := .agg #[.int .i64 0, .int .i64 v1, .int .i64 0, .bool v2, .slice none 0 0]) (by simp [results, Tryz.results22, go_sem, t0, t1, t2, t3, t4]) rfl ?_
  have e2 := run_i2 x n m ky vl md nm hn1 hn2 ho hm
  rw [<- HV.out] at e2
  rw [e2]
  exact AnsP.of (q := w.heap.size + 1) (pv := .slice none 0 0) HFL.out HB2.out (by omega) (by omega) (HM3.out.below HB6.out) (HFR.out.trans (Fr.of_below _ HB6.out)) HFT.out HF4.out (gr_nil _ _ _ _ _) (fun g hg => (nil_own g hg).elim) rfl
theorem run_i3 (x : Bas) (n m : Nat) (ky vl md : Int) (nm : ByteArray) (hn1 : 1 <= n) (hn2 : n <= 4) (ho : opn x (n - 1) = true) (hm : m < 32) : runF x ⟨3, (n : Int), (m : Int), ky, vl, md, nm⟩ = ({ x with tx := x.tx.set (n - 1) { (x.tx.getD (n - 1) tx0) with rs := (x.tx.getD (n - 1) tx0).rs.set m true } }, ⟨0, 0, 0, false, listF x.cms (x.tx.getD (n - 1) tx0).bg (x.tx.getD (n - 1) tx0).own (m : Int)⟩) := by
 have e : ((n : Int) - 1).toNat = n - 1 := by omega
 unfold runF
 simp only [e]
 rw [if_neg (by omega), if_neg (by rw [show (x.tx.getD (n - 1) tx0).op = true from ho]; decide)]
 rw [if_neg (by omega)]
 simp
theorem zip_mem {g : Int -> Option Int} : ∀ {ks : List Int} {y v : Int}, (y, v) ∈ ks.zip (ks.map (fun z => (g z).getD 0)) ↔ y ∈ ks /\ v = (g y).getD 0
 | [], y, v => by simp
 | k :: r, y, v => by
   rw [List.map_cons, List.zip_cons_cons, List.mem_cons, zip_mem (ks := r), List.mem_cons]
   constructor
   .rintro (h | ⟨h1, h2⟩)
    .injection h with h1 h2; subst h1; exact ⟨.inl rfl, h2⟩
    .exact ⟨.inr h1, h2⟩
   .rintro ⟨h1 | h1, h2⟩
    .subst h1; exact .inl (by rw [h2])
    .exact .inr ⟨h1, h2⟩
theorem ord_list {ks us : List Int} {cms : List Com} {bg t : Int} {own : List Cel} {f : Int -> Vsn} (h : OrdL ks us (fun y => svO (f y))) (hf : ∀ y, f y = seesN cms bg own t y) : ks.zip us = listF cms bg own t := by
 have hl := h.len
 refine list_is ?_ (fun y v => ?_)
 .have : (ks.zip us).map Prod.fst = ks := by rw [List.map_fst_zip (by omega)]
  rw [this]; exact h.srt
 .rw [h.val, zip_mem, h.mem, hf]
  unfold svO
  cases hq : seesN cms bg own t y with
  | mk a b =>
    cases b
    .simp
    .simp; exact ⟨fun e => e.symm, fun e => e.symm⟩
theorem ans_3 (B sb n m : Nat) (ky vl md : Int) (nm : ByteArray) (w : World) (x : Bas) (L : LIx -> Value) (c : Led) (gh : Nat -> TG) (op : Nat -> Option Addr) (h : IMem B sb w x L c gh op) (hb : Bnd x) (hck : x.ck < 1000) (hhl : x.hs.length < 1000) (hB : B <= w.heap.size) (hn1 : 1 <= n) (hn2 : n <= 4) (ho : opn x (n - 1) = true) (hm : m < 32) :
 Calls Tryz.prog 22 #[.pointer (some ⟨sb, 0, none⟩), .agg #[.int .i64 3, .int .i64 (n : Int), .int .i64 (m : Int), .int .i64 ky, .int .i64 vl, .int .i64 md, .string nm]] w fun e w' => AnsP B sb w x L gh (runF x ⟨3, (n : Int), (m : Int), ky, vl, md, nm⟩) e w' := by
 have hi : n - 1 < 4 := by omega
 have e1 : n - 1 + 1 = n := by omega
 obtain ⟨w0, hw0⟩ : ∃ z, z = (w.alloc (.cells #[.int .i64 3, .int .i64 (n : Int), .int .i64 (m : Int), .int .i64 ky, .int .i64 vl, .int .i64 md, .string nm] 41)).alloc (.cells #[.int .i64 0, .int .i64 0, .int .i64 0, .bool false, .slice none 0 0] 38) := ⟨_, rfl⟩
 have hb0 : Below w.heap.size w w0 := by rw [hw0]; exact (below_alloc _ _).trans ((below_alloc _ _).mono (by simp))
 have hz0 : w0.heap.size = w.heap.size + 1 + 1 := by rw [hw0]; simp
 have KO0 : Blk w0 w.heap.size (opC 3 n (m : Int) ky vl md nm) := by rw [hw0]; exact (blk_new w (opC 3 n (m : Int) ky vl md nm) _).below (below_alloc _ _) (by simp)
 have KR0 : Blk w0 (w.heap.size + 1) (obsC 0 0 0 false (.slice none 0 0)) := by
  have := blk_new (w.alloc (.cells #[.int .i64 3, .int .i64 (n : Int), .int .i64 (m : Int), .int .i64 ky, .int .i64 vl, .int .i64 md, .string nm] 41)) (obsC 0 0 0 false (.slice none 0 0)) 38
  have e : (w.alloc (.cells #[.int .i64 3, .int .i64 (n : Int), .int .i64 (m : Int), .int .i64 ky, .int .i64 vl, .int .i64 md, .string nm] 41)).heap.size = w.heap.size + 1 := by simp
  rw [e] at this
  rw [hw0]
  exact this
 have h0 := h.below hb0
 obtain ⟨hop, hT⟩ := h0.tr (n - 1) hi ho
 rw [e1] at hop
 clear hT
 obtain ⟨c0, _⟩ := ses_cell h0.ses (j := 66 + n) (by omega)
 rw [sesAt_op, hop] at c0
 have hfa := fault_in sb n 3 (m : Int) md ky vl (.string nm) (some ⟨(gh (n - 1)).g, 0, none⟩) w0 h0.sl (by omega) (by omega) hn1 hn2 c0
 rw [show faultC 3 n (m : Int) md ((some ⟨(gh (n - 1)).g, 0, none⟩)).isNone = 0 from (fault_t 3 n (m : Int) md _ (by omega) (by omega) (by omega) (by omega) (by omega))] at hfa
 have hni : (n : Int) < 5 := by omega
 have hsl := h.sl
 have hfl : ∀ g, foot sb L x gh g -> g < w.heap.size := fun g hg => (h.lt hg).2
 have HFL := hid hfl
 have HB := hid hb
 have HM := hid h0
 have HKO := hid KO0
 have HKR := hid KR0
 clear h0 h KO0 KR0 hfl hb
 rw [hw0] at hfa
 go_enter Tryz.func22, Tryz.ntmps22
 go_wp2_with (go_at_call 42; fail)
 refine hfa.mono ?_
 rw [<- hw0]
 rintro e w1 ⟨rfl, hb1⟩
 have hs1 := hb1.size
 have HB1 := hid (hb0.trans (hb1.mono hb0.size) : Below w.heap.size w w1)
 have KO := HKO.out.below hb1 (by omega)
 have KR := HKR.out.below hb1 (by omega)
 have c1 := (World.cell?_of_block (a := ⟨sb, 66 + n, none⟩) (hb1.block sb (by omega))).trans c0
 obtain ⟨o0, o1, o2, o3⟩ := kc3 KO
 obtain ⟨w2, hw2⟩ : ∃ z, z = (w1.alloc (.cells #[.int .i64 (m : Int), .int .i64 ky] 113)).drew := ⟨_, rfl⟩
 have b2 : Below w1.heap.size w1 w2 := by rw [hw2]; exact (below_alloc _ _).drew
 have hz2 : w1.heap.size < w2.heap.size := by rw [hw2]; simp
 have KO2 := KO.below b2 (by omega)
 have KR2 := KR.below b2 (by omega)
 have KS2 : Blk w2 w1.heap.size [.int .i64 (m : Int), .int .i64 ky] := by rw [hw2]; exact (blk_new w1 [.int .i64 (m : Int), .int .i64 ky] _).drewR
 have q0 : (w1.alloc (.cells #[.int .i64 (m : Int), .int .i64 ky] 113)).cell? ⟨w.heap.size, 0, none⟩ = some (.int .i64 3) := by rw [hw2] at KO2; exact (KO2 0 (by simp [opC])).1
 have HKO := hid KO2
 have HKR := hid KR2
 have HKS := hid KS2
 have HM2 := hid ((HM.out.below hb1).below b2)
 have HB2 := hid (HB1.out.trans (b2.mono HB1.out.size) : Below w.heap.size w w2)
 have HW2 := hid hw2
 clear hfa c0 hb1 HM KO KR KO2 KR2 KS2 b2 HB1
 clear hw2
 have hzz : w.heap.size + 1 < w1.heap.size := by omega
 go_wp2
 go_region
 go_wp2
 rw [<- HW2.out]
 have hT := (HM2.out.tr (n - 1) hi ho).2
 obtain ⟨rb, rd1, rd2⟩ := hT.rd hm
 have q2 : w2.cell? ⟨w.heap.size, 2, none⟩ = some (.int .i64 (m : Int)) := (HKO.out 2 (by simp [opC])).1
 have hmi : (m : Int) < 32 := by omega
 clear q0 o0 o1 o2 o3 hT
 go_region
 obtain ⟨W3, hW3⟩ : ∃ z, z = (w2.setCell ⟨(gh (n - 1)).g, 2 + m, none⟩ (.bool true)).drew := ⟨_, rfl⟩
 rw [<- hW3]
 have hT := (HM2.out.tr (n - 1) hi ho).2
 obtain ⟨gh', hM3, hfr, hft⟩ := HM2.out.put hi ho (x' := { (x.tx.getD (n - 1) tx0) with rs := (x.tx.getD (n - 1) tx0).rs.set m true }) ho (TrP.mark hT hm)
 have hT3 := (hT.mark hm).fr (Fr.refl (fun _ => False) _).drewR (fun _ _ z => z)
 have hM3 := hM3.drew
 have hfr := hfr.drewR
 rw [<- hW3] at hM3 hfr hT3
 have hs3 := hfr.size
 have KS3 := HKS.out.fr hfr hz2 (fun z => by have := HFL.out _ z; omega)
 have KO3 := HKO.out.fr hfr (by omega) (fun z => by have := HFL.out _ z; omega)
 have HT3 := hid hT3
 have HM3 := hid hM3
 have HFR := hid hfr
 have HFT := hid hft
 have HKO3 := hid KO3
 have HSE := hid (HM2.out.sees (bg := (x.tx.getD (n - 1) tx0).bg) hT.mr hm)
 clear hM3 hfr hft hW3 rd1 rd2 q2 hT3 hT KO3
 have hT2 := HT3.out
 have hml : (gh (n - 1)).M.length <= 1000 := Nat.le_trans (rel_len hT2.mr hT2.mp.nodup) (HB.out.ow (x.tx.getD (n - 1) tx0) (by
  rw [List.getD_eq_getElem?_getD, List.getElem?_eq_getElem (by rw [HM2.out.n4]; exact hi)]
  exact List.getElem_mem _))
 obtain ⟨LB, kb, tb'⟩ := HM2.out.bnd HB.out
 have HLB := hid LB
 have hkl : (c.K m).length + (gh (n - 1)).M.length < 1048576 := by have := kb m; omega
 clear hT2 LB kb tb' hml
 go_wp2
 have q2 : W3.cell? ⟨w.heap.size, 2, none⟩ = some (.int .i64 (m : Int)) := (HKO3.out 2 (by simp [opC])).1
 obtain ⟨wd, hwd⟩ : ∃ z, z = W3.drew := ⟨_, rfl⟩
 have bd : Below W3.heap.size W3 wd := by rw [hwd]; exact (Below.refl _ _).drew
 have hmD := HM3.out.below bd
 have hst := seenTable_any B sb m wd L c _ _ (gh (n - 1)) _ hmD.led HLB.out hmD.ses hmD.sl (HT3.out.below bd) hm hkl
 have p2 : wd.cell? ⟨w.heap.size, 2, none⟩ = some (.int .i64 (m : Int)) := by rw [hwd]; exact q2
 have HBD := hid bd
 have HWD := hid hwd
 have hbs := bd.size
 clear bd hwd hmD KS3 hkl
 refine wp_region_till_drew (S := (fun W => W.cell? ⟨w.heap.size, 2, none⟩ = some (.int .i64 (m : Int)))) (late := [9]) (by kernel_rfl) q2 (fun hHeld => ?_)
 refine tT 0 rfl hHeld ?_
 try simp only [Act.put, q1, q2, q3]
 refine tT 1 rfl hHeld ?_
 try simp only [Act.put, q1, q2, q3]
 refine tT 2 rfl hHeld ?_
 try simp only [Act.put, q1, q2, q3]
 refine tT 3 rfl hHeld ?_
 try simp only [Act.put, q1, q2, q3]
 refine tT 4 rfl hHeld ?_
 try simp only [Act.put, q1, q2, q3]
 refine till_ld (i := 5) (v := ?_) rfl (Or.inl ⟨by rfl, ?_⟩) hHeld ?_
 rotate_left
 .intro w hSw
  try dsimp only at hSw
  go_simp
  try with_reducible rfl
 try simp only [Act.put, q1, q2, q3]
 refine rE 6 rfl fun K hK => ?_
 go_simp
 rw [<- HWD.out]
 refine hst.mono ?_
 rintro e W5 ⟨kv, vv, ks, us, rfl, hkr, hvr, hod, hkl, hb5⟩
 have s2 : W5.cell? ⟨w.heap.size, 2, none⟩ = some (.int .i64 (m : Int)) := ct hb5 (by show w.heap.size < _; omega) p2
 have HLI := hid (ord_list hod (HSE.out))
 have HB5 := hid (HBD.out.trans (hb5.mono HBD.out.size) : Below W3.heap.size W3 W5)
 have hs5 := hb5.size
 have hpi := pairsIn_any wd.heap.size kv vv ks us W5 hod.len (by omega) hkr hvr
 refine hK _ _ ⟨s2, ?_⟩
 clear hK K hst hkr hvr hod hb5
 try simp only [Act.put, q1, q2, q3]
 refine rE 7 rfl fun K hK => ?_
 go_simp
 refine hpi.mono ?_
 rintro e W6 ⟨pv, rfl, hgr, hb6⟩
 have s6 : W6.cell? ⟨w.heap.size, 2, none⟩ = some (.int .i64 (m : Int)) := ct hb6 (by show w.heap.size < _; omega) s2
 obtain ⟨pa, pl, pc, hpf⟩ : ∃ a l c, pv = .slice a l c := by obtain ⟨a, c, h⟩ := formR hgr; exact ⟨a, _, c, h⟩
 subst hpf
 rw [HLI.out] at hgr
 have HGR := hid hgr
 have HB6 := hid (HB5.out.trans (hb6.mono HB5.out.size) : Below W3.heap.size W3 W6)
 have hs6 := hb6.size
 refine hK _ _ ⟨s6, ?_⟩
 clear hK K hpi hgr hb6
 try simp only [Act.put, q1, q2, q3]
 have KR3 := (HKR.out.fr HFR.out (by omega) (fun z => by have := HFL.out _ z; omega)).below HB6.out (by omega)
 obtain ⟨⟨r0, fr0⟩, ⟨r1, fr1⟩, ⟨r2, fr2⟩, ⟨r3, fr3⟩, ⟨r4, fr4⟩⟩ := kb4 KR3
 obtain ⟨W4, hW4⟩ : ∃ z, z = set5 W6 (w.heap.size + 1) (.int .i64 0) (.int .i64 0) (.int .i64 0) (.bool false) (.slice pa pl pc) := ⟨_, rfl⟩
 have f4 : Fr (fun q => q = w.heap.size + 1) W6 W4 := by rw [hW4]; exact chg_5 _ _ _ _ _ _ _
 have K4 : Blk W4 (w.heap.size + 1) (obsC 0 0 0 false (.slice pa pl pc)) := by rw [hW4]; exact blk_set5 KR3 rfl
 obtain ⟨t0, t1, t2, t3, t4⟩ := kc4 K4
 have HF4 := hid f4
 unfold set5 at hW4
 clear K4 KR3 f4
 refine rE 8 rfl fun K hK => ?_
 go_simp
 refine hK _ _ ⟨s6, ?_⟩
 clear hK K
 try simp only [Act.put, q1, q2, q3]
 refine rL 9 rfl fun K hK => ?_
 go_simp
 refine hK _ _ ?_
 clear hK K
 try simp only [Act.put, q1, q2, q3]
 refine till_done (by kernel_rfl) ?_ _
 rw [<- hW4]
 go_wp2
 try rw [hW4]
 rw [<- hW4]
 refine bodyPost_ret (v := .agg #[.int .i64 0, .int .i64 0, .int .i64 0, .bool false, .slice pa pl pc]) (by simp [results, Tryz.results22, go_sem, t0, t1, t2, t3, t4]) rfl ?_
 rw [run_i3 x n m ky vl md nm hn1 hn2 ho hm]
 generalize listF x.cms (x.tx.getD (n - 1) tx0).bg (x.tx.getD (n - 1) tx0).own (m : Int) = lst at HGR ⊢
 have hnl : ∀ g, (Value.slice pa pl pc).ownBlock = some g -> W3.heap.size <= g := fun g hg => by have := (HGR.out.lt g hg).1; omega
 refine AnsP.of (q := w.heap.size + 1) (pv := .slice pa pl pc) HFL.out HB2.out (by omega) (by omega) (HM3.out.below HB6.out) (HFR.out.trans (Fr.of_below _ HB6.out)) HFT.out HF4.out (own_bs (own_fr HGR.out HF4.out (fun g hg e => by have := hnl g hg; have e2 : g = w.heap.size + 1 := e; omega)) (by omega)) (fun g hg z => ?_) rfl
 have := hnl g hg
 have := (HM3.out.lt z).2
 omega
theorem answer_any (B sb : Nat) (o : Opn) (w : World) (x : Bas) (L : LIx -> Value) (c : Led) (gh : Nat -> TG) (op : Nat -> Option Addr) (h : IMem B sb w x L c gh op) (hb : Bnd x) (hck : x.ck < 1000) (hhl : x.hs.length < 1000) (hB : B <= w.heap.size) :
 Calls Tryz.prog 22 #[.pointer (some ⟨sb, 0, none⟩), .agg #[.int .i64 o.kd, .int .i64 o.ss, .int .i64 o.tb, .int .i64 o.ky, .int .i64 o.vl, .int .i64 o.md, .string o.nm]] w fun e w' => AnsP B sb w x L gh (runF x o) e w' := by
 obtain ⟨kd, ss, tb, ky, vl, md, nm⟩ := o
 simp only
 by_cases hf : faultC kd ss tb md (!(x.tx.getD (ss - 1).toNat tx0).op) = 0
 .obtain ⟨h1, h2, h3, h4, h5⟩ := fault_no hf
  obtain ⟨n, rfl⟩ : ∃ n : Nat, ss = n := ⟨ss.toNat, by omega⟩
  have e : ((n : Int) - 1).toNat = n - 1 := by omega
  rw [e] at h3 h4
  have hn1 : 1 <= n := by omega
  have hn2 : n <= 4 := by omega
  by_cases k1 : kd = 1
  .subst k1
   exact ans_1 B sb n tb ky vl md nm w x L c gh op h hb hck hhl hB hn1 hn2 (h3 rfl).1 (h3 rfl).2
  .have ho : opn x (n - 1) = true := h4 k1
   by_cases k5 : kd <= 5
   .obtain ⟨t1, t2⟩ := h5 (by omega) k5
    obtain ⟨m, rfl⟩ : ∃ m : Nat, tb = m := ⟨tb.toNat, by omega⟩
    have hk : kd = 2 \/ kd = 3 \/ kd = 4 \/ kd = 5 := by omega
    rcases hk with rfl | rfl | rfl | rfl
    .exact ans_2 B sb n m ky vl md nm w x L c gh op h hb hck hhl hB hn1 hn2 ho (by omega)
    .exact ans_3 B sb n m ky vl md nm w x L c gh op h hb hck hhl hB hn1 hn2 ho (by omega)
    .exact ans_4 B sb n (m : Int) ky vl md nm w x L c gh op h hb hck hhl hB hn1 hn2 ho ⟨t1, t2⟩
    .exact ans_5 B sb n (m : Int) ky vl md nm w x L c gh op h hb hck hhl hB hn1 hn2 ho ⟨t1, t2⟩
   .have hk : kd = 6 \/ kd = 7 \/ kd = 8 \/ kd = 9 \/ kd = 10 := by omega
    rcases hk with rfl | rfl | rfl | rfl | rfl
    .exact ans_6 B sb n tb ky vl md nm w x L c gh op h hb hck hhl hB hn1 hn2 ho
    .exact ans_7 B sb n tb ky vl md nm w x L c gh op h hb hck hhl hB hn1 hn2 ho
    .exact ans_8 B sb n tb ky vl md nm w x L c gh op h hb hck hhl hB hn1 hn2 ho
    .exact ans_9 B sb n tb ky vl md nm w x L c gh op h hb hck hhl hB hn1 hn2 ho
    .exact ans_10 B sb n tb ky vl md nm w x L c gh op h hb hck hhl hB hn1 hn2 ho
 .exact ans_f B sb kd ss tb ky vl md nm w x L c gh op h hf
def L0 (_ : LIx) : Value := .slice none 0 0
def c00 : Led := ⟨fun _ _ => [], fun _ => [], []⟩
def op0 (_ : Nat) : Option Addr := none
def tg0 : TG := ⟨0, 0, [], .slice none 0 0, []⟩
theorem opn0 (i : Nat) : opn bas0 i = false := by
 unfold opn bas0
 match i with
 | 0 => rfl
 | 1 => rfl
 | 2 => rfl
 | 3 => rfl
 | i + 4 => rfl
theorem ldF0 (g : Nat) : ¬ ldF L0 g := fun ⟨i, hi⟩ => nil_own g hi
theorem imem0 (w : World) : IMem w.heap.size w.heap.size (w.alloc (.cells (sesC 0 L0 op0).toArray 80)) bas0 L0 c00 (fun _ => tg0) op0 := by
 refine ⟨rfl, ⟨⟨fun i => ?_, fun i j g hi hj => (nil_own g hi).elim⟩, fun k => List.Pairwise.nil, fun k y => ?_, fun k y _ => ⟨rfl, rfl⟩, fun k y => List.Pairwise.nil⟩, blk_new w (sesC 0 L0 op0) _, by simp, Nat.le_refl _, fun k y => ?_, rfl, fun i hi ho => ?_, fun i hi _ => rfl, ldF0 _, fun i hi ho => ?_, fun i j _ _ _ ho => ?_, fun m hm => ?_⟩
 .cases i <;> exact World.ownsRow_nil _ _ _ _
 .simp [c00]
 .show ([] : List Ver) = _
  split <;> rfl
 .rw [opn0] at ho; cases ho
 .rw [opn0] at ho; cases ho
 .rw [opn0] at ho; cases ho
 .simp [bas0] at hm
theorem AnR.fr {b : Nat} {S : Nat -> Prop} {w w' : World} {v : Value} {ps : List (Value × Obn)} (h : AnR b w v ps) (hk : Fr S w w') (h1 : ∀ g, v.ownBlock = some g -> ¬ S g) (h2 : ∀ x ∈ ps, ∀ g, x.1.ownBlock = some g -> ¬ S g) : AnR b w' v ps :=
 ⟨own_fr h.1 hk h1, fun x hx => own_fr (h.2.1 x hx) hk (h2 x hx), h.2.2⟩
end Go.Proofs.YtblkgicbimflhaaGreat
