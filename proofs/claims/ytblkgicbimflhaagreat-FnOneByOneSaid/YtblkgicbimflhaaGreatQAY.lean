import Derived.Test.YtblkgicbimflhaaGreatQAX
import Derived.Test.YtblkgicbimflhaaGreatQAJ
import Derived.Maps.AppendAt
import Derived.Test.YtblkgicbimflhaaGreatRows
import Derived.Test.YtblkgicbimflhaaGreatQAW
import Derived.ProofKit
import Derived.OpenShut
import Derived.SizedLaws
import Derived.Lib.SmallJoins
namespace Go.Proofs.YtblkgicbimflhaaGreat
open Go.ChangeShapes Go.WideShapes Go.ChangeAt Go.RowKit
set_option linter.unusedVariables false
set_option linter.unusedSimpArgs false
set_option maxRecDepth 100000
set_option maxHeartbeats 16000000
theorem TrM.mark {B : Nat} {w : World} {t : TG} {x : Txn} (h : TrM B w t x) {m : Nat} (hm : m < 32) : TrM B (w.setCell ⟨t.g, 2 + m, none⟩ (.bool true)) t { x with rs := x.rs.set m true } := by
 have f := Fr.setCell w t.g (2 + m) (.bool true)
 refine ⟨?_, by simpa using h.gl, by simpa using h.rl, h.mp.fr f (fun e => h.g_mb e.symm), h.mr, h.mi, h.sl, h.s8, own_fr h.sr f (fun g hg e => h.sg (by rw [<- (show g = t.g from e)]; exact hg)), fun j hj hj' => ⟨(h.ss j hj hj').1.fr f (fun e => ?_), (h.ss j hj hj').2⟩, h.nd, h.sg, h.ge⟩
 .have k := h.bk.set (2 + m) (.bool true) (by rw [tranC_len _ _ _ _ _ h.rl]; omega)
  rw [tranC_setrd _ _ _ _ _ _ (by rw [h.rl]; exact hm)] at k
  exact k
 .have e2 : t.sm[j].1 = t.g := e
  exact h.g_sm (by rw [<- e2]; exact List.mem_map_of_mem (List.getElem_mem hj))
theorem TrM.rd {B : Nat} {w : World} {t : TG} {x : Txn} (h : TrM B w t x) {m : Nat} (hm : m < 32) : ∃ b, w.cell? ⟨t.g, 2 + m, none⟩ = some (.bool b) /\ w.frozen? ⟨t.g, 2 + m, none⟩ = false := by
 have k := h.bk (2 + m) (by rw [tranC_len _ _ _ _ _ h.rl]; omega)
 rw [tranC_rd _ _ _ _ _ (by rw [h.rl]; exact hm)] at k
 exact ⟨_, k.1, k.2⟩
theorem TrP.mark {B : Nat} {w : World} {t : TG} {x : Txn} (h : TrM B w t x) {m : Nat} (hm : m < 32) : TrP B w t { x with rs := x.rs.set m true } (w.setCell ⟨t.g, 2 + m, none⟩ (.bool true)) := ⟨t, h.mark hm, rfl, fun b hb => .inl hb, (Fr.setCell w t.g (2 + m) (.bool true)).mono (fun g e => .inl e)⟩
theorem run_i2 (x : Bas) (n m : Nat) (ky vl md : Int) (nm : ByteArray) (hn1 : 1 <= n) (hn2 : n <= 4) (ho : opn x (n - 1) = true) (hm : m < 32) : runF x ⟨2, (n : Int), (m : Int), ky, vl, md, nm⟩ = ({ x with tx := x.tx.set (n - 1) { (x.tx.getD (n - 1) tx0) with rs := (x.tx.getD (n - 1) tx0).rs.set m true } }, ⟨0, (seesN x.cms (x.tx.getD (n - 1) tx0).bg (x.tx.getD (n - 1) tx0).own (m : Int) ky).1, 0, (seesN x.cms (x.tx.getD (n - 1) tx0).bg (x.tx.getD (n - 1) tx0).own (m : Int) ky).2, []⟩) := by
 have e : ((n : Int) - 1).toNat = n - 1 := by omega
 unfold runF
 simp only [e]
 rw [if_neg (by omega), if_neg (by rw [show (x.tx.getD (n - 1) tx0).op = true from ho]; decide)]
 rw [if_neg (by omega), <- seesF_N]
 cases (seesF x.cms (x.tx.getD (n - 1) tx0).bg (x.tx.getD (n - 1) tx0).own (m : Int) ky).2 <;> simp
theorem ans_2 (B sb n m : Nat) (ky vl md : Int) (nm : ByteArray) (w : World) (x : Bas) (L : LIx -> Value) (c : Led) (gh : Nat -> TG) (op : Nat -> Option Addr) (h : IMem B sb w x L c gh op) (hb : Bnd x) (hck : x.ck < 1000) (hhl : x.hs.length < 1000) (hB : B <= w.heap.size) (hn1 : 1 <= n) (hn2 : n <= 4) (ho : opn x (n - 1) = true) (hm : m < 32) :
 Calls Tryz.prog 22 #[.pointer (some ⟨sb, 0, none⟩), .agg #[.int .i64 2, .int .i64 (n : Int), .int .i64 (m : Int), .int .i64 ky, .int .i64 vl, .int .i64 md, .string nm]] w fun e w' => AnsP B sb w x L gh (runF x ⟨2, (n : Int), (m : Int), ky, vl, md, nm⟩) e w' := by
 have hi : n - 1 < 4 := by omega
 have e1 : n - 1 + 1 = n := by omega
 obtain ⟨w0, hw0⟩ : ∃ z, z = (w.alloc (.cells #[.int .i64 2, .int .i64 (n : Int), .int .i64 (m : Int), .int .i64 ky, .int .i64 vl, .int .i64 md, .string nm] 41)).alloc (.cells #[.int .i64 0, .int .i64 0, .int .i64 0, .bool false, .slice none 0 0] 38) := ⟨_, rfl⟩
 have hb0 : Below w.heap.size w w0 := by rw [hw0]; exact (below_alloc _ _).trans ((below_alloc _ _).mono (by simp))
 have hz0 : w0.heap.size = w.heap.size + 1 + 1 := by rw [hw0]; simp
 have KO0 : Blk w0 w.heap.size (opC 2 n (m : Int) ky vl md nm) := by rw [hw0]; exact (blk_new w (opC 2 n (m : Int) ky vl md nm) _).below (below_alloc _ _) (by simp)
 have KR0 : Blk w0 (w.heap.size + 1) (obsC 0 0 0 false (.slice none 0 0)) := by
  have := blk_new (w.alloc (.cells #[.int .i64 2, .int .i64 (n : Int), .int .i64 (m : Int), .int .i64 ky, .int .i64 vl, .int .i64 md, .string nm] 41)) (obsC 0 0 0 false (.slice none 0 0)) 38
  have e : (w.alloc (.cells #[.int .i64 2, .int .i64 (n : Int), .int .i64 (m : Int), .int .i64 ky, .int .i64 vl, .int .i64 md, .string nm] 41)).heap.size = w.heap.size + 1 := by simp
  rw [e] at this
  rw [hw0]
  exact this
 have h0 := h.below hb0
 obtain ⟨hop, hT⟩ := h0.tr (n - 1) hi ho
 rw [e1] at hop
 clear hT
 obtain ⟨c0, _⟩ := ses_cell h0.ses (j := 66 + n) (by omega)
 rw [sesAt_op, hop] at c0
 have hfa := fault_in sb n 2 (m : Int) md ky vl (.string nm) (some ⟨(gh (n - 1)).g, 0, none⟩) w0 h0.sl (by omega) (by omega) hn1 hn2 c0
 rw [show faultC 2 n (m : Int) md ((some ⟨(gh (n - 1)).g, 0, none⟩)).isNone = 0 from (fault_t 2 n (m : Int) md _ (by omega) (by omega) (by omega) (by omega) (by omega))] at hfa
 have hni : (n : Int) < 5 := by omega
 have hsl := h.sl
 have hfl : ∀ g, foot sb L x gh g -> g < w.heap.size := fun g hg => (h.lt hg).2
 have HFL := hid hfl
 have HB := hid hb
 have HM := hid h0
 have HKO := hid KO0
 have HKR := hid KR0
 clear h0 h KO0 KR0 hfl hb
 rw [hw0] at hfa
 go_enter Tryz.func22, Tryz.ntmps22
 go_wp2_with (go_at_call 42; fail)
 refine hfa.mono ?_
 rw [<- hw0]
 rintro e w1 ⟨rfl, hb1⟩
 have hs1 := hb1.size
 have HB1 := hid (hb0.trans (hb1.mono hb0.size) : Below w.heap.size w w1)
 have KO := HKO.out.below hb1 (by omega)
 have KR := HKR.out.below hb1 (by omega)
 have c1 := (World.cell?_of_block (a := ⟨sb, 66 + n, none⟩) (hb1.block sb (by omega))).trans c0
 obtain ⟨o0, o1, o2, o3⟩ := kc3 KO
 obtain ⟨w2, hw2⟩ : ∃ z, z = (w1.alloc (.cells #[.int .i64 (m : Int), .int .i64 ky] 113)).drew := ⟨_, rfl⟩
 have b2 : Below w1.heap.size w1 w2 := by rw [hw2]; exact (below_alloc _ _).drew
 have hz2 : w1.heap.size < w2.heap.size := by rw [hw2]; simp
 have KO2 := KO.below b2 (by omega)
 have KR2 := KR.below b2 (by omega)
 have KS2 : Blk w2 w1.heap.size [.int .i64 (m : Int), .int .i64 ky] := by rw [hw2]; exact (blk_new w1 [.int .i64 (m : Int), .int .i64 ky] _).drewR
 have q0 : (w1.alloc (.cells #[.int .i64 (m : Int), .int .i64 ky] 113)).cell? ⟨w.heap.size, 0, none⟩ = some (.int .i64 2) := by rw [hw2] at KO2; exact (KO2 0 (by simp [opC])).1
 have HKO := hid KO2
 have HKR := hid KR2
 have HKS := hid KS2
 have HM2 := hid ((HM.out.below hb1).below b2)
 have HB2 := hid (HB1.out.trans (b2.mono HB1.out.size) : Below w.heap.size w w2)
 have HW2 := hid hw2
 clear hfa c0 hb1 HM KO KR KO2 KR2 KS2 b2 HB1
 clear hw2
 have hzz : w.heap.size + 1 < w1.heap.size := by omega
 go_wp2
 go_region
 go_wp2
 rw [<- HW2.out]
 have hT := (HM2.out.tr (n - 1) hi ho).2
 obtain ⟨rb, rd1, rd2⟩ := hT.rd hm
 have q2 : w2.cell? ⟨w.heap.size, 2, none⟩ = some (.int .i64 (m : Int)) := (HKO.out 2 (by simp [opC])).1
 have hmi : (m : Int) < 32 := by omega
 clear q0 o0 o1 o2 o3 hT
 go_region
 obtain ⟨W3, hW3⟩ : ∃ z, z = (w2.setCell ⟨(gh (n - 1)).g, 2 + m, none⟩ (.bool true)).drew := ⟨_, rfl⟩
 rw [<- hW3]
 have hT := (HM2.out.tr (n - 1) hi ho).2
 obtain ⟨gh', hM3, hfr, hft⟩ := HM2.out.put hi ho (x' := { (x.tx.getD (n - 1) tx0) with rs := (x.tx.getD (n - 1) tx0).rs.set m true }) ho (TrP.mark hT hm)
 have hT3 := (hT.mark hm).fr (Fr.refl (fun _ => False) _).drewR (fun _ _ z => z)
 have hM3 := hM3.drew
 have hfr := hfr.drewR
 rw [<- hW3] at hM3 hfr hT3
 have hs3 := hfr.size
 have KS3 := HKS.out.fr hfr hz2 (fun z => by have := HFL.out _ z; omega)
 have KO3 := HKO.out.fr hfr (by omega) (fun z => by have := HFL.out _ z; omega)
 have HT3 := hid hT3
 have HM3 := hid hM3
 have HFR := hid hfr
 have HFT := hid hft
 have HKO3 := hid KO3
 have HSE := hid (HM2.out.sees (bg := (x.tx.getD (n - 1) tx0).bg) hT.mr hm)
 clear hM3 hfr hft hW3 rd1 rd2 q2 hT3 hT KO3
 go_wp2
 obtain ⟨k0, k1⟩ := kc1 KS3
 have HSEEN := hid (fun (W : World) (b : Below W3.heap.size W3 W) => (HM3.out.below b).led.seen (HM2.out.bnd HB.out).1 (HM3.out.below b).ses (HM3.out.below b).sl (HT3.out.below b) m hm ky)
 have HKR3 := hid (HKR.out.fr HFR.out (by omega) (fun z => by have := HFL.out _ z; omega))
 clear KS3
 refine wp_region_till_drew (S := (fun W => W.cell? ⟨w1.heap.size, 0, none⟩ = some (.int .i64 (m : Int)) /\ W.cell? ⟨w1.heap.size, 1, none⟩ = some (.int .i64 ky))) (late := [7]) (by kernel_rfl) ⟨k0, k1⟩ (fun hHeld => ?_)
 refine tT 0 rfl hHeld ?_
 try simp only [Act.put, q1, q2, q3]
 refine tT 1 rfl hHeld ?_
 try simp only [Act.put, q1, q2, q3]
 refine tT 2 rfl hHeld ?_
 try simp only [Act.put, q1, q2, q3]
 refine tT 3 rfl hHeld ?_
 try simp only [Act.put, q1, q2, q3]
 refine till_ld (i := 4) (v := ?_) rfl (Or.inl ⟨by rfl, ?_⟩) hHeld ?_
 rotate_left
 .intro w hSw
  try dsimp only at hSw
  go_simp
  try with_reducible rfl
 try simp only [Act.put, q1, q2, q3]
 refine till_ready (rs := [5, 6]) (by kernel_rfl) (by simp) (TillAll.cons rfl (fun K hK => ?_) (TillAll.cons rfl (fun K hK => ?_) TillAll.nil))
 .go_simp
  obtain ⟨wd, hwd⟩ : ∃ z, z = W3.drew := ⟨_, rfl⟩
  have bd : Below W3.heap.size W3 wd := by rw [hwd]; exact (Below.refl _ _).drew
  rw [<- hwd]
  have HBD := hid bd
  clear hwd bd
  refine (HSEEN.out wd HBD.out).mono ?_
  rintro e W5 ⟨⟨⟨v1, v2⟩, rfl, hv⟩, hb5⟩
  have HV := hid (hv.trans (HSE.out ky))
  have b5 : Below W3.heap.size W3 W5 := HBD.out.trans (hb5.mono HBD.out.size)
  have HB5 := hid b5
  have hs5 := b5.size
  refine hK _ _ ⟨⟨(b5.cell (p := ⟨w1.heap.size, 0, none⟩) (by show w1.heap.size < _; omega)).trans k0, (b5.cell (p := ⟨w1.heap.size, 1, none⟩) (by show w1.heap.size < _; omega)).trans k1⟩, ?_⟩
  clear hK K hv hb5 b5
  try simp only [Act.put, q1, q2, q3]
  refine rE 6 rfl fun K hK => ?_
  go_simp
  have b6 : Below W3.heap.size W3 (W5.alloc (.cells #[.int .i64 0, .bool false] 121)) := HB5.out.alloc hs5 _
  refine hK _ _ ⟨⟨(b6.cell (p := ⟨w1.heap.size, 0, none⟩) (by show w1.heap.size < _; omega)).trans k0, (b6.cell (p := ⟨w1.heap.size, 1, none⟩) (by show w1.heap.size < _; omega)).trans k1⟩, ?_⟩
  clear hK K b6
  try simp only [Act.put, q1, q2, q3]
  refine rL 7 rfl fun K hK => ?_
  go_simp
  refine hK _ _ ?_
  clear hK K
  try simp only [Act.put, q1, q2, q3]
  refine till_done (by kernel_rfl) ?_ _
  obtain ⟨W6, hW6⟩ : ∃ z, z = W5.alloc (.cells #[.int .i64 v1, .bool v2] 121) := ⟨_, rfl⟩
  rw [<- hW6]
  have b6 : Below W3.heap.size W3 W6 := by rw [hW6]; exact HB5.out.alloc hs5 _
  have kk : Blk W6 W5.heap.size [.int .i64 v1, .bool v2] := by rw [hW6]; exact blk_new W5 [.int .i64 v1, .bool v2] _
  obtain ⟨m0, m1⟩ := kc1 kk
  have HB6 := hid b6
  have hs6 := b6.size
  clear b6 kk
  clear hW6
  have KR3 := (HKR.out.fr HFR.out (by omega) (fun z => by have := HFL.out _ z; omega)).below HB6.out (by omega)
  obtain ⟨⟨r0, fr0⟩, ⟨r1, fr1⟩, ⟨r2, fr2⟩, ⟨r3, fr3⟩, ⟨r4, fr4⟩⟩ := kb4 KR3
  obtain ⟨W4, hW4⟩ : ∃ z, z = set5 W6 (w.heap.size + 1) (.int .i64 0) (.int .i64 v1) (.int .i64 0) (.bool v2) (.slice none 0 0) := ⟨_, rfl⟩
  have f4 : Fr (fun q => q = w.heap.size + 1) W6 W4 := by rw [hW4]; exact chg_5 _ _ _ _ _ _ _
  have K4 : Blk W4 (w.heap.size + 1) (obsC 0 v1 0 v2 (.slice none 0 0)) := by rw [hW4]; exact blk_set5 KR3 rfl
  obtain ⟨t0, t1, t2, t3, t4⟩ := kc4 K4
  have HF4 := hid f4
  unfold set5 at hW4
  clear K4 KR3 f4
  go_wp2
  rw [<- hW4]
  refine bodyPost_ret (v := .agg #[.int .i64 0, .int .i64 v1, .int .i64 0, .bool v2, .slice none 0 0]) (by simp [results, Tryz.results22, go_sem, t0, t1, t2, t3, t4]) rfl ?_
  have e2 := run_i2 x n m ky vl md nm hn1 hn2 ho hm
  rw [<- HV.out] at e2
  rw [e2]
  exact AnsP.of (q := w.heap.size + 1) (pv := .slice none 0 0) HFL.out HB2.out (by omega) (by omega) (HM3.out.below HB6.out) (HFR.out.trans (Fr.of_below _ HB6.out)) HFT.out HF4.out (gr_nil _ _ _ _ _) (fun g hg => (nil_own g hg).elim) rfl
 .go_simp
  obtain ⟨wd, hwd⟩ : ∃ z, z = (W3.alloc (.cells #[.int .i64 0, .bool false] 121)).drew := ⟨_, rfl⟩
  have bd : Below W3.heap.size W3 wd := by rw [hwd]; exact (below_alloc _ _).drew
  have kd : Blk wd W3.heap.size [.int .i64 0, .bool false] := by rw [hwd]; exact (blk_new W3 [.int .i64 0, .bool false] _).drewR
  have hzd : W3.heap.size < wd.heap.size := by rw [hwd]; simp
  have HKD := hid kd
  have HBD := hid bd
  have p0 : wd.cell? ⟨w1.heap.size, 0, none⟩ = some (.int .i64 (m : Int)) := ct bd (by show w1.heap.size < _; omega) k0
  have p1 : wd.cell? ⟨w1.heap.size, 1, none⟩ = some (.int .i64 ky) := ct bd (by show w1.heap.size < _; omega) k1
  rw [<- hwd]
  refine hK _ _ ⟨⟨p0, p1⟩, ?_⟩
  clear hK K hwd bd kd
  try simp only [Act.put, q1, q2, q3]
  refine rE 5 rfl fun K hK => ?_
  go_simp
  refine (HSEEN.out wd HBD.out).mono ?_
  rintro e W5 ⟨⟨⟨v1, v2⟩, rfl, hv⟩, hb5⟩
  have HV := hid (hv.trans (HSE.out ky))
  have b5 : Below W3.heap.size W3 W5 := HBD.out.trans (hb5.mono HBD.out.size)
  have K5 := HKD.out.below hb5 hzd
  obtain ⟨⟨g0, fg0⟩, ⟨g1, fg1⟩⟩ := kb1 K5
  have HB5 := hid b5
  have HK5 := hid K5
  have hs5 := b5.size
  refine hK _ _ ⟨⟨(b5.cell (p := ⟨w1.heap.size, 0, none⟩) (by show w1.heap.size < _; omega)).trans k0, (b5.cell (p := ⟨w1.heap.size, 1, none⟩) (by show w1.heap.size < _; omega)).trans k1⟩, ?_⟩
  clear hK K hv hb5 b5 K5
  try simp only [Act.put, q1, q2, q3]
  refine rL 7 rfl fun K hK => ?_
  go_simp
  refine hK _ _ ?_
  clear hK K
  try simp only [Act.put, q1, q2, q3]
  refine till_done (by kernel_rfl) ?_ _
  obtain ⟨W6, hW6⟩ : ∃ z, z = (W5.setCell ⟨W3.heap.size, 0, none⟩ (.int .i64 v1)).setCell ⟨W3.heap.size, 1, none⟩ (.bool v2) := ⟨_, rfl⟩
  rw [<- hW6]
  have b6 : Below W3.heap.size W3 W6 := by rw [hW6]; exact (HB5.out.setCell (p := ⟨W3.heap.size, 0, none⟩) (Nat.le_refl _) _).setCell (p := ⟨W3.heap.size, 1, none⟩) (Nat.le_refl _) _
  have kk : Blk W6 W3.heap.size [.int .i64 v1, .bool v2] := by rw [hW6]; exact (HK5.out.set 0 (.int .i64 v1) (by simp)).set 1 (.bool v2) (by simp)
  obtain ⟨m0, m1⟩ := kc1 kk
  have HB6 := hid b6
  have hs6 := b6.size
  clear b6 kk g0 g1 fg0 fg1
  clear hW6
  have KR3 := (HKR.out.fr HFR.out (by omega) (fun z => by have := HFL.out _ z; omega)).below HB6.out (by omega)
  obtain ⟨⟨r0, fr0⟩, ⟨r1, fr1⟩, ⟨r2, fr2⟩, ⟨r3, fr3⟩, ⟨r4, fr4⟩⟩ := kb4 KR3
  obtain ⟨W4, hW4⟩ : ∃ z, z = set5 W6 (w.heap.size + 1) (.int .i64 0) (.int .i64 v1) (.int .i64 0) (.bool v2) (.slice none 0 0) := ⟨_, rfl⟩
  have f4 : Fr (fun q => q = w.heap.size + 1) W6 W4 := by rw [hW4]; exact chg_5 _ _ _ _ _ _ _
  have K4 : Blk W4 (w.heap.size + 1) (obsC 0 v1 0 v2 (.slice none 0 0)) := by rw [hW4]; exact blk_set5 KR3 rfl
  obtain ⟨t0, t1, t2, t3, t4⟩ := kc4 K4
  have HF4 := hid f4
  unfold set5 at hW4
  clear K4 KR3 f4
  go_wp2
  rw [<- hW4]
  refine bodyPost_ret (v := .agg #[.int .i64 0, .int .i64 v1, .int .i64 0, .bool v2, .slice none 0 0]) (by simp [results, Tryz.results22, go_sem, t0, t1, t2, t3, t4]) rfl ?_
  have e2 := run_i2 x n m ky vl md nm hn1 hn2 ho hm
  rw [<- HV.out] at e2
  rw [e2]
  exact AnsP.of (q := w.heap.size + 1) (pv := .slice none 0 0) HFL.out HB2.out (by omega) (by omega) (HM3.out.below HB6.out) (HFR.out.trans (Fr.of_below _ HB6.out)) HFT.out HF4.out (gr_nil _ _ _ _ _) (fun g hg => (nil_own g hg).elim) rfl
theorem run_i3 (x : Bas) (n m : Nat) (ky vl md : Int) (nm : ByteArray) (hn1 : 1 <= n) (hn2 : n <= 4) (ho : opn x (n - 1) = true) (hm : m < 32) : runF x ⟨3, (n : Int), (m : Int), ky, vl, md, nm⟩ = ({ x with tx := x.tx.set (n - 1) { (x.tx.getD (n - 1) tx0) with rs := (x.tx.getD (n - 1) tx0).rs.set m true } }, ⟨0, 0, 0, false, listF x.cms (x.tx.getD (n - 1) tx0).bg (x.tx.getD (n - 1) tx0).own (m : Int)⟩) := by
 have e : ((n : Int) - 1).toNat = n - 1 := by omega
 unfold runF
 simp only [e]
 rw [if_neg (by omega), if_neg (by rw [show (x.tx.getD (n - 1) tx0).op = true from ho]; decide)]
 rw [if_neg (by omega)]
 simp
theorem zip_mem {g : Int -> Option Int} : ∀ {ks : List Int} {y v : Int}, (y, v) ∈ ks.zip (ks.map (fun z => (g z).getD 0)) ↔ y ∈ ks /\ v = (g y).getD 0
 | [], y, v => by simp
 | k :: r, y, v => by
   rw [List.map_cons, List.zip_cons_cons, List.mem_cons, zip_mem (ks := r), List.mem_cons]
   constructor
   .rintro (h | ⟨h1, h2⟩)
    .injection h with h1 h2; subst h1; exact ⟨.inl rfl, h2⟩
    .exact ⟨.inr h1, h2⟩
   .rintro ⟨h1 | h1, h2⟩
    .subst h1; exact .inl (by rw [h2])
    .exact .inr ⟨h1, h2⟩
theorem ord_list {ks us : List Int} {cms : List Com} {bg t : Int} {own : List Cel} {f : Int -> Vsn} (h : OrdL ks us (fun y => svO (f y))) (hf : ∀ y, f y = seesN cms bg own t y) : ks.zip us = listF cms bg own t := by
 have hl := h.len
 refine list_is ?_ (fun y v => ?_)
 .have : (ks.zip us).map Prod.fst = ks := by rw [List.map_fst_zip (by omega)]
  rw [this]; exact h.srt
 .rw [h.val, zip_mem, h.mem, hf]
  unfold svO
  cases hq : seesN cms bg own t y with
  | mk a b =>
    cases b
    .simp
    .simp; exact ⟨fun e => e.symm, fun e => e.symm⟩
theorem ans_3 (B sb n m : Nat) (ky vl md : Int) (nm : ByteArray) (w : World) (x : Bas) (L : LIx -> Value) (c : Led) (gh : Nat -> TG) (op : Nat -> Option Addr) (h : IMem B sb w x L c gh op) (hb : Bnd x) (hck : x.ck < 1000) (hhl : x.hs.length < 1000) (hB : B <= w.heap.size) (hn1 : 1 <= n) (hn2 : n <= 4) (ho : opn x (n - 1) = true) (hm : m < 32) :
 Calls Tryz.prog 22 #[.pointer (some ⟨sb, 0, none⟩), .agg #[.int .i64 3, .int .i64 (n : Int), .int .i64 (m : Int), .int .i64 ky, .int .i64 vl, .int .i64 md, .string nm]] w fun e w' => AnsP B sb w x L gh (runF x ⟨3, (n : Int), (m : Int), ky, vl, md, nm⟩) e w' := by
 have hi : n - 1 < 4 := by omega
 have e1 : n - 1 + 1 = n := by omega
 obtain ⟨w0, hw0⟩ : ∃ z, z = (w.alloc (.cells #[.int .i64 3, .int .i64 (n : Int), .int .i64 (m : Int), .int .i64 ky, .int .i64 vl, .int .i64 md, .string nm] 41)).alloc (.cells #[.int .i64 0, .int .i64 0, .int .i64 0, .bool false, .slice none 0 0] 38) := ⟨_, rfl⟩
 have hb0 : Below w.heap.size w w0 := by rw [hw0]; exact (below_alloc _ _).trans ((below_alloc _ _).mono (by simp))
 have hz0 : w0.heap.size = w.heap.size + 1 + 1 := by rw [hw0]; simp
 have KO0 : Blk w0 w.heap.size (opC 3 n (m : Int) ky vl md nm) := by rw [hw0]; exact (blk_new w (opC 3 n (m : Int) ky vl md nm) _).below (below_alloc _ _) (by simp)
 have KR0 : Blk w0 (w.heap.size + 1) (obsC 0 0 0 false (.slice none 0 0)) := by
  have := blk_new (w.alloc (.cells #[.int .i64 3, .int .i64 (n : Int), .int .i64 (m : Int), .int .i64 ky, .int .i64 vl, .int .i64 md, .string nm] 41)) (obsC 0 0 0 false (.slice none 0 0)) 38
  have e : (w.alloc (.cells #[.int .i64 3, .int .i64 (n : Int), .int .i64 (m : Int), .int .i64 ky, .int .i64 vl, .int .i64 md, .string nm] 41)).heap.size = w.heap.size + 1 := by simp
  rw [e] at this
  rw [hw0]
  exact this
 have h0 := h.below hb0
 obtain ⟨hop, hT⟩ := h0.tr (n - 1) hi ho
 rw [e1] at hop
 clear hT
 obtain ⟨c0, _⟩ := ses_cell h0.ses (j := 66 + n) (by omega)
 rw [sesAt_op, hop] at c0
 have hfa := fault_in sb n 3 (m : Int) md ky vl (.string nm) (some ⟨(gh (n - 1)).g, 0, none⟩) w0 h0.sl (by omega) (by omega) hn1 hn2 c0
 rw [show faultC 3 n (m : Int) md ((some ⟨(gh (n - 1)).g, 0, none⟩)).isNone = 0 from (fault_t 3 n (m : Int) md _ (by omega) (by omega) (by omega) (by omega) (by omega))] at hfa
 have hni : (n : Int) < 5 := by omega
 have hsl := h.sl
 have hfl : ∀ g, foot sb L x gh g -> g < w.heap.size := fun g hg => (h.lt hg).2
 have HFL := hid hfl
 have HB := hid hb
 have HM := hid h0
 have HKO := hid KO0
 have HKR := hid KR0
 clear h0 h KO0 KR0 hfl hb
 rw [hw0] at hfa
 go_enter Tryz.func22, Tryz.ntmps22
 go_wp2_with (go_at_call 42; fail)
 refine hfa.mono ?_
 rw [<- hw0]
 rintro e w1 ⟨rfl, hb1⟩
 have hs1 := hb1.size
 have HB1 := hid (hb0.trans (hb1.mono hb0.size) : Below w.heap.size w w1)
 have KO := HKO.out.below hb1 (by omega)
 have KR := HKR.out.below hb1 (by omega)
 have c1 := (World.cell?_of_block (a := ⟨sb, 66 + n, none⟩) (hb1.block sb (by omega))).trans c0
 obtain ⟨o0, o1, o2, o3⟩ := kc3 KO
 obtain ⟨w2, hw2⟩ : ∃ z, z = (w1.alloc (.cells #[.int .i64 (m : Int), .int .i64 ky] 113)).drew := ⟨_, rfl⟩
 have b2 : Below w1.heap.size w1 w2 := by rw [hw2]; exact (below_alloc _ _).drew
 have hz2 : w1.heap.size < w2.heap.size := by rw [hw2]; simp
 have KO2 := KO.below b2 (by omega)
 have KR2 := KR.below b2 (by omega)
 have KS2 : Blk w2 w1.heap.size [.int .i64 (m : Int), .int .i64 ky] := by rw [hw2]; exact (blk_new w1 [.int .i64 (m : Int), .int .i64 ky] _).drewR
 have q0 : (w1.alloc (.cells #[.int .i64 (m : Int), .int .i64 ky] 113)).cell? ⟨w.heap.size, 0, none⟩ = some (.int .i64 3) := by rw [hw2] at KO2; exact (KO2 0 (by simp [opC])).1
 have HKO := hid KO2
 have HKR := hid KR2
 have HKS := hid KS2
 have HM2 := hid ((HM.out.below hb1).below b2)
 have HB2 := hid (HB1.out.trans (b2.mono HB1.out.size) : Below w.heap.size w w2)
 have HW2 := hid hw2
 clear hfa c0 hb1 HM KO KR KO2 KR2 KS2 b2 HB1
 clear hw2
 have hzz : w.heap.size + 1 < w1.heap.size := by omega
 go_wp2
 go_region
 go_wp2
 rw [<- HW2.out]
 have hT := (HM2.out.tr (n - 1) hi ho).2
 obtain ⟨rb, rd1, rd2⟩ := hT.rd hm
 have q2 : w2.cell? ⟨w.heap.size, 2, none⟩ = some (.int .i64 (m : Int)) := (HKO.out 2 (by simp [opC])).1
 have hmi : (m : Int) < 32 := by omega
 clear q0 o0 o1 o2 o3 hT
 go_region
 obtain ⟨W3, hW3⟩ : ∃ z, z = (w2.setCell ⟨(gh (n - 1)).g, 2 + m, none⟩ (.bool true)).drew := ⟨_, rfl⟩
 rw [<- hW3]
 have hT := (HM2.out.tr (n - 1) hi ho).2
 obtain ⟨gh', hM3, hfr, hft⟩ := HM2.out.put hi ho (x' := { (x.tx.getD (n - 1) tx0) with rs := (x.tx.getD (n - 1) tx0).rs.set m true }) ho (TrP.mark hT hm)
 have hT3 := (hT.mark hm).fr (Fr.refl (fun _ => False) _).drewR (fun _ _ z => z)
 have hM3 := hM3.drew
 have hfr := hfr.drewR
 rw [<- hW3] at hM3 hfr hT3
 have hs3 := hfr.size
 have KS3 := HKS.out.fr hfr hz2 (fun z => by have := HFL.out _ z; omega)
 have KO3 := HKO.out.fr hfr (by omega) (fun z => by have := HFL.out _ z; omega)
 have HT3 := hid hT3
 have HM3 := hid hM3
 have HFR := hid hfr
 have HFT := hid hft
 have HKO3 := hid KO3
 have HSE := hid (HM2.out.sees (bg := (x.tx.getD (n - 1) tx0).bg) hT.mr hm)
 clear hM3 hfr hft hW3 rd1 rd2 q2 hT3 hT KO3
 have hT2 := HT3.out
 have hml : (gh (n - 1)).M.length <= 1000 := Nat.le_trans (rel_len hT2.mr hT2.mp.nodup) (HB.out.ow (x.tx.getD (n - 1) tx0) (by
  rw [List.getD_eq_getElem?_getD, List.getElem?_eq_getElem (by rw [HM2.out.n4]; exact hi)]
  exact List.getElem_mem _))
 obtain ⟨LB, kb, tb'⟩ := HM2.out.bnd HB.out
 have HLB := hid LB
 have hkl : (c.K m).length + (gh (n - 1)).M.length < 1048576 := by have := kb m; omega
 clear hT2 LB kb tb' hml
 go_wp2
 have q2 : W3.cell? ⟨w.heap.size, 2, none⟩ = some (.int .i64 (m : Int)) := (HKO3.out 2 (by simp [opC])).1
 obtain ⟨wd, hwd⟩ : ∃ z, z = W3.drew := ⟨_, rfl⟩
 have bd : Below W3.heap.size W3 wd := by rw [hwd]; exact (Below.refl _ _).drew
 have hmD := HM3.out.below bd
 have hst := seenTable_any B sb m wd L c _ _ (gh (n - 1)) _ hmD.led HLB.out hmD.ses hmD.sl (HT3.out.below bd) hm hkl
 have p2 : wd.cell? ⟨w.heap.size, 2, none⟩ = some (.int .i64 (m : Int)) := by rw [hwd]; exact q2
 have HBD := hid bd
 have HWD := hid hwd
 have hbs := bd.size
 clear bd hwd hmD KS3 hkl
 refine wp_region_till_drew (S := (fun W => W.cell? ⟨w.heap.size, 2, none⟩ = some (.int .i64 (m : Int)))) (late := [9]) (by kernel_rfl) q2 (fun hHeld => ?_)
 refine tT 0 rfl hHeld ?_
 try simp only [Act.put, q1, q2, q3]
 refine tT 1 rfl hHeld ?_
 try simp only [Act.put, q1, q2, q3]
 refine tT 2 rfl hHeld ?_
 try simp only [Act.put, q1, q2, q3]
 refine tT 3 rfl hHeld ?_
 try simp only [Act.put, q1, q2, q3]
 refine tT 4 rfl hHeld ?_
 try simp only [Act.put, q1, q2, q3]
 refine till_ld (i := 5) (v := ?_) rfl (Or.inl ⟨by rfl, ?_⟩) hHeld ?_
 rotate_left
 .intro w hSw
  try dsimp only at hSw
  go_simp
  try with_reducible rfl
 try simp only [Act.put, q1, q2, q3]
 refine rE 6 rfl fun K hK => ?_
 go_simp
 rw [<- HWD.out]
 refine hst.mono ?_
 rintro e W5 ⟨kv, vv, ks, us, rfl, hkr, hvr, hod, hkl, hb5⟩
 have s2 : W5.cell? ⟨w.heap.size, 2, none⟩ = some (.int .i64 (m : Int)) := ct hb5 (by show w.heap.size < _; omega) p2
 have HLI := hid (ord_list hod (HSE.out))
 have HB5 := hid (HBD.out.trans (hb5.mono HBD.out.size) : Below W3.heap.size W3 W5)
 have hs5 := hb5.size
 have hpi := pairsIn_any wd.heap.size kv vv ks us W5 hod.len (by omega) hkr hvr
 refine hK _ _ ⟨s2, ?_⟩
 clear hK K hst hkr hvr hod hb5
 try simp only [Act.put, q1, q2, q3]
 refine rE 7 rfl fun K hK => ?_
 go_simp
 refine hpi.mono ?_
 rintro e W6 ⟨pv, rfl, hgr, hb6⟩
 have s6 : W6.cell? ⟨w.heap.size, 2, none⟩ = some (.int .i64 (m : Int)) := ct hb6 (by show w.heap.size < _; omega) s2
 obtain ⟨pa, pl, pc, hpf⟩ : ∃ a l c, pv = .slice a l c := by obtain ⟨a, c, h⟩ := formR hgr; exact ⟨a, _, c, h⟩
 subst hpf
 rw [HLI.out] at hgr
 have HGR := hid hgr
 have HB6 := hid (HB5.out.trans (hb6.mono HB5.out.size) : Below W3.heap.size W3 W6)
 have hs6 := hb6.size
 refine hK _ _ ⟨s6, ?_⟩
 clear hK K hpi hgr hb6
 try simp only [Act.put, q1, q2, q3]
 have KR3 := (HKR.out.fr HFR.out (by omega) (fun z => by have := HFL.out _ z; omega)).below HB6.out (by omega)
 obtain ⟨⟨r0, fr0⟩, ⟨r1, fr1⟩, ⟨r2, fr2⟩, ⟨r3, fr3⟩, ⟨r4, fr4⟩⟩ := kb4 KR3
 obtain ⟨W4, hW4⟩ : ∃ z, z = set5 W6 (w.heap.size + 1) (.int .i64 0) (.int .i64 0) (.int .i64 0) (.bool false) (.slice pa pl pc) := ⟨_, rfl⟩
 have f4 : Fr (fun q => q = w.heap.size + 1) W6 W4 := by rw [hW4]; exact chg_5 _ _ _ _ _ _ _
 have K4 : Blk W4 (w.heap.size + 1) (obsC 0 0 0 false (.slice pa pl pc)) := by rw [hW4]; exact blk_set5 KR3 rfl
 obtain ⟨t0, t1, t2, t3, t4⟩ := kc4 K4
 have HF4 := hid f4
 unfold set5 at hW4
 clear K4 KR3 f4
 refine rE 8 rfl fun K hK => ?_
 go_simp
 refine hK _ _ ⟨s6, ?_⟩
 clear hK K
 try simp only [Act.put, q1, q2, q3]
 refine rL 9 rfl fun K hK => ?_
 go_simp
 refine hK _ _ ?_
 clear hK K
 try simp only [Act.put, q1, q2, q3]
 refine till_done (by kernel_rfl) ?_ _
 rw [<- hW4]
 go_wp2
 try rw [hW4]
 rw [<- hW4]
 refine bodyPost_ret (v := .agg #[.int .i64 0, .int .i64 0, .int .i64 0, .bool false, .slice pa pl pc]) (by simp [results, Tryz.results22, go_sem, t0, t1, t2, t3, t4]) rfl ?_
 rw [run_i3 x n m ky vl md nm hn1 hn2 ho hm]
 generalize listF x.cms (x.tx.getD (n - 1) tx0).bg (x.tx.getD (n - 1) tx0).own (m : Int) = lst at HGR ⊢
 have hnl : ∀ g, (Value.slice pa pl pc).ownBlock = some g -> W3.heap.size <= g := fun g hg => by have := (HGR.out.lt g hg).1; omega
 refine AnsP.of (q := w.heap.size + 1) (pv := .slice pa pl pc) HFL.out HB2.out (by omega) (by omega) (HM3.out.below HB6.out) (HFR.out.trans (Fr.of_below _ HB6.out)) HFT.out HF4.out (own_bs (own_fr HGR.out HF4.out (fun g hg e => by have := hnl g hg; have e2 : g = w.heap.size + 1 := e; omega)) (by omega)) (fun g hg z => ?_) rfl
 have := hnl g hg
 have := (HM3.out.lt z).2
 omega
theorem answer_any (B sb : Nat) (o : Opn) (w : World) (x : Bas) (L : LIx -> Value) (c : Led) (gh : Nat -> TG) (op : Nat -> Option Addr) (h : IMem B sb w x L c gh op) (hb : Bnd x) (hck : x.ck < 1000) (hhl : x.hs.length < 1000) (hB : B <= w.heap.size) :
 Calls Tryz.prog 22 #[.pointer (some ⟨sb, 0, none⟩), .agg #[.int .i64 o.kd, .int .i64 o.ss, .int .i64 o.tb, .int .i64 o.ky, .int .i64 o.vl, .int .i64 o.md, .string o.nm]] w fun e w' => AnsP B sb w x L gh (runF x o) e w' := by
 obtain ⟨kd, ss, tb, ky, vl, md, nm⟩ := o
 simp only
 by_cases hf : faultC kd ss tb md (!(x.tx.getD (ss - 1).toNat tx0).op) = 0
 .obtain ⟨h1, h2, h3, h4, h5⟩ := fault_no hf
  obtain ⟨n, rfl⟩ : ∃ n : Nat, ss = n := ⟨ss.toNat, by omega⟩
  have e : ((n : Int) - 1).toNat = n - 1 := by omega
  rw [e] at h3 h4
  have hn1 : 1 <= n := by omega
  have hn2 : n <= 4 := by omega
  by_cases k1 : kd = 1
  .subst k1
   exact ans_1 B sb n tb ky vl md nm w x L c gh op h hb hck hhl hB hn1 hn2 (h3 rfl).1 (h3 rfl).2
  .have ho : opn x (n - 1) = true := h4 k1
   by_cases k5 : kd <= 5
   .obtain ⟨t1, t2⟩ := h5 (by omega) k5
    obtain ⟨m, rfl⟩ : ∃ m : Nat, tb = m := ⟨tb.toNat, by omega⟩
    have hk : kd = 2 \/ kd = 3 \/ kd = 4 \/ kd = 5 := by omega
    rcases hk with rfl | rfl | rfl | rfl
    .exact ans_2 B sb n m ky vl md nm w x L c gh op h hb hck hhl hB hn1 hn2 ho (by omega)
    .exact ans_3 B sb n m ky vl md nm w x L c gh op h hb hck hhl hB hn1 hn2 ho (by omega)
    .exact ans_4 B sb n (m : Int) ky vl md nm w x L c gh op h hb hck hhl hB hn1 hn2 ho ⟨t1, t2⟩
    .exact ans_5 B sb n (m : Int) ky vl md nm w x L c gh op h hb hck hhl hB hn1 hn2 ho ⟨t1, t2⟩
   .have hk : kd = 6 \/ kd = 7 \/ kd = 8 \/ kd = 9 \/ kd = 10 := by omega
    rcases hk with rfl | rfl | rfl | rfl | rfl
    .exact ans_6 B sb n tb ky vl md nm w x L c gh op h hb hck hhl hB hn1 hn2 ho
    .exact ans_7 B sb n tb ky vl md nm w x L c gh op h hb hck hhl hB hn1 hn2 ho
    .exact ans_8 B sb n tb ky vl md nm w x L c gh op h hb hck hhl hB hn1 hn2 ho
    .exact ans_9 B sb n tb ky vl md nm w x L c gh op h hb hck hhl hB hn1 hn2 ho
    .exact ans_10 B sb n tb ky vl md nm w x L c gh op h hb hck hhl hB hn1 hn2 ho
 .exact ans_f B sb kd ss tb ky vl md nm w x L c gh op h hf
def L0 (_ : LIx) : Value := .slice none 0 0
def c00 : Led := ⟨fun _ _ => [], fun _ => [], []⟩
def op0 (_ : Nat) : Option Addr := none
def tg0 : TG := ⟨0, 0, [], .slice none 0 0, []⟩
theorem opn0 (i : Nat) : opn bas0 i = false := by
 unfold opn bas0
 match i with
 | 0 => rfl
 | 1 => rfl
 | 2 => rfl
 | 3 => rfl
 | i + 4 => rfl
theorem ldF0 (g : Nat) : ¬ ldF L0 g := fun ⟨i, hi⟩ => nil_own g hi
theorem imem0 (w : World) : IMem w.heap.size w.heap.size (w.alloc (.cells (sesC 0 L0 op0).toArray 80)) bas0 L0 c00 (fun _ => tg0) op0 := by
 refine ⟨rfl, ⟨⟨fun i => ?_, fun i j g hi hj => (nil_own g hi).elim⟩, fun k => List.Pairwise.nil, fun k y => ?_, fun k y _ => ⟨rfl, rfl⟩, fun k y => List.Pairwise.nil⟩, blk_new w (sesC 0 L0 op0) _, by simp, Nat.le_refl _, fun k y => ?_, rfl, fun i hi ho => ?_, fun i hi _ => rfl, ldF0 _, fun i hi ho => ?_, fun i j _ _ _ ho => ?_, fun m hm => ?_⟩
 .cases i <;> exact World.ownsRow_nil _ _ _ _
 .simp [c00]
 .show ([] : List Ver) = _
  split <;> rfl
 .rw [opn0] at ho; cases ho
 .rw [opn0] at ho; cases ho
 .rw [opn0] at ho; cases ho
 .simp [bas0] at hm
theorem AnR.fr {b : Nat} {S : Nat -> Prop} {w w' : World} {v : Value} {ps : List (Value × Obn)} (h : AnR b w v ps) (hk : Fr S w w') (h1 : ∀ g, v.ownBlock = some g -> ¬ S g) (h2 : ∀ x ∈ ps, ∀ g, x.1.ownBlock = some g -> ¬ S g) : AnR b w' v ps :=
 ⟨own_fr h.1 hk h1, fun x hx => own_fr (h.2.1 x hx) hk (h2 x hx), h.2.2⟩
theorem ses_lit : (sesC 0 L0 op0).toArray = Tryz.zeroCells80 := by kernel_rfl
def NoF (v : Value) (ps : List (Value × Obn)) (F : Nat -> Prop) : Prop := (∀ g, v.ownBlock = some g -> ¬ F g) /\ ∀ x ∈ ps, ∀ g, x.1.ownBlock = some g -> ¬ F g
theorem txnRun_impl (us : List Opn) : TxnOf 9 us (txnL us) (txnC us) := by
 intro w a c hv
 by_cases hbig : 1000 < us.length
 .have hbi : (1000 : Int) < us.length := by omega
  have HF : Hid (TxnA (txnL us) (txnC us) w (.returned (.tuple #[.slice none 0 0, .int .i64 5])) w) := hid (by
   have e1 : txnL us = [] := by unfold txnL; rw [if_pos hbig]
   have e2 : txnC us = 5 := by unfold txnC; rw [if_pos hbig]
   rw [e1, e2]
   exact ⟨_, [], rfl, ⟨World.ownsRow_nil _ _ _ _, fun x hx => by simp at hx, List.Pairwise.nil⟩, ⟨_, _, rfl, fun h => absurd h (by simp)⟩, Below.refl _ _, by simp, fun x hx => by simp at hx, rfl⟩)
  clear hv hbig
  go_enter Tryz.func9, Tryz.ntmps9
  go_wp2
  all_goals first | (exfalso; go_light; omega) | skip
  go_ret2
  exact HF.out
 obtain ⟨i0, hi, hz0, hz1, hz2⟩ := info_parts infoObs
 have hbi : ¬ (1000 : Int) < us.length := by omega
 have e1 : txnL us = (runsF bas0 us).2 := by unfold txnL; rw [if_neg hbig]
 have e2 : txnC us = 0 := by unfold txnC; rw [if_neg hbig]
 rw [e1, e2]
 clear e1 e2
 obtain ⟨W1, hW1⟩ : ∃ z, z = w.alloc (.cells Tryz.zeroCells80 80) := ⟨_, rfl⟩
 have M0 := imem0 w
 rw [ses_lit, <- hW1] at M0
 have B0 : Below w.heap.size w W1 := by rw [hW1]; exact below_alloc _ _
 have A0 : AnR w.heap.size W1 (.slice none 0 0) [] := ⟨World.ownsRow_nil _ _ _ _, fun x hx => by simp at hx, List.Pairwise.nil⟩
 have HM0 := hid M0
 have HA0 := hid A0
 obtain ⟨a', cap', hsl, hcells⟩ := hv
 simp only [Value.slice.injEq] at hsl
 obtain ⟨rfl, _, rfl⟩ := hsl
 have HW := hid hW1
 clear M0 A0 hW1
 go_enter Tryz.func9, Tryz.ntmps9
 go_wp2
 all_goals first | (exfalso; go_light; omega) | skip
 rw [<- HW.out]
 clear HW
 go_loopw [5, 13] (fun pv iv wr => ∃ (k : Nat) (ps : List (Value × Obn)) (pa : Option Addr) (pc : Nat) (L : LIx -> Value) (c : Led) (gh : Nat -> TG) (op : Nat -> Option Addr), k <= us.length /\ iv = .int .i64 k /\ pv = .slice pa ps.length pc /\ Hid (ps.map Prod.snd = (runsF bas0 (us.take k)).2) /\ Hid (IMem w.heap.size w.heap.size wr (runsF bas0 (us.take k)).1 L c gh op) /\ Hid (AnR w.heap.size wr (.slice pa ps.length pc) ps) /\ Hid (NoF (.slice pa ps.length pc) ps (foot w.heap.size L (runsF bas0 (us.take k)).1 gh)) /\ Below w.heap.size w wr) (fun _ iv _ => us.length - (intOf iv).toNat)
 case atStart => exact ⟨0, [], _, 0, _, _, _, _, Nat.zero_le _, rfl, rfl, hid rfl, HM0, HA0, hid ⟨fun g hg => (nil_own g hg).elim, fun x hx => by simp at hx⟩, B0⟩
 case round =>
  clear HM0 HA0 B0
  obtain ⟨k, ps, pa, pc, L, c, gh, op, hk, rfl, rfl, HPS, HM, HA, HN, hbel⟩ := hrel
  have hbs := hbel.size
  have hpl : ps.length = k := by
   have := congrArg List.length HPS.out
   rw [List.length_map, runsF_len, List.length_take] at this
   omega
  have HPL := hid hpl
  clear hpl
  by_cases hlt : k < us.length
  .have hlti : (k : Int) < us.length := by omega
   obtain ⟨g, o, rfl, _, hg, hgc⟩ := hcells (by omega)
   obtain ⟨cs, hC, hcell⟩ := hgc k hlt
   have hbn : BndN k (runsF bas0 (us.take k)).1 := by
    have := bnd_runs (us.take k) 0 bas0 bndN0
    rw [List.length_take, Nat.min_eq_left hk, Nat.zero_add] at this
    exact this
   have HTK : Hid (runsF bas0 (us.take (k + 1)) = ((runF (runsF bas0 (us.take k)).1 us[k]).1, (runsF bas0 (us.take k)).2 ++ [(runF (runsF bas0 (us.take k)).1 us[k]).2])) := hid (by
    rw [show us.take (k + 1) = us.take k ++ [us[k]] by rw [List.take_add_one, List.getElem?_eq_getElem hlt]; rfl]
    exact runsF_snoc _ _ _)
   clear hgc hcells
   unfold CO at hC
   subst hC
   generalize us[k] = t at *
   obtain ⟨x, hx⟩ : ∃ z, z = (runsF bas0 (us.take k)).1 := ⟨_, rfl⟩
   rw [<- hx] at HM HN hbn HTK
   have HX := hid hx
   clear hx
   have ba := below_alloc wr (.cells #[.int .i64 t.kd, .int .i64 t.ss, .int .i64 t.tb, .int .i64 t.ky, .int .i64 t.vl, .int .i64 t.md, .string t.nm] 41)
   have hru := answer_any w.heap.size w.heap.size t (wr.alloc (.cells #[.int .i64 t.kd, .int .i64 t.ss, .int .i64 t.tb, .int .i64 t.ky, .int .i64 t.vl, .int .i64 t.md, .string t.nm] 41)) x L c gh op (HM.out.below ba) (hbn.bnd (by omega)) (by have := hbn.ck.2; omega) (by have := hbn.hl; omega) (by simp; omega)
   unfold AnsP at hru
   clear hbn
   obtain ⟨ry, hry⟩ : ∃ z, z = runF x t := ⟨_, rfl⟩
   rw [<- hry] at hru HTK
   clear hry
   obtain ⟨y, ob⟩ := ry
   simp only at hru HTK
   have c0 : wr.cell? ⟨g, o + k * 7, none⟩ = some (.int .i64 t.kd) := ct hbel hg (hcell 0 (by omega))
   have c1 : wr.cell? ⟨g, o + k * 7 + 1, none⟩ = some (.int .i64 t.ss) := ct hbel hg (hcell 1 (by omega))
   have c2 : wr.cell? ⟨g, o + k * 7 + 2, none⟩ = some (.int .i64 t.tb) := ct hbel hg (hcell 2 (by omega))
   have c3 : wr.cell? ⟨g, o + k * 7 + 3, none⟩ = some (.int .i64 t.ky) := ct hbel hg (hcell 3 (by omega))
   have c4 : wr.cell? ⟨g, o + k * 7 + 4, none⟩ = some (.int .i64 t.vl) := ct hbel hg (hcell 4 (by omega))
   have c5 : wr.cell? ⟨g, o + k * 7 + 5, none⟩ = some (.int .i64 t.md) := ct hbel hg (hcell 5 (by omega))
   have c6 : wr.cell? ⟨g, o + k * 7 + 6, none⟩ = some (.string t.nm) := ct hbel hg (hcell 6 (by omega))
   have HBA := hid ba
   clear hcell ba
   go_wp2_with (go_at_call 22; fail)
   refine hru.mono ?_
   rintro e w3 ⟨L', c', gh', op', pv, rfl, hG3, hM3, hF3, hft, hpn⟩
   obtain ⟨qa, qc, hpv⟩ := formR hG3
   subst hpv
   clear hru c0 c1 c2 c3 c4 c5 c6
   have hF0 : Fr (foot w.heap.size L x gh) wr w3 := (Fr.of_below _ HBA.out).trans hF3
   have hsz3 : wr.heap.size + 1 <= w3.heap.size := by have := hF3.size; simpa using this
   have bw3 : Below w.heap.size w w3 := hbel.trans (hF0.below hbs (fun g hg => (HM.out.lt hg).1))
   have hA3 := HA.out.fr hF0 HN.out.1 HN.out.2
   have hold : ∀ g, g < wr.heap.size -> ¬ foot w.heap.size L x gh g -> ¬ foot w.heap.size L' y gh' g := fun g h1 h2 z => by
    rcases hft g z with q | q
    .exact h2 q
    .simp at q; omega
   have hN3 : NoF (.slice pa ps.length pc) ps (foot w.heap.size L' y gh') := ⟨fun g hg => hold g (HA.out.1.lt g hg).2 (HN.out.1 g hg), fun x hx g hg => hold g (World.ownsRow.lt (HA.out.2.1 x hx) g hg).2 (HN.out.2 x hx g hg)⟩
   have HNB : Hid (∀ c, (Value.slice qa ob.ps.length qc).ownBlock = some c -> ∀ x ∈ ps, x.1.ownBlock ≠ some c) := hid (fun c hc x hx he => by
    have h1 := (World.ownsRow.lt hG3 c hc).1
    have h2 := World.ownsRow.lt (HA.out.2.1 x hx) c he
    simp at h1
    omega)
   have bb := below_alloc w3 (.cells #[.int .i64 ob.code, .int .i64 ob.vl, .int .i64 ob.st, .bool ob.fd, .slice qa ob.ps.length qc] 38)
   have HMA := hid (hM3.below bb)
   have HAA := hid (hA3.below bb)
   have HGA : Hid (Gr pairV 92 2 w.heap.size (w3.alloc (.cells #[.int .i64 ob.code, .int .i64 ob.vl, .int .i64 ob.st, .bool ob.fd, .slice qa ob.ps.length qc] 38)) (.slice qa ob.ps.length qc) ob.ps) := hid (own_below (own_bs hG3 (by simp; omega)) bb)
   have bwA := bw3.alloc bw3.size (.cells #[.int .i64 ob.code, .int .i64 ob.vl, .int .i64 ob.st, .bool ob.fd, .slice qa ob.ps.length qc] 38)
   have HN3 := hid hN3
   have HPN := hid hpn
   have hfl : ∀ g, foot w.heap.size L' y gh' g -> g < w3.heap.size := fun g hg => (hM3.lt hg).2
   have HFL := hid hfl
   have hpl2 : ps.length <= 1000 := by have := HPL.out; omega
   clear hG3 hM3 hF3 hft hpn HM HA HN hA3 hN3 hold hF0 bb hfl
   go_wp2_with (at_builtin; go_loud (refine wpList_append_own_at _ rfl (.tmp 17) (.tmp 20) 29 rfl w.heap.size 38 i0 _ 5 56 Tryz.underlying29 hi hz0 hz1 hz2 rfl (by decide) (.slice pa ps.length pc) ps.length (ps.flatMap obC) rfl HAA.out.1 ⟨w3.heap.size, 0, none⟩ 1 1 (obC (.slice qa ob.ps.length qc, ob)) rfl rfl (cells_new _ (obC (.slice qa ob.ps.length qc, ob)) 38 _ (by simp)) (oneOb rfl) (by unfold maxLen; omega) (by omega) (by simp; omega) ?_; intro v' w' hown hgrow _ hat; obtain ⟨na, nc, hvn⟩ := formR hown; subst hvn; have HAN : Hid (AnR w.heap.size w' (.slice na (ps.length + 1) nc) (ps ++ [(.slice qa ob.ps.length qc, ob)])) := HAA.out.push hgrow hown HGA.out HNB.out; have HMN := hid (HMA.out.fr (Fr.grown hgrow) (fun g hg z => HN3.out.1 g z hg)); have HNN : Hid (NoF (.slice na (ps.length + 1) nc) (ps ++ [(.slice qa ob.ps.length qc, ob)]) (foot w.heap.size L' y gh')) := hid (⟨fun g hg z => (hat.elim (fun q => HN3.out.1 g (q ▸ hg) z) (fun q => by rw [q] at hg; injection hg with hg; have := HFL.out g z; simp at hg; omega)), fun x hx g hg => ((List.mem_append.1 hx).elim (fun q => HN3.out.2 x q g hg) (fun q => by rw [List.mem_singleton] at q; subst q; exact HPN.out g hg))⟩); have bwN : Below w.heap.size w w' := bwA.grown hgrow bwA.size (fun q hq => (HAA.out.1.lt q hq).1); clear hown hgrow hat))
   go_roundw
   case rel => exact ⟨k + 1, ps ++ [(.slice qa ob.ps.length qc, ob)], na, nc, L', c', gh', op', by omega, by go_num, by simp, hid (by rw [HTK.out, List.map_append, HPS.out]; rfl), hid (by rw [HTK.out]; exact HMN.out), hid (by simpa using HAN.out), hid (by rw [HTK.out]; simpa using HNN.out), bwN⟩
   case measure => simp [intOf]; omega
  .have hkn : k = us.length := by omega
   subst hkn
   have hlti : ¬ (us.length : Int) < us.length := by omega
   rw [List.take_length] at HPS
   have HF : Hid (TxnA (runsF bas0 us).2 0 w (.returned (.tuple #[.slice pa ps.length pc, .int .i64 0])) wr) := hid (by
    have hps : ∀ x ∈ ps, x.2.ps.length <= 1048576 := fun x hx => runs_ps us 0 bas0 bndN0 (by omega) rfl x.2 (by rw [<- HPS.out]; exact List.mem_map_of_mem hx)
    exact ⟨_, ps, rfl, HA.out, by rw [<- HPS.out]; exact HA.out.rs, hbel, by have := HPL.out; omega, hps, HPS.out⟩)
   clear HPS HM HA HPL HN hcells
   go_wp2
   go_ret2
   exact HF.out
end Go.Proofs.YtblkgicbimflhaaGreat
namespace Go.Proofs.YtblkgicbimflhaaGreat
open Go.ChangeShapes Go.WideShapes Go.ChangeAt Go.RowKit Go.Lib Go.Joins
set_option linter.unusedVariables false
set_option linter.unusedSimpArgs false
set_option maxRecDepth 100000
def AllCells (p : List MemPlace) : Prop := ∀ x ∈ p, ∃ xb xo, x = .cell xb xo
def CYb (B : Nat) (w : World) (cs : List Value) (x : Int) : Prop := cs = [.int .u8 x]
theorem cells5 : Tryz.prog.cellsOf 5 = 1 := by kernel_rfl
theorem slice_trod {H : Type} {enc : TypeId × Value -> H} {W : World} {α : Type} {C : Nat -> World -> List Value -> α -> Prop} {Q : α -> Prop} {S E k : Nat} (hS : Tryz.prog.underlying S = some (.slice E)) (hk : Tryz.prog.cellsOf E = k) (hk0 : 0 < k)
 (el : ∀ {n : Nat} {cs : List Value} {x : DataW H × List MemPlace}, DataW.trod enc Tryz.prog W 0 (fun _ => true) true n E cs = some x -> ∃ u, C 0 W cs u /\ Q u /\ AllCells x.2)
 {n : Nat} {cs : List Value} {x : DataW H × List MemPlace} (h : DataW.trod enc Tryz.prog W 0 (fun _ => true) true n S cs = some x) :
 ∃ (v : Value) (us : List α), cs = [v] /\ us.length <= maxLen /\ (∀ u ∈ us, Q u) /\ RS k C 0 W v us /\ AllCells x.2 := by
 rcases DataW.trod_slice hS h with ⟨hcs, hx⟩ | ⟨a, len, cap, elems, rest, m, hn, hcs, hx, _, hl, hm, hel, hE, hR, _⟩
 .subst hx
  exact ⟨_, [], hcs, Nat.zero_le _, fun u h => by simp at h, ⟨none, 0, rfl, fun h => absurd h (by simp)⟩, fun _ h => by cases h⟩
 .subst hx
  rw [hk] at hE hR
  have hE' : ∀ i, i < len -> ∃ t : α × List Value, W.cells? 0 (a.add (i * k)) k = some t.2 /\ (C 0 W t.2 t.1 /\ Q t.1) /\ ∀ y, elems[i]? = some y -> AllCells y.2 := fun i hi => by
   have h1 := hE i hi
   rw [List.getElem?_eq_getElem (by omega)] at h1
   obtain ⟨cs, h2, h3⟩ := Option.bind_eq_some_iff.1 h1
   obtain ⟨u, hu, hq, hc⟩ := el h3
   exact ⟨(u, cs), h2, ⟨hu, hq⟩, fun y hy => by rw [List.getElem?_eq_getElem (by omega)] at hy; cases hy; exact hc⟩
  obtain ⟨us, hul, hus⟩ := list_of _ len hE'
  subst hul
  have hrest : ∀ y ∈ rest, AllCells y.2 := fun y hy => by
   obtain ⟨hr1, hr2⟩ := hR rfl
   obtain ⟨j, hj, rfl⟩ := List.getElem_of_mem hy
   have h1 := hr2 j (by omega)
   rw [List.getElem?_eq_getElem hj] at h1
   obtain ⟨cs, h2, h3⟩ := Option.bind_eq_some_iff.1 h1
   obtain ⟨u, hu, hq, hc⟩ := el h3
   exact hc
  have helem : ∀ y ∈ elems, AllCells y.2 := fun y hy => by
   obtain ⟨j, hj, rfl⟩ := List.getElem_of_mem hy
   exact (hus j (by omega)).2.2 _ (List.getElem?_eq_getElem hj)
  have hlm : (us.map (·.1)).length = us.length := by simp
  refine ⟨_, us.map (·.1), hcs, by rw [hlm]; omega, fun t ht => ?_, ⟨some a, cap, by rw [hlm], fun hp => ?_⟩, fun x hx => ?_⟩
  .obtain ⟨u, hu, rfl⟩ := List.mem_map.1 ht
   obtain ⟨j, hj, rfl⟩ := List.getElem_of_mem hu
   exact (hus j hj).2.1.2
  .rw [hlm] at hp
   have hc0 := (World.cells?_some (hus 0 hp).1)
   have hblk := World.cells?_block (hus 0 hp).1 (by omega)
   obtain ⟨ab, ao, spot⟩ := a
   have hlen0 : 0 < (us[0].2).length := by rw [hc0.2.1]; exact hk0
   have hspot : spot = none := by
    have := hc0.2.2 0 (by omega)
    rw [List.getElem?_eq_getElem hlen0] at this
    simpa [Addr.add] using World.cell?_spot this
   subst hspot
   refine ⟨ab, ao, rfl, Nat.zero_le _, by simpa [Addr.add_lit] using hblk, fun i hi => ?_⟩
   have hi' : i < us.length := by rw [hlm] at hi; exact hi
   obtain ⟨_, _, hc⟩ := World.cells?_some (hus i hi').1
   have hg : (us.map (·.1))[i] = us[i].1 := by simp
   rw [hg]
   refine ⟨us[i].2, (hus i hi').2.1.1, fun j hj => ?_⟩
   have q := hc j (by omega)
   rw [Addr.add_lit, Addr.add_lit] at q
   exact q
  .rcases List.mem_append.1 hx with h | h
   .simp only [MemPlace.row, List.mem_map] at h
    obtain ⟨i, _, rfl⟩ := h
    exact ⟨_, _, rfl⟩
   .obtain ⟨y, hy, hxy⟩ := List.mem_flatMap.1 h
    rcases List.mem_append.1 hy with h | h
    .exact helem y h x hxy
    .exact hrest y h x hxy
theorem byte_trod {H : Type} {enc : TypeId × Value -> H} {W : World} {n : Nat} {cs : List Value} {x : DataW H × List MemPlace} (h : DataW.trod enc Tryz.prog W 0 (fun _ => true) true n 5 cs = some x) : ∃ u, CYb 0 W cs u /\ (0 <= u /\ u <= 255) /\ AllCells x.2 := by
 obtain ⟨k, e0, e1, wf⟩ := DataW.trod_int Tryz.underlying5 h
 refine ⟨k, e0, ?_, by rw [e1]; intro y hy; cases hy⟩
 have h1 : IntKind.u8.min = 0 := by decide
 have h2 : IntKind.u8.max = 255 := by decide
 simp [Lit.wf, IntKind.wrap, IntKind.bits, IntKind.signed, h1, h2] at wf
 omega
theorem bytes_trod {H : Type} {enc : TypeId × Value -> H} {W : World} {n : Nat} {cs : List Value} {x : DataW H × List MemPlace} (h : DataW.trod enc Tryz.prog W 0 (fun _ => true) true n 22 cs = some x) :
 ∃ (v : Value) (us : List Int), cs = [v] /\ us.length <= maxLen /\ (∀ u ∈ us, (0 <= u /\ u <= 255)) /\ RS 1 CYb 0 W v us /\ AllCells x.2 :=
 slice_trod (C := CYb) (Q := fun u => (0 <= u /\ u <= 255)) (k := 1) Tryz.underlying22 cells5 (by omega) (fun h => byte_trod h) h
theorem own : ownKnob Tryz.prog.godebug = none := by kernel_rfl
theorem laidOutP : laidOutB Tryz.prog = true := by kernel_rfl
theorem stayYb {H : Type} {enc : TypeId × Value -> H} {W W' : World} {v : Value} {d : DataW H} {p : List MemPlace} {sp : Nat -> Bool} (h : DataW.Trod enc Tryz.prog W 0 (fun _ => true) true 22 v d p) (bel : Below W.heap.size W W') (hlt : ∀ x ∈ p, x.block < W.heap.size) (hcl : AllCells p) (hsp : ∀ x ∈ p, sp x.block = true) : DataW.Trod enc Tryz.prog W' 0 sp true 22 v d p :=
 WideElems.Trod_stays (P := Tryz.prog) laidOutP (by kernel_rfl) (of_decide_eq_true (by kernel_rfl)) h (fun x hx => by
  obtain ⟨xb, xo, rfl⟩ := hcl x hx
  exact bel.cell (p := ⟨xb, xo, none⟩) (hlt _ hx)) hsp
theorem open_Yb {H : Type} {enc : TypeId × Value -> H} {W : World} {v : Value} {d : DataW H} {p : List MemPlace} {base : Nat} (hval : Value.okWide Tryz.prog W .any base 22 v) (h : DataW.Trod enc Tryz.prog W 0 (fun _ => true) true 22 v d p) :
 ∃ (a : Option Addr) (cap len : Nat), v = .slice a len cap /\ len <= maxLen /\ Bytes W W.heap.size a len /\ AllCells p := by
 obtain ⟨a, len, cap, rfl⟩ := okWide_slice Tryz.underlying22 hval
 obtain ⟨fuel, hf⟩ := h
 obtain ⟨v', us, e, hl, hq, hr, hc⟩ := bytes_trod hf
 simp [Value.cells] at e
 subst e
 obtain ⟨a', cap', he, hcell⟩ := hr
 rw [he]
 refine ⟨a', cap', us.length, rfl, hl, fun j hj => ?_, hc⟩
 obtain ⟨g, o, rfl, _, hg, hcs⟩ := hcell (by omega)
 obtain ⟨cs, h1, h2⟩ := hcs j hj
 have h3 := h2 0 (by omega)
 unfold CYb at h1
 subst h1
 have hb := hq us[j] (List.getElem_mem hj)
 refine ⟨g, o, us[j], rfl, hg, ?_, hb.1, by omega⟩
 rw [Nat.mul_one, Nat.add_zero] at h3
 exact h3
end Go.Proofs.YtblkgicbimflhaaGreat
