import Derived.Test.YtblkgicbimflhaaGreatKBY
import Derived.Test.YtblkgicbimflhaaGreatKAV
import Derived.Maps.AppendAt
namespace Go.Proofs.YtblkgicbimflhaaGreat
open Go.ChangeShapes Go.WideShapes Go.ChangeAt Go.RowKit
set_option linter.unusedVariables false
set_option linter.unusedSimpArgs false
set_option maxRecDepth 100000
open List (setIfInBounds_toArray set_cons_zero set_cons_succ)
theorem run_i3 (x : Bas) (n m : Nat) (ky vl md : Int) (nm : ByteArray) (hn1 : 1 ≤ n) (hn2 : n ≤ 4) (ho : opn x (n - 1) = true) (hm : m < 32) : runF x ⟨3, (n : Int), (m : Int), ky, vl, md, nm⟩ = ({ x with tx := x.tx.set (n - 1) { (x.tx.getD (n - 1) tx0) with rs := (x.tx.getD (n - 1) tx0).rs.set m true } }, ⟨0, 0, 0, false, listF x.cms (x.tx.getD (n - 1) tx0).bg (x.tx.getD (n - 1) tx0).own (m : Int)⟩) := by
 have e : ((n : Int) - 1).toNat = n - 1 := by omega
 unfold runF
 simp only [e]
 rw [if_neg (by omega), if_neg (by rw [show (x.tx.getD (n - 1) tx0).op = true from ho]; decide)]
 rw [if_neg (by omega)]
 simp
theorem zip_mem {g : Int → Option Int} : ∀ {ks : List Int} {y v : Int}, (y, v) ∈ ks.zip (ks.map (fun z => (g z).getD 0)) ↔ y ∈ ks ∧ v = (g y).getD 0
 | [], y, v => by simp
 | k :: r, y, v => by
   rw [List.map_cons, List.zip_cons_cons, List.mem_cons, zip_mem (ks := r), List.mem_cons]
   constructor
   ·rintro (h | ⟨h1, h2⟩)
    ·injection h with h1 h2; subst h1; exact ⟨.inl rfl, h2⟩
    ·exact ⟨.inr h1, h2⟩
   ·rintro ⟨h1 | h1, h2⟩
    ·subst h1; exact .inl (by rw [h2])
    ·exact .inr ⟨h1, h2⟩
theorem ord_list {ks us : List Int} {cms : List Com} {bg t : Int} {own : List Cel} {f : Int → Vsn} (h : OrdL ks us (fun y => svO (f y))) (hf : ∀ y, f y = seesN cms bg own t y) : ks.zip us = listF cms bg own t := by
 have hl := h.len
 refine list_is ?_ (fun y v => ?_)
 ·have : (ks.zip us).map Prod.fst = ks := by rw [List.map_fst_zip (by omega)]
  rw [this]; exact h.srt
 ·rw [h.val, zip_mem, h.mem, hf]
  unfold svO
  cases hq : seesN cms bg own t y with
  | mk a b =>
    cases b
    ·simp
    ·simp; exact ⟨fun e => e.symm, fun e => e.symm⟩
set_option maxHeartbeats 8000000 in
theorem ans_3 (B sb n m : Nat) (ky vl md : Int) (nm : ByteArray) (w : World) (x : Bas) (L : LIx → Value) (c : Led) (gh : Nat → TG) (op : Nat → Option Addr) (h : IMem B sb w x L c gh op) (hb : Bnd x) (hck : x.ck < 1000) (hhl : x.hs.length < 1000) (hB : B ≤ w.heap.size) (hn1 : 1 ≤ n) (hn2 : n ≤ 4) (ho : opn x (n - 1) = true) (hm : m < 32) :
 Calls Tryz.prog 22 #[.pointer (some ⟨sb, 0, none⟩), .agg #[.int .i64 3, .int .i64 (n : Int), .int .i64 (m : Int), .int .i64 ky, .int .i64 vl, .int .i64 md, .string nm]] w fun e w' => AnsP B sb w x L gh (runF x ⟨3, (n : Int), (m : Int), ky, vl, md, nm⟩) e w' := by
 have hi : n - 1 < 4 := by omega
 have e1 : n - 1 + 1 = n := by omega
 obtain ⟨w0, hw0⟩ : ∃ z, z = (w.alloc (.cells #[.int .i64 3, .int .i64 (n : Int), .int .i64 (m : Int), .int .i64 ky, .int .i64 vl, .int .i64 md, .string nm] 41)).alloc (.cells #[.int .i64 0, .int .i64 0, .int .i64 0, .bool false, .slice none 0 0] 38) := ⟨_, rfl⟩
 have hb0 : Below w.heap.size w w0 := by rw [hw0]; exact (below_alloc _ _).trans ((below_alloc _ _).mono (by simp))
 have hz0 : w0.heap.size = w.heap.size + 1 + 1 := by rw [hw0]; simp
 have KO0 : Blk w0 w.heap.size (opC 3 n (m : Int) ky vl md nm) := by rw [hw0]; exact (blk_new w (opC 3 n (m : Int) ky vl md nm) _).below (below_alloc _ _) (by simp)
 have KR0 : Blk w0 (w.heap.size + 1) (obsC 0 0 0 false (.slice none 0 0)) := by
  have := blk_new (w.alloc (.cells #[.int .i64 3, .int .i64 (n : Int), .int .i64 (m : Int), .int .i64 ky, .int .i64 vl, .int .i64 md, .string nm] 41)) (obsC 0 0 0 false (.slice none 0 0)) 38
  have e : (w.alloc (.cells #[.int .i64 3, .int .i64 (n : Int), .int .i64 (m : Int), .int .i64 ky, .int .i64 vl, .int .i64 md, .string nm] 41)).heap.size = w.heap.size + 1 := by simp
  rw [e] at this
  rw [hw0]
  exact this
 have h0 := h.below hb0
 obtain ⟨hop, hT⟩ := h0.tr (n - 1) hi ho
 rw [e1] at hop
 clear hT
 obtain ⟨c0, _⟩ := ses_cell h0.ses (j := 66 + n) (by omega)
 rw [sesAt_op, hop] at c0
 have hfa := fault_in sb n 3 (m : Int) md ky vl (.string nm) (some ⟨(gh (n - 1)).g, 0, none⟩) w0 h0.sl (by omega) (by omega) hn1 hn2 c0
 rw [show faultC 3 n (m : Int) md ((some ⟨(gh (n - 1)).g, 0, none⟩)).isNone = 0 from (fault_t 3 n (m : Int) md _ (by omega) (by omega) (by omega) (by omega) (by omega))] at hfa
 have hni : (n : Int) < 5 := by omega
 have hsl := h.sl
 have hfl : ∀ g, foot sb L x gh g → g < w.heap.size := fun g hg => (h.lt hg).2
 have HFL := hid hfl
 have HB := hid hb
 have HM := hid h0
 have HKO := hid KO0
 have HKR := hid KR0
 clear h0 h KO0 KR0 hfl hb
 rw [hw0] at hfa
 go_enter Tryz.func22, Tryz.ntmps22
 go_wp2_with (go_at_call 42; fail)
 refine hfa.mono ?_
 rw [← hw0]
 rintro e w1 ⟨rfl, hb1⟩
 have hs1 := hb1.size
 have HB1 := hid (hb0.trans (hb1.mono hb0.size) : Below w.heap.size w w1)
 have KO := HKO.out.below hb1 (by omega)
 have KR := HKR.out.below hb1 (by omega)
 have c1 := (World.cell?_of_block (a := ⟨sb, 66 + n, none⟩) (hb1.block sb (by omega))).trans c0
 have o0 : w1.cell? ⟨w.heap.size, 0, none⟩ = some (.int .i64 3) := (KO 0 (by simp [opC])).1
 have o1 : w1.cell? ⟨w.heap.size, 1, none⟩ = some (.int .i64 (n : Int)) := (KO 1 (by simp [opC])).1
 have o2 : w1.cell? ⟨w.heap.size, 2, none⟩ = some (.int .i64 (m : Int)) := (KO 2 (by simp [opC])).1
 have o3 : w1.cell? ⟨w.heap.size, 3, none⟩ = some (.int .i64 ky) := (KO 3 (by simp [opC])).1
 obtain ⟨w2, hw2⟩ : ∃ z, z = (w1.alloc (.cells #[.int .i64 (m : Int), .int .i64 ky] 113)).drew := ⟨_, rfl⟩
 have b2 : Below w1.heap.size w1 w2 := by rw [hw2]; exact (below_alloc _ _).drew
 have hz2 : w1.heap.size < w2.heap.size := by rw [hw2]; simp
 have KO2 := KO.below b2 (by omega)
 have KR2 := KR.below b2 (by omega)
 have KS2 : Blk w2 w1.heap.size [.int .i64 (m : Int), .int .i64 ky] := by rw [hw2]; exact (blk_new w1 [.int .i64 (m : Int), .int .i64 ky] _).drewR
 have q0 : (w1.alloc (.cells #[.int .i64 (m : Int), .int .i64 ky] 113)).cell? ⟨w.heap.size, 0, none⟩ = some (.int .i64 3) := by rw [hw2] at KO2; exact (KO2 0 (by simp [opC])).1
 have HKO := hid KO2
 have HKR := hid KR2
 have HKS := hid KS2
 have HM2 := hid ((HM.out.below hb1).below b2)
 have HB2 := hid (HB1.out.trans (b2.mono HB1.out.size) : Below w.heap.size w w2)
 have HW2 := hid hw2
 clear hfa c0 hb1 HM KO KR KO2 KR2 KS2 b2 HB1
 clear hw2
 have hzz : w.heap.size + 1 < w1.heap.size := by omega
 go_wp2
 go_region
 go_wp2
 rw [← HW2.out]
 have hT := (HM2.out.tr (n - 1) hi ho).2
 obtain ⟨rb, rd1, rd2⟩ := hT.rd hm
 have q2 : w2.cell? ⟨w.heap.size, 2, none⟩ = some (.int .i64 (m : Int)) := (HKO.out 2 (by simp [opC])).1
 have hmi : (m : Int) < 32 := by omega
 clear q0 o0 o1 o2 o3 hT
 go_region
 obtain ⟨W3, hW3⟩ : ∃ z, z = (w2.setCell ⟨(gh (n - 1)).g, 2 + m, none⟩ (.bool true)).drew := ⟨_, rfl⟩
 rw [← hW3]
 have hT := (HM2.out.tr (n - 1) hi ho).2
 obtain ⟨gh', hM3, hfr, hft⟩ := HM2.out.put hi ho (x' := { (x.tx.getD (n - 1) tx0) with rs := (x.tx.getD (n - 1) tx0).rs.set m true }) ho (TrP.mark hT hm)
 have hT3 := (hT.mark hm).fr (Fr.refl (fun _ => False) _).drewR (fun _ _ z => z)
 have hM3 := hM3.drew
 have hfr := hfr.drewR
 rw [← hW3] at hM3 hfr hT3
 have hs3 := hfr.size
 have KS3 := HKS.out.fr hfr hz2 (fun z => by have := HFL.out _ z; omega)
 have KO3 := HKO.out.fr hfr (by omega) (fun z => by have := HFL.out _ z; omega)
 have HT3 := hid hT3
 have HM3 := hid hM3
 have HFR := hid hfr
 have HFT := hid hft
 have HKO3 := hid KO3
 have HSE := hid (HM2.out.sees (bg := (x.tx.getD (n - 1) tx0).bg) hT.mr hm)
 clear hM3 hfr hft hW3 rd1 rd2 q2 hT3 hT KO3
 have hT2 := HT3.out
 have hml : (gh (n - 1)).M.length ≤ 1000 := Nat.le_trans (rel_len hT2.mr hT2.mp.nodup) (HB.out.ow (x.tx.getD (n - 1) tx0) (by
  rw [List.getD_eq_getElem?_getD, List.getElem?_eq_getElem (by rw [HM2.out.n4]; exact hi)]
  exact List.getElem_mem _))
 obtain ⟨LB, kb, tb'⟩ := HM2.out.bnd HB.out
 have HLB := hid LB
 have hkl : (c.K m).length + (gh (n - 1)).M.length < 1048576 := by have := kb m; omega
 clear hT2 LB kb tb' hml
 go_wp2
 have q2 : W3.cell? ⟨w.heap.size, 2, none⟩ = some (.int .i64 (m : Int)) := (HKO3.out 2 (by simp [opC])).1
 obtain ⟨wd, hwd⟩ : ∃ z, z = W3.drew := ⟨_, rfl⟩
 have bd : Below W3.heap.size W3 wd := by rw [hwd]; exact (Below.refl _ _).drew
 have hmD := HM3.out.below bd
 have hst := seenTable_any B sb m wd L c _ _ (gh (n - 1)) _ hmD.led HLB.out hmD.ses hmD.sl (HT3.out.below bd) hm hkl
 have p2 : wd.cell? ⟨w.heap.size, 2, none⟩ = some (.int .i64 (m : Int)) := by rw [hwd]; exact q2
 have HBD := hid bd
 have HWD := hid hwd
 have hbs := bd.size
 clear bd hwd hmD KS3 hkl
 refine wp_region_till_drew (S := (fun W => W.cell? ⟨w.heap.size, 2, none⟩ = some (.int .i64 (m : Int)))) (late := [9]) (by kernel_rfl) q2 (fun hHeld => ?_)
 refine till_tk (i := 0) (v := ?_) rfl (Or.inl ⟨by rfl, ?_⟩) hHeld ?_
 rotate_left
 ·intro w
  go_simp
  try with_reducible rfl
 try simp only [Act.put, setIfInBounds_toArray, set_cons_zero, set_cons_succ]
 refine till_tk (i := 1) (v := ?_) rfl (Or.inl ⟨by rfl, ?_⟩) hHeld ?_
 rotate_left
 ·intro w
  go_simp
  try with_reducible rfl
 try simp only [Act.put, setIfInBounds_toArray, set_cons_zero, set_cons_succ]
 refine till_tk (i := 2) (v := ?_) rfl (Or.inl ⟨by rfl, ?_⟩) hHeld ?_
 rotate_left
 ·intro w
  go_simp
  try with_reducible rfl
 try simp only [Act.put, setIfInBounds_toArray, set_cons_zero, set_cons_succ]
 refine till_tk (i := 3) (v := ?_) rfl (Or.inl ⟨by rfl, ?_⟩) hHeld ?_
 rotate_left
 ·intro w
  go_simp
  try with_reducible rfl
 try simp only [Act.put, setIfInBounds_toArray, set_cons_zero, set_cons_succ]
 refine till_tk (i := 4) (v := ?_) rfl (Or.inl ⟨by rfl, ?_⟩) hHeld ?_
 rotate_left
 ·intro w
  go_simp
  try with_reducible rfl
 try simp only [Act.put, setIfInBounds_toArray, set_cons_zero, set_cons_succ]
 refine till_ld (i := 5) (v := ?_) rfl (Or.inl ⟨by rfl, ?_⟩) hHeld ?_
 rotate_left
 ·intro w hSw
  try dsimp only at hSw
  go_simp
  try with_reducible rfl
 try simp only [Act.put, setIfInBounds_toArray, set_cons_zero, set_cons_succ]
 refine till_ready (rs := [6]) (by kernel_rfl) (by simp) (TillAll.cons rfl (fun K hK => ?_) TillAll.nil)
 go_simp
 rw [← HWD.out]
 refine hst.mono ?_
 rintro e W5 ⟨kv, vv, ks, us, rfl, hkr, hvr, hod, hkl, hb5⟩
 have s2 : W5.cell? ⟨w.heap.size, 2, none⟩ = some (.int .i64 (m : Int)) := (hb5.cell (p := ⟨w.heap.size, 2, none⟩) (by show w.heap.size < _; omega)).trans p2
 have HLI := hid (ord_list hod (HSE.out))
 have HB5 := hid (HBD.out.trans (hb5.mono HBD.out.size) : Below W3.heap.size W3 W5)
 have hs5 := hb5.size
 have hpi := pairsIn_any wd.heap.size kv vv ks us W5 hod.len (by omega) hkr hvr
 refine hK _ _ ⟨s2, ?_⟩
 clear hK K hst hkr hvr hod hb5
 try simp only [Act.put, setIfInBounds_toArray, set_cons_zero, set_cons_succ]
 refine till_ready (rs := [7]) (by kernel_rfl) (by simp) (TillAll.cons rfl (fun K hK => ?_) TillAll.nil)
 go_simp
 refine hpi.mono ?_
 rintro e W6 ⟨pv, rfl, hgr, hb6⟩
 have s6 : W6.cell? ⟨w.heap.size, 2, none⟩ = some (.int .i64 (m : Int)) := (hb6.cell (p := ⟨w.heap.size, 2, none⟩) (by show w.heap.size < _; omega)).trans s2
 obtain ⟨pa, pl, pc, hpf⟩ : ∃ a l c, pv = .slice a l c := by obtain ⟨a, c, h⟩ := formR hgr; exact ⟨a, _, c, h⟩
 subst hpf
 rw [HLI.out] at hgr
 have HGR := hid hgr
 have HB6 := hid (HB5.out.trans (hb6.mono HB5.out.size) : Below W3.heap.size W3 W6)
 have hs6 := hb6.size
 refine hK _ _ ⟨s6, ?_⟩
 clear hK K hpi hgr hb6
 try simp only [Act.put, setIfInBounds_toArray, set_cons_zero, set_cons_succ]
 have KR3 := (HKR.out.fr HFR.out (by omega) (fun z => by have := HFL.out _ z; omega)).below HB6.out (by omega)
 have r0 : W6.cell? ⟨w.heap.size + 1, 0, none⟩ = some (.int .i64 0) := (KR3 0 (by simp [obsC, opC])).1
 have fr0 : W6.frozen? ⟨w.heap.size + 1, 0, none⟩ = false := (KR3 0 (by simp [obsC, opC])).2
 have r1 : W6.cell? ⟨w.heap.size + 1, 1, none⟩ = some (.int .i64 0) := (KR3 1 (by simp [obsC, opC])).1
 have fr1 : W6.frozen? ⟨w.heap.size + 1, 1, none⟩ = false := (KR3 1 (by simp [obsC, opC])).2
 have r2 : W6.cell? ⟨w.heap.size + 1, 2, none⟩ = some (.int .i64 0) := (KR3 2 (by simp [obsC, opC])).1
 have fr2 : W6.frozen? ⟨w.heap.size + 1, 2, none⟩ = false := (KR3 2 (by simp [obsC, opC])).2
 have r3 : W6.cell? ⟨w.heap.size + 1, 3, none⟩ = some (.bool false) := (KR3 3 (by simp [obsC, opC])).1
 have fr3 : W6.frozen? ⟨w.heap.size + 1, 3, none⟩ = false := (KR3 3 (by simp [obsC, opC])).2
 have r4 : W6.cell? ⟨w.heap.size + 1, 4, none⟩ = some (.slice none 0 0) := (KR3 4 (by simp [obsC, opC])).1
 have fr4 : W6.frozen? ⟨w.heap.size + 1, 4, none⟩ = false := (KR3 4 (by simp [obsC, opC])).2
 obtain ⟨W4, hW4⟩ : ∃ z, z = set5 W6 (w.heap.size + 1) (.int .i64 0) (.int .i64 0) (.int .i64 0) (.bool false) (.slice pa pl pc) := ⟨_, rfl⟩
 have f4 : Fr (fun q => q = w.heap.size + 1) W6 W4 := by rw [hW4]; exact chg_5 _ _ _ _ _ _ _
 have K4 : Blk W4 (w.heap.size + 1) (obsC 0 0 0 false (.slice pa pl pc)) := by rw [hW4]; exact blk_set5 KR3 rfl
 have t0 : W4.cell? ⟨w.heap.size + 1, 0, none⟩ = some (.int .i64 0) := (K4 0 (by simp [obsC, opC])).1
 have t1 : W4.cell? ⟨w.heap.size + 1, 1, none⟩ = some (.int .i64 0) := (K4 1 (by simp [obsC, opC])).1
 have t2 : W4.cell? ⟨w.heap.size + 1, 2, none⟩ = some (.int .i64 0) := (K4 2 (by simp [obsC, opC])).1
 have t3 : W4.cell? ⟨w.heap.size + 1, 3, none⟩ = some (.bool false) := (K4 3 (by simp [obsC, opC])).1
 have t4 : W4.cell? ⟨w.heap.size + 1, 4, none⟩ = some (.slice pa pl pc) := (K4 4 (by simp [obsC, opC])).1
 have HF4 := hid f4
 unfold set5 at hW4
 clear K4 KR3 f4
 refine till_ready (rs := [8]) (by kernel_rfl) (by simp) (TillAll.cons rfl (fun K hK => ?_) TillAll.nil)
 go_simp
 refine hK _ _ ⟨s6, ?_⟩
 clear hK K
 try simp only [Act.put, setIfInBounds_toArray, set_cons_zero, set_cons_succ]
 refine till_ready (rs := [9]) (by kernel_rfl) (by simp) (TillAll.cons2 rfl (by kernel_rfl) (fun K hK => ?_) TillAll.nil)
 go_simp
 refine hK _ _ ?_
 clear hK K
 try simp only [Act.put, setIfInBounds_toArray, set_cons_zero, set_cons_succ]
 refine till_done (by kernel_rfl) ?_ _
 rw [← hW4]
 go_wp2
 try rw [hW4]
 rw [← hW4]
 refine bodyPost_ret (v := .agg #[.int .i64 0, .int .i64 0, .int .i64 0, .bool false, .slice pa pl pc]) (by simp [results, Tryz.results22, go_sem, t0, t1, t2, t3, t4]) rfl ?_
 rw [run_i3 x n m ky vl md nm hn1 hn2 ho hm]
 generalize listF x.cms (x.tx.getD (n - 1) tx0).bg (x.tx.getD (n - 1) tx0).own (m : Int) = lst at HGR ⊢
 have hnl : ∀ g, (Value.slice pa pl pc).ownBlock = some g → W3.heap.size ≤ g := fun g hg => by have := (HGR.out.lt g hg).1; omega
 refine AnsP.of (q := w.heap.size + 1) (pv := .slice pa pl pc) HFL.out HB2.out (by omega) (by omega) (HM3.out.below HB6.out) (HFR.out.trans (Fr.of_below _ HB6.out)) HFT.out HF4.out (own_bs (own_fr HGR.out HF4.out (fun g hg e => by have := hnl g hg; have e2 : g = w.heap.size + 1 := e; omega)) (by omega)) (fun g hg z => ?_) rfl
 have := hnl g hg
 have := (HM3.out.lt z).2
 omega
theorem answer_any (B sb : Nat) (o : Opn) (w : World) (x : Bas) (L : LIx → Value) (c : Led) (gh : Nat → TG) (op : Nat → Option Addr) (h : IMem B sb w x L c gh op) (hb : Bnd x) (hck : x.ck < 1000) (hhl : x.hs.length < 1000) (hB : B ≤ w.heap.size) :
 Calls Tryz.prog 22 #[.pointer (some ⟨sb, 0, none⟩), .agg #[.int .i64 o.kd, .int .i64 o.ss, .int .i64 o.tb, .int .i64 o.ky, .int .i64 o.vl, .int .i64 o.md, .string o.nm]] w fun e w' => AnsP B sb w x L gh (runF x o) e w' := by
 obtain ⟨kd, ss, tb, ky, vl, md, nm⟩ := o
 simp only
 by_cases hf : faultC kd ss tb md (!(x.tx.getD (ss - 1).toNat tx0).op) = 0
 ·obtain ⟨h1, h2, h3, h4, h5⟩ := fault_no hf
  obtain ⟨n, rfl⟩ : ∃ n : Nat, ss = n := ⟨ss.toNat, by omega⟩
  have e : ((n : Int) - 1).toNat = n - 1 := by omega
  rw [e] at h3 h4
  have hn1 : 1 ≤ n := by omega
  have hn2 : n ≤ 4 := by omega
  by_cases k1 : kd = 1
  ·subst k1
   exact ans_1 B sb n tb ky vl md nm w x L c gh op h hb hck hhl hB hn1 hn2 (h3 rfl).1 (h3 rfl).2
  ·have ho : opn x (n - 1) = true := h4 k1
   by_cases k5 : kd ≤ 5
   ·obtain ⟨t1, t2⟩ := h5 (by omega) k5
    obtain ⟨m, rfl⟩ : ∃ m : Nat, tb = m := ⟨tb.toNat, by omega⟩
    have hk : kd = 2 ∨ kd = 3 ∨ kd = 4 ∨ kd = 5 := by omega
    rcases hk with rfl | rfl | rfl | rfl
    ·exact ans_2 B sb n m ky vl md nm w x L c gh op h hb hck hhl hB hn1 hn2 ho (by omega)
    ·exact ans_3 B sb n m ky vl md nm w x L c gh op h hb hck hhl hB hn1 hn2 ho (by omega)
    ·exact ans_4 B sb n (m : Int) ky vl md nm w x L c gh op h hb hck hhl hB hn1 hn2 ho ⟨t1, t2⟩
    ·exact ans_5 B sb n (m : Int) ky vl md nm w x L c gh op h hb hck hhl hB hn1 hn2 ho ⟨t1, t2⟩
   ·have hk : kd = 6 ∨ kd = 7 ∨ kd = 8 ∨ kd = 9 ∨ kd = 10 := by omega
    rcases hk with rfl | rfl | rfl | rfl | rfl
    ·exact ans_6 B sb n tb ky vl md nm w x L c gh op h hb hck hhl hB hn1 hn2 ho
    ·exact ans_7 B sb n tb ky vl md nm w x L c gh op h hb hck hhl hB hn1 hn2 ho
    ·exact ans_8 B sb n tb ky vl md nm w x L c gh op h hb hck hhl hB hn1 hn2 ho
    ·exact ans_9 B sb n tb ky vl md nm w x L c gh op h hb hck hhl hB hn1 hn2 ho
    ·exact ans_10 B sb n tb ky vl md nm w x L c gh op h hb hck hhl hB hn1 hn2 ho
 ·exact ans_f B sb kd ss tb ky vl md nm w x L c gh op h hf
def L0 (_ : LIx) : Value := .slice none 0 0
def c00 : Led := ⟨fun _ _ => [], fun _ => [], []⟩
def op0 (_ : Nat) : Option Addr := none
def tg0 : TG := ⟨0, 0, [], .slice none 0 0, []⟩
theorem opn0 (i : Nat) : opn bas0 i = false := by
 unfold opn bas0
 match i with
 | 0 => rfl
 | 1 => rfl
 | 2 => rfl
 | 3 => rfl
 | i + 4 => rfl
theorem ldF0 (g : Nat) : ¬ ldF L0 g := fun ⟨i, hi⟩ => nil_own g hi
theorem imem0 (w : World) : IMem w.heap.size w.heap.size (w.alloc (.cells (sesC 0 L0 op0).toArray 80)) bas0 L0 c00 (fun _ => tg0) op0 := by
 refine ⟨rfl, ⟨⟨fun i => ?_, fun i j g hi hj => (nil_own g hi).elim⟩, fun k => List.Pairwise.nil, fun k y => ?_, fun k y _ => ⟨rfl, rfl⟩, fun k y => List.Pairwise.nil⟩, blk_new w (sesC 0 L0 op0) _, by simp, Nat.le_refl _, fun k y => ?_, rfl, fun i hi ho => ?_, fun i hi _ => rfl, ldF0 _, fun i hi ho => ?_, fun i j _ _ _ ho => ?_, fun m hm => ?_⟩
 ·cases i <;> exact World.ownsRow_nil _ _ _ _
 ·simp [c00]
 ·show ([] : List Ver) = _
  split <;> rfl
 ·rw [opn0] at ho; cases ho
 ·rw [opn0] at ho; cases ho
 ·rw [opn0] at ho; cases ho
 ·simp [bas0] at hm
theorem AnR.fr {b : Nat} {S : Nat → Prop} {w w' : World} {v : Value} {ps : List (Value × Obn)} (h : AnR b w v ps) (hk : Fr S w w') (h1 : ∀ g, v.ownBlock = some g → ¬ S g) (h2 : ∀ x ∈ ps, ∀ g, x.1.ownBlock = some g → ¬ S g) : AnR b w' v ps :=
 ⟨own_fr h.1 hk h1, fun x hx => own_fr (h.2.1 x hx) hk (h2 x hx), h.2.2⟩
theorem ses_lit : (sesC 0 L0 op0).toArray = Tryz.zeroCells80 := by kernel_rfl
def NoF (v : Value) (ps : List (Value × Obn)) (F : Nat → Prop) : Prop := (∀ g, v.ownBlock = some g → ¬ F g) ∧ ∀ x ∈ ps, ∀ g, x.1.ownBlock = some g → ¬ F g
set_option maxHeartbeats 8000000 in
theorem txnRun_impl (us : List Opn) : TxnOf 9 us (txnL us) (txnC us) := by
 intro w a c hv
 by_cases hbig : 1000 < us.length
 ·have hbi : (1000 : Int) < us.length := by omega
  have HF : Hid (TxnA (txnL us) (txnC us) w (.returned (.tuple #[.slice none 0 0, .int .i64 5])) w) := hid (by
   have e1 : txnL us = [] := by unfold txnL; rw [if_pos hbig]
   have e2 : txnC us = 5 := by unfold txnC; rw [if_pos hbig]
   rw [e1, e2]
   exact ⟨_, [], rfl, ⟨World.ownsRow_nil _ _ _ _, fun x hx => by simp at hx, List.Pairwise.nil⟩, ⟨_, _, rfl, fun h => absurd h (by simp)⟩, Below.refl _ _, by simp, fun x hx => by simp at hx, rfl⟩)
  clear hv hbig
  go_enter Tryz.func9, Tryz.ntmps9
  go_wp2
  all_goals first | (exfalso; go_light; omega) | skip
  go_ret2
  exact HF.out
 obtain ⟨i0, hi, hz0, hz1, hz2⟩ := info_parts infoObs
 have hbi : ¬ (1000 : Int) < us.length := by omega
 have e1 : txnL us = (runsF bas0 us).2 := by unfold txnL; rw [if_neg hbig]
 have e2 : txnC us = 0 := by unfold txnC; rw [if_neg hbig]
 rw [e1, e2]
 clear e1 e2
 obtain ⟨W1, hW1⟩ : ∃ z, z = w.alloc (.cells Tryz.zeroCells80 80) := ⟨_, rfl⟩
 have M0 := imem0 w
 rw [ses_lit, ← hW1] at M0
 have B0 : Below w.heap.size w W1 := by rw [hW1]; exact below_alloc _ _
 have A0 : AnR w.heap.size W1 (.slice none 0 0) [] := ⟨World.ownsRow_nil _ _ _ _, fun x hx => by simp at hx, List.Pairwise.nil⟩
 have HM0 := hid M0
 have HA0 := hid A0
 obtain ⟨a', cap', hsl, hcells⟩ := hv
 simp only [Value.slice.injEq] at hsl
 obtain ⟨rfl, _, rfl⟩ := hsl
 have HW := hid hW1
 clear M0 A0 hW1
 go_enter Tryz.func9, Tryz.ntmps9
 go_wp2
 all_goals first | (exfalso; go_light; omega) | skip
 rw [← HW.out]
 clear HW
 go_loopw [5, 13] (fun pv iv wr => ∃ (k : Nat) (ps : List (Value × Obn)) (pa : Option Addr) (pc : Nat) (L : LIx → Value) (c : Led) (gh : Nat → TG) (op : Nat → Option Addr), k ≤ us.length ∧ iv = .int .i64 k ∧ pv = .slice pa ps.length pc ∧ Hid (ps.map Prod.snd = (runsF bas0 (us.take k)).2) ∧ Hid (IMem w.heap.size w.heap.size wr (runsF bas0 (us.take k)).1 L c gh op) ∧ Hid (AnR w.heap.size wr (.slice pa ps.length pc) ps) ∧ Hid (NoF (.slice pa ps.length pc) ps (foot w.heap.size L (runsF bas0 (us.take k)).1 gh)) ∧ Below w.heap.size w wr) (fun _ iv _ => us.length - (intOf iv).toNat)
 case atStart => exact ⟨0, [], _, 0, _, _, _, _, Nat.zero_le _, rfl, rfl, hid rfl, HM0, HA0, hid ⟨fun g hg => (nil_own g hg).elim, fun x hx => by simp at hx⟩, B0⟩
 case round =>
  clear HM0 HA0 B0
  obtain ⟨k, ps, pa, pc, L, c, gh, op, hk, rfl, rfl, HPS, HM, HA, HN, hbel⟩ := hrel
  have hbs := hbel.size
  have hpl : ps.length = k := by
   have := congrArg List.length HPS.out
   rw [List.length_map, runsF_len, List.length_take] at this
   omega
  have HPL := hid hpl
  clear hpl
  by_cases hlt : k < us.length
  ·have hlti : (k : Int) < us.length := by omega
   obtain ⟨g, o, rfl, _, hg, hgc⟩ := hcells (by omega)
   obtain ⟨cs, hC, hcell⟩ := hgc k hlt
   have hbn : BndN k (runsF bas0 (us.take k)).1 := by
    have := bnd_runs (us.take k) 0 bas0 bndN0
    rw [List.length_take, Nat.min_eq_left hk, Nat.zero_add] at this
    exact this
   have HTK : Hid (runsF bas0 (us.take (k + 1)) = ((runF (runsF bas0 (us.take k)).1 us[k]).1, (runsF bas0 (us.take k)).2 ++ [(runF (runsF bas0 (us.take k)).1 us[k]).2])) := hid (by
    rw [show us.take (k + 1) = us.take k ++ [us[k]] by rw [List.take_add_one, List.getElem?_eq_getElem hlt]; rfl]
    exact runsF_snoc _ _ _)
   clear hgc hcells
   unfold CO at hC
   subst hC
   generalize us[k] = t at *
   obtain ⟨x, hx⟩ : ∃ z, z = (runsF bas0 (us.take k)).1 := ⟨_, rfl⟩
   rw [← hx] at HM HN hbn HTK
   have HX := hid hx
   clear hx
   have ba := below_alloc wr (.cells #[.int .i64 t.kd, .int .i64 t.ss, .int .i64 t.tb, .int .i64 t.ky, .int .i64 t.vl, .int .i64 t.md, .string t.nm] 41)
   have hru := answer_any w.heap.size w.heap.size t (wr.alloc (.cells #[.int .i64 t.kd, .int .i64 t.ss, .int .i64 t.tb, .int .i64 t.ky, .int .i64 t.vl, .int .i64 t.md, .string t.nm] 41)) x L c gh op (HM.out.below ba) (hbn.bnd (by omega)) (by have := hbn.ck.2; omega) (by have := hbn.hl; omega) (by simp; omega)
   unfold AnsP at hru
   clear hbn
   obtain ⟨ry, hry⟩ : ∃ z, z = runF x t := ⟨_, rfl⟩
   rw [← hry] at hru HTK
   clear hry
   obtain ⟨y, ob⟩ := ry
   simp only at hru HTK
   have c0 : wr.cell? ⟨g, o + k * 7, none⟩ = some (.int .i64 t.kd) := (hbel.cell (p := ⟨g, o + k * 7, none⟩) hg).trans (hcell 0 (by omega))
   have c1 : wr.cell? ⟨g, o + k * 7 + 1, none⟩ = some (.int .i64 t.ss) := (hbel.cell (p := ⟨g, o + k * 7 + 1, none⟩) hg).trans (hcell 1 (by omega))
   have c2 : wr.cell? ⟨g, o + k * 7 + 2, none⟩ = some (.int .i64 t.tb) := (hbel.cell (p := ⟨g, o + k * 7 + 2, none⟩) hg).trans (hcell 2 (by omega))
   have c3 : wr.cell? ⟨g, o + k * 7 + 3, none⟩ = some (.int .i64 t.ky) := (hbel.cell (p := ⟨g, o + k * 7 + 3, none⟩) hg).trans (hcell 3 (by omega))
   have c4 : wr.cell? ⟨g, o + k * 7 + 4, none⟩ = some (.int .i64 t.vl) := (hbel.cell (p := ⟨g, o + k * 7 + 4, none⟩) hg).trans (hcell 4 (by omega))
   have c5 : wr.cell? ⟨g, o + k * 7 + 5, none⟩ = some (.int .i64 t.md) := (hbel.cell (p := ⟨g, o + k * 7 + 5, none⟩) hg).trans (hcell 5 (by omega))
   have c6 : wr.cell? ⟨g, o + k * 7 + 6, none⟩ = some (.string t.nm) := (hbel.cell (p := ⟨g, o + k * 7 + 6, none⟩) hg).trans (hcell 6 (by omega))
   have HBA := hid ba
   clear hcell ba
   go_wp2_with (go_at_call 22; fail)
   refine hru.mono ?_
   rintro e w3 ⟨L', c', gh', op', pv, rfl, hG3, hM3, hF3, hft, hpn⟩
   obtain ⟨qa, qc, hpv⟩ := formR hG3
   subst hpv
   clear hru c0 c1 c2 c3 c4 c5 c6
   have hF0 : Fr (foot w.heap.size L x gh) wr w3 := (Fr.of_below _ HBA.out).trans hF3
   have hsz3 : wr.heap.size + 1 ≤ w3.heap.size := by have := hF3.size; simpa using this
   have bw3 : Below w.heap.size w w3 := hbel.trans (hF0.below hbs (fun g hg => (HM.out.lt hg).1))
   have hA3 := HA.out.fr hF0 HN.out.1 HN.out.2
   have hold : ∀ g, g < wr.heap.size → ¬ foot w.heap.size L x gh g → ¬ foot w.heap.size L' y gh' g := fun g h1 h2 z => by
    rcases hft g z with q | q
    ·exact h2 q
    ·simp at q; omega
   have hN3 : NoF (.slice pa ps.length pc) ps (foot w.heap.size L' y gh') := ⟨fun g hg => hold g (HA.out.1.lt g hg).2 (HN.out.1 g hg), fun x hx g hg => hold g (World.ownsRow.lt (HA.out.2.1 x hx) g hg).2 (HN.out.2 x hx g hg)⟩
   have HNB : Hid (∀ c, (Value.slice qa ob.ps.length qc).ownBlock = some c → ∀ x ∈ ps, x.1.ownBlock ≠ some c) := hid (fun c hc x hx he => by
    have h1 := (World.ownsRow.lt hG3 c hc).1
    have h2 := World.ownsRow.lt (HA.out.2.1 x hx) c he
    simp at h1
    omega)
   have bb := below_alloc w3 (.cells #[.int .i64 ob.code, .int .i64 ob.vl, .int .i64 ob.st, .bool ob.fd, .slice qa ob.ps.length qc] 38)
   have HMA := hid (hM3.below bb)
   have HAA := hid (hA3.below bb)
   have HGA : Hid (Gr pairV 92 2 w.heap.size (w3.alloc (.cells #[.int .i64 ob.code, .int .i64 ob.vl, .int .i64 ob.st, .bool ob.fd, .slice qa ob.ps.length qc] 38)) (.slice qa ob.ps.length qc) ob.ps) := hid (own_below (own_bs hG3 (by simp; omega)) bb)
   have bwA := bw3.alloc bw3.size (.cells #[.int .i64 ob.code, .int .i64 ob.vl, .int .i64 ob.st, .bool ob.fd, .slice qa ob.ps.length qc] 38)
   have HN3 := hid hN3
   have HPN := hid hpn
   have hfl : ∀ g, foot w.heap.size L' y gh' g → g < w3.heap.size := fun g hg => (hM3.lt hg).2
   have HFL := hid hfl
   have hpl2 : ps.length ≤ 1000 := by have := HPL.out; omega
   clear hG3 hM3 hF3 hft hpn HM HA HN hA3 hN3 hold hF0 bb hfl
   go_wp2_with (at_builtin; go_loud (refine wpList_append_own_at _ rfl (.tmp 17) (.tmp 20) 29 rfl w.heap.size 38 i0 _ 5 56 Tryz.underlying29 hi hz0 hz1 hz2 rfl (by decide) (.slice pa ps.length pc) ps.length (ps.flatMap obC) rfl HAA.out.1 ⟨w3.heap.size, 0, none⟩ 1 1 (obC (.slice qa ob.ps.length qc, ob)) rfl rfl (cells_new _ (obC (.slice qa ob.ps.length qc, ob)) 38 _ (by simp)) (oneOb rfl) (by unfold maxLen; omega) (by omega) (by simp; omega) ?_; intro v' w' hown hgrow _ hat; obtain ⟨na, nc, hvn⟩ := formR hown; subst hvn; have HAN : Hid (AnR w.heap.size w' (.slice na (ps.length + 1) nc) (ps ++ [(.slice qa ob.ps.length qc, ob)])) := HAA.out.push hgrow hown HGA.out HNB.out; have HMN := hid (HMA.out.fr (Fr.grown hgrow) (fun g hg z => HN3.out.1 g z hg)); have HNN : Hid (NoF (.slice na (ps.length + 1) nc) (ps ++ [(.slice qa ob.ps.length qc, ob)]) (foot w.heap.size L' y gh')) := hid (⟨fun g hg z => (hat.elim (fun q => HN3.out.1 g (q ▸ hg) z) (fun q => by rw [q] at hg; injection hg with hg; have := HFL.out g z; simp at hg; omega)), fun x hx g hg => ((List.mem_append.1 hx).elim (fun q => HN3.out.2 x q g hg) (fun q => by rw [List.mem_singleton] at q; subst q; exact HPN.out g hg))⟩); have bwN : Below w.heap.size w w' := bwA.grown hgrow bwA.size (fun q hq => (HAA.out.1.lt q hq).1); clear hown hgrow hat))
   go_roundw
   case rel => exact ⟨k + 1, ps ++ [(.slice qa ob.ps.length qc, ob)], na, nc, L', c', gh', op', by omega, by go_num, by simp, hid (by rw [HTK.out, List.map_append, HPS.out]; rfl), hid (by rw [HTK.out]; exact HMN.out), hid (by simpa using HAN.out), hid (by rw [HTK.out]; simpa using HNN.out), bwN⟩
   case measure => simp [intOf]; omega
  ·have hkn : k = us.length := by omega
   subst hkn
   have hlti : ¬ (us.length : Int) < us.length := by omega
   rw [List.take_length] at HPS
   have HF : Hid (TxnA (runsF bas0 us).2 0 w (.returned (.tuple #[.slice pa ps.length pc, .int .i64 0])) wr) := hid (by
    have hps : ∀ x ∈ ps, x.2.ps.length ≤ 1048576 := fun x hx => runs_ps us 0 bas0 bndN0 (by omega) rfl x.2 (by rw [← HPS.out]; exact List.mem_map_of_mem hx)
    exact ⟨_, ps, rfl, HA.out, by rw [← HPS.out]; exact HA.out.rs, hbel, by have := HPL.out; omega, hps, HPS.out⟩)
   clear HPS HM HA HPL HN hcells
   go_wp2
   go_ret2
   exact HF.out
end Go.Proofs.YtblkgicbimflhaaGreat
