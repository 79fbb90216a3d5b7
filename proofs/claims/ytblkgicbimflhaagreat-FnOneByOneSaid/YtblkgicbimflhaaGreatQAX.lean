import Derived.Test.YtblkgicbimflhaaGreatQAW
namespace Go.Proofs.YtblkgicbimflhaaGreat
open Go.ChangeShapes Go.WideShapes Go.ChangeAt Go.RowKit
set_option linter.unusedVariables false
set_option linter.unusedSimpArgs false
set_option maxRecDepth 100000
set_option maxHeartbeats 16000000
def SvR (B sb : Nat) (w : World) (x : Bas) (L : LIx -> Value) (c : Led) (gh : Nat -> TG) (op : Nat -> Option Addr) (r : Bas × Int) (e : Ending) (w' : World) : Prop := ∃ gh', e = .returned (.int .i64 r.2) /\ IMem B sb w' r.1 L c gh' op /\ Fr (foot sb L x gh) w w' /\ ∀ g, foot sb L r.1 gh' g -> foot sb L x gh g \/ w.heap.size <= g
theorem SvR.same {B sb : Nat} {w w' : World} {x : Bas} {L : LIx -> Value} {c : Led} {gh : Nat -> TG} {op : Nat -> Option Addr} {code : Int} (h : IMem B sb w x L c gh op) {i : Nat} (hi : i < 4) (ho : opn x i = true) (ht : TrP B w (gh i) (x.tx.getD i tx0) w') : SvR B sb w x L c gh op (x, code) (.returned (.int .i64 code)) w' := by
 obtain ⟨gh', q1, q2, q3⟩ := h.put hi ho ho ht
 have e : ({ x with tx := x.tx.set i (x.tx.getD i tx0) } : Bas) = x := by
  have : x.tx.set i (x.tx.getD i tx0) = x.tx := by
   have hl : i < x.tx.length := by rw [h.n4]; exact hi
   rw [List.getD_eq_getElem?_getD, List.getElem?_eq_getElem hl]
   exact List.set_getElem_self hl
  rw [this]
 rw [e] at q1 q3
 exact ⟨gh', rfl, q1, q2, q3⟩
theorem sv_8 (B sb i : Nat) (w : World) (x : Bas) (L : LIx -> Value) (c : Led) (gh : Nat -> TG) (op : Nat -> Option Addr) (h : IMem B sb w x L c gh op) (hB : B <= w.heap.size) (hi : i < 4) (ho : opn x i = true) (nm : ByteArray) (ss tb ky vl md : Int) :
 Calls Tryz.prog 49 #[.pointer (some ⟨(gh i).g, 0, none⟩), .string nm] w fun e w' => SvR B sb w x L c gh op (savesF x i ⟨8, ss, tb, ky, vl, md, nm⟩) e w' := by
 refine (save_any B w (gh i) (x.tx.getD i tx0) (h.tr i hi ho).2 nm hB).mono ?_
 rintro e w' (⟨h1, rfl, rfl⟩ | ⟨h1, rfl, h2⟩)
 .have e8 : savesF x i ⟨8, ss, tb, ky, vl, md, nm⟩ = (x, 5) := by
   unfold savesF
   simp only
   rw [if_pos trivial, if_pos (by omega)]
  rw [e8]
  exact ⟨gh, rfl, h, Fr.refl _ _, fun g hg => .inl hg⟩
 .have e8 : savesF x i ⟨8, ss, tb, ky, vl, md, nm⟩ = ({ x with tx := x.tx.set i { (x.tx.getD i tx0) with sv := (x.tx.getD i tx0).sv ++ [⟨nm, (x.tx.getD i tx0).own⟩] } }, 0) := by
   unfold savesF
   simp only
   rw [if_pos trivial, if_neg (by omega)]
  rw [e8]
  obtain ⟨gh', q1, q2, q3⟩ := h.put hi ho (x' := { (x.tx.getD i tx0) with sv := (x.tx.getD i tx0).sv ++ [⟨nm, (x.tx.getD i tx0).own⟩] }) ho h2
  exact ⟨gh', rfl, q1, q2, q3⟩
theorem sv_9 (B sb i : Nat) (w : World) (x : Bas) (L : LIx -> Value) (c : Led) (gh : Nat -> TG) (op : Nat -> Option Addr) (h : IMem B sb w x L c gh op) (hB : B <= w.heap.size) (hi : i < 4) (ho : opn x i = true) (nm : ByteArray) (ss tb ky vl md : Int) :
 Calls Tryz.prog 50 #[.pointer (some ⟨(gh i).g, 0, none⟩), .string nm] w fun e w' => SvR B sb w x L c gh op (savesF x i ⟨9, ss, tb, ky, vl, md, nm⟩) e w' := by
 refine (back_any B w (gh i) (x.tx.getD i tx0) (h.tr i hi ho).2 nm).mono ?_
 intro e w' hr
 unfold RelP at hr
 cases hq : savedF (x.tx.getD i tx0).sv nm with
 | none =>
   rw [hq] at hr
   obtain ⟨rfl, h2⟩ := hr
   have e8 : savesF x i ⟨9, ss, tb, ky, vl, md, nm⟩ = (x, 23) := by
    unfold savesF
    simp only
    rw [if_neg (by decide), hq]
   rw [e8]
   exact SvR.same h hi ho h2
 | some k =>
   rw [hq] at hr
   obtain ⟨rfl, h2⟩ := hr
   have e8 : savesF x i ⟨9, ss, tb, ky, vl, md, nm⟩ = ({ x with tx := x.tx.set i { (x.tx.getD i tx0) with own := ((x.tx.getD i tx0).sv.getD k sv0).cs, sv := (x.tx.getD i tx0).sv.take (k + 1) } }, 0) := by
    unfold savesF
    simp only
    rw [if_neg (by decide), hq]
    rfl
   rw [e8]
   obtain ⟨gh', q1, q2, q3⟩ := h.put hi ho (x' := { (x.tx.getD i tx0) with own := ((x.tx.getD i tx0).sv.getD k sv0).cs, sv := (x.tx.getD i tx0).sv.take (k + 1) }) ho h2
   exact ⟨gh', rfl, q1, q2, q3⟩
theorem sv_10 (B sb i : Nat) (w : World) (x : Bas) (L : LIx -> Value) (c : Led) (gh : Nat -> TG) (op : Nat -> Option Addr) (h : IMem B sb w x L c gh op) (hB : B <= w.heap.size) (hi : i < 4) (ho : opn x i = true) (nm : ByteArray) (ss tb ky vl md : Int) :
 Calls Tryz.prog 51 #[.pointer (some ⟨(gh i).g, 0, none⟩), .string nm] w fun e w' => SvR B sb w x L c gh op (savesF x i ⟨10, ss, tb, ky, vl, md, nm⟩) e w' := by
 refine (release_any B w (gh i) (x.tx.getD i tx0) (h.tr i hi ho).2 nm).mono ?_
 intro e w' hr
 unfold RelP at hr
 cases hq : savedF (x.tx.getD i tx0).sv nm with
 | none =>
   rw [hq] at hr
   obtain ⟨rfl, h2⟩ := hr
   have e8 : savesF x i ⟨10, ss, tb, ky, vl, md, nm⟩ = (x, 23) := by
    unfold savesF
    simp only
    rw [if_neg (by decide), hq]
   rw [e8]
   exact SvR.same h hi ho h2
 | some k =>
   rw [hq] at hr
   obtain ⟨rfl, h2⟩ := hr
   have e8 : savesF x i ⟨10, ss, tb, ky, vl, md, nm⟩ = ({ x with tx := x.tx.set i { (x.tx.getD i tx0) with sv := (x.tx.getD i tx0).sv.take k } }, 0) := by
    unfold savesF
    simp only
    rw [if_neg (by decide), hq]
    rfl
   rw [e8]
   obtain ⟨gh', q1, q2, q3⟩ := h.put hi ho (x' := { (x.tx.getD i tx0) with sv := (x.tx.getD i tx0).sv.take k }) ho h2
   exact ⟨gh', rfl, q1, q2, q3⟩
theorem run_i8 (x : Bas) (n : Nat) (tb ky vl md : Int) (nm : ByteArray) (hn1 : 1 <= n) (hn2 : n <= 4) (ho : opn x (n - 1) = true) : runF x ⟨8, (n : Int), tb, ky, vl, md, nm⟩ = ((savesF x (n - 1) ⟨8, (n : Int), tb, ky, vl, md, nm⟩).1, ⟨(savesF x (n - 1) ⟨8, (n : Int), tb, ky, vl, md, nm⟩).2, 0, 0, false, []⟩) := by
 have e : ((n : Int) - 1).toNat = n - 1 := by omega
 unfold runF
 simp only [e]
 rw [if_neg (by omega), if_neg (by rw [show (x.tx.getD (n - 1) tx0).op = true from ho]; decide)]
 rw [if_neg (by omega)]
 simp
theorem ans_8 (B sb n : Nat) (tb ky vl md : Int) (nm : ByteArray) (w : World) (x : Bas) (L : LIx -> Value) (c : Led) (gh : Nat -> TG) (op : Nat -> Option Addr) (h : IMem B sb w x L c gh op) (hb : Bnd x) (hck : x.ck < 1000) (hhl : x.hs.length < 1000) (hB : B <= w.heap.size) (hn1 : 1 <= n) (hn2 : n <= 4) (ho : opn x (n - 1) = true) :
 Calls Tryz.prog 22 #[.pointer (some ⟨sb, 0, none⟩), .agg #[.int .i64 8, .int .i64 (n : Int), .int .i64 tb, .int .i64 ky, .int .i64 vl, .int .i64 md, .string nm]] w fun e w' => AnsP B sb w x L gh (runF x ⟨8, (n : Int), tb, ky, vl, md, nm⟩) e w' := by
 have hi : n - 1 < 4 := by omega
 have e1 : n - 1 + 1 = n := by omega
 obtain ⟨w0, hw0⟩ : ∃ z, z = (w.alloc (.cells #[.int .i64 8, .int .i64 (n : Int), .int .i64 tb, .int .i64 ky, .int .i64 vl, .int .i64 md, .string nm] 41)).alloc (.cells #[.int .i64 0, .int .i64 0, .int .i64 0, .bool false, .slice none 0 0] 38) := ⟨_, rfl⟩
 have hb0 : Below w.heap.size w w0 := by rw [hw0]; exact (below_alloc _ _).trans ((below_alloc _ _).mono (by simp))
 have hz0 : w0.heap.size = w.heap.size + 1 + 1 := by rw [hw0]; simp
 have KO0 : Blk w0 w.heap.size (opC 8 n tb ky vl md nm) := by rw [hw0]; exact (blk_new w (opC 8 n tb ky vl md nm) _).below (below_alloc _ _) (by simp)
 have KR0 : Blk w0 (w.heap.size + 1) (obsC 0 0 0 false (.slice none 0 0)) := by
  have := blk_new (w.alloc (.cells #[.int .i64 8, .int .i64 (n : Int), .int .i64 tb, .int .i64 ky, .int .i64 vl, .int .i64 md, .string nm] 41)) (obsC 0 0 0 false (.slice none 0 0)) 38
  have e : (w.alloc (.cells #[.int .i64 8, .int .i64 (n : Int), .int .i64 tb, .int .i64 ky, .int .i64 vl, .int .i64 md, .string nm] 41)).heap.size = w.heap.size + 1 := by simp
  rw [e] at this
  rw [hw0]
  exact this
 have h0 := h.below hb0
 obtain ⟨hop, hT⟩ := h0.tr (n - 1) hi ho
 rw [e1] at hop
 clear hT
 obtain ⟨c0, _⟩ := ses_cell h0.ses (j := 66 + n) (by omega)
 rw [sesAt_op, hop] at c0
 have hfa := fault_in sb n 8 tb md ky vl (.string nm) (some ⟨(gh (n - 1)).g, 0, none⟩) w0 h0.sl (by omega) (by omega) hn1 hn2 c0
 rw [show faultC 8 n tb md ((some ⟨(gh (n - 1)).g, 0, none⟩)).isNone = 0 from (fault_ok 8 n tb md _ (by omega) (by omega) (by omega) (by omega))] at hfa
 have hni : (n : Int) < 5 := by omega
 have hsl := h.sl
 have hfl : ∀ g, foot sb L x gh g -> g < w.heap.size := fun g hg => (h.lt hg).2
 have HFL := hid hfl
 have HB := hid hb
 have HM := hid h0
 have HKO := hid KO0
 have HKR := hid KR0
 clear h0 h KO0 KR0 hfl hb
 rw [hw0] at hfa
 go_enter Tryz.func22, Tryz.ntmps22
 go_wp2_with (go_at_call 42; fail)
 refine hfa.mono ?_
 rw [<- hw0]
 rintro e w1 ⟨rfl, hb1⟩
 have hs1 := hb1.size
 have HB1 := hid (hb0.trans (hb1.mono hb0.size) : Below w.heap.size w w1)
 have KO := HKO.out.below hb1 (by omega)
 have KR := HKR.out.below hb1 (by omega)
 have c1 := (World.cell?_of_block (a := ⟨sb, 66 + n, none⟩) (hb1.block sb (by omega))).trans c0
 obtain ⟨o0, o1, o2, o3⟩ := kc3 KO
 obtain ⟨w2, hw2⟩ : ∃ z, z = (w1.alloc (.cells #[.int .i64 tb, .int .i64 ky] 113)).drew := ⟨_, rfl⟩
 have b2 : Below w1.heap.size w1 w2 := by rw [hw2]; exact (below_alloc _ _).drew
 have hz2 : w2.heap.size = w1.heap.size + 1 := by rw [hw2]; simp
 have KO2 := KO.below b2 (by omega)
 have KR2 := KR.below b2 (by omega)
 have KS2 : Blk w2 w1.heap.size [.int .i64 tb, .int .i64 ky] := by rw [hw2]; exact (blk_new w1 [.int .i64 tb, .int .i64 ky] _).drewR
 have q0 : (w1.alloc (.cells #[.int .i64 tb, .int .i64 ky] 113)).cell? ⟨w.heap.size, 0, none⟩ = some (.int .i64 8) := by rw [hw2] at KO2; exact (KO2 0 (by simp [opC])).1
 have HKO := hid KO2
 have HKR := hid KR2
 have HKS := hid KS2
 have HM2 := hid ((HM.out.below hb1).below b2)
 have HB2 := hid (HB1.out.trans (b2.mono HB1.out.size) : Below w.heap.size w w2)
 have HW2 := hid hw2
 clear hfa c0 hb1 HM KO KR KO2 KR2 KS2 b2 HB1
 have q6 : (w1.alloc (.cells #[.int .i64 tb, .int .i64 ky] 113)).cell? ⟨w.heap.size, 6, none⟩ = some (.string nm) := by have := HKO.out; rw [hw2] at this; exact (this 6 (by simp [opC])).1
 clear hw2
 have hzz : w.heap.size + 1 < w1.heap.size := by omega
 go_wp2
 go_region
 go_wp2_with (go_at_call 49; fail)
 rw [<- HW2.out]
 refine (sv_8 B sb (n - 1) w2 x L c gh op HM2.out (by omega) hi ho nm (n : Int) tb ky vl md).mono ?_
 rintro e w3 ⟨gh', rfl, hM3, hfr, hft⟩
 have hs3 := hfr.size
 have HM3 := hid hM3
 have HFR := hid hfr
 have HFT := hid hft
 clear hM3 hfr hft
 have HRN := hid (run_i8 x n tb ky vl md nm hn1 hn2 ho)
 generalize savesF x (n - 1) ⟨8, (n : Int), tb, ky, vl, md, nm⟩ = res at HM3 HFT HRN ⊢
 obtain ⟨x2, code⟩ := res
 simp only at HM3 HFT HRN ⊢
 have KR3 := HKR.out.fr HFR.out (by omega) (fun z => by have := HFL.out _ z; omega)
 obtain ⟨⟨r0, fr0⟩, ⟨r1, fr1⟩, ⟨r2, fr2⟩, ⟨r3, fr3⟩, ⟨r4, fr4⟩⟩ := kb4 KR3
 obtain ⟨W4, hW4⟩ : ∃ z, z = set5 w3 (w.heap.size + 1) (.int .i64 code) (.int .i64 0) (.int .i64 0) (.bool false) (.slice none 0 0) := ⟨_, rfl⟩
 have f4 : Fr (fun q => q = w.heap.size + 1) w3 W4 := by rw [hW4]; exact chg_5 _ _ _ _ _ _ _
 have K4 : Blk W4 (w.heap.size + 1) (obsC code 0 0 false (.slice none 0 0)) := by rw [hW4]; exact blk_set5 KR3 rfl
 obtain ⟨t0, t1, t2, t3, t4⟩ := kc4 K4
 have HF4 := hid f4
 unfold set5 at hW4
 clear K4 KR3 f4
 go_wp2
 rw [<- hW4]
 refine bodyPost_ret (v := .agg #[.int .i64 code, .int .i64 0, .int .i64 0, .bool false, .slice none 0 0]) (by simp [results, Tryz.results22, go_sem, t0, t1, t2, t3, t4]) rfl ?_
 rw [HRN.out]
 exact AnsP.of (q := w.heap.size + 1) (pv := .slice none 0 0) HFL.out HB2.out (by omega) (by omega) HM3.out HFR.out HFT.out HF4.out (gr_nil _ _ _ _ _) (fun g hg => (nil_own g hg).elim) rfl
theorem run_i9 (x : Bas) (n : Nat) (tb ky vl md : Int) (nm : ByteArray) (hn1 : 1 <= n) (hn2 : n <= 4) (ho : opn x (n - 1) = true) : runF x ⟨9, (n : Int), tb, ky, vl, md, nm⟩ = ((savesF x (n - 1) ⟨9, (n : Int), tb, ky, vl, md, nm⟩).1, ⟨(savesF x (n - 1) ⟨9, (n : Int), tb, ky, vl, md, nm⟩).2, 0, 0, false, []⟩) := by
 have e : ((n : Int) - 1).toNat = n - 1 := by omega
 unfold runF
 simp only [e]
 rw [if_neg (by omega), if_neg (by rw [show (x.tx.getD (n - 1) tx0).op = true from ho]; decide)]
 rw [if_neg (by omega)]
 simp
theorem ans_9 (B sb n : Nat) (tb ky vl md : Int) (nm : ByteArray) (w : World) (x : Bas) (L : LIx -> Value) (c : Led) (gh : Nat -> TG) (op : Nat -> Option Addr) (h : IMem B sb w x L c gh op) (hb : Bnd x) (hck : x.ck < 1000) (hhl : x.hs.length < 1000) (hB : B <= w.heap.size) (hn1 : 1 <= n) (hn2 : n <= 4) (ho : opn x (n - 1) = true) :
 Calls Tryz.prog 22 #[.pointer (some ⟨sb, 0, none⟩), .agg #[.int .i64 9, .int .i64 (n : Int), .int .i64 tb, .int .i64 ky, .int .i64 vl, .int .i64 md, .string nm]] w fun e w' => AnsP B sb w x L gh (runF x ⟨9, (n : Int), tb, ky, vl, md, nm⟩) e w' := by
 have hi : n - 1 < 4 := by omega
 have e1 : n - 1 + 1 = n := by omega
 obtain ⟨w0, hw0⟩ : ∃ z, z = (w.alloc (.cells #[.int .i64 9, .int .i64 (n : Int), .int .i64 tb, .int .i64 ky, .int .i64 vl, .int .i64 md, .string nm] 41)).alloc (.cells #[.int .i64 0, .int .i64 0, .int .i64 0, .bool false, .slice none 0 0] 38) := ⟨_, rfl⟩
 have hb0 : Below w.heap.size w w0 := by rw [hw0]; exact (below_alloc _ _).trans ((below_alloc _ _).mono (by simp))
 have hz0 : w0.heap.size = w.heap.size + 1 + 1 := by rw [hw0]; simp
 have KO0 : Blk w0 w.heap.size (opC 9 n tb ky vl md nm) := by rw [hw0]; exact (blk_new w (opC 9 n tb ky vl md nm) _).below (below_alloc _ _) (by simp)
 have KR0 : Blk w0 (w.heap.size + 1) (obsC 0 0 0 false (.slice none 0 0)) := by
  have := blk_new (w.alloc (.cells #[.int .i64 9, .int .i64 (n : Int), .int .i64 tb, .int .i64 ky, .int .i64 vl, .int .i64 md, .string nm] 41)) (obsC 0 0 0 false (.slice none 0 0)) 38
  have e : (w.alloc (.cells #[.int .i64 9, .int .i64 (n : Int), .int .i64 tb, .int .i64 ky, .int .i64 vl, .int .i64 md, .string nm] 41)).heap.size = w.heap.size + 1 := by simp
  rw [e] at this
  rw [hw0]
  exact this
 have h0 := h.below hb0
 obtain ⟨hop, hT⟩ := h0.tr (n - 1) hi ho
 rw [e1] at hop
 clear hT
 obtain ⟨c0, _⟩ := ses_cell h0.ses (j := 66 + n) (by omega)
 rw [sesAt_op, hop] at c0
 have hfa := fault_in sb n 9 tb md ky vl (.string nm) (some ⟨(gh (n - 1)).g, 0, none⟩) w0 h0.sl (by omega) (by omega) hn1 hn2 c0
 rw [show faultC 9 n tb md ((some ⟨(gh (n - 1)).g, 0, none⟩)).isNone = 0 from (fault_ok 9 n tb md _ (by omega) (by omega) (by omega) (by omega))] at hfa
 have hni : (n : Int) < 5 := by omega
 have hsl := h.sl
 have hfl : ∀ g, foot sb L x gh g -> g < w.heap.size := fun g hg => (h.lt hg).2
 have HFL := hid hfl
 have HB := hid hb
 have HM := hid h0
 have HKO := hid KO0
 have HKR := hid KR0
 clear h0 h KO0 KR0 hfl hb
 rw [hw0] at hfa
 go_enter Tryz.func22, Tryz.ntmps22
 go_wp2_with (go_at_call 42; fail)
 refine hfa.mono ?_
 rw [<- hw0]
 rintro e w1 ⟨rfl, hb1⟩
 have hs1 := hb1.size
 have HB1 := hid (hb0.trans (hb1.mono hb0.size) : Below w.heap.size w w1)
 have KO := HKO.out.below hb1 (by omega)
 have KR := HKR.out.below hb1 (by omega)
 have c1 := (World.cell?_of_block (a := ⟨sb, 66 + n, none⟩) (hb1.block sb (by omega))).trans c0
 obtain ⟨o0, o1, o2, o3⟩ := kc3 KO
 obtain ⟨w2, hw2⟩ : ∃ z, z = (w1.alloc (.cells #[.int .i64 tb, .int .i64 ky] 113)).drew := ⟨_, rfl⟩
 have b2 : Below w1.heap.size w1 w2 := by rw [hw2]; exact (below_alloc _ _).drew
 have hz2 : w2.heap.size = w1.heap.size + 1 := by rw [hw2]; simp
 have KO2 := KO.below b2 (by omega)
 have KR2 := KR.below b2 (by omega)
 have KS2 : Blk w2 w1.heap.size [.int .i64 tb, .int .i64 ky] := by rw [hw2]; exact (blk_new w1 [.int .i64 tb, .int .i64 ky] _).drewR
 have q0 : (w1.alloc (.cells #[.int .i64 tb, .int .i64 ky] 113)).cell? ⟨w.heap.size, 0, none⟩ = some (.int .i64 9) := by rw [hw2] at KO2; exact (KO2 0 (by simp [opC])).1
 have HKO := hid KO2
 have HKR := hid KR2
 have HKS := hid KS2
 have HM2 := hid ((HM.out.below hb1).below b2)
 have HB2 := hid (HB1.out.trans (b2.mono HB1.out.size) : Below w.heap.size w w2)
 have HW2 := hid hw2
 clear hfa c0 hb1 HM KO KR KO2 KR2 KS2 b2 HB1
 have q6 : (w1.alloc (.cells #[.int .i64 tb, .int .i64 ky] 113)).cell? ⟨w.heap.size, 6, none⟩ = some (.string nm) := by have := HKO.out; rw [hw2] at this; exact (this 6 (by simp [opC])).1
 clear hw2
 have hzz : w.heap.size + 1 < w1.heap.size := by omega
 go_wp2
 go_region
 go_wp2_with (go_at_call 50; fail)
 rw [<- HW2.out]
 refine (sv_9 B sb (n - 1) w2 x L c gh op HM2.out (by omega) hi ho nm (n : Int) tb ky vl md).mono ?_
 rintro e w3 ⟨gh', rfl, hM3, hfr, hft⟩
 have hs3 := hfr.size
 have HM3 := hid hM3
 have HFR := hid hfr
 have HFT := hid hft
 clear hM3 hfr hft
 have HRN := hid (run_i9 x n tb ky vl md nm hn1 hn2 ho)
 generalize savesF x (n - 1) ⟨9, (n : Int), tb, ky, vl, md, nm⟩ = res at HM3 HFT HRN ⊢
 obtain ⟨x2, code⟩ := res
 simp only at HM3 HFT HRN ⊢
 have KR3 := HKR.out.fr HFR.out (by omega) (fun z => by have := HFL.out _ z; omega)
 obtain ⟨⟨r0, fr0⟩, ⟨r1, fr1⟩, ⟨r2, fr2⟩, ⟨r3, fr3⟩, ⟨r4, fr4⟩⟩ := kb4 KR3
 obtain ⟨W4, hW4⟩ : ∃ z, z = set5 w3 (w.heap.size + 1) (.int .i64 code) (.int .i64 0) (.int .i64 0) (.bool false) (.slice none 0 0) := ⟨_, rfl⟩
 have f4 : Fr (fun q => q = w.heap.size + 1) w3 W4 := by rw [hW4]; exact chg_5 _ _ _ _ _ _ _
 have K4 : Blk W4 (w.heap.size + 1) (obsC code 0 0 false (.slice none 0 0)) := by rw [hW4]; exact blk_set5 KR3 rfl
 obtain ⟨t0, t1, t2, t3, t4⟩ := kc4 K4
 have HF4 := hid f4
 unfold set5 at hW4
 clear K4 KR3 f4
 go_wp2
 rw [<- hW4]
 refine bodyPost_ret (v := .agg #[.int .i64 code, .int .i64 0, .int .i64 0, .bool false, .slice none 0 0]) (by simp [results, Tryz.results22, go_sem, t0, t1, t2, t3, t4]) rfl ?_
 rw [HRN.out]
 exact AnsP.of (q := w.heap.size + 1) (pv := .slice none 0 0) HFL.out HB2.out (by omega) (by omega) HM3.out HFR.out HFT.out HF4.out (gr_nil _ _ _ _ _) (fun g hg => (nil_own g hg).elim) rfl
theorem run_i10 (x : Bas) (n : Nat) (tb ky vl md : Int) (nm : ByteArray) (hn1 : 1 <= n) (hn2 : n <= 4) (ho : opn x (n - 1) = true) : runF x ⟨10, (n : Int), tb, ky, vl, md, nm⟩ = ((savesF x (n - 1) ⟨10, (n : Int), tb, ky, vl, md, nm⟩).1, ⟨(savesF x (n - 1) ⟨10, (n : Int), tb, ky, vl, md, nm⟩).2, 0, 0, false, []⟩) := by
 have e : ((n : Int) - 1).toNat = n - 1 := by omega
 unfold runF
 simp only [e]
 rw [if_neg (by omega), if_neg (by rw [show (x.tx.getD (n - 1) tx0).op = true from ho]; decide)]
 rw [if_neg (by omega)]
 simp
theorem ans_10 (B sb n : Nat) (tb ky vl md : Int) (nm : ByteArray) (w : World) (x : Bas) (L : LIx -> Value) (c : Led) (gh : Nat -> TG) (op : Nat -> Option Addr) (h : IMem B sb w x L c gh op) (hb : Bnd x) (hck : x.ck < 1000) (hhl : x.hs.length < 1000) (hB : B <= w.heap.size) (hn1 : 1 <= n) (hn2 : n <= 4) (ho : opn x (n - 1) = true) :
 Calls Tryz.prog 22 #[.pointer (some ⟨sb, 0, none⟩), .agg #[.int .i64 10, .int .i64 (n : Int), .int .i64 tb, .int .i64 ky, .int .i64 vl, .int .i64 md, .string nm]] w fun e w' => AnsP B sb w x L gh (runF x ⟨10, (n : Int), tb, ky, vl, md, nm⟩) e w' := by
 have hi : n - 1 < 4 := by omega
 have e1 : n - 1 + 1 = n := by omega
 obtain ⟨w0, hw0⟩ : ∃ z, z = (w.alloc (.cells #[.int .i64 10, .int .i64 (n : Int), .int .i64 tb, .int .i64 ky, .int .i64 vl, .int .i64 md, .string nm] 41)).alloc (.cells #[.int .i64 0, .int .i64 0, .int .i64 0, .bool false, .slice none 0 0] 38) := ⟨_, rfl⟩
 have hb0 : Below w.heap.size w w0 := by rw [hw0]; exact (below_alloc _ _).trans ((below_alloc _ _).mono (by simp))
 have hz0 : w0.heap.size = w.heap.size + 1 + 1 := by rw [hw0]; simp
 have KO0 : Blk w0 w.heap.size (opC 10 n tb ky vl md nm) := by rw [hw0]; exact (blk_new w (opC 10 n tb ky vl md nm) _).below (below_alloc _ _) (by simp)
 have KR0 : Blk w0 (w.heap.size + 1) (obsC 0 0 0 false (.slice none 0 0)) := by
  have := blk_new (w.alloc (.cells #[.int .i64 10, .int .i64 (n : Int), .int .i64 tb, .int .i64 ky, .int .i64 vl, .int .i64 md, .string nm] 41)) (obsC 0 0 0 false (.slice none 0 0)) 38
  have e : (w.alloc (.cells #[.int .i64 10, .int .i64 (n : Int), .int .i64 tb, .int .i64 ky, .int .i64 vl, .int .i64 md, .string nm] 41)).heap.size = w.heap.size + 1 := by simp
  rw [e] at this
  rw [hw0]
  exact this
 have h0 := h.below hb0
 obtain ⟨hop, hT⟩ := h0.tr (n - 1) hi ho
 rw [e1] at hop
 clear hT
 obtain ⟨c0, _⟩ := ses_cell h0.ses (j := 66 + n) (by omega)
 rw [sesAt_op, hop] at c0
 have hfa := fault_in sb n 10 tb md ky vl (.string nm) (some ⟨(gh (n - 1)).g, 0, none⟩) w0 h0.sl (by omega) (by omega) hn1 hn2 c0
 rw [show faultC 10 n tb md ((some ⟨(gh (n - 1)).g, 0, none⟩)).isNone = 0 from (fault_ok 10 n tb md _ (by omega) (by omega) (by omega) (by omega))] at hfa
 have hni : (n : Int) < 5 := by omega
 have hsl := h.sl
 have hfl : ∀ g, foot sb L x gh g -> g < w.heap.size := fun g hg => (h.lt hg).2
 have HFL := hid hfl
 have HB := hid hb
 have HM := hid h0
 have HKO := hid KO0
 have HKR := hid KR0
 clear h0 h KO0 KR0 hfl hb
 rw [hw0] at hfa
 go_enter Tryz.func22, Tryz.ntmps22
 go_wp2_with (go_at_call 42; fail)
 refine hfa.mono ?_
 rw [<- hw0]
 rintro e w1 ⟨rfl, hb1⟩
 have hs1 := hb1.size
 have HB1 := hid (hb0.trans (hb1.mono hb0.size) : Below w.heap.size w w1)
 have KO := HKO.out.below hb1 (by omega)
 have KR := HKR.out.below hb1 (by omega)
 have c1 := (World.cell?_of_block (a := ⟨sb, 66 + n, none⟩) (hb1.block sb (by omega))).trans c0
 obtain ⟨o0, o1, o2, o3⟩ := kc3 KO
 obtain ⟨w2, hw2⟩ : ∃ z, z = (w1.alloc (.cells #[.int .i64 tb, .int .i64 ky] 113)).drew := ⟨_, rfl⟩
 have b2 : Below w1.heap.size w1 w2 := by rw [hw2]; exact (below_alloc _ _).drew
 have hz2 : w2.heap.size = w1.heap.size + 1 := by rw [hw2]; simp
 have KO2 := KO.below b2 (by omega)
 have KR2 := KR.below b2 (by omega)
 have KS2 : Blk w2 w1.heap.size [.int .i64 tb, .int .i64 ky] := by rw [hw2]; exact (blk_new w1 [.int .i64 tb, .int .i64 ky] _).drewR
 have q0 : (w1.alloc (.cells #[.int .i64 tb, .int .i64 ky] 113)).cell? ⟨w.heap.size, 0, none⟩ = some (.int .i64 10) := by rw [hw2] at KO2; exact (KO2 0 (by simp [opC])).1
 have HKO := hid KO2
 have HKR := hid KR2
 have HKS := hid KS2
 have HM2 := hid ((HM.out.below hb1).below b2)
 have HB2 := hid (HB1.out.trans (b2.mono HB1.out.size) : Below w.heap.size w w2)
 have HW2 := hid hw2
 clear hfa c0 hb1 HM KO KR KO2 KR2 KS2 b2 HB1
 have q6 : (w1.alloc (.cells #[.int .i64 tb, .int .i64 ky] 113)).cell? ⟨w.heap.size, 6, none⟩ = some (.string nm) := by have := HKO.out; rw [hw2] at this; exact (this 6 (by simp [opC])).1
 clear hw2
 have hzz : w.heap.size + 1 < w1.heap.size := by omega
 go_wp2
 go_region
 go_wp2_with (go_at_call 51; fail)
 rw [<- HW2.out]
 refine (sv_10 B sb (n - 1) w2 x L c gh op HM2.out (by omega) hi ho nm (n : Int) tb ky vl md).mono ?_
 rintro e w3 ⟨gh', rfl, hM3, hfr, hft⟩
 have hs3 := hfr.size
 have HM3 := hid hM3
 have HFR := hid hfr
 have HFT := hid hft
 clear hM3 hfr hft
 have HRN := hid (run_i10 x n tb ky vl md nm hn1 hn2 ho)
 generalize savesF x (n - 1) ⟨10, (n : Int), tb, ky, vl, md, nm⟩ = res at HM3 HFT HRN ⊢
 obtain ⟨x2, code⟩ := res
 simp only at HM3 HFT HRN ⊢
 have KR3 := HKR.out.fr HFR.out (by omega) (fun z => by have := HFL.out _ z; omega)
 obtain ⟨⟨r0, fr0⟩, ⟨r1, fr1⟩, ⟨r2, fr2⟩, ⟨r3, fr3⟩, ⟨r4, fr4⟩⟩ := kb4 KR3
 obtain ⟨W4, hW4⟩ : ∃ z, z = set5 w3 (w.heap.size + 1) (.int .i64 code) (.int .i64 0) (.int .i64 0) (.bool false) (.slice none 0 0) := ⟨_, rfl⟩
 have f4 : Fr (fun q => q = w.heap.size + 1) w3 W4 := by rw [hW4]; exact chg_5 _ _ _ _ _ _ _
 have K4 : Blk W4 (w.heap.size + 1) (obsC code 0 0 false (.slice none 0 0)) := by rw [hW4]; exact blk_set5 KR3 rfl
 obtain ⟨t0, t1, t2, t3, t4⟩ := kc4 K4
 have HF4 := hid f4
 unfold set5 at hW4
 clear K4 KR3 f4
 go_wp2
 rw [<- hW4]
 refine bodyPost_ret (v := .agg #[.int .i64 code, .int .i64 0, .int .i64 0, .bool false, .slice none 0 0]) (by simp [results, Tryz.results22, go_sem, t0, t1, t2, t3, t4]) rfl ?_
 rw [HRN.out]
 exact AnsP.of (q := w.heap.size + 1) (pv := .slice none 0 0) HFL.out HB2.out (by omega) (by omega) HM3.out HFR.out HFT.out HF4.out (gr_nil _ _ _ _ _) (fun g hg => (nil_own g hg).elim) rfl
theorem run_i6 (x : Bas) (n : Nat) (tb ky vl md : Int) (nm : ByteArray) (hn1 : 1 <= n) (hn2 : n <= 4) (ho : opn x (n - 1) = true) : runF x ⟨6, (n : Int), tb, ky, vl, md, nm⟩ = ((commitF x (n - 1)).1, ⟨(commitF x (n - 1)).2.2, 0, (commitF x (n - 1)).2.1, false, []⟩) := by
 have e : ((n : Int) - 1).toNat = n - 1 := by omega
 unfold runF
 simp only [e]
 rw [if_neg (by omega), if_neg (by rw [show (x.tx.getD (n - 1) tx0).op = true from ho]; decide)]
 rw [if_neg (by omega)]
 simp
theorem ans_6 (B sb n : Nat) (tb ky vl md : Int) (nm : ByteArray) (w : World) (x : Bas) (L : LIx -> Value) (c : Led) (gh : Nat -> TG) (op : Nat -> Option Addr) (h : IMem B sb w x L c gh op) (hb : Bnd x) (hck : x.ck < 1000) (hhl : x.hs.length < 1000) (hB : B <= w.heap.size) (hn1 : 1 <= n) (hn2 : n <= 4) (ho : opn x (n - 1) = true) :
 Calls Tryz.prog 22 #[.pointer (some ⟨sb, 0, none⟩), .agg #[.int .i64 6, .int .i64 (n : Int), .int .i64 tb, .int .i64 ky, .int .i64 vl, .int .i64 md, .string nm]] w fun e w' => AnsP B sb w x L gh (runF x ⟨6, (n : Int), tb, ky, vl, md, nm⟩) e w' := by
 have hi : n - 1 < 4 := by omega
 have e1 : n - 1 + 1 = n := by omega
 obtain ⟨w0, hw0⟩ : ∃ z, z = (w.alloc (.cells #[.int .i64 6, .int .i64 (n : Int), .int .i64 tb, .int .i64 ky, .int .i64 vl, .int .i64 md, .string nm] 41)).alloc (.cells #[.int .i64 0, .int .i64 0, .int .i64 0, .bool false, .slice none 0 0] 38) := ⟨_, rfl⟩
 have hb0 : Below w.heap.size w w0 := by rw [hw0]; exact (below_alloc _ _).trans ((below_alloc _ _).mono (by simp))
 have hz0 : w0.heap.size = w.heap.size + 1 + 1 := by rw [hw0]; simp
 have KO0 : Blk w0 w.heap.size (opC 6 n tb ky vl md nm) := by rw [hw0]; exact (blk_new w (opC 6 n tb ky vl md nm) _).below (below_alloc _ _) (by simp)
 have KR0 : Blk w0 (w.heap.size + 1) (obsC 0 0 0 false (.slice none 0 0)) := by
  have := blk_new (w.alloc (.cells #[.int .i64 6, .int .i64 (n : Int), .int .i64 tb, .int .i64 ky, .int .i64 vl, .int .i64 md, .string nm] 41)) (obsC 0 0 0 false (.slice none 0 0)) 38
  have e : (w.alloc (.cells #[.int .i64 6, .int .i64 (n : Int), .int .i64 tb, .int .i64 ky, .int .i64 vl, .int .i64 md, .string nm] 41)).heap.size = w.heap.size + 1 := by simp
  rw [e] at this
  rw [hw0]
  exact this
 have h0 := h.below hb0
 obtain ⟨hop, hT⟩ := h0.tr (n - 1) hi ho
 rw [e1] at hop
 clear hT
 obtain ⟨c0, _⟩ := ses_cell h0.ses (j := 66 + n) (by omega)
 rw [sesAt_op, hop] at c0
 have hfa := fault_in sb n 6 tb md ky vl (.string nm) (some ⟨(gh (n - 1)).g, 0, none⟩) w0 h0.sl (by omega) (by omega) hn1 hn2 c0
 rw [show faultC 6 n tb md ((some ⟨(gh (n - 1)).g, 0, none⟩)).isNone = 0 from (fault_ok 6 n tb md _ (by omega) (by omega) (by omega) (by omega))] at hfa
 have hni : (n : Int) < 5 := by omega
 have hsl := h.sl
 have hfl : ∀ g, foot sb L x gh g -> g < w.heap.size := fun g hg => (h.lt hg).2
 have HFL := hid hfl
 have HB := hid hb
 have HM := hid h0
 have HKO := hid KO0
 have HKR := hid KR0
 clear h0 h KO0 KR0 hfl hb
 rw [hw0] at hfa
 go_enter Tryz.func22, Tryz.ntmps22
 go_wp2_with (go_at_call 42; fail)
 refine hfa.mono ?_
 rw [<- hw0]
 rintro e w1 ⟨rfl, hb1⟩
 have hs1 := hb1.size
 have HB1 := hid (hb0.trans (hb1.mono hb0.size) : Below w.heap.size w w1)
 have KO := HKO.out.below hb1 (by omega)
 have KR := HKR.out.below hb1 (by omega)
 have c1 := (World.cell?_of_block (a := ⟨sb, 66 + n, none⟩) (hb1.block sb (by omega))).trans c0
 obtain ⟨o0, o1, o2, o3⟩ := kc3 KO
 obtain ⟨w2, hw2⟩ : ∃ z, z = (w1.alloc (.cells #[.int .i64 tb, .int .i64 ky] 113)).drew := ⟨_, rfl⟩
 have b2 : Below w1.heap.size w1 w2 := by rw [hw2]; exact (below_alloc _ _).drew
 have hz2 : w2.heap.size = w1.heap.size + 1 := by rw [hw2]; simp
 have KO2 := KO.below b2 (by omega)
 have KR2 := KR.below b2 (by omega)
 have KS2 : Blk w2 w1.heap.size [.int .i64 tb, .int .i64 ky] := by rw [hw2]; exact (blk_new w1 [.int .i64 tb, .int .i64 ky] _).drewR
 have q0 : (w1.alloc (.cells #[.int .i64 tb, .int .i64 ky] 113)).cell? ⟨w.heap.size, 0, none⟩ = some (.int .i64 6) := by rw [hw2] at KO2; exact (KO2 0 (by simp [opC])).1
 have HKO := hid KO2
 have HKR := hid KR2
 have HKS := hid KS2
 have HM2 := hid ((HM.out.below hb1).below b2)
 have HB2 := hid (HB1.out.trans (b2.mono HB1.out.size) : Below w.heap.size w w2)
 have HW2 := hid hw2
 clear hfa c0 hb1 HM KO KR KO2 KR2 KS2 b2 HB1
 have q1 : (w1.alloc (.cells #[.int .i64 tb, .int .i64 ky] 113)).cell? ⟨w.heap.size, 1, none⟩ = some (.int .i64 (n : Int)) := by have := HKO.out; rw [hw2] at this; exact (this 1 (by simp [opC])).1
 clear hw2
 have hzz : w.heap.size + 1 < w1.heap.size := by omega
 go_wp2
 go_region
 go_wp2_with (go_at_call 47; fail)
 rw [<- HW2.out]
 have HRN := hid (run_i6 x n tb ky vl md nm hn1 hn2 ho)
 refine (commit_any B sb n w2 x L c gh op HM2.out HB.out hck hhl (by omega) hn1 hn2 ho).mono ?_
 generalize commitF x (n - 1) = res at HRN ⊢
 obtain ⟨x2, st, code⟩ := res
 simp only at HRN ⊢
 rintro e w3 ⟨L', c', gh', op', pv, rfl, hgr, hM3, hfr, hft, hpn⟩
 have hs3 := hfr.size
 obtain ⟨pa, pc, hpf⟩ := formR hgr
 subst hpf
 simp only [List.length_nil] at hgr hpn ⊢
 have HM3 := hid hM3
 have HFR := hid hfr
 have HFT := hid hft
 have HGR := hid hgr
 have HPN := hid hpn
 clear hM3 hfr hft hgr hpn
 have KR3 := HKR.out.fr HFR.out (by omega) (fun z => by have := HFL.out _ z; omega)
 obtain ⟨⟨r0, fr0⟩, ⟨r1, fr1⟩, ⟨r2, fr2⟩, ⟨r3, fr3⟩, ⟨r4, fr4⟩⟩ := kb4 KR3
 obtain ⟨W4, hW4⟩ : ∃ z, z = set5 w3 (w.heap.size + 1) (.int .i64 code) (.int .i64 0) (.int .i64 st) (.bool false) (.slice pa 0 pc) := ⟨_, rfl⟩
 have f4 : Fr (fun q => q = w.heap.size + 1) w3 W4 := by rw [hW4]; exact chg_5 _ _ _ _ _ _ _
 have K4 : Blk W4 (w.heap.size + 1) (obsC code 0 st false (.slice pa 0 pc)) := by rw [hW4]; exact blk_set5 KR3 rfl
 obtain ⟨t0, t1, t2, t3, t4⟩ := kc4 K4
 have HF4 := hid f4
 unfold set5 at hW4
 clear K4 KR3 f4
 go_wp2
 rw [<- hW4]
 refine bodyPost_ret (v := .agg #[.int .i64 code, .int .i64 0, .int .i64 st, .bool false, .slice pa 0 pc]) (by simp [results, Tryz.results22, go_sem, t0, t1, t2, t3, t4]) rfl ?_
 rw [HRN.out]
 exact AnsP.of (q := w.heap.size + 1) (pv := .slice pa 0 pc) HFL.out HB2.out (by omega) (by omega) HM3.out HFR.out HFT.out HF4.out (own_bs (own_fr HGR.out HF4.out (fun g hg e => by have := (HGR.out.lt g hg).1; have e2 : g = w.heap.size + 1 := e; omega)) (by omega)) HPN.out rfl
theorem IMem.drew {B sb : Nat} {w : World} {x : Bas} {L : LIx -> Value} {c : Led} {gh : Nat -> TG} {op : Nat -> Option Addr} (h : IMem B sb w x L c gh op) : IMem B sb w.drew x L c gh op := h.fr (Fr.refl (fun _ => False) w).drewR (fun _ _ z => z)
theorem opn_isNone {B sb : Nat} {w : World} {x : Bas} {L : LIx -> Value} {c : Led} {gh : Nat -> TG} {op : Nat -> Option Addr} (h : IMem B sb w x L c gh op) {n : Nat} (hn1 : 1 <= n) (hn2 : n <= 4) : (op n).isNone = !opn x (n - 1) := by
 have e1 : n - 1 + 1 = n := by omega
 cases hq : opn x (n - 1)
 .have := h.no (n - 1) (by omega) hq
  rw [e1] at this
  rw [this]; rfl
 .have := (h.tr (n - 1) (by omega) hq).1
  rw [e1] at this
  rw [this]; rfl
theorem fault_any {B sb : Nat} {w : World} {x : Bas} {L : LIx -> Value} {c : Led} {gh : Nat -> TG} {op : Nat -> Option Addr} (h : IMem B sb w x L c gh op) (o : Opn) :
 Calls Tryz.prog 42 #[.pointer (some ⟨sb, 0, none⟩), .agg #[.int .i64 o.kd, .int .i64 o.ss, .int .i64 o.tb, .int .i64 o.ky, .int .i64 o.vl, .int .i64 o.md, .string o.nm]] w fun e w' => e = .returned (.int .i64 (faultC o.kd o.ss o.tb o.md (!(x.tx.getD (o.ss - 1).toNat tx0).op))) /\ Below w.heap.size w w' := by
 obtain ⟨kd, ss, tb, ky, vl, md, nm⟩ := o
 simp only
 by_cases hin : (1 <= kd /\ kd <= 10) /\ (1 <= ss /\ ss <= 4)
 .obtain ⟨n, rfl⟩ : ∃ n : Nat, ss = n := ⟨ss.toNat, by omega⟩
  have hn1 : 1 <= n := by omega
  have hn2 : n <= 4 := by omega
  obtain ⟨c0, _⟩ := ses_cell h.ses (j := 66 + n) (by omega)
  rw [sesAt_op] at c0
  have := fault_in sb n kd tb md ky vl (.string nm) (op n) w h.sl (by omega) (by omega) hn1 hn2 c0
  rw [opn_isNone h hn1 hn2] at this
  have e : ((n : Int) - 1).toNat = n - 1 := by omega
  rw [e]
  exact this
 .exact fault_out sb kd ss tb md ky vl (.string nm) _ w (by omega)
theorem ans_f (B sb : Nat) (kd ss tb ky vl md : Int) (nm : ByteArray) (w : World) (x : Bas) (L : LIx -> Value) (c : Led) (gh : Nat -> TG) (op : Nat -> Option Addr) (h : IMem B sb w x L c gh op) (hf : faultC kd ss tb md (!(x.tx.getD (ss - 1).toNat tx0).op) ≠ 0) :
 Calls Tryz.prog 22 #[.pointer (some ⟨sb, 0, none⟩), .agg #[.int .i64 kd, .int .i64 ss, .int .i64 tb, .int .i64 ky, .int .i64 vl, .int .i64 md, .string nm]] w fun e w' => AnsP B sb w x L gh (runF x ⟨kd, ss, tb, ky, vl, md, nm⟩) e w' := by
 rw [fault_run x ⟨kd, ss, tb, ky, vl, md, nm⟩ hf]
 obtain ⟨w0, hw0⟩ : ∃ z, z = (w.alloc (.cells #[.int .i64 kd, .int .i64 ss, .int .i64 tb, .int .i64 ky, .int .i64 vl, .int .i64 md, .string nm] 41)).alloc (.cells #[.int .i64 0, .int .i64 0, .int .i64 0, .bool false, .slice none 0 0] 38) := ⟨_, rfl⟩
 have hb0 : Below w.heap.size w w0 := by rw [hw0]; exact (below_alloc _ _).trans ((below_alloc _ _).mono (by simp))
 have hz0 : w0.heap.size = w.heap.size + 1 + 1 := by rw [hw0]; simp
 have KR0 : Blk w0 (w.heap.size + 1) (obsC 0 0 0 false (.slice none 0 0)) := by
  have := blk_new (w.alloc (.cells #[.int .i64 kd, .int .i64 ss, .int .i64 tb, .int .i64 ky, .int .i64 vl, .int .i64 md, .string nm] 41)) (obsC 0 0 0 false (.slice none 0 0)) 38
  have e : (w.alloc (.cells #[.int .i64 kd, .int .i64 ss, .int .i64 tb, .int .i64 ky, .int .i64 vl, .int .i64 md, .string nm] 41)).heap.size = w.heap.size + 1 := by simp
  rw [e] at this
  rw [hw0]
  exact this
 have h0 := h.below hb0
 have hfa := fault_any h0 ⟨kd, ss, tb, ky, vl, md, nm⟩
 simp only at hfa ⊢
 generalize faultC kd ss tb md (!(x.tx.getD (ss - 1).toNat tx0).op) = code at hf hfa ⊢
 have hfb : (code != 0) = true := by simpa using hf
 have hfl : ∀ g, foot sb L x gh g -> g < w.heap.size := fun g hg => (h.lt hg).2
 have HFL := hid hfl
 have HM := hid h0
 have HKR := hid KR0
 have HB0 := hid hb0
 clear h0 h KR0 hfl hf hb0
 rw [hw0] at hfa
 go_enter Tryz.func22, Tryz.ntmps22
 go_wp2_with (go_at_call 42; fail)
 refine hfa.mono ?_
 rw [<- hw0]
 rintro e w1 ⟨rfl, hb1⟩
 have hs1 := hb1.size
 have HB1 := hid hb1
 clear hb1 hw0 hfa
 have KR3 := HKR.out.below HB1.out (by omega)
 obtain ⟨⟨r0, fr0⟩, ⟨r1, fr1⟩, ⟨r2, fr2⟩, ⟨r3, fr3⟩, ⟨r4, fr4⟩⟩ := kb4 KR3
 obtain ⟨W4, hW4⟩ : ∃ z, z = set5 w1 (w.heap.size + 1) (.int .i64 code) (.int .i64 0) (.int .i64 0) (.bool false) (.slice none 0 0) := ⟨_, rfl⟩
 have f4 : Fr (fun q => q = w.heap.size + 1) w1 W4 := by rw [hW4]; exact chg_5 _ _ _ _ _ _ _
 have K4 : Blk W4 (w.heap.size + 1) (obsC code 0 0 false (.slice none 0 0)) := by rw [hW4]; exact blk_set5 KR3 rfl
 obtain ⟨t0, t1, t2, t3, t4⟩ := kc4 K4
 have HF4 := hid f4
 unfold set5 at hW4
 clear K4 KR3 f4
 go_wp2
 rw [<- hW4]
 refine bodyPost_ret (v := .agg #[.int .i64 code, .int .i64 0, .int .i64 0, .bool false, .slice none 0 0]) (by simp [results, Tryz.results22, go_sem, t0, t1, t2, t3, t4]) rfl ?_
 exact AnsP.of (q := w.heap.size + 1) (pv := .slice none 0 0) HFL.out HB0.out (by omega) (by omega) (HM.out.below HB1.out) (Fr.of_below _ HB1.out) (fun g hg => .inl hg) HF4.out (gr_nil _ _ _ _ _) (fun g hg => (nil_own g hg).elim) rfl
theorem fault_1 (n tb md : Int) (h1 : 1 <= n) (h2 : n <= 4) (hm : md = 1 \/ md = 2) : faultC 1 n tb md (none : Option Addr).isNone = 0 := by
 unfold faultC
 rw [if_neg (by omega), if_neg (by simp), if_neg (by omega), if_neg (by omega)]
theorem run_i1 (x : Bas) (n : Nat) (tb ky vl md : Int) (nm : ByteArray) (hn1 : 1 <= n) (hn2 : n <= 4) (ho : opn x (n - 1) = false) (hm : md = 1 \/ md = 2) : runF x ⟨1, (n : Int), tb, ky, vl, md, nm⟩ = ({ x with tx := x.tx.set (n - 1) ⟨true, md, x.ck, [], rd0, []⟩ }, ⟨0, 0, x.ck, false, []⟩) := by
 have e : ((n : Int) - 1).toNat = n - 1 := by omega
 unfold runF
 simp only [e]
 rw [if_neg (by omega), if_neg (by rw [show (x.tx.getD (n - 1) tx0).op = false from ho]; decide)]
 rw [if_neg (by omega), if_pos trivial, if_neg (by omega)]
theorem ans_1 (B sb n : Nat) (tb ky vl md : Int) (nm : ByteArray) (w : World) (x : Bas) (L : LIx -> Value) (c : Led) (gh : Nat -> TG) (op : Nat -> Option Addr) (h : IMem B sb w x L c gh op) (hb : Bnd x) (hck : x.ck < 1000) (hhl : x.hs.length < 1000) (hB : B <= w.heap.size) (hn1 : 1 <= n) (hn2 : n <= 4) (ho : opn x (n - 1) = false) (hmd : md = 1 \/ md = 2) :
 Calls Tryz.prog 22 #[.pointer (some ⟨sb, 0, none⟩), .agg #[.int .i64 1, .int .i64 (n : Int), .int .i64 tb, .int .i64 ky, .int .i64 vl, .int .i64 md, .string nm]] w fun e w' => AnsP B sb w x L gh (runF x ⟨1, (n : Int), tb, ky, vl, md, nm⟩) e w' := by
 have hi : n - 1 < 4 := by omega
 have e1 : n - 1 + 1 = n := by omega
 obtain ⟨w0, hw0⟩ : ∃ z, z = (w.alloc (.cells #[.int .i64 1, .int .i64 (n : Int), .int .i64 tb, .int .i64 ky, .int .i64 vl, .int .i64 md, .string nm] 41)).alloc (.cells #[.int .i64 0, .int .i64 0, .int .i64 0, .bool false, .slice none 0 0] 38) := ⟨_, rfl⟩
 have hb0 : Below w.heap.size w w0 := by rw [hw0]; exact (below_alloc _ _).trans ((below_alloc _ _).mono (by simp))
 have hz0 : w0.heap.size = w.heap.size + 1 + 1 := by rw [hw0]; simp
 have KO0 : Blk w0 w.heap.size (opC 1 n tb ky vl md nm) := by rw [hw0]; exact (blk_new w (opC 1 n tb ky vl md nm) _).below (below_alloc _ _) (by simp)
 have KR0 : Blk w0 (w.heap.size + 1) (obsC 0 0 0 false (.slice none 0 0)) := by
  have := blk_new (w.alloc (.cells #[.int .i64 1, .int .i64 (n : Int), .int .i64 tb, .int .i64 ky, .int .i64 vl, .int .i64 md, .string nm] 41)) (obsC 0 0 0 false (.slice none 0 0)) 38
  have e : (w.alloc (.cells #[.int .i64 1, .int .i64 (n : Int), .int .i64 tb, .int .i64 ky, .int .i64 vl, .int .i64 md, .string nm] 41)).heap.size = w.heap.size + 1 := by simp
  rw [e] at this
  rw [hw0]
  exact this
 have h0 := h.below hb0
 have hop := h0.no (n - 1) hi ho
 rw [e1] at hop
 obtain ⟨c0, _⟩ := ses_cell h0.ses (j := 66 + n) (by omega)
 rw [sesAt_op, hop] at c0
 have hfa := fault_in sb n 1 tb md ky vl (.string nm) (none : Option Addr) w0 h0.sl (by omega) (by omega) hn1 hn2 c0
 rw [show faultC 1 n tb md ((none : Option Addr)).isNone = 0 from (fault_1 n tb md (by omega) (by omega) hmd)] at hfa
 have hni : (n : Int) < 5 := by omega
 have hsl := h.sl
 have hfl : ∀ g, foot sb L x gh g -> g < w.heap.size := fun g hg => (h.lt hg).2
 have HFL := hid hfl
 have HB := hid hb
 have HM := hid h0
 have HKO := hid KO0
 have HKR := hid KR0
 clear h0 h KO0 KR0 hfl hb
 rw [hw0] at hfa
 go_enter Tryz.func22, Tryz.ntmps22
 go_wp2_with (go_at_call 42; fail)
 refine hfa.mono ?_
 rw [<- hw0]
 rintro e w1 ⟨rfl, hb1⟩
 have hs1 := hb1.size
 have HB1 := hid (hb0.trans (hb1.mono hb0.size) : Below w.heap.size w w1)
 have KO := HKO.out.below hb1 (by omega)
 have KR := HKR.out.below hb1 (by omega)
 have c1 := (World.cell?_of_block (a := ⟨sb, 66 + n, none⟩) (hb1.block sb (by omega))).trans c0
 obtain ⟨o0, o1, o2, o3⟩ := kc3 KO
 obtain ⟨w2, hw2⟩ : ∃ z, z = (w1.alloc (.cells #[.int .i64 tb, .int .i64 ky] 113)).drew := ⟨_, rfl⟩
 have b2 : Below w1.heap.size w1 w2 := by rw [hw2]; exact (below_alloc _ _).drew
 have hz2 : w1.heap.size < w2.heap.size := by rw [hw2]; simp
 have KO2 := KO.below b2 (by omega)
 have KR2 := KR.below b2 (by omega)
 have KS2 : Blk w2 w1.heap.size [.int .i64 tb, .int .i64 ky] := by rw [hw2]; exact (blk_new w1 [.int .i64 tb, .int .i64 ky] _).drewR
 have q0 : (w1.alloc (.cells #[.int .i64 tb, .int .i64 ky] 113)).cell? ⟨w.heap.size, 0, none⟩ = some (.int .i64 1) := by rw [hw2] at KO2; exact (KO2 0 (by simp [opC])).1
 have HKO := hid KO2
 have HKR := hid KR2
 have HKS := hid KS2
 have HM2 := hid ((HM.out.below hb1).below b2)
 have HB2 := hid (HB1.out.trans (b2.mono HB1.out.size) : Below w.heap.size w w2)
 have HW2 := hid hw2
 clear hfa c0 hb1 HM KO KR KO2 KR2 KS2 b2 HB1
 clear hw2
 have hzz : w.heap.size + 1 < w1.heap.size := by omega
 go_wp2
 go_region
 go_wp2
 rw [<- HW2.out]
 obtain ⟨-, q1, -, -, -, q5⟩ := kc5 HKO.out
 have z0 := (ses_cell HM2.out.ses (j := 0) (by omega)).1
 rw [sesAt_0] at z0
 obtain ⟨wd, hwd⟩ : ∃ z, z = w2.drew := ⟨_, rfl⟩
 have hzd : wd.heap.size = w2.heap.size := by rw [hwd]; rfl
 have bd : Below w2.heap.size w2 wd := by rw [hwd]; exact (Below.refl _ _).drew
 have HMD := hid (HM2.out.below bd)
 have HBD := hid bd
 have hnt := newTran_any sb 0 x.ck md wd (by omega) (by rw [hwd]; exact z0)
 have p1 : wd.cell? ⟨w.heap.size, 1, none⟩ = some (.int .i64 (n : Int)) := by rw [hwd]; exact q1
 have p5 : wd.cell? ⟨w.heap.size, 5, none⟩ = some (.int .i64 md) := by rw [hwd]; exact q5
 have HZD := hid hzd
 have HWD := hid hwd
 clear bd hzd hwd
 clear q0 o0 o1 o2 o3
 refine wp_region_till_drew (S := (fun W => W.cell? ⟨w.heap.size, 1, none⟩ = some (.int .i64 (n : Int)) /\ W.cell? ⟨w.heap.size, 5, none⟩ = some (.int .i64 md))) (late := [11, 12]) (by kernel_rfl) ⟨q1, q5⟩ (fun hHeld => ?_)
 refine tT 0 rfl hHeld ?_
 try simp only [Act.put, q1, q2, q3]
 refine tT 1 rfl hHeld ?_
 try simp only [Act.put, q1, q2, q3]
 refine till_ld (i := 2) (v := ?_) rfl (Or.inl ⟨by rfl, ?_⟩) hHeld ?_
 rotate_left
 .intro w hSw
  try dsimp only at hSw
  go_simp
  try with_reducible rfl
 try simp only [Act.put, q1, q2, q3]
 refine tT 3 rfl hHeld ?_
 try simp only [Act.put, q1, q2, q3]
 refine tT 4 rfl hHeld ?_
 try simp only [Act.put, q1, q2, q3]
 refine tT 5 rfl hHeld ?_
 try simp only [Act.put, q1, q2, q3]
 refine tT 6 rfl hHeld ?_
 try simp only [Act.put, q1, q2, q3]
 refine till_ld (i := 7) (v := ?_) rfl (Or.inl ⟨by rfl, ?_⟩) hHeld ?_
 rotate_left
 .intro w hSw
  try dsimp only at hSw
  go_simp
  try with_reducible rfl
 try simp only [Act.put, q1, q2, q3]
 refine tT 9 rfl hHeld ?_
 try simp only [Act.put, q1, q2, q3]
 refine tT 10 rfl hHeld ?_
 try simp only [Act.put, q1, q2, q3]
 refine rE 8 rfl fun K hK => ?_
 go_simp
 rw [<- HWD.out]
 refine hnt.mono ?_
 rintro e W ⟨rfl, hk, hm, hb3, hz3⟩
 have hzd := HZD.out
 have s1 : W.cell? ⟨w.heap.size, 1, none⟩ = some (.int .i64 (n : Int)) := ct hb3 (by omega) p1
 have s5 : W.cell? ⟨w.heap.size, 5, none⟩ = some (.int .i64 md) := ct hb3 (by omega) p5
 have HMW := HMD.out.below hb3
 obtain ⟨a1, a2⟩ := ses_cell HMW.ses (j := 66 + n) (by omega)
 rw [sesAt_op] at a1
 have HBG := hid (HMD.out.begun (md := md) (by omega) hn1 hn2 ho hb3 hk hm (by omega))
 have HB3 := hid hb3
 clear HMW hk hm hb3 hzd
 refine hK _ _ ⟨⟨s1, s5⟩, ?_⟩
 clear hK K hnt
 try simp only [Act.put, q1, q2, q3]
 refine rL 11 rfl fun K hK => ?_
 go_simp
 refine hK _ _ ?_
 clear hK K
 try simp only [Act.put, q1, q2, q3]
 refine rL 12 rfl fun K hK => ?_
 go_simp
 refine hK _ _ ?_
 clear hK K
 try simp only [Act.put, q1, q2, q3]
 refine till_done (by kernel_rfl) ?_ _
 obtain ⟨W3, hW3⟩ : ∃ z, z = (W.setCell ⟨sb, 66 + n, none⟩ (.pointer (some ⟨wd.heap.size + 1, 0, none⟩))) := ⟨_, rfl⟩
 rw [<- hW3]
 obtain ⟨gh', op', hM3, hfr, hft⟩ := HBG.out
 rw [<- hW3] at hM3 hfr
 have z3 := (ses_cell hM3.ses (j := 0) (by omega)).1
 rw [sesAt_0] at z3
 simp only at z3
 have hs3 := Nat.le_trans (Nat.le_of_eq HZD.out.symm) hfr.size
 have HM3 := hid hM3
 have HFR := hid hfr
 have HFT := hid hft
 clear hM3 hfr hft hW3 a1 a2 s1 s5 q1 q5 z0 c1 HBG hz3
 have KR3 := (HKR.out.below HBD.out (by omega)).fr HFR.out (by have := HZD.out; omega) (fun z => by have := HFL.out _ z; omega)
 obtain ⟨⟨r0, fr0⟩, ⟨r1, fr1⟩, ⟨r2, fr2⟩, ⟨r3, fr3⟩, ⟨r4, fr4⟩⟩ := kb4 KR3
 obtain ⟨W4, hW4⟩ : ∃ z, z = set5 W3 (w.heap.size + 1) (.int .i64 0) (.int .i64 0) (.int .i64 x.ck) (.bool false) (.slice none 0 0) := ⟨_, rfl⟩
 have f4 : Fr (fun q => q = w.heap.size + 1) W3 W4 := by rw [hW4]; exact chg_5 _ _ _ _ _ _ _
 have K4 : Blk W4 (w.heap.size + 1) (obsC 0 0 x.ck false (.slice none 0 0)) := by rw [hW4]; exact blk_set5 KR3 rfl
 obtain ⟨t0, t1, t2, t3, t4⟩ := kc4 K4
 have HF4 := hid f4
 unfold set5 at hW4
 clear K4 KR3 f4
 go_wp2
 rw [<- hW4]
 refine bodyPost_ret (v := .agg #[.int .i64 0, .int .i64 0, .int .i64 x.ck, .bool false, .slice none 0 0]) (by simp [results, Tryz.results22, go_sem, t0, t1, t2, t3, t4]) rfl ?_
 rw [run_i1 x n tb ky vl md nm hn1 hn2 ho hmd]
 exact AnsP.of (q := w.heap.size + 1) (pv := .slice none 0 0) HFL.out HB2.out (by omega) (by omega) HM3.out ((Fr.of_below _ HBD.out).trans HFR.out) (fun g hg => by rw [<- HZD.out]; exact HFT.out g hg) HF4.out (gr_nil _ _ _ _ _) (fun g hg => (nil_own g hg).elim) rfl
end Go.Proofs.YtblkgicbimflhaaGreat
namespace Go.Proofs.YtblkgicbimflhaaGreat
open Go.ChangeShapes Go.WideShapes Go.ChangeAt Go.RowKit
set_option linter.unusedVariables false
set_option linter.unusedSimpArgs false
set_option maxRecDepth 100000
set_option maxHeartbeats 16000000
open Go.ChangeMaps (setBlock)
theorem fault_t (k n : Int) (tb md : Int) (pt : Addr) (hk : 2 <= k) (hk2 : k <= 5) (h1 : 1 <= n) (h2 : n <= 4) (ht : 0 <= tb /\ tb < 32) : faultC k n tb md (some pt).isNone = 0 := by
 unfold faultC
 rw [if_neg (by omega), if_neg (by simp; omega), if_neg (by omega), if_neg (by omega)]
theorem run_i4 (x : Bas) (n : Nat) (tb ky vl md : Int) (nm : ByteArray) (hn1 : 1 <= n) (hn2 : n <= 4) (ho : opn x (n - 1) = true) (ht : 0 <= tb /\ tb < 32) : runF x ⟨4, (n : Int), tb, ky, vl, md, nm⟩ = ({ x with tx := x.tx.set (n - 1) { (x.tx.getD (n - 1) tx0) with own := (x.tx.getD (n - 1) tx0).own ++ [⟨tb, ky, vl, false⟩] } }, ⟨0, 0, 0, false, []⟩) := by
 have e : ((n : Int) - 1).toNat = n - 1 := by omega
 unfold runF
 simp only [e]
 rw [if_neg (by omega), if_neg (by rw [show (x.tx.getD (n - 1) tx0).op = true from ho]; decide)]
 rw [if_neg (by omega)]
 simp
theorem ans_4 (B sb n : Nat) (tb ky vl md : Int) (nm : ByteArray) (w : World) (x : Bas) (L : LIx -> Value) (c : Led) (gh : Nat -> TG) (op : Nat -> Option Addr) (h : IMem B sb w x L c gh op) (hb : Bnd x) (hck : x.ck < 1000) (hhl : x.hs.length < 1000) (hB : B <= w.heap.size) (hn1 : 1 <= n) (hn2 : n <= 4) (ho : opn x (n - 1) = true) (ht : 0 <= tb /\ tb < 32) :
 Calls Tryz.prog 22 #[.pointer (some ⟨sb, 0, none⟩), .agg #[.int .i64 4, .int .i64 (n : Int), .int .i64 tb, .int .i64 ky, .int .i64 vl, .int .i64 md, .string nm]] w fun e w' => AnsP B sb w x L gh (runF x ⟨4, (n : Int), tb, ky, vl, md, nm⟩) e w' := by
 have hi : n - 1 < 4 := by omega
 have e1 : n - 1 + 1 = n := by omega
 obtain ⟨w0, hw0⟩ : ∃ z, z = (w.alloc (.cells #[.int .i64 4, .int .i64 (n : Int), .int .i64 tb, .int .i64 ky, .int .i64 vl, .int .i64 md, .string nm] 41)).alloc (.cells #[.int .i64 0, .int .i64 0, .int .i64 0, .bool false, .slice none 0 0] 38) := ⟨_, rfl⟩
 have hb0 : Below w.heap.size w w0 := by rw [hw0]; exact (below_alloc _ _).trans ((below_alloc _ _).mono (by simp))
 have hz0 : w0.heap.size = w.heap.size + 1 + 1 := by rw [hw0]; simp
 have KO0 : Blk w0 w.heap.size (opC 4 n tb ky vl md nm) := by rw [hw0]; exact (blk_new w (opC 4 n tb ky vl md nm) _).below (below_alloc _ _) (by simp)
 have KR0 : Blk w0 (w.heap.size + 1) (obsC 0 0 0 false (.slice none 0 0)) := by
  have := blk_new (w.alloc (.cells #[.int .i64 4, .int .i64 (n : Int), .int .i64 tb, .int .i64 ky, .int .i64 vl, .int .i64 md, .string nm] 41)) (obsC 0 0 0 false (.slice none 0 0)) 38
  have e : (w.alloc (.cells #[.int .i64 4, .int .i64 (n : Int), .int .i64 tb, .int .i64 ky, .int .i64 vl, .int .i64 md, .string nm] 41)).heap.size = w.heap.size + 1 := by simp
  rw [e] at this
  rw [hw0]
  exact this
 have h0 := h.below hb0
 obtain ⟨hop, hT⟩ := h0.tr (n - 1) hi ho
 rw [e1] at hop
 clear hT
 obtain ⟨c0, _⟩ := ses_cell h0.ses (j := 66 + n) (by omega)
 rw [sesAt_op, hop] at c0
 have hfa := fault_in sb n 4 tb md ky vl (.string nm) (some ⟨(gh (n - 1)).g, 0, none⟩) w0 h0.sl (by omega) (by omega) hn1 hn2 c0
 rw [show faultC 4 n tb md ((some ⟨(gh (n - 1)).g, 0, none⟩)).isNone = 0 from (fault_t 4 n tb md _ (by omega) (by omega) (by omega) (by omega) ht)] at hfa
 have hni : (n : Int) < 5 := by omega
 have hsl := h.sl
 have hfl : ∀ g, foot sb L x gh g -> g < w.heap.size := fun g hg => (h.lt hg).2
 have HFL := hid hfl
 have HB := hid hb
 have HM := hid h0
 have HKO := hid KO0
 have HKR := hid KR0
 clear h0 h KO0 KR0 hfl hb
 rw [hw0] at hfa
 go_enter Tryz.func22, Tryz.ntmps22
 go_wp2_with (go_at_call 42; fail)
 refine hfa.mono ?_
 rw [<- hw0]
 rintro e w1 ⟨rfl, hb1⟩
 have hs1 := hb1.size
 have HB1 := hid (hb0.trans (hb1.mono hb0.size) : Below w.heap.size w w1)
 have KO := HKO.out.below hb1 (by omega)
 have KR := HKR.out.below hb1 (by omega)
 have c1 := (World.cell?_of_block (a := ⟨sb, 66 + n, none⟩) (hb1.block sb (by omega))).trans c0
 obtain ⟨o0, o1, o2, o3⟩ := kc3 KO
 obtain ⟨w2, hw2⟩ : ∃ z, z = (w1.alloc (.cells #[.int .i64 tb, .int .i64 ky] 113)).drew := ⟨_, rfl⟩
 have b2 : Below w1.heap.size w1 w2 := by rw [hw2]; exact (below_alloc _ _).drew
 have hz2 : w1.heap.size < w2.heap.size := by rw [hw2]; simp
 have KO2 := KO.below b2 (by omega)
 have KR2 := KR.below b2 (by omega)
 have KS2 : Blk w2 w1.heap.size [.int .i64 tb, .int .i64 ky] := by rw [hw2]; exact (blk_new w1 [.int .i64 tb, .int .i64 ky] _).drewR
 have q0 : (w1.alloc (.cells #[.int .i64 tb, .int .i64 ky] 113)).cell? ⟨w.heap.size, 0, none⟩ = some (.int .i64 4) := by rw [hw2] at KO2; exact (KO2 0 (by simp [opC])).1
 have HKO := hid KO2
 have HKR := hid KR2
 have HKS := hid KS2
 have HM2 := hid ((HM.out.below hb1).below b2)
 have HB2 := hid (HB1.out.trans (b2.mono HB1.out.size) : Below w.heap.size w w2)
 have HW2 := hid hw2
 clear hfa c0 hb1 HM KO KR KO2 KR2 KS2 b2 HB1
 clear hw2
 have hzz : w.heap.size + 1 < w1.heap.size := by omega
 go_wp2
 go_region
 go_wp2
 rw [<- HW2.out]
 have HMD := hid HM2.out.drew
 have hT := (HMD.out.tr (n - 1) hi ho).2
 have c34 := hT.c34
 obtain ⟨o2', hu, hmp⟩ := run_upd w2.drew (gh (n - 1)).mb (gh (n - 1)).M hT.mp (tb, ky) (vl, !false)
 have q4 : w2.cell? ⟨w.heap.size, 4, none⟩ = some (.int .i64 vl) := (HKO.out 4 (by simp [opC])).1
 obtain ⟨k0, k1⟩ := kc1 HKS.out
 have HP : Hid (TrP B w2.drew (gh (n - 1)) { (x.tx.getD (n - 1) tx0) with own := (x.tx.getD (n - 1) tx0).own ++ [⟨tb, ky, vl, false⟩] } (setBlock w2.drew (gh (n - 1)).mb o2')) := hid (⟨_, hT.remap (fr_setBlock w2.drew (gh (n - 1)).mb o2') hmp (hT.mr.put ⟨tb, ky, vl, false⟩) (hT.mi.put hT.mp.nodup ht), rfl, fun b hb => .inl hb, (fr_setBlock w2.drew (gh (n - 1)).mb o2').mono (fun g e => .inr (.inl e))⟩)
 simp only [sptV, vsnV, Bool.not_false, Bool.not_true] at hu
 clear hmp hT q0 o0 o1 o2 o3
 go_region
 obtain ⟨W3, hW3⟩ : ∃ z, z = setBlock w2.drew (gh (n - 1)).mb o2' := ⟨_, rfl⟩
 rw [<- hW3]
 obtain ⟨gh', hM3, hfr, hft⟩ := HMD.out.put hi ho (x' := { (x.tx.getD (n - 1) tx0) with own := (x.tx.getD (n - 1) tx0).own ++ [⟨tb, ky, vl, false⟩] }) ho HP.out
 rw [<- hW3] at hM3 hfr
 have hfr := ((Fr.refl (foot sb L x gh) w2).drewR).trans hfr
 have hs3 := hfr.size
 have HM3 := hid hM3
 have HFR := hid hfr
 have HFT := hid hft
 clear hM3 hfr hft hW3 hu c34 q4 k0 k1 HP
 have KR3 := HKR.out.fr HFR.out (by omega) (fun z => by have := HFL.out _ z; omega)
 obtain ⟨⟨r0, fr0⟩, ⟨r1, fr1⟩, ⟨r2, fr2⟩, ⟨r3, fr3⟩, ⟨r4, fr4⟩⟩ := kb4 KR3
 obtain ⟨W4, hW4⟩ : ∃ z, z = set5 W3 (w.heap.size + 1) (.int .i64 0) (.int .i64 0) (.int .i64 0) (.bool false) (.slice none 0 0) := ⟨_, rfl⟩
 have f4 : Fr (fun q => q = w.heap.size + 1) W3 W4 := by rw [hW4]; exact chg_5 _ _ _ _ _ _ _
 have K4 : Blk W4 (w.heap.size + 1) (obsC 0 0 0 false (.slice none 0 0)) := by rw [hW4]; exact blk_set5 KR3 rfl
 obtain ⟨t0, t1, t2, t3, t4⟩ := kc4 K4
 have HF4 := hid f4
 unfold set5 at hW4
 clear K4 KR3 f4
 go_wp2
 rw [<- hW4]
 refine bodyPost_ret (v := .agg #[.int .i64 0, .int .i64 0, .int .i64 0, .bool false, .slice none 0 0]) (by simp [results, Tryz.results22, go_sem, t0, t1, t2, t3, t4]) rfl ?_
 rw [run_i4 x n tb ky vl md nm hn1 hn2 ho ht]
 exact AnsP.of (q := w.heap.size + 1) (pv := .slice none 0 0) HFL.out HB2.out (by omega) (by omega) HM3.out HFR.out HFT.out HF4.out (gr_nil _ _ _ _ _) (fun g hg => (nil_own g hg).elim) rfl
theorem run_i5 (x : Bas) (n : Nat) (tb ky vl md : Int) (nm : ByteArray) (hn1 : 1 <= n) (hn2 : n <= 4) (ho : opn x (n - 1) = true) (ht : 0 <= tb /\ tb < 32) : runF x ⟨5, (n : Int), tb, ky, vl, md, nm⟩ = ({ x with tx := x.tx.set (n - 1) { (x.tx.getD (n - 1) tx0) with own := (x.tx.getD (n - 1) tx0).own ++ [⟨tb, ky, vl, true⟩] } }, ⟨0, 0, 0, false, []⟩) := by
 have e : ((n : Int) - 1).toNat = n - 1 := by omega
 unfold runF
 simp only [e]
 rw [if_neg (by omega), if_neg (by rw [show (x.tx.getD (n - 1) tx0).op = true from ho]; decide)]
 rw [if_neg (by omega)]
 simp
theorem ans_5 (B sb n : Nat) (tb ky vl md : Int) (nm : ByteArray) (w : World) (x : Bas) (L : LIx -> Value) (c : Led) (gh : Nat -> TG) (op : Nat -> Option Addr) (h : IMem B sb w x L c gh op) (hb : Bnd x) (hck : x.ck < 1000) (hhl : x.hs.length < 1000) (hB : B <= w.heap.size) (hn1 : 1 <= n) (hn2 : n <= 4) (ho : opn x (n - 1) = true) (ht : 0 <= tb /\ tb < 32) :
 Calls Tryz.prog 22 #[.pointer (some ⟨sb, 0, none⟩), .agg #[.int .i64 5, .int .i64 (n : Int), .int .i64 tb, .int .i64 ky, .int .i64 vl, .int .i64 md, .string nm]] w fun e w' => AnsP B sb w x L gh (runF x ⟨5, (n : Int), tb, ky, vl, md, nm⟩) e w' := by
 have hi : n - 1 < 4 := by omega
 have e1 : n - 1 + 1 = n := by omega
 obtain ⟨w0, hw0⟩ : ∃ z, z = (w.alloc (.cells #[.int .i64 5, .int .i64 (n : Int), .int .i64 tb, .int .i64 ky, .int .i64 vl, .int .i64 md, .string nm] 41)).alloc (.cells #[.int .i64 0, .int .i64 0, .int .i64 0, .bool false, .slice none 0 0] 38) := ⟨_, rfl⟩
 have hb0 : Below w.heap.size w w0 := by rw [hw0]; exact (below_alloc _ _).trans ((below_alloc _ _).mono (by simp))
 have hz0 : w0.heap.size = w.heap.size + 1 + 1 := by rw [hw0]; simp
 have KO0 : Blk w0 w.heap.size (opC 5 n tb ky vl md nm) := by rw [hw0]; exact (blk_new w (opC 5 n tb ky vl md nm) _).below (below_alloc _ _) (by simp)
 have KR0 : Blk w0 (w.heap.size + 1) (obsC 0 0 0 false (.slice none 0 0)) := by
  have := blk_new (w.alloc (.cells #[.int .i64 5, .int .i64 (n : Int), .int .i64 tb, .int .i64 ky, .int .i64 vl, .int .i64 md, .string nm] 41)) (obsC 0 0 0 false (.slice none 0 0)) 38
  have e : (w.alloc (.cells #[.int .i64 5, .int .i64 (n : Int), .int .i64 tb, .int .i64 ky, .int .i64 vl, .int .i64 md, .string nm] 41)).heap.size = w.heap.size + 1 := by simp
  rw [e] at this
  rw [hw0]
  exact this
 have h0 := h.below hb0
 obtain ⟨hop, hT⟩ := h0.tr (n - 1) hi ho
 rw [e1] at hop
 clear hT
 obtain ⟨c0, _⟩ := ses_cell h0.ses (j := 66 + n) (by omega)
 rw [sesAt_op, hop] at c0
 have hfa := fault_in sb n 5 tb md ky vl (.string nm) (some ⟨(gh (n - 1)).g, 0, none⟩) w0 h0.sl (by omega) (by omega) hn1 hn2 c0
 rw [show faultC 5 n tb md ((some ⟨(gh (n - 1)).g, 0, none⟩)).isNone = 0 from (fault_t 5 n tb md _ (by omega) (by omega) (by omega) (by omega) ht)] at hfa
 have hni : (n : Int) < 5 := by omega
 have hsl := h.sl
 have hfl : ∀ g, foot sb L x gh g -> g < w.heap.size := fun g hg => (h.lt hg).2
 have HFL := hid hfl
 have HB := hid hb
 have HM := hid h0
 have HKO := hid KO0
 have HKR := hid KR0
 clear h0 h KO0 KR0 hfl hb
 rw [hw0] at hfa
 go_enter Tryz.func22, Tryz.ntmps22
 go_wp2_with (go_at_call 42; fail)
 refine hfa.mono ?_
 rw [<- hw0]
 rintro e w1 ⟨rfl, hb1⟩
 have hs1 := hb1.size
 have HB1 := hid (hb0.trans (hb1.mono hb0.size) : Below w.heap.size w w1)
 have KO := HKO.out.below hb1 (by omega)
 have KR := HKR.out.below hb1 (by omega)
 have c1 := (World.cell?_of_block (a := ⟨sb, 66 + n, none⟩) (hb1.block sb (by omega))).trans c0
 obtain ⟨o0, o1, o2, o3⟩ := kc3 KO
 obtain ⟨w2, hw2⟩ : ∃ z, z = (w1.alloc (.cells #[.int .i64 tb, .int .i64 ky] 113)).drew := ⟨_, rfl⟩
 have b2 : Below w1.heap.size w1 w2 := by rw [hw2]; exact (below_alloc _ _).drew
 have hz2 : w1.heap.size < w2.heap.size := by rw [hw2]; simp
 have KO2 := KO.below b2 (by omega)
 have KR2 := KR.below b2 (by omega)
 have KS2 : Blk w2 w1.heap.size [.int .i64 tb, .int .i64 ky] := by rw [hw2]; exact (blk_new w1 [.int .i64 tb, .int .i64 ky] _).drewR
 have q0 : (w1.alloc (.cells #[.int .i64 tb, .int .i64 ky] 113)).cell? ⟨w.heap.size, 0, none⟩ = some (.int .i64 5) := by rw [hw2] at KO2; exact (KO2 0 (by simp [opC])).1
 have HKO := hid KO2
 have HKR := hid KR2
 have HKS := hid KS2
 have HM2 := hid ((HM.out.below hb1).below b2)
 have HB2 := hid (HB1.out.trans (b2.mono HB1.out.size) : Below w.heap.size w w2)
 have HW2 := hid hw2
 clear hfa c0 hb1 HM KO KR KO2 KR2 KS2 b2 HB1
 clear hw2
 have hzz : w.heap.size + 1 < w1.heap.size := by omega
 go_wp2
 go_region
 go_wp2
 rw [<- HW2.out]
 have HMD := hid HM2.out.drew
 have hT := (HMD.out.tr (n - 1) hi ho).2
 have c34 := hT.c34
 obtain ⟨o2', hu, hmp⟩ := run_upd w2.drew (gh (n - 1)).mb (gh (n - 1)).M hT.mp (tb, ky) (0, !true)
 have q4 : w2.cell? ⟨w.heap.size, 4, none⟩ = some (.int .i64 vl) := (HKO.out 4 (by simp [opC])).1
 obtain ⟨k0, k1⟩ := kc1 HKS.out
 have HP : Hid (TrP B w2.drew (gh (n - 1)) { (x.tx.getD (n - 1) tx0) with own := (x.tx.getD (n - 1) tx0).own ++ [⟨tb, ky, vl, true⟩] } (setBlock w2.drew (gh (n - 1)).mb o2')) := hid (⟨_, hT.remap (fr_setBlock w2.drew (gh (n - 1)).mb o2') hmp (hT.mr.put ⟨tb, ky, vl, true⟩) (hT.mi.put hT.mp.nodup ht), rfl, fun b hb => .inl hb, (fr_setBlock w2.drew (gh (n - 1)).mb o2').mono (fun g e => .inr (.inl e))⟩)
 simp only [sptV, vsnV, Bool.not_false, Bool.not_true] at hu
 clear hmp hT q0 o0 o1 o2 o3
 go_region
 obtain ⟨W3, hW3⟩ : ∃ z, z = setBlock w2.drew (gh (n - 1)).mb o2' := ⟨_, rfl⟩
 rw [<- hW3]
 obtain ⟨gh', hM3, hfr, hft⟩ := HMD.out.put hi ho (x' := { (x.tx.getD (n - 1) tx0) with own := (x.tx.getD (n - 1) tx0).own ++ [⟨tb, ky, vl, true⟩] }) ho HP.out
 rw [<- hW3] at hM3 hfr
 have hfr := ((Fr.refl (foot sb L x gh) w2).drewR).trans hfr
 have hs3 := hfr.size
 have HM3 := hid hM3
 have HFR := hid hfr
 have HFT := hid hft
 clear hM3 hfr hft hW3 hu c34 q4 k0 k1 HP
 have KR3 := HKR.out.fr HFR.out (by omega) (fun z => by have := HFL.out _ z; omega)
 obtain ⟨⟨r0, fr0⟩, ⟨r1, fr1⟩, ⟨r2, fr2⟩, ⟨r3, fr3⟩, ⟨r4, fr4⟩⟩ := kb4 KR3
 obtain ⟨W4, hW4⟩ : ∃ z, z = set5 W3 (w.heap.size + 1) (.int .i64 0) (.int .i64 0) (.int .i64 0) (.bool false) (.slice none 0 0) := ⟨_, rfl⟩
 have f4 : Fr (fun q => q = w.heap.size + 1) W3 W4 := by rw [hW4]; exact chg_5 _ _ _ _ _ _ _
 have K4 : Blk W4 (w.heap.size + 1) (obsC 0 0 0 false (.slice none 0 0)) := by rw [hW4]; exact blk_set5 KR3 rfl
 obtain ⟨t0, t1, t2, t3, t4⟩ := kc4 K4
 have HF4 := hid f4
 unfold set5 at hW4
 clear K4 KR3 f4
 go_wp2
 rw [<- hW4]
 refine bodyPost_ret (v := .agg #[.int .i64 0, .int .i64 0, .int .i64 0, .bool false, .slice none 0 0]) (by simp [results, Tryz.results22, go_sem, t0, t1, t2, t3, t4]) rfl ?_
 rw [run_i5 x n tb ky vl md nm hn1 hn2 ho ht]
 exact AnsP.of (q := w.heap.size + 1) (pv := .slice none 0 0) HFL.out HB2.out (by omega) (by omega) HM3.out HFR.out HFT.out HF4.out (gr_nil _ _ _ _ _) (fun g hg => (nil_own g hg).elim) rfl
end Go.Proofs.YtblkgicbimflhaaGreat
