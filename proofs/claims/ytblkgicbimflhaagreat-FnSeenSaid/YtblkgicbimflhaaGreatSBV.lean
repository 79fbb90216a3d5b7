import Derived.Test.YtblkgicbimflhaaGreatSBO
namespace Go.Proofs.YtblkgicbimflhaaGreat
open Go.ChangeShapes Go.WideShapes Go.ChangeAt Go.RowKit
set_option linter.unusedVariables false
set_option linter.unusedSimpArgs false
set_option maxRecDepth 100000
set_option maxHeartbeats 16000000
def opC (k n tb ky vl md : Int) (nm : ByteArray) : List Value := [.int .i64 k, .int .i64 n, .int .i64 tb, .int .i64 ky, .int .i64 vl, .int .i64 md, .string nm]
theorem fault_ok (k n : Int) (tb md : Int) (pt : Addr) (hk : 6 <= k) (hk2 : k <= 10) (h1 : 1 <= n) (h2 : n <= 4) : faultC k n tb md (some pt).isNone = 0 := by
 unfold faultC
 rw [if_neg (by omega), if_neg (by simp; omega), if_neg (by omega), if_neg (by omega)]
theorem run_i7 (x : Bas) (n : Nat) (tb ky vl md : Int) (nm : ByteArray) (hn1 : 1 <= n) (hn2 : n <= 4) (ho : opn x (n - 1) = true) : runF x ⟨7, (n : Int), tb, ky, vl, md, nm⟩ = ({ x with tx := x.tx.set (n - 1) tx0 }, ⟨0, 0, 0, false, []⟩) := by
 have e : ((n : Int) - 1).toNat = n - 1 := by omega
 unfold runF
 simp only [e]
 rw [if_neg (by omega), if_neg (by rw [show (x.tx.getD (n - 1) tx0).op = true from ho]; decide)]
 rw [if_neg (by omega)]
 simp
theorem ans_7 (B sb n : Nat) (tb ky vl md : Int) (nm : ByteArray) (w : World) (x : Bas) (L : LIx -> Value) (c : Led) (gh : Nat -> TG) (op : Nat -> Option Addr) (h : IMem B sb w x L c gh op) (hb : Bnd x) (hck : x.ck < 1000) (hhl : x.hs.length < 1000) (hB : B <= w.heap.size) (hn1 : 1 <= n) (hn2 : n <= 4) (ho : opn x (n - 1) = true) :
 Calls Tryz.prog 22 #[.pointer (some ⟨sb, 0, none⟩), .agg #[.int .i64 7, .int .i64 (n : Int), .int .i64 tb, .int .i64 ky, .int .i64 vl, .int .i64 md, .string nm]] w fun e w' => AnsP B sb w x L gh (runF x ⟨7, (n : Int), tb, ky, vl, md, nm⟩) e w' := by
 have hi : n - 1 < 4 := by omega
 have e1 : n - 1 + 1 = n := by omega
 obtain ⟨w0, hw0⟩ : ∃ z, z = (w.alloc (.cells #[.int .i64 7, .int .i64 (n : Int), .int .i64 tb, .int .i64 ky, .int .i64 vl, .int .i64 md, .string nm] 41)).alloc (.cells #[.int .i64 0, .int .i64 0, .int .i64 0, .bool false, .slice none 0 0] 38) := ⟨_, rfl⟩
 have hb0 : Below w.heap.size w w0 := by rw [hw0]; exact (below_alloc _ _).trans ((below_alloc _ _).mono (by simp))
 have hz0 : w0.heap.size = w.heap.size + 1 + 1 := by rw [hw0]; simp
 have KO0 : Blk w0 w.heap.size (opC 7 n tb ky vl md nm) := by rw [hw0]; exact (blk_new w (opC 7 n tb ky vl md nm) _).below (below_alloc _ _) (by simp)
 have KR0 : Blk w0 (w.heap.size + 1) (obsC 0 0 0 false (.slice none 0 0)) := by
  have := blk_new (w.alloc (.cells #[.int .i64 7, .int .i64 (n : Int), .int .i64 tb, .int .i64 ky, .int .i64 vl, .int .i64 md, .string nm] 41)) (obsC 0 0 0 false (.slice none 0 0)) 38
  have e : (w.alloc (.cells #[.int .i64 7, .int .i64 (n : Int), .int .i64 tb, .int .i64 ky, .int .i64 vl, .int .i64 md, .string nm] 41)).heap.size = w.heap.size + 1 := by simp
  rw [e] at this
  rw [hw0]
  exact this
 have h0 := h.below hb0
 obtain ⟨hop, hT⟩ := h0.tr (n - 1) hi ho
 rw [e1] at hop
 clear hT
 obtain ⟨c0, _⟩ := ses_cell h0.ses (j := 66 + n) (by omega)
 rw [sesAt_op, hop] at c0
 have hfa := fault_in sb n 7 tb md ky vl (.string nm) (some ⟨(gh (n - 1)).g, 0, none⟩) w0 h0.sl (by omega) (by omega) hn1 hn2 c0
 rw [show faultC 7 n tb md ((some ⟨(gh (n - 1)).g, 0, none⟩)).isNone = 0 from (fault_ok 7 n tb md _ (by omega) (by omega) (by omega) (by omega))] at hfa
 have hni : (n : Int) < 5 := by omega
 have hsl := h.sl
 have hfl : ∀ g, foot sb L x gh g -> g < w.heap.size := fun g hg => (h.lt hg).2
 have HFL := hid hfl
 have HB := hid hb
 have HM := hid h0
 have HKO := hid KO0
 have HKR := hid KR0
 clear h0 h KO0 KR0 hfl hb
 rw [hw0] at hfa
 go_enter Tryz.func22, Tryz.ntmps22
 go_wp2_with (go_at_call 42; fail)
 refine hfa.mono ?_
 rw [<- hw0]
 rintro e w1 ⟨rfl, hb1⟩
 have hs1 := hb1.size
 have HB1 := hid (hb0.trans (hb1.mono hb0.size) : Below w.heap.size w w1)
 have KO := HKO.out.below hb1 (by omega)
 have KR := HKR.out.below hb1 (by omega)
 have c1 := (World.cell?_of_block (a := ⟨sb, 66 + n, none⟩) (hb1.block sb (by omega))).trans c0
 obtain ⟨o0, o1, o2, o3⟩ := kc3 KO
 obtain ⟨w2, hw2⟩ : ∃ z, z = (w1.alloc (.cells #[.int .i64 tb, .int .i64 ky] 113)).drew := ⟨_, rfl⟩
 have b2 : Below w1.heap.size w1 w2 := by rw [hw2]; exact (below_alloc _ _).drew
 have hz2 : w2.heap.size = w1.heap.size + 1 := by rw [hw2]; simp
 have KO2 := KO.below b2 (by omega)
 have KR2 := KR.below b2 (by omega)
 have KS2 : Blk w2 w1.heap.size [.int .i64 tb, .int .i64 ky] := by rw [hw2]; exact (blk_new w1 [.int .i64 tb, .int .i64 ky] _).drewR
 have q0 : (w1.alloc (.cells #[.int .i64 tb, .int .i64 ky] 113)).cell? ⟨w.heap.size, 0, none⟩ = some (.int .i64 7) := by rw [hw2] at KO2; exact (KO2 0 (by simp [opC])).1
 have HKO := hid KO2
 have HKR := hid KR2
 have HKS := hid KS2
 have HM2 := hid ((HM.out.below hb1).below b2)
 have HB2 := hid (HB1.out.trans (b2.mono HB1.out.size) : Below w.heap.size w w2)
 have HW2 := hid hw2
 clear hfa c0 hb1 HM KO KR KO2 KR2 KS2 b2 HB1
 have q1 : (w1.alloc (.cells #[.int .i64 tb, .int .i64 ky] 113)).cell? ⟨w.heap.size, 1, none⟩ = some (.int .i64 (n : Int)) := by have := HKO.out; rw [hw2] at this; exact (this 1 (by simp [opC])).1
 clear hw2
 have hzz : w.heap.size + 1 < w1.heap.size := by omega
 go_wp2
 go_region
 go_wp2_with (go_at_call 48; fail)
 rw [<- HW2.out]
 refine (end_any B sb n w2 x L c gh op HM2.out hn1 hn2 ho).mono ?_
 rintro e w3 ⟨⟨r, rfl⟩, ⟨op', hM3⟩, hfr⟩
 have hs3 := hfr.size
 have HM3 := hid hM3
 have HFR := hid hfr
 clear hM3 hfr
 have KR3 := HKR.out.fr HFR.out (by omega) (fun z => by have := HFL.out _ z; omega)
 obtain ⟨⟨r0, fr0⟩, ⟨r1, fr1⟩, ⟨r2, fr2⟩, ⟨r3, fr3⟩, ⟨r4, fr4⟩⟩ := kb4 KR3
 obtain ⟨W4, hW4⟩ : ∃ z, z = set5 w3 (w.heap.size + 1) (.int .i64 0) (.int .i64 0) (.int .i64 0) (.bool false) (.slice none 0 0) := ⟨_, rfl⟩
 have f4 : Fr (fun q => q = w.heap.size + 1) w3 W4 := by rw [hW4]; exact chg_5 _ _ _ _ _ _ _
 have K4 : Blk W4 (w.heap.size + 1) (obsC 0 0 0 false (.slice none 0 0)) := by rw [hW4]; exact blk_set5 KR3 rfl
 obtain ⟨t0, t1, t2, t3, t4⟩ := kc4 K4
 have HF4 := hid f4
 unfold set5 at hW4
 clear K4 KR3 f4
 go_wp2
 rw [<- hW4]
 refine bodyPost_ret (v := .agg #[.int .i64 0, .int .i64 0, .int .i64 0, .bool false, .slice none 0 0]) (by simp [results, Tryz.results22, go_sem, t0, t1, t2, t3, t4]) rfl ?_
 rw [run_i7 x n tb ky vl md nm hn1 hn2 ho]
 exact AnsP.of (q := w.heap.size + 1) (pv := .slice none 0 0) HFL.out HB2.out (by omega) (by omega) HM3.out HFR.out (fun g hg => .inl (foot_end (by rw [HM2.out.n4]; exact hi) hg)) HF4.out (gr_nil _ _ _ _ _) (fun g hg => (nil_own g hg).elim) rfl
def SvR (B sb : Nat) (w : World) (x : Bas) (L : LIx -> Value) (c : Led) (gh : Nat -> TG) (op : Nat -> Option Addr) (r : Bas × Int) (e : Ending) (w' : World) : Prop := ∃ gh', e = .returned (.int .i64 r.2) /\ IMem B sb w' r.1 L c gh' op /\ Fr (foot sb L x gh) w w' /\ ∀ g, foot sb L r.1 gh' g -> foot sb L x gh g \/ w.heap.size <= g
theorem SvR.same {B sb : Nat} {w w' : World} {x : Bas} {L : LIx -> Value} {c : Led} {gh : Nat -> TG} {op : Nat -> Option Addr} {code : Int} (h : IMem B sb w x L c gh op) {i : Nat} (hi : i < 4) (ho : opn x i = true) (ht : TrP B w (gh i) (x.tx.getD i tx0) w') : SvR B sb w x L c gh op (x, code) (.returned (.int .i64 code)) w' := by
 obtain ⟨gh', q1, q2, q3⟩ := h.put hi ho ho ht
 have e : ({ x with tx := x.tx.set i (x.tx.getD i tx0) } : Bas) = x := by
  have : x.tx.set i (x.tx.getD i tx0) = x.tx := by
   have hl : i < x.tx.length := by rw [h.n4]; exact hi
   rw [List.getD_eq_getElem?_getD, List.getElem?_eq_getElem hl]
   exact List.set_getElem_self hl
  rw [this]
 rw [e] at q1 q3
 exact ⟨gh', rfl, q1, q2, q3⟩
theorem sv_8 (B sb i : Nat) (w : World) (x : Bas) (L : LIx -> Value) (c : Led) (gh : Nat -> TG) (op : Nat -> Option Addr) (h : IMem B sb w x L c gh op) (hB : B <= w.heap.size) (hi : i < 4) (ho : opn x i = true) (nm : ByteArray) (ss tb ky vl md : Int) :
 Calls Tryz.prog 49 #[.pointer (some ⟨(gh i).g, 0, none⟩), .string nm] w fun e w' => SvR B sb w x L c gh op (savesF x i ⟨8, ss, tb, ky, vl, md, nm⟩) e w' := by
 refine (save_any B w (gh i) (x.tx.getD i tx0) (h.tr i hi ho).2 nm hB).mono ?_
 rintro e w' (⟨h1, rfl, rfl⟩ | ⟨h1, rfl, h2⟩)
 .have e8 : savesF x i ⟨8, ss, tb, ky, vl, md, nm⟩ = (x, 5) := by
   unfold savesF
   simp only
   rw [if_pos trivial, if_pos (by omega)]
  rw [e8]
  exact ⟨gh, rfl, h, Fr.refl _ _, fun g hg => .inl hg⟩
 .have e8 : savesF x i ⟨8, ss, tb, ky, vl, md, nm⟩ = ({ x with tx := x.tx.set i { (x.tx.getD i tx0) with sv := (x.tx.getD i tx0).sv ++ [⟨nm, (x.tx.getD i tx0).own⟩] } }, 0) := by
   unfold savesF
   simp only
   rw [if_pos trivial, if_neg (by omega)]
  rw [e8]
  obtain ⟨gh', q1, q2, q3⟩ := h.put hi ho (x' := { (x.tx.getD i tx0) with sv := (x.tx.getD i tx0).sv ++ [⟨nm, (x.tx.getD i tx0).own⟩] }) ho h2
  exact ⟨gh', rfl, q1, q2, q3⟩
theorem sv_9 (B sb i : Nat) (w : World) (x : Bas) (L : LIx -> Value) (c : Led) (gh : Nat -> TG) (op : Nat -> Option Addr) (h : IMem B sb w x L c gh op) (hB : B <= w.heap.size) (hi : i < 4) (ho : opn x i = true) (nm : ByteArray) (ss tb ky vl md : Int) :
 Calls Tryz.prog 50 #[.pointer (some ⟨(gh i).g, 0, none⟩), .string nm] w fun e w' => SvR B sb w x L c gh op (savesF x i ⟨9, ss, tb, ky, vl, md, nm⟩) e w' := by
 refine (back_any B w (gh i) (x.tx.getD i tx0) (h.tr i hi ho).2 nm).mono ?_
 intro e w' hr
 unfold RelP at hr
 cases hq : savedF (x.tx.getD i tx0).sv nm with
 | none =>
   rw [hq] at hr
   obtain ⟨rfl, h2⟩ := hr
   have e8 : savesF x i ⟨9, ss, tb, ky, vl, md, nm⟩ = (x, 23) := by
    unfold savesF
    simp only
    rw [if_neg (by decide), hq]
   rw [e8]
   exact SvR.same h hi ho h2
 | some k =>
   rw [hq] at hr
   obtain ⟨rfl, h2⟩ := hr
   have e8 : savesF x i ⟨9, ss, tb, ky, vl, md, nm⟩ = ({ x with tx := x.tx.set i { (x.tx.getD i tx0) with own := ((x.tx.getD i tx0).sv.getD k sv0).cs, sv := (x.tx.getD i tx0).sv.take (k + 1) } }, 0) := by
    unfold savesF
    simp only
    rw [if_neg (by decide), hq]
    rfl
   rw [e8]
   obtain ⟨gh', q1, q2, q3⟩ := h.put hi ho (x' := { (x.tx.getD i tx0) with own := ((x.tx.getD i tx0).sv.getD k sv0).cs, sv := (x.tx.getD i tx0).sv.take (k + 1) }) ho h2
   exact ⟨gh', rfl, q1, q2, q3⟩
theorem sv_10 (B sb i : Nat) (w : World) (x : Bas) (L : LIx -> Value) (c : Led) (gh : Nat -> TG) (op : Nat -> Option Addr) (h : IMem B sb w x L c gh op) (hB : B <= w.heap.size) (hi : i < 4) (ho : opn x i = true) (nm : ByteArray) (ss tb ky vl md : Int) :
 Calls Tryz.prog 51 #[.pointer (some ⟨(gh i).g, 0, none⟩), .string nm] w fun e w' => SvR B sb w x L c gh op (savesF x i ⟨10, ss, tb, ky, vl, md, nm⟩) e w' := by
 refine (release_any B w (gh i) (x.tx.getD i tx0) (h.tr i hi ho).2 nm).mono ?_
 intro e w' hr
 unfold RelP at hr
 cases hq : savedF (x.tx.getD i tx0).sv nm with
 | none =>
   rw [hq] at hr
   obtain ⟨rfl, h2⟩ := hr
   have e8 : savesF x i ⟨10, ss, tb, ky, vl, md, nm⟩ = (x, 23) := by
    unfold savesF
    simp only
    rw [if_neg (by decide), hq]
   rw [e8]
   exact SvR.same h hi ho h2
 | some k =>
   rw [hq] at hr
   obtain ⟨rfl, h2⟩ := hr
   have e8 : savesF x i ⟨10, ss, tb, ky, vl, md, nm⟩ = ({ x with tx := x.tx.set i { (x.tx.getD i tx0) with sv := (x.tx.getD i tx0).sv.take k } }, 0) := by
    unfold savesF
    simp only
    rw [if_neg (by decide), hq]
    rfl
   rw [e8]
   obtain ⟨gh', q1, q2, q3⟩ := h.put hi ho (x' := { (x.tx.getD i tx0) with sv := (x.tx.getD i tx0).sv.take k }) ho h2
   exact ⟨gh', rfl, q1, q2, q3⟩
theorem run_i8 (x : Bas) (n : Nat) (tb ky vl md : Int) (nm : ByteArray) (hn1 : 1 <= n) (hn2 : n <= 4) (ho : opn x (n - 1) = true) : runF x ⟨8, (n : Int), tb, ky, vl, md, nm⟩ = ((savesF x (n - 1) ⟨8, (n : Int), tb, ky, vl, md, nm⟩).1, ⟨(savesF x (n - 1) ⟨8, (n : Int), tb, ky, vl, md, nm⟩).2, 0, 0, false, []⟩) := by
 have e : ((n : Int) - 1).toNat = n - 1 := by omega
 unfold runF
 simp only [e]
 rw [if_neg (by omega), if_neg (by rw [show (x.tx.getD (n - 1) tx0).op = true from ho]; decide)]
 rw [if_neg (by omega)]
 simp
theorem ans_8 (B sb n : Nat) (tb ky vl md : Int) (nm : ByteArray) (w : World) (x : Bas) (L : LIx -> Value) (c : Led) (gh : Nat -> TG) (op : Nat -> Option Addr) (h : IMem B sb w x L c gh op) (hb : Bnd x) (hck : x.ck < 1000) (hhl : x.hs.length < 1000) (hB : B <= w.heap.size) (hn1 : 1 <= n) (hn2 : n <= 4) (ho : opn x (n - 1) = true) :
 Calls Tryz.prog 22 #[.pointer (some ⟨sb, 0, none⟩), .agg #[.int .i64 8, .int .i64 (n : Int), .int .i64 tb, .int .i64 ky, .int .i64 vl, .int .i64 md, .string nm]] w fun e w' => AnsP B sb w x L gh (runF x ⟨8, (n : Int), tb, ky, vl, md, nm⟩) e w' := by
 have hi : n - 1 < 4 := by omega
 have e1 : n - 1 + 1 = n := by omega
 obtain ⟨w0, hw0⟩ : ∃ z, z = (w.alloc (.cells #[.int .i64 8, .int .i64 (n : Int), .int .i64 tb, .int .i64 ky, .int .i64 vl, .int .i64 md, .string nm] 41)).alloc (.cells #[.int .i64 0, .int .i64 0, .int .i64 0, .bool false, .slice none 0 0] 38) := ⟨_, rfl⟩
 have hb0 : Below w.heap.size w w0 := by rw [hw0]; exact (below_alloc _ _).trans ((below_alloc _ _).mono (by simp))
 have hz0 : w0.heap.size = w.heap.size + 1 + 1 := by rw [hw0]; simp
 have KO0 : Blk w0 w.heap.size (opC 8 n tb ky vl md nm) := by rw [hw0]; exact (blk_new w (opC 8 n tb ky vl md nm) _).below (below_alloc _ _) (by simp)
 have KR0 : Blk w0 (w.heap.size + 1) (obsC 0 0 0 false (.slice none 0 0)) := by
  have := blk_new (w.alloc (.cells #[.int .i64 8, .int .i64 (n : Int), .int .i64 tb, .int .i64 ky, .int .i64 vl, .int .i64 md, .string nm] 41)) (obsC 0 0 0 false (.slice none 0 0)) 38
  have e : (w.alloc (.cells #[.int .i64 8, .int .i64 (n : Int), .int .i64 tb, .int .i64 ky, .int .i64 vl, .int .i64 md, .string nm] 41)).heap.size = w.heap.size + 1 := by simp
  rw [e] at this
  rw [hw0]
  exact this
 have h0 := h.below hb0
 obtain ⟨hop, hT⟩ := h0.tr (n - 1) hi ho
 rw [e1] at hop
 clear hT
 obtain ⟨c0, _⟩ := ses_cell h0.ses (j := 66 + n) (by omega)
 rw [sesAt_op, hop] at c0
 have hfa := fault_in sb n 8 tb md ky vl (.string nm) (some ⟨(gh (n - 1)).g, 0, none⟩) w0 h0.sl (by omega) (by omega) hn1 hn2 c0
 rw [show faultC 8 n tb md ((some ⟨(gh (n - 1)).g, 0, none⟩)).isNone = 0 from (fault_ok 8 n tb md _ (by omega) (by omega) (by omega) (by omega))] at hfa
 have hni : (n : Int) < 5 := by omega
 have hsl := h.sl
 have hfl : ∀ g, foot sb L x gh g -> g < w.heap.size := fun g hg => (h.lt hg).2
 have HFL := hid hfl
 have HB := hid hb
 have HM := hid h0
 have HKO := hid KO0
 have HKR := hid KR0
 clear h0 h KO0 KR0 hfl hb
 rw [hw0] at hfa
 go_enter Tryz.func22, Tryz.ntmps22
 go_wp2_with (go_at_call 42; fail)
 refine hfa.mono ?_
 rw [<- hw0]
 rintro e w1 ⟨rfl, hb1⟩
 have hs1 := hb1.size
 have HB1 := hid (hb0.trans (hb1.mono hb0.size) : Below w.heap.size w w1)
 have KO := HKO.out.below hb1 (by omega)
 have KR := HKR.out.below hb1 (by omega)
 have c1 := (World.cell?_of_block (a := ⟨sb, 66 + n, none⟩) (hb1.block sb (by omega))).trans c0
 obtain ⟨o0, o1, o2, o3⟩ := kc3 KO
 obtain ⟨w2, hw2⟩ : ∃ z, z = (w1.alloc (.cells #[.int .i64 tb, .int .i64 ky] 113)).drew := ⟨_, rfl⟩
 have b2 : Below w1.heap.size w1 w2 := by rw [hw2]; exact (below_alloc _ _).drew
 have hz2 : w2.heap.size = w1.heap.size + 1 := by rw [hw2]; simp
 have KO2 := KO.below b2 (by omega)
 have KR2 := KR.below b2 (by omega)
 have KS2 : Blk w2 w1.heap.size [.int .i64 tb, .int .i64 ky] := by rw [hw2]; exact (blk_new w1 [.int .i64 tb, .int .i64 ky] _).drewR
 have q0 : (w1.alloc (.cells #[.int .i64 tb, .int .i64 ky] 113)).cell? ⟨w.heap.size, 0, none⟩ = some (.int .i64 8) := by rw [hw2] at KO2; exact (KO2 0 (by simp [opC])).1
 have HKO := hid KO2
 have HKR := hid KR2
 have HKS := hid KS2
 have HM2 := hid ((HM.out.below hb1).below b2)
 have HB2 := hid (HB1.out.trans (b2.mono HB1.out.size) : Below w.heap.size w w2)
 have HW2 := hid hw2
 clear hfa c0 hb1 HM KO KR KO2 KR2 KS2 b2 HB1
 have q6 : (w1.alloc (.cells #[.int .i64 tb, .int .i64 ky] 113)).cell? ⟨w.heap.size, 6, none⟩ = some (.string nm) := by have := HKO.out; rw [hw2] at this; exact (this 6 (by simp [opC])).1
 clear hw2
 have hzz : w.heap.size + 1 < w1.heap.size := by omega
 go_wp2
 go_region
 go_wp2_with (go_at_call 49; fail)
 rw [<- HW2.out]
 refine (sv_8 B sb (n - 1) w2 x L c gh op HM2.out (by omega) hi ho nm (n : Int) tb ky vl md).mono ?_
 rintro e w3 ⟨gh', rfl, hM3, hfr, hft⟩
 have hs3 := hfr.size
 have HM3 := hid hM3
 have HFR := hid hfr
 have HFT := hid hft
 clear hM3 hfr hft
 have HRN := hid (run_i8 x n tb ky vl md nm hn1 hn2 ho)
 generalize savesF x (n - 1) ⟨8, (n : Int), tb, ky, vl, md, nm⟩ = res at HM3 HFT HRN ⊢
 obtain ⟨x2, code⟩ := res
 simp only at HM3 HFT HRN ⊢
 have KR3 := HKR.out.fr HFR.out (by omega) (fun z => by have := HFL.out _ z; omega)
 obtain ⟨⟨r0, fr0⟩, ⟨r1, fr1⟩, ⟨r2, fr2⟩, ⟨r3, fr3⟩, ⟨r4, fr4⟩⟩ := kb4 KR3
 obtain ⟨W4, hW4⟩ : ∃ z, z = set5 w3 (w.heap.size + 1) (.int .i64 code) (.int .i64 0) (.int .i64 0) (.bool false) (.slice none 0 0) := ⟨_, rfl⟩
 have f4 : Fr (fun q => q = w.heap.size + 1) w3 W4 := by rw [hW4]; exact chg_5 _ _ _ _ _ _ _
 have K4 : Blk W4 (w.heap.size + 1) (obsC code 0 0 false (.slice none 0 0)) := by rw [hW4]; exact blk_set5 KR3 rfl
 obtain ⟨t0, t1, t2, t3, t4⟩ := kc4 K4
 have HF4 := hid f4
 unfold set5 at hW4
 clear K4 KR3 f4
 go_wp2
 rw [<- hW4]
 refine bodyPost_ret (v := .agg #[.int .i64 code, .int .i64 0, .int .i64 0, .bool false, .slice none 0 0]) (by simp [results, Tryz.results22, go_sem, t0, t1, t2, t3, t4]) rfl ?_
 rw [HRN.out]
 exact AnsP.of (q := w.heap.size + 1) (pv := .slice none 0 0) HFL.out HB2.out (by omega) (by omega) HM3.out HFR.out HFT.out HF4.out (gr_nil _ _ _ _ _) (fun g hg => (nil_own g hg).elim) rfl
theorem run_i9 (x : Bas) (n : Nat) (tb ky vl md : Int) (nm : ByteArray) (hn1 : 1 <= n) (hn2 : n <= 4) (ho : opn x (n - 1) = true) : runF x ⟨9, (n : Int), tb, ky, vl, md, nm⟩ = ((savesF x (n - 1) ⟨9, (n : Int), tb, ky, vl, md, nm⟩).1, ⟨(savesF x (n - 1) ⟨9, (n : Int), tb, ky, vl, md, nm⟩).2, 0, 0, false, []⟩) := by
 have e : ((n : Int) - 1).toNat = n - 1 := by omega
 unfold runF
 simp only [e]
 rw [if_neg (by omega), if_neg (by rw [show (x.tx.getD (n - 1) tx0).op = true from ho]; decide)]
 rw [if_neg (by omega)]
 simp
theorem ans_9 (B sb n : Nat) (tb ky vl md : Int) (nm : ByteArray) (w : World) (x : Bas) (L : LIx -> Value) (c : Led) (gh : Nat -> TG) (op : Nat -> Option Addr) (h : IMem B sb w x L c gh op) (hb : Bnd x) (hck : x.ck < 1000) (hhl : x.hs.length < 1000) (hB : B <= w.heap.size) (hn1 : 1 <= n) (hn2 : n <= 4) (ho : opn x (n - 1) = true) :
 Calls Tryz.prog 22 #[.pointer (some ⟨sb, 0, none⟩), .agg #[.int .i64 9, .int .i64 (n : Int), .int .i64 tb, .int .i64 ky, .int .i64 vl, .int .i64 md, .string nm]] w fun e w' => AnsP B sb w x L gh (runF x ⟨9, (n : Int), tb, ky, vl, md, nm⟩) e w' := by
 have hi : n - 1 < 4 := by omega
 have e1 : n - 1 + 1 = n := by omega
 obtain ⟨w0, hw0⟩ : ∃ z, z = (w.alloc (.cells #[.int .i64 9, .int .i64 (n : Int), .int .i64 tb, .int .i64 ky, .int .i64 vl, .int .i64 md, .string nm] 41)).alloc (.cells #[.int .i64 0, .int .i64 0, .int .i64 0, .bool false, .slice none 0 0] 38) := ⟨_, rfl⟩
 have hb0 : Below w.heap.size w w0 := by rw [hw0]; exact (below_alloc _ _).trans ((below_alloc _ _).mono (by simp))
 have hz0 : w0.heap.size = w.heap.size + 1 + 1 := by rw [hw0]; simp
 have KO0 : Blk w0 w.heap.size (opC 9 n tb ky vl md nm) := by rw [hw0]; exact (blk_new w (opC 9 n tb ky vl md nm) _).below (below_alloc _ _) (by simp)
 have KR0 : Blk w0 (w.heap.size + 1) (obsC 0 0 0 false (.slice none 0 0)) := by
  have := blk_new (w.alloc (.cells #[.int .i64 9, .int .i64 (n : Int), .int .i64 tb, .int .i64 ky, .int .i64 vl, .int .i64 md, .string nm] 41)) (obsC 0 0 0 false (.slice none 0 0)) 38
  have e : (w.alloc (.cells #[.int .i64 9, .int .i64 (n : Int), .int .i64 tb, .int .i64 ky, .int .i64 vl, .int .i64 md, .string nm] 41)).heap.size = w.heap.size + 1 := by simp
  rw [e] at this
  rw [hw0]
  exact this
 have h0 := h.below hb0
 obtain ⟨hop, hT⟩ := h0.tr (n - 1) hi ho
 rw [e1] at hop
 clear hT
 obtain ⟨c0, _⟩ := ses_cell h0.ses (j := 66 + n) (by omega)
 rw [sesAt_op, hop] at c0
 have hfa := fault_in sb n 9 tb md ky vl (.string nm) (some ⟨(gh (n - 1)).g, 0, none⟩) w0 h0.sl (by omega) (by omega) hn1 hn2 c0
 rw [show faultC 9 n tb md ((some ⟨(gh (n - 1)).g, 0, none⟩)).isNone = 0 from (fault_ok 9 n tb md _ (by omega) (by omega) (by omega) (by omega))] at hfa
 have hni : (n : Int) < 5 := by omega
 have hsl := h.sl
 have hfl : ∀ g, foot sb L x gh g -> g < w.heap.size := fun g hg => (h.lt hg).2
 have HFL := hid hfl
 have HB := hid hb
 have HM := hid h0
 have HKO := hid KO0
 have HKR := hid KR0
 clear h0 h KO0 KR0 hfl hb
 rw [hw0] at hfa
 go_enter Tryz.func22, Tryz.ntmps22
 go_wp2_with (go_at_call 42; fail)
 refine hfa.mono ?_
 rw [<- hw0]
 rintro e w1 ⟨rfl, hb1⟩
 have hs1 := hb1.size
 have HB1 := hid (hb0.trans (hb1.mono hb0.size) : Below w.heap.size w w1)
 have KO := HKO.out.below hb1 (by omega)
 have KR := HKR.out.below hb1 (by omega)
 have c1 := (World.cell?_of_block (a := ⟨sb, 66 + n, none⟩) (hb1.block sb (by omega))).trans c0
 obtain ⟨o0, o1, o2, o3⟩ := kc3 KO
 obtain ⟨w2, hw2⟩ : ∃ z, z = (w1.alloc (.cells #[.int .i64 tb, .int .i64 ky] 113)).drew := ⟨_, rfl⟩
 have b2 : Below w1.heap.size w1 w2 := by rw [hw2]; exact (below_alloc _ _).drew
 have hz2 : w2.heap.size = w1.heap.size + 1 := by rw [hw2]; simp
 have KO2 := KO.below b2 (by omega)
 have KR2 := KR.below b2 (by omega)
 have KS2 : Blk w2 w1.heap.size [.int .i64 tb, .int .i64 ky] := by rw [hw2]; exact (blk_new w1 [.int .i64 tb, .int .i64 ky] _).drewR
 have q0 : (w1.alloc (.cells #[.int .i64 tb, .int .i64 ky] 113)).cell? ⟨w.heap.size, 0, none⟩ = some (.int .i64 9) := by rw [hw2] at KO2; exact (KO2 0 (by simp [opC])).1
 have HKO := hid KO2
 have HKR := hid KR2
 have HKS := hid KS2
 have HM2 := hid ((HM.out.below hb1).below b2)
 have HB2 := hid (HB1.out.trans (b2.mono HB1.out.size) : Below w.heap.size w w2)
 have HW2 := hid hw2
 clear hfa c0 hb1 HM KO KR KO2 KR2 KS2 b2 HB1
 have q6 : (w1.alloc (.cells #[.int .i64 tb, .int .i64 ky] 113)).cell? ⟨w.heap.size, 6, none⟩ = some (.string nm) := by have := HKO.out; rw [hw2] at this; exact (this 6 (by simp [opC])).1
 clear hw2
 have hzz : w.heap.size + 1 < w1.heap.size := by omega
 go_wp2
 go_region
 go_wp2_with (go_at_call 50; fail)
 rw [<- HW2.out]
 refine (sv_9 B sb (n - 1) w2 x L c gh op HM2.out (by omega) hi ho nm (n : Int) tb ky vl md).mono ?_
 rintro e w3 ⟨gh', rfl, hM3, hfr, hft⟩
 have hs3 := hfr.size
 have HM3 := hid hM3
 have HFR := hid hfr
 have HFT := hid hft
 clear hM3 hfr hft
 have HRN := hid (run_i9 x n tb ky vl md nm hn1 hn2 ho)
 generalize savesF x (n - 1) ⟨9, (n : Int), tb, ky, vl, md, nm⟩ = res at HM3 HFT HRN ⊢
 obtain ⟨x2, code⟩ := res
 simp only at HM3 HFT HRN ⊢
 have KR3 := HKR.out.fr HFR.out (by omega) (fun z => by have := HFL.out _ z; omega)
 obtain ⟨⟨r0, fr0⟩, ⟨r1, fr1⟩, ⟨r2, fr2⟩, ⟨r3, fr3⟩, ⟨r4, fr4⟩⟩ := kb4 KR3
 obtain ⟨W4, hW4⟩ : ∃ z, z = set5 w3 (w.heap.size + 1) (.int .i64 code) (.int .i64 0) (.int .i64 0) (.bool false) (.slice none 0 0) := ⟨_, rfl⟩
 have f4 : Fr (fun q => q = w.heap.size + 1) w3 W4 := by rw [hW4]; exact chg_5 _ _ _ _ _ _ _
 have K4 : Blk W4 (w.heap.size + 1) (obsC code 0 0 false (.slice none 0 0)) := by rw [hW4]; exact blk_set5 KR3 rfl
 obtain ⟨t0, t1, t2, t3, t4⟩ := kc4 K4
 have HF4 := hid f4
 unfold set5 at hW4
 clear K4 KR3 f4
 go_wp2
 rw [<- hW4]
 refine bodyPost_ret (v := .agg #[.int .i64 code, .int .i64 0, .int .i64 0, .bool false, .slice none 0 0]) (by simp [results, Tryz.results22, go_sem, t0, t1, t2, t3, t4]) rfl ?_
 rw [HRN.out]
 exact AnsP.of (q := w.heap.size + 1) (pv := .slice none 0 0) HFL.out HB2.out (by omega) (by omega) HM3.out HFR.out HFT.out HF4.out (gr_nil _ _ _ _ _) (fun g hg => (nil_own g hg).elim) rfl
theorem run_i10 (x : Bas) (n : Nat) (tb ky vl md : Int) (nm : ByteArray) (hn1 : 1 <= n) (hn2 : n <= 4) (ho : opn x (n - 1) = true) : runF x ⟨10, (n : Int), tb, ky, vl, md, nm⟩ = ((savesF x (n - 1) ⟨10, (n : Int), tb, ky, vl, md, nm⟩).1, ⟨(savesF x (n - 1) ⟨10, (n : Int), tb, ky, vl, md, nm⟩).2, 0, 0, false, []⟩) := by
 have e : ((n : Int) - 1).toNat = n - 1 := by omega
 unfold runF
 simp only [e]
 rw [if_neg (by omega), if_neg (by rw [show (x.tx.getD (n - 1) tx0).op = true from ho]; decide)]
 rw [if_neg (by omega)]
 simp
theorem ans_10 (B sb n : Nat) (tb ky vl md : Int) (nm : ByteArray) (w : World) (x : Bas) (L : LIx -> Value) (c : Led) (gh : Nat -> TG) (op : Nat -> Option Addr) (h : IMem B sb w x L c gh op) (hb : Bnd x) (hck : x.ck < 1000) (hhl : x.hs.length < 1000) (hB : B <= w.heap.size) (hn1 : 1 <= n) (hn2 : n <= 4) (ho : opn x (n - 1) = true) :
 Calls Tryz.prog 22 #[.pointer (some ⟨sb, 0, none⟩), .agg #[.int .i64 10, .int .i64 (n : Int), .int .i64 tb, .int .i64 ky, .int .i64 vl, .int .i64 md, .string nm]] w fun e w' => AnsP B sb w x L gh (runF x ⟨10, (n : Int), tb, ky, vl, md, nm⟩) e w' := by
 have hi : n - 1 < 4 := by omega
 have e1 : n - 1 + 1 = n := by omega
 obtain ⟨w0, hw0⟩ : ∃ z, z = (w.alloc (.cells #[.int .i64 10, .int .i64 (n : Int), .int .i64 tb, .int .i64 ky, .int .i64 vl, .int .i64 md, .string nm] 41)).alloc (.cells #[.int .i64 0, .int .i64 0, .int .i64 0, .bool false, .slice none 0 0] 38) := ⟨_, rfl⟩
 have hb0 : Below w.heap.size w w0 := by rw [hw0]; exact (below_alloc _ _).trans ((below_alloc _ _).mono (by simp))
 have hz0 : w0.heap.size = w.heap.size + 1 + 1 := by rw [hw0]; simp
 have KO0 : Blk w0 w.heap.size (opC 10 n tb ky vl md nm) := by rw [hw0]; exact (blk_new w (opC 10 n tb ky vl md nm) _).below (below_alloc _ _) (by simp)
 have KR0 : Blk w0 (w.heap.size + 1) (obsC 0 0 0 false (.slice none 0 0)) := by
  have := blk_new (w.alloc (.cells #[.int .i64 10, .int .i64 (n : Int), .int .i64 tb, .int .i64 ky, .int .i64 vl, .int .i64 md, .string nm] 41)) (obsC 0 0 0 false (.slice none 0 0)) 38
  have e : (w.alloc (.cells #[.int .i64 10, .int .i64 (n : Int), .int .i64 tb, .int .i64 ky, .int .i64 vl, .int .i64 md, .string nm] 41)).heap.size = w.heap.size + 1 := by simp
  rw [e] at this
  rw [hw0]
  exact this
 have h0 := h.below hb0
 obtain ⟨hop, hT⟩ := h0.tr (n - 1) hi ho
 rw [e1] at hop
 clear hT
 obtain ⟨c0, _⟩ := ses_cell h0.ses (j := 66 + n) (by omega)
 rw [sesAt_op, hop] at c0
 have hfa := fault_in sb n 10 tb md ky vl (.string nm) (some ⟨(gh (n - 1)).g, 0, none⟩) w0 h0.sl (by omega) (by omega) hn1 hn2 c0
 rw [show faultC 10 n tb md ((some ⟨(gh (n - 1)).g, 0, none⟩)).isNone = 0 from (fault_ok 10 n tb md _ (by omega) (by omega) (by omega) (by omega))] at hfa
 have hni : (n : Int) < 5 := by omega
 have hsl := h.sl
 have hfl : ∀ g, foot sb L x gh g -> g < w.heap.size := fun g hg => (h.lt hg).2
 have HFL := hid hfl
 have HB := hid hb
 have HM := hid h0
 have HKO := hid KO0
 have HKR := hid KR0
 clear h0 h KO0 KR0 hfl hb
 rw [hw0] at hfa
 go_enter Tryz.func22, Tryz.ntmps22
 go_wp2_with (go_at_call 42; fail)
 refine hfa.mono ?_
 rw [<- hw0]
 rintro e w1 ⟨rfl, hb1⟩
 have hs1 := hb1.size
 have HB1 := hid (hb0.trans (hb1.mono hb0.size) : Below w.heap.size w w1)
 have KO := HKO.out.below hb1 (by omega)
 have KR := HKR.out.below hb1 (by omega)
 have c1 := (World.cell?_of_block (a := ⟨sb, 66 + n, none⟩) (hb1.block sb (by omega))).trans c0
 obtain ⟨o0, o1, o2, o3⟩ := kc3 KO
 obtain ⟨w2, hw2⟩ : ∃ z, z = (w1.alloc (.cells #[.int .i64 tb, .int .i64 ky] 113)).drew := ⟨_, rfl⟩
 have b2 : Below w1.heap.size w1 w2 := by rw [hw2]; exact (below_alloc _ _).drew
 have hz2 : w2.heap.size = w1.heap.size + 1 := by rw [hw2]; simp
 have KO2 := KO.below b2 (by omega)
 have KR2 := KR.below b2 (by omega)
 have KS2 : Blk w2 w1.heap.size [.int .i64 tb, .int .i64 ky] := by rw [hw2]; exact (blk_new w1 [.int .i64 tb, .int .i64 ky] _).drewR
 have q0 : (w1.alloc (.cells #[.int .i64 tb, .int .i64 ky] 113)).cell? ⟨w.heap.size, 0, none⟩ = some (.int .i64 10) := by rw [hw2] at KO2; exact (KO2 0 (by simp [opC])).1
 have HKO := hid KO2
 have HKR := hid KR2
 have HKS := hid KS2
 have HM2 := hid ((HM.out.below hb1).below b2)
 have HB2 := hid (HB1.out.trans (b2.mono HB1.out.size) : Below w.heap.size w w2)
 have HW2 := hid hw2
 clear hfa c0 hb1 HM KO KR KO2 KR2 KS2 b2 HB1
 have q6 : (w1.alloc (.cells #[.int .i64 tb, .int .i64 ky] 113)).cell? ⟨w.heap.size, 6, none⟩ = some (.string nm) := by have := HKO.out; rw [hw2] at this; exact (this 6 (by simp [opC])).1
 clear hw2
 have hzz : w.heap.size + 1 < w1.heap.size := by omega
 go_wp2
 go_region
 go_wp2_with (go_at_call 51; fail)
 rw [<- HW2.out]
 refine (sv_10 B sb (n - 1) w2 x L c gh op HM2.out (by omega) hi ho nm (n : Int) tb ky vl md).mono ?_
 rintro e w3 ⟨gh', rfl, hM3, hfr, hft⟩
 have hs3 := hfr.size
 have HM3 := hid hM3
 have HFR := hid hfr
 have HFT := hid hft
 clear hM3 hfr hft
 have HRN := hid (run_i10 x n tb ky vl md nm hn1 hn2 ho)
 generalize savesF x (n - 1) ⟨10, (n : Int), tb, ky, vl, md, nm⟩ = res at HM3 HFT HRN ⊢
 obtain ⟨x2, code⟩ := res
 simp only at HM3 HFT HRN ⊢
 have KR3 := HKR.out.fr HFR.out (by omega) (fun z => by have := HFL.out _ z; omega)
 obtain ⟨⟨r0, fr0⟩, ⟨r1, fr1⟩, ⟨r2, fr2⟩, ⟨r3, fr3⟩, ⟨r4, fr4⟩⟩ := kb4 KR3
 obtain ⟨W4, hW4⟩ : ∃ z, z = set5 w3 (w.heap.size + 1) (.int .i64 code) (.int .i64 0) (.int .i64 0) (.bool false) (.slice none 0 0) := ⟨_, rfl⟩
 have f4 : Fr (fun q => q = w.heap.size + 1) w3 W4 := by rw [hW4]; exact chg_5 _ _ _ _ _ _ _
 have K4 : Blk W4 (w.heap.size + 1) (obsC code 0 0 false (.slice none 0 0)) := by rw [hW4]; exact blk_set5 KR3 rfl
 obtain ⟨t0, t1, t2, t3, t4⟩ := kc4 K4
 have HF4 := hid f4
 unfold set5 at hW4
 clear K4 KR3 f4
 go_wp2
 rw [<- hW4]
 refine bodyPost_ret (v := .agg #[.int .i64 code, .int .i64 0, .int .i64 0, .bool false, .slice none 0 0]) (by simp [results, Tryz.results22, go_sem, t0, t1, t2, t3, t4]) rfl ?_
 rw [HRN.out]
 exact AnsP.of (q := w.heap.size + 1) (pv := .slice none 0 0) HFL.out HB2.out (by omega) (by omega) HM3.out HFR.out HFT.out HF4.out (gr_nil _ _ _ _ _) (fun g hg => (nil_own g hg).elim) rfl
theorem run_i6 (x : Bas) (n : Nat) (tb ky vl md : Int) (nm : ByteArray) (hn1 : 1 <= n) (hn2 : n <= 4) (ho : opn x (n - 1) = true) : runF x ⟨6, (n : Int), tb, ky, vl, md, nm⟩ = ((commitF x (n - 1)).1, ⟨(commitF x (n - 1)).2.2, 0, (commitF x (n - 1)).2.1, false, []⟩) := by
 have e : ((n : Int) - 1).toNat = n - 1 := by omega
 unfold runF
 simp only [e]
 rw [if_neg (by omega), if_neg (by rw [show (x.tx.getD (n - 1) tx0).op = true from ho]; decide)]
 rw [if_neg (by omega)]
 simp
theorem ans_6 (B sb n : Nat) (tb ky vl md : Int) (nm : ByteArray) (w : World) (x : Bas) (L : LIx -> Value) (c : Led) (gh : Nat -> TG) (op : Nat -> Option Addr) (h : IMem B sb w x L c gh op) (hb : Bnd x) (hck : x.ck < 1000) (hhl : x.hs.length < 1000) (hB : B <= w.heap.size) (hn1 : 1 <= n) (hn2 : n <= 4) (ho : opn x (n - 1) = true) :
 Calls Tryz.prog 22 #[.pointer (some ⟨sb, 0, none⟩), .agg #[.int .i64 6, .int .i64 (n : Int), .int .i64 tb, .int .i64 ky, .int .i64 vl, .int .i64 md, .string nm]] w fun e w' => AnsP B sb w x L gh (runF x ⟨6, (n : Int), tb, ky, vl, md, nm⟩) e w' := by
 have hi : n - 1 < 4 := by omega
 have e1 : n - 1 + 1 = n := by omega
 obtain ⟨w0, hw0⟩ : ∃ z, z = (w.alloc (.cells #[.int .i64 6, .int .i64 (n : Int), .int .i64 tb, .int .i64 ky, .int .i64 vl, .int .i64 md, .string nm] 41)).alloc (.cells #[.int .i64 0, .int .i64 0, .int .i64 0, .bool false, .slice none 0 0] 38) := ⟨_, rfl⟩
 have hb0 : Below w.heap.size w w0 := by rw [hw0]; exact (below_alloc _ _).trans ((below_alloc _ _).mono (by simp))
 have hz0 : w0.heap.size = w.heap.size + 1 + 1 := by rw [hw0]; simp
 have KO0 : Blk w0 w.heap.size (opC 6 n tb ky vl md nm) := by rw [hw0]; exact (blk_new w (opC 6 n tb ky vl md nm) _).below (below_alloc _ _) (by simp)
 have KR0 : Blk w0 (w.heap.size + 1) (obsC 0 0 0 false (.slice none 0 0)) := by
  have := blk_new (w.alloc (.cells #[.int .i64 6, .int .i64 (n : Int), .int .i64 tb, .int .i64 ky, .int .i64 vl, .int .i64 md, .string nm] 41)) (obsC 0 0 0 false (.slice none 0 0)) 38
  have e : (w.alloc (.cells #[.int .i64 6, .int .i64 (n : Int), .int .i64 tb, .int .i64 ky, .int .i64 vl, .int .i64 md, .string nm] 41)).heap.size = w.heap.size + 1 := by simp
  rw [e] at this
  rw [hw0]
  exact this
 have h0 := h.below hb0
 obtain ⟨hop, hT⟩ := h0.tr (n - 1) hi ho
 rw [e1] at hop
 clear hT
 obtain ⟨c0, _⟩ := ses_cell h0.ses (j := 66 + n) (by omega)
 rw [sesAt_op, hop] at c0
 have hfa := fault_in sb n 6 tb md ky vl (.string nm) (some ⟨(gh (n - 1)).g, 0, none⟩) w0 h0.sl (by omega) (by omega) hn1 hn2 c0
 rw [show faultC 6 n tb md ((some ⟨(gh (n - 1)).g, 0, none⟩)).isNone = 0 from (fault_ok 6 n tb md _ (by omega) (by omega) (by omega) (by omega))] at hfa
 have hni : (n : Int) < 5 := by omega
 have hsl := h.sl
 have hfl : ∀ g, foot sb L x gh g -> g < w.heap.size := fun g hg => (h.lt hg).2
 have HFL := hid hfl
 have HB := hid hb
 have HM := hid h0
 have HKO := hid KO0
 have HKR := hid KR0
 clear h0 h KO0 KR0 hfl hb
 rw [hw0] at hfa
 go_enter Tryz.func22, Tryz.ntmps22
 go_wp2_with (go_at_call 42; fail)
 refine hfa.mono ?_
 rw [<- hw0]
 rintro e w1 ⟨rfl, hb1⟩
 have hs1 := hb1.size
 have HB1 := hid (hb0.trans (hb1.mono hb0.size) : Below w.heap.size w w1)
 have KO := HKO.out.below hb1 (by omega)
 have KR := HKR.out.below hb1 (by omega)
 have c1 := (World.cell?_of_block (a := ⟨sb, 66 + n, none⟩) (hb1.block sb (by omega))).trans c0
 obtain ⟨o0, o1, o2, o3⟩ := kc3 KO
 obtain ⟨w2, hw2⟩ : ∃ z, z = (w1.alloc (.cells #[.int .i64 tb, .int .i64 ky] 113)).drew := ⟨_, rfl⟩
 have b2 : Below w1.heap.size w1 w2 := by rw [hw2]; exact (below_alloc _ _).drew
 have hz2 : w2.heap.size = w1.heap.size + 1 := by rw [hw2]; simp
 have KO2 := KO.below b2 (by omega)
 have KR2 := KR.below b2 (by omega)
 have KS2 : Blk w2 w1.heap.size [.int .i64 tb, .int .i64 ky] := by rw [hw2]; exact (blk_new w1 [.int .i64 tb, .int .i64 ky] _).drewR
 have q0 : (w1.alloc (.cells #[.int .i64 tb, .int .i64 ky] 113)).cell? ⟨w.heap.size, 0, none⟩ = some (.int .i64 6) := by rw [hw2] at KO2; exact (KO2 0 (by simp [opC])).1
 have HKO := hid KO2
 have HKR := hid KR2
 have HKS := hid KS2
 have HM2 := hid ((HM.out.below hb1).below b2)
 have HB2 := hid (HB1.out.trans (b2.mono HB1.out.size) : Below w.heap.size w w2)
 have HW2 := hid hw2
 clear hfa c0 hb1 HM KO KR KO2 KR2 KS2 b2 HB1
 have q1 : (w1.alloc (.cells #[.int .i64 tb, .int .i64 ky] 113)).cell? ⟨w.heap.size, 1, none⟩ = some (.int .i64 (n : Int)) := by have := HKO.out; rw [hw2] at this; exact (this 1 (by simp [opC])).1
 clear hw2
 have hzz : w.heap.size + 1 < w1.heap.size := by omega
 go_wp2
 go_region
 go_wp2_with (go_at_call 47; fail)
 rw [<- HW2.out]
 have HRN := hid (run_i6 x n tb ky vl md nm hn1 hn2 ho)
 refine (commit_any B sb n w2 x L c gh op HM2.out HB.out hck hhl (by omega) hn1 hn2 ho).mono ?_
 generalize commitF x (n - 1) = res at HRN ⊢
 obtain ⟨x2, st, code⟩ := res
 simp only at HRN ⊢
 rintro e w3 ⟨L', c', gh', op', pv, rfl, hgr, hM3, hfr, hft, hpn⟩
 have hs3 := hfr.size
 obtain ⟨pa, pc, hpf⟩ := formR hgr
 subst hpf
 simp only [List.length_nil] at hgr hpn ⊢
 have HM3 := hid hM3
 have HFR := hid hfr
 have HFT := hid hft
 have HGR := hid hgr
 have HPN := hid hpn
 clear hM3 hfr hft hgr hpn
 have KR3 := HKR.out.fr HFR.out (by omega) (fun z => by have := HFL.out _ z; omega)
 obtain ⟨⟨r0, fr0⟩, ⟨r1, fr1⟩, ⟨r2, fr2⟩, ⟨r3, fr3⟩, ⟨r4, fr4⟩⟩ := kb4 KR3
 obtain ⟨W4, hW4⟩ : ∃ z, z = set5 w3 (w.heap.size + 1) (.int .i64 code) (.int .i64 0) (.int .i64 st) (.bool false) (.slice pa 0 pc) := ⟨_, rfl⟩
 have f4 : Fr (fun q => q = w.heap.size + 1) w3 W4 := by rw [hW4]; exact chg_5 _ _ _ _ _ _ _
 have K4 : Blk W4 (w.heap.size + 1) (obsC code 0 st false (.slice pa 0 pc)) := by rw [hW4]; exact blk_set5 KR3 rfl
 obtain ⟨t0, t1, t2, t3, t4⟩ := kc4 K4
 have HF4 := hid f4
 unfold set5 at hW4
 clear K4 KR3 f4
 go_wp2
 rw [<- hW4]
 refine bodyPost_ret (v := .agg #[.int .i64 code, .int .i64 0, .int .i64 st, .bool false, .slice pa 0 pc]) (by simp [results, Tryz.results22, go_sem, t0, t1, t2, t3, t4]) rfl ?_
 rw [HRN.out]
 exact AnsP.of (q := w.heap.size + 1) (pv := .slice pa 0 pc) HFL.out HB2.out (by omega) (by omega) HM3.out HFR.out HFT.out HF4.out (own_bs (own_fr HGR.out HF4.out (fun g hg e => by have := (HGR.out.lt g hg).1; have e2 : g = w.heap.size + 1 := e; omega)) (by omega)) HPN.out rfl
end Go.Proofs.YtblkgicbimflhaaGreat
