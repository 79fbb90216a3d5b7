import Derived.Test.YtblkgicbimflhaaGreatKBM
import Derived.Test.YtblkgicbimflhaaGreatKBK
import Derived.Test.YtblkgicbimflhaaGreatKAV
namespace Go.Proofs.YtblkgicbimflhaaGreat
open Go.ChangeShapes Go.WideShapes Go.ChangeAt Go.RowKit
set_option linter.unusedVariables false
set_option linter.unusedSimpArgs false
set_option maxRecDepth 100000
open List (setIfInBounds_toArray set_cons_zero set_cons_succ)
def leadB (s t : TI) : Prop := s.com ≠ t.com ∧ leadsP s t
theorem leads_deal (s t : TI) (hs : tabP s.reads) (ht : tabP t.writes) (W : World) :
 Calls Tryz.prog 53 #[dealA s, dealA t] W fun e w' => RB (leadB s t) e ∧ Below W.heap.size W w' := by
 refine (leadsTo_impl s.bgn s.com t.bgn t.com (bitsOf s.reads) (bitsOf s.writes) (bitsOf t.reads) (bitsOf t.writes) W (tab_bits hs) (tab_bits ht)).mono ?_
 rintro e w' ⟨⟨r, rfl, hr⟩, hb⟩
 refine ⟨⟨r, rfl, hr.trans ?_⟩, hb⟩
 rw [tab_meet hs ht]
 exact Iff.rfl
theorem led_impl (s d : TI) (b : Nat) (w : World) (hs : tabP s.reads) (hd : tabP d.writes) (hB : Blk w b (dealV d)) (hb : b < w.heap.size) :
 Calls Tryz.prog 112 #[dealA s, .pointer (some ⟨b, 0, none⟩)] w fun e w' => RB (leadB s d) e ∧ Below w.heap.size w w' := by
 have bw := below_alloc w (.cells #[.int .i64 s.bgn, .int .i64 s.com, .int .u64 (bitsOf s.reads : Nat), .int .u64 (bitsOf s.writes : Nat)] 89)
 have hl := leads_deal s d hs hd (w.alloc (.cells #[.int .i64 s.bgn, .int .i64 s.com, .int .u64 (bitsOf s.reads : Nat), .int .u64 (bitsOf s.writes : Nat)] 89))
 have k0 : w.cell? ⟨b, 0, none⟩ = some (.int .i64 d.bgn) := (hB 0 (by simp [dealV])).1
 have k1 : w.cell? ⟨b, 1, none⟩ = some (.int .i64 d.com) := (hB 1 (by simp [dealV])).1
 have k2 : w.cell? ⟨b, 2, none⟩ = some (.int .u64 (bitsOf d.reads : Nat)) := (hB 2 (by simp [dealV])).1
 have k3 : w.cell? ⟨b, 3, none⟩ = some (.int .u64 (bitsOf d.writes : Nat)) := (hB 3 (by simp [dealV])).1
 unfold dealA at hl ⊢
 clear hB
 go_enter Tryz.func112, Tryz.ntmps112
 go_wp2_with (go_at_call 53; fail)
 refine hl.mono ?_
 rintro e w1 ⟨⟨r, rfl, hr⟩, hb1⟩
 have bw1 := bw.trans (hb1.mono bw.size)
 have HR : Hid (RB (leadB s d) (.returned (.bool r))) := ⟨r, rfl, hr⟩
 clear hl hb1 hr
 go_wp2
 go_ret
 exact ⟨HR.out, bw1⟩
def betP (us : List TI) (d : TI) : Prop := (∃ x ∈ us, leadB d x) ∧ ∃ x ∈ us, leadB x d
set_option maxHeartbeats 4000000 in
theorem between_impl (a : Option Addr) (c : Nat) (us : List TI) (B : Nat) (d : TI) (w : World) (h : us.length ≤ 1000) (hr : RS 4 CDl B w (.slice a us.length c) us) (ht : ∀ x ∈ us, tabP x.reads ∧ tabP x.writes) (hd : tabP d.reads ∧ tabP d.writes) :
 Calls Tryz.prog 102 #[.slice a us.length c, dealA d] w fun e w' => RB (betP us d) e ∧ Below w.heap.size w w' := by
 have bw := below_alloc w (.cells #[.int .i64 d.bgn, .int .i64 d.com, .int .u64 (bitsOf d.reads : Nat), .int .u64 (bitsOf d.writes : Nat)] 89)
 have KD := hid (blk_new w (dealV d) 89)
 unfold dealV at KD
 have HRS := hid hr
 have h1 := contains_leads (fun x => leadB d x) (dealA d) a c us B (w.alloc (.cells #[.int .i64 d.bgn, .int .i64 d.com, .int .u64 (bitsOf d.reads : Nat), .int .u64 (bitsOf d.writes : Nat)] 89)) h (hr.below liesD bw) (fun x hx W _ => leads_deal d x hd.1 (ht x hx).2 W)
 have HTT := hid ht
 have HD2 := hid hd.2
 clear hr ht hd
 unfold dealA at h1 ⊢
 go_enter Tryz.func102, Tryz.ntmps102
 go_wp2_with (go_at_call 101; fail)
 refine h1.mono ?_
 rintro e w1 ⟨⟨r, rfl, hr⟩, hb1⟩
 have bw1 := bw.trans (hb1.mono bw.size)
 have K1 := hid (KD.out.below hb1 (by simp))
 clear h1 KD
 rcases r with _ | _
 ·have HF : Hid (¬ betP us d) := hid (fun z => absurd (hr.2 z.1) (by simp))
  clear hr hb1 K1
  go_wp2
  go_ret
  exact ⟨rb_f HF.out, bw1⟩
 ·have HA := hid (hr.1 rfl)
  have hsz : w.heap.size < w1.heap.size := Nat.lt_of_lt_of_le (by simp) hb1.size
  have h2 := contains_led (fun x => leadB x d) w.heap.size a c us B w1 h (HRS.out.below liesD bw1) (fun x hx W hW => led_impl x d w.heap.size W (HTT.out x hx).1 HD2.out (K1.out.below hW hsz) (Nat.lt_of_lt_of_le hsz hW.size))
  clear hr hb1 K1 HRS HTT HD2
  go_wp2_with (go_at_call 101; fail)
  refine h2.mono ?_
  rintro e w2 ⟨⟨r, rfl, hr⟩, hb2⟩
  have bw2 := bw1.trans (hb2.mono bw1.size)
  have HR : Hid (RB (betP us d) (.returned (.bool r))) := ⟨r, rfl, hr.trans ⟨fun z => ⟨HA.out, z⟩, fun z => z.2⟩⟩
  clear h2 hb2 hr HA
  go_wp2
  go_ret
  exact ⟨HR.out, bw2⟩
theorem com_rise {us : List TI} (h : histP us) : ∀ (d i : Nat) (hd : i + d + 1 < us.length), (us[i]'(by omega)).com < us[i + d + 1].com
 | 0, i, hd => by
   have := (h.2 (i + 1) hd us[i + 1] (List.getElem?_eq_getElem hd)).2.2.1 (us[i]'(by omega)) (by omega) (by simp)
   simpa using this
 | d + 1, i, hd => by
   have ih := com_rise h d i (by omega)
   have := (h.2 (i + d + 1 + 1) hd us[i + d + 1 + 1] (List.getElem?_eq_getElem hd)).2.2.1 (us[i + d + 1]'(by omega)) (by omega) (by simp)
   have e : us[i + (d + 1) + 1].com = us[i + d + 1 + 1].com := rfl
   rw [e]
   omega
theorem com_lt {us : List TI} (h : histP us) {i j : Nat} (hij : i < j) (hj : j < us.length) : (us[i]'(by omega)).com < us[j].com := by
 have := com_rise h (j - i - 1) i (by omega)
 have e : i + (j - i - 1) + 1 = j := by omega
 simpa [e] using this
theorem com_ne {us : List TI} (h : histP us) {i j : Nat} {s t : TI} (hs : us[i]? = some s) (ht : us[j]? = some t) : s.com ≠ t.com ↔ i ≠ j := by
 obtain ⟨hi, rfl⟩ := List.getElem?_eq_some_iff.1 hs
 obtain ⟨hj, rfl⟩ := List.getElem?_eq_some_iff.1 ht
 constructor
 ·intro hc e
  subst e
  exact hc rfl
 ·intro e
  rcases Nat.lt_or_gt_of_ne e with hl | hl
  ·have := com_lt h hl hj; omega
  ·have := com_lt h hl hi; omega
theorem dang_bet {us : List TI} (h : histP us) : (∃ d ∈ us, betP us d) ↔ dangP us := by
 constructor
 ·rintro ⟨d, hd, ⟨x, hx, hx1, hx2⟩, y, hy, hy1, hy2⟩
  obtain ⟨i, hi, rfl⟩ := List.getElem_of_mem hd
  obtain ⟨j, hj, rfl⟩ := List.getElem_of_mem hx
  obtain ⟨k, hk, rfl⟩ := List.getElem_of_mem hy
  have ei := List.getElem?_eq_getElem hi
  have ej := List.getElem?_eq_getElem hj
  have ek := List.getElem?_eq_getElem hk
  exact ⟨i, hi, us[i], ei, ⟨k, us[k], hk, (com_ne h ek ei).1 hy1, ek, hy2⟩, ⟨j, us[j], hj, ((com_ne h ej ei).1 (Ne.symm hx1)), ej, hx2⟩⟩
 ·rintro ⟨i, hi, p, hp, ⟨k, y, hk, hk1, hk2, hk3⟩, j, x, hj, hj1, hj2, hj3⟩
  exact ⟨p, List.mem_of_getElem? hp, ⟨x, List.mem_of_getElem? hj2, (com_ne h hp hj2).2 (Ne.symm hj1), hj3⟩, y, List.mem_of_getElem? hk2, (com_ne h hk2 hp).2 hk1, hk3⟩
set_option maxHeartbeats 8000000 in
theorem certify_impl (ga : Option Addr) (ca : Nat) (us : List TI) (t : TI) (cs : List Value) (w : World) (hb : BH 1048576 us) (ht : BT 1048576 t) (ha : RS 4 CT 0 w (.slice ga us.length ca) us) (hC : CT 0 w cs t) (hga : (ga = none ∧ us = [] ∧ ca = 0) ∨ ∃ g, ga = some ⟨g, 0, none⟩) :
 Calls Tryz.prog 88 #[.slice ga us.length ca, .agg cs.toArray] w fun e w' => CertR (us ++ [t]) e ∧ Below w.heap.size w w' := by
 have HCT := hid hC
 obtain ⟨v0, v1, rfl, r0, r1⟩ := hC
 obtain ⟨a0, q0, rfl, _⟩ := r0
 obtain ⟨a1, q1, rfl, _⟩ := r1
 have hn := hb.1
 obtain ⟨W3, hW3⟩ : ∃ W, W = ((w.alloc (.cells #[.int .i64 t.bgn, .int .i64 t.com, .slice a0 t.reads.length q0, .slice a1 t.writes.length q1] 131)).alloc (.cells #[.int .i64 t.bgn, .int .i64 t.com, .slice a0 t.reads.length q0, .slice a1 t.writes.length q1] 131)).alloc (.cells #[.slice ga us.length ca, .slice (some ⟨w.heap.size + 1, 0, none⟩) 1 1] 25) := ⟨_, rfl⟩
 have bw3 : Below w.heap.size w W3 := by
  rw [hW3]
  exact ((below_alloc w _).alloc (by simp) _).alloc (by simp; omega) _
 have K1 := hid (blkB w [.int .i64 t.bgn, .int .i64 t.com, .slice a0 t.reads.length q0, .slice a1 t.writes.length q1] [.int .i64 t.bgn, .int .i64 t.com, .slice a0 t.reads.length q0, .slice a1 t.writes.length q1] [.slice ga us.length ca, .slice (some ⟨w.heap.size + 1, 0, none⟩) 1 1] 131 131 25)
 have K2 := hid (blkC w [.int .i64 t.bgn, .int .i64 t.com, .slice a0 t.reads.length q0, .slice a1 t.writes.length q1] [.int .i64 t.bgn, .int .i64 t.com, .slice a0 t.reads.length q0, .slice a1 t.writes.length q1] [.slice ga us.length ca, .slice (some ⟨w.heap.size + 1, 0, none⟩) 1 1] 131 131 25)
 have hsz : W3.heap.size = w.heap.size + 1 + 1 + 1 := by rw [hW3]; simp
 rw [← hW3] at K1 K2
 have HT1 : Hid (RS 4 CT 0 W3 (.slice (some ⟨w.heap.size + 1, 0, none⟩) [t].length 1) [t]) := hid (⟨_, _, rfl, fun _ => ⟨w.heap.size + 1, 0, rfl, Nat.zero_le _, by omega, fun i hi => ⟨_, by
  have : i = 0 := by simp at hi; omega
  subst this
  exact liesT.below HCT.out bw3, fun j hj => by
  have : i = 0 := by simp at hi; omega
  subst this
  simpa using (K1.out j (by simpa using hj)).1⟩⟩⟩)
 have hcc : Calls Tryz.prog 100 #[.slice (some ⟨w.heap.size + 1 + 1, 0, none⟩) 2 2] W3 fun e w' => ∃ v, e = .returned v ∧ RS 4 CT 0 w' v (us ++ [t]) ∧ Below W3.heap.size W3 w' := by
  have q0 := (K2.out 0 (by simp)).1
  have q1 := (K2.out 1 (by simp)).1
  rcases hga with ⟨rfl, rfl, rfl⟩ | ⟨g, rfl⟩
  ·exact concat_nil (w.heap.size + 1 + 1) (w.heap.size + 1) t W3 (by omega) q0 q1 HT1.out
  ·exact concat_impl g ca (w.heap.size + 1 + 1) (w.heap.size + 1) us t W3 hn (by omega) q0 q1 (ha.below liesT bw3) HT1.out
 obtain ⟨al, hal⟩ : ∃ al : List TI, al = us ++ [t] := ⟨_, rfl⟩
 have HAL : Hid (al.length = us.length + 1) := hid (by rw [hal]; simp)
 have HBA : Hid (∀ x ∈ al, BT 1048576 x) := hid (by
  rw [hal]
  intro x hx
  rcases List.mem_append.1 hx with h | h
  ·exact hb.2 x h
  ·rw [List.mem_singleton] at h; rw [h]; exact ht)
 rw [← hal] at hcc ⊢
 clear hal ha hb K1 K2 HT1 HCT hsz hga
 subst hW3
 go_enter Tryz.func88, Tryz.ntmps88
 go_wp2_with (go_at_call 100; fail)
 refine hcc.mono ?_
 rintro e w4 ⟨v, rfl, hr4, hb4⟩
 have bw4 : Below w.heap.size w w4 := bw3.trans (hb4.mono bw3.size)
 obtain ⟨a4, c4, hv4, _⟩ := id hr4
 have hp := past_impl a4 c4 al w4 (by have := HAL.out; omega) HBA.out (by rw [← hv4]; exact hr4)
 subst hv4
 clear hcc hr4 hb4 bw3
 go_wp2_with (go_at_call 23; fail)
 refine hp.mono ?_
 rintro e w5 ⟨hP, hb5⟩
 have bw5 : Below w.heap.size w w5 := bw4.trans (hb5.mono bw4.size)
 clear hp bw4 hb5
 rcases hP with ⟨hH, v5, rfl, hr5⟩ | ⟨hH, rfl⟩
 ·have HH := hid hH
  have hl5 : al.length ≤ 1000 := hH.1
  obtain ⟨a5, c5, hv5, _⟩ := id hr5
  subst hv5
  have hq := contains_between (fun d => betP al d) (.slice a5 al.length c5) a5 c5 al _ w5 hl5 hr5 (fun x hx W hW => between_impl a5 c5 al _ x W hl5 (hr5.below liesD hW) (hist_tabs hH.2) (hist_tabs hH.2 x hx))
  clear hH hr5
  go_wp2_with (go_at_call 101; fail)
  refine hq.mono ?_
  rintro e w6 ⟨⟨r, rfl, hr⟩, hb6⟩
  have bw6 : Below w.heap.size w w6 := bw5.trans (hb6.mono bw5.size)
  clear hq hb6
  rcases r with _ | _
  ·have HF : Hid (CertR al (.returned (.int .i64 0))) := .inr (.inr ⟨HH.out, fun z => absurd (hr.2 ((dang_bet HH.out).2 z)) (by simp), rfl⟩)
   clear hr
   go_wp2
   go_ret
   exact ⟨HF.out, bw6⟩
  ·have HF : Hid (CertR al (.returned (.int .i64 21))) := .inr (.inl ⟨HH.out, (dang_bet HH.out).1 (hr.1 rfl), rfl⟩)
   clear hr
   go_wp2
   go_ret
   exact ⟨HF.out, bw6⟩
 ·have HF : Hid (CertR al (.returned (.int .i64 1))) := .inl ⟨hH, rfl⟩
  clear hH
  go_wp2
  go_ret
  exact ⟨HF.out, bw5⟩
end Go.Proofs.YtblkgicbimflhaaGreat
namespace Go.Proofs.YtblkgicbimflhaaGreat
open Go.ChangeShapes Go.WideShapes Go.ChangeAt Go.RowKit
set_option linter.unusedVariables false
set_option linter.unusedSimpArgs false
set_option maxRecDepth 100000
open List (setIfInBounds_toArray set_cons_zero set_cons_succ)
open Go.ChangeMaps (setBlock)
structure LedB (c : Led) : Prop where
 kb : ∀ k, (c.K k).length < 1048576
 tb : ∀ k y, (c.T k y).length < 1048576
 hl : c.hs.length ≤ 1000
 hb : ∀ h ∈ c.hs, BT 32 h
theorem LedM.ff {B : Nat} {w : World} {L : LIx → Value} {c : Led} (h : LedM B w L c) (k : Nat) (y : Int) : (∃ a n q, L (.ek k y) = .slice a n q) ∧ ∃ a n q, L (.ev k y) = .slice a n q := by
 obtain ⟨a, q, e⟩ := h.form (.ek k y)
 obtain ⟨a2, q2, e2⟩ := h.form (.ev k y)
 exact ⟨⟨_, _, _, e⟩, _, _, _, e2⟩
theorem LedM.vat {B sb : Nat} {w : World} {L : LIx → Value} {c : Led} {ck : Int} {op : Nat → Option Addr} (h : LedM B w L c) (hb : LedB c) (hS : Blk w sb (sesC ck L op)) (hsb : sb < w.heap.size) (n : Nat) (hn : n < 32) (y : Int) :
 Calls Tryz.prog 64 #[.pointer (some ⟨sb, 0, none⟩), .agg #[.int .i64 (n : Int), .int .i64 y]] w fun e w' => e = .returned (.agg #[L (.ek n y), L (.ev n y)]) ∧ Below w.heap.size w w' := by
 have c0 := (ses_cell hS (j := 1 + n * 2) (by omega)).1
 have c1 := (ses_cell hS (j := 1 + n * 2 + 1) (by omega)).1
 rw [sesAt_tk _ _ _ hn] at c0
 rw [sesAt_tv _ _ _ hn] at c1
 exact versionsAt_any B sb 0 n hn (L (.tk n)) (L (.tv n)) (c.K n) (fun y => (L (.ek n y), L (.ev n y))) y w hsb (by rw [Nat.zero_add]; exact c0) (by rw [Nat.zero_add]; exact c1) (h.rm.rows (.tk n)) (h.rm.rows (.tv n)) (h.srt n) (Nat.le_of_lt (hb.kb n)) (fun y hy => by rw [(h.nil n y hy).1, (h.nil n y hy).2]) (fun y => h.ff n y)
theorem LedM.seen {B sb : Nat} {w : World} {L : LIx → Value} {c : Led} {ck : Int} {op : Nat → Option Addr} {t : TG} {x : Txn} (h : LedM B w L c) (hb : LedB c) (hS : Blk w sb (sesC ck L op)) (hsb : sb < w.heap.size) (hT : TrM B w t x) (n : Nat) (hn : n < 32) (y : Int) :
 Calls Tryz.prog 44 #[.pointer (some ⟨sb, 0, none⟩), .pointer (some ⟨t.g, 0, none⟩), .agg #[.int .i64 (n : Int), .int .i64 y]] w fun e w' => (∃ v : Vsn, e = .returned (.agg #[.int .i64 v.1, .bool v.2]) ∧ v = (mget t.M ((n : Int), y)).getD (verAt (c.T n y) x.bg)) ∧ Below w.heap.size w w' := by
 cases hg : mget t.M ((n : Int), y) with
 | some v =>
   refine (seen_own sb 0 t.g t.mb n y x.bg v t.M w hT.gl hT.c0 hT.c34 hT.mp hg).mono ?_
   rintro e w' ⟨h1, h2⟩
   exact ⟨⟨v, h1, rfl⟩, h2⟩
 | none =>
   have c0 := (ses_cell hS (j := 1 + n * 2) (by omega)).1
   have c1 := (ses_cell hS (j := 1 + n * 2 + 1) (by omega)).1
   rw [sesAt_tk _ _ _ hn] at c0
   rw [sesAt_tv _ _ _ hn] at c1
   refine (seen_past sb 0 t.g t.mb n y x.bg t.M w hT.gl hT.c0 hT.c34 hT.mp hg hn B (L (.tk n)) (L (.tv n)) (c.K n) (fun y => (L (.ek n y), L (.ev n y))) (c.T n y) hsb (by rw [Nat.zero_add]; exact c0) (by rw [Nat.zero_add]; exact c1) (h.rm.rows (.tk n)) (h.rm.rows (.tv n)) (h.srt n) (Nat.le_of_lt (hb.kb n)) (fun y hy => by rw [(h.nil n y hy).1, (h.nil n y hy).2]) (fun y => h.ff n y) (h.rm.rows (.ek n y)) (h.rm.rows (.ev n y)) (h.tst n y) (Nat.le_of_lt (hb.tb n y))).mono ?_
   rintro e w' ⟨h1, h2⟩
   exact ⟨⟨_, h1, rfl⟩, h2⟩
theorem flatN {α β : Type} {K : Nat} {f : α → List β} (hf : ∀ x, (f x).length = K) : ∀ (l : List α) (i : Nat) (hi : i < l.length) (j : Nat), j < K → (l.flatMap f)[i * K + j]? = (f l[i])[j]?
 | x :: r, 0, _, j, hj => by
   rw [List.flatMap_cons, List.getElem?_append_left (by rw [hf]; omega)]
   simp
 | x :: r, i + 1, hi, j, hj => by
   rw [List.flatMap_cons, List.getElem?_append_right (by rw [hf, Nat.succ_mul]; omega), hf, show (i + 1) * K + j - K = i * K + j by rw [Nat.succ_mul]; omega]
   rw [flatN hf r i (by simpa using hi) j hj]
   rfl
theorem flatN_len {α β : Type} {K : Nat} {f : α → List β} (hf : ∀ x, (f x).length = K) : ∀ (l : List α), (l.flatMap f).length = l.length * K
 | [] => by simp
 | x :: r => by rw [List.flatMap_cons, List.length_append, hf, flatN_len hf r, List.length_cons, Nat.succ_mul]; omega
theorem LedM.hist {B : Nat} {w : World} {L : LIx → Value} {c : Led} (h : LedM B w L c) : RS 4 CT 0 w (L .hs) c.hs := by
 have hf : ∀ j, (hsC L c.hs j).length = 4 := fun j => rfl
 have F : Fill 4 CT 0 c.hs c.hs.length ((List.range c.hs.length).flatMap (hsC L c.hs)) w := by
  refine ⟨by rw [flatN_len hf, List.length_range], fun i hi _ => ⟨hsC L c.hs i, ?_, fun j hj => ?_⟩⟩
  ·have r1 : IGr B w (L (.hr i)) (c.hs.getD i ti0).reads := h.rm.rows (.hr i)
   have r2 : IGr B w (L (.hw i)) (c.hs.getD i ti0).writes := h.rm.rows (.hw i)
   have e : c.hs.getD i ti0 = c.hs[i] := by rw [List.getD_eq_getElem?_getD, List.getElem?_eq_getElem hi]; rfl
   rw [← e]
   exact ⟨L (.hr i), L (.hw i), rfl, r1.rs.mono liesI (Nat.zero_le _), r2.rs.mono liesI (Nat.zero_le _)⟩
  ·rw [flatN hf _ i (by rw [List.length_range]; exact hi) j hj, List.getElem_range]
 exact F.own liesT (own_bs (h.rm.rows .hs) (Nat.zero_le _)) (Nat.le_refl _)
theorem LedM.hform {B : Nat} {w : World} {L : LIx → Value} {c : Led} (h : LedM B w L c) : ∃ ga ca, L .hs = .slice ga c.hs.length ca ∧ ((ga = none ∧ c.hs = [] ∧ ca = 0) ∨ ∃ g, ga = some ⟨g, 0, none⟩) := by
 rcases (h.rm.rows .hs).2 with ⟨e1, e2⟩ | ⟨g, cap, cur, e1, _⟩
 ·have e3 : c.hs.length = 0 := e2
  exact ⟨none, 0, by rw [e1, e3], .inl ⟨rfl, List.length_eq_zero_iff.1 e3, rfl⟩⟩
 ·exact ⟨_, cap, e1, .inr ⟨g, rfl⟩⟩
end Go.Proofs.YtblkgicbimflhaaGreat
namespace Go.Proofs.YtblkgicbimflhaaGreat
open Go.ChangeShapes Go.WideShapes Go.ChangeAt Go.RowKit
set_option linter.unusedVariables false
set_option linter.unusedSimpArgs false
set_option maxRecDepth 100000
open List (setIfInBounds_toArray set_cons_zero set_cons_succ)
open Go.ChangeMaps (setBlock)
def behM (c : Led) (bg : Int) (m : Spt) : Bool := behindB ((c.T m.1.toNat m.2).map (·.1)) bg
open Classical in
noncomputable def verdM (c : Led) (ck : Int) (M : List (Spt × Vsn)) (x : Txn) : Int := if M.any (fun m => behM c x.bg m.1) then 20 else if x.md = 2 then certF (c.hs ++ [infoF x.bg (ck + 1) x.own x.rs]) else 0
set_option maxHeartbeats 4000000 in
theorem verdict_any (B sb : Nat) (w : World) (L : LIx → Value) (c : Led) (ck : Int) (op : Nat → Option Addr) (t : TG) (x : Txn) (hL : LedM B w L c) (hLb : LedB c) (hS : Blk w sb (sesC ck L op)) (hsb : sb < w.heap.size) (hT : TrM B w t x) (hck : 0 ≤ ck) (hck2 : ck ≤ 1000) :
 Calls Tryz.prog 70 #[.pointer (some ⟨sb, 0, none⟩), .pointer (some ⟨t.g, 0, none⟩)] w fun e w' => e = .returned (.int .i64 (verdM c ck t.M x)) ∧ Below w.heap.size w w' := by
 obtain ⟨o, hrun, hit⟩ := run_rangeM w t.mb t.M hT.mp
 have hb0 := below_alloc w o
 have c34 := hT.c34
 have hgl := hT.gl
 have hmb := hT.mp.lt
 have HT := hid hT
 have HL := hid hL
 have HS := hid hS
 have HIT := hid hit
 have HLB := hid hLb
 clear hT hL hS hit hLb
 go_enter Tryz.func70, Tryz.ntmps70
 go_wp2
 clear hrun
 go_loopw [] (fun wr => ∃ D, Hid (IT wr w.heap.size t.mb t.M D) ∧ Hid (∀ m ∈ t.M, m.1 ∈ D → behM c x.bg m.1 = false) ∧ Below w.heap.size w wr) (fun wr => wr.rangeLeft t.mb w.heap.size)
 case atStart => exact ⟨[], HIT, hid (fun m _ h => absurd h (by simp)), hb0⟩
 case round =>
  clear HIT hb0
  obtain ⟨D, HIT, HD, hbel⟩ := hrel
  have hbs := hbel.size
  rcases HIT.out.next 0 with ⟨hall, hrun⟩ | ⟨m, w1, hm, hnD, hrun, hit1, hf1, hz1, hlt, hen⟩
  ·have HNO : Hid (t.M.any (fun m => behM c x.bg m.1) = false) := hid (List.any_eq_false.2 (fun m hm => by rw [HD.out m hm (hall m hm)]; simp))
   have hT1 := HT.out.below hbel
   have hL1 := HL.out.below hbel
   have hS1 := HS.out.below hbel hsb
   have d1 := hT1.c1
   have e0 := (ses_cell hS1 (j := 0) (by omega)).1
   have e65 := (ses_cell hS1 (j := 65) (by omega)).1
   rw [sesAt_0] at e0
   rw [sesAt_hs] at e65
   obtain ⟨ga, ca, hhs, hga⟩ := hL1.hform
   rw [hhs] at e65
   clear hall HIT HD hbs c34
   by_cases hmd : x.md = 2
   ·have hmb2 : (x.md == 2) = true := by rw [hmd]; rfl
    have HV : Hid (verdM c ck t.M x = certF (c.hs ++ [infoF x.bg (ck + 1) x.own x.rs])) := hid (by unfold verdM; rw [HNO.out]; simp [hmd])
    have hw1 : IntKind.i64.wrap (ck + 1) = ck + 1 := by simp only [IntKind.wrap_i64, wrap64]; omega
    have hsb1 : sb < wr.heap.size := by have := hbel.size; omega
    have HCI := hid ((hT1.below (Below.refl _ wr).drew).info (ck + 1))
    have HH := hid hL1.hist
    clear hmd HNO hL1 hS1 hT1
    go_wp2
    refine wp_region_till_drew (S := (fun W => W.cell? ⟨sb, 0, none⟩ = some (.int .i64 ck) ∧ W.cell? ⟨sb, 65, none⟩ = some (.slice ga c.hs.length ca))) (late := [12]) (by kernel_rfl) ⟨e0, e65⟩ (fun hHeld => ?_)
    refine till_tk (i := 0) (v := ?_) rfl (Or.inl ⟨by rfl, ?_⟩) hHeld ?_
    rotate_left
    ·intro w
     go_simp
     try with_reducible rfl
    try simp only [Act.put, setIfInBounds_toArray, set_cons_zero, set_cons_succ]
    refine till_tk (i := 1) (v := ?_) rfl (Or.inl ⟨by rfl, ?_⟩) hHeld ?_
    rotate_left
    ·intro w
     go_simp
     try with_reducible rfl
    try simp only [Act.put, setIfInBounds_toArray, set_cons_zero, set_cons_succ]
    refine till_tk (i := 2) (v := ?_) rfl (Or.inl ⟨by rfl, ?_⟩) hHeld ?_
    rotate_left
    ·intro w
     go_simp
     try with_reducible rfl
    try simp only [Act.put, setIfInBounds_toArray, set_cons_zero, set_cons_succ]
    refine till_ld (i := 3) (v := ?_) rfl (Or.inl ⟨by rfl, ?_⟩) hHeld ?_
    rotate_left
    ·intro w hSw
     try dsimp only at hSw
     go_simp
     try with_reducible rfl
    try simp only [Act.put, setIfInBounds_toArray, set_cons_zero, set_cons_succ]
    refine till_tk (i := 4) (v := ?_) rfl (Or.inl ⟨by rfl, ?_⟩) hHeld ?_
    rotate_left
    ·intro w
     go_simp
     try with_reducible rfl
    try simp only [Act.put, setIfInBounds_toArray, set_cons_zero, set_cons_succ]
    refine till_tk (i := 5) (v := ?_) rfl (Or.inl ⟨by rfl, ?_⟩) hHeld ?_
    rotate_left
    ·intro w
     go_simp
     try with_reducible rfl
    try simp only [Act.put, setIfInBounds_toArray, set_cons_zero, set_cons_succ]
    refine till_tk (i := 6) (v := ?_) rfl (Or.inl ⟨by rfl, ?_⟩) hHeld ?_
    rotate_left
    ·intro w
     go_simp
     try with_reducible rfl
    try simp only [Act.put, setIfInBounds_toArray, set_cons_zero, set_cons_succ]
    refine till_tk (i := 7) (v := ?_) rfl (Or.inl ⟨by rfl, ?_⟩) hHeld ?_
    rotate_left
    ·intro w
     go_simp
     try with_reducible rfl
    try simp only [Act.put, setIfInBounds_toArray, set_cons_zero, set_cons_succ]
    refine till_ld (i := 8) (v := ?_) rfl (Or.inl ⟨by rfl, ?_⟩) hHeld ?_
    rotate_left
    ·intro w hSw
     try dsimp only at hSw
     go_simp
     try with_reducible rfl
    try simp only [Act.put, setIfInBounds_toArray, set_cons_zero, set_cons_succ]
    refine till_tk (i := 9) (v := ?_) rfl (Or.inl ⟨by rfl, ?_⟩) hHeld ?_
    rotate_left
    ·intro w
     go_simp
     try with_reducible rfl
    try simp only [Act.put, setIfInBounds_toArray, set_cons_zero, set_cons_succ]
    refine till_ready (rs := [10]) (by kernel_rfl) (by simp) (TillAll.cons rfl (fun K hK => ?_) TillAll.nil)
    go_simp
    refine HCI.out.mono ?_
    rintro e W2 ⟨v2, v3, rfl, hG2, hG3, hds, hb2⟩
    replace hb2 : Below wr.heap.size wr W2 := undrew hb2
    have g0 : W2.cell? ⟨sb, 0, none⟩ = some (.int .i64 ck) := (hb2.cell (p := ⟨sb, 0, none⟩) hsb1).trans e0
    have g65 : W2.cell? ⟨sb, 65, none⟩ = some (.slice ga c.hs.length ca) := (hb2.cell (p := ⟨sb, 65, none⟩) hsb1).trans e65
    have HCT : Hid (CT 0 W2 [.int .i64 x.bg, .int .i64 (ck + 1), v2, v3] (infoF x.bg (ck + 1) x.own x.rs)) := ⟨v2, v3, rfl, hG2.rs.mono liesI (Nat.zero_le _), hG3.rs.mono liesI (Nat.zero_le _)⟩
    have HBT : Hid (BT 1048576 (infoF x.bg (ck + 1) x.own x.rs)) := ⟨Nat.le_trans (tabsT_len _ _) (by omega), Nat.le_trans (tabsT_len _ _) (by omega)⟩
    have HRS : Hid (RS 4 CT 0 W2 (.slice ga c.hs.length ca) c.hs) := hid (by rw [hhs] at HH; exact HH.out.below liesT hb2)
    have HBH : Hid (BH 1048576 c.hs) := ⟨by have := HLB.out.hl; omega, fun h hh => ⟨by have := (HLB.out.hb h hh).1; omega, by have := (HLB.out.hb h hh).2; omega⟩⟩
    have HCE := hid (certify_impl ga ca c.hs _ _ W2 HBH.out HBT.out HRS.out HCT.out hga)
    obtain ⟨a2, q2, hf2⟩ := hG2.form
    obtain ⟨a3, q3, hf3⟩ := hG3.form
    subst hf2 hf3
    refine hK _ _ ⟨⟨g0, g65⟩, ?_⟩
    clear hK K hG2 hG3 hds HCT HBT HRS HBH HCI
    try simp only [Act.put, setIfInBounds_toArray, set_cons_zero, set_cons_succ]
    refine till_ready (rs := [11]) (by kernel_rfl) (by simp) (TillAll.cons rfl (fun K hK => ?_) TillAll.nil)
    go_simp
    refine HCE.out.mono ?_
    rintro e W3 ⟨hR, hb3⟩
    have hRe := certR_f hR
    rw [← HV.out] at hRe
    subst hRe
    have hs3 := hb2.size
    have g0' : W3.cell? ⟨sb, 0, none⟩ = some (.int .i64 ck) := (hb3.cell (p := ⟨sb, 0, none⟩) (by show sb < _; omega)).trans g0
    have g65' : W3.cell? ⟨sb, 65, none⟩ = some (.slice ga c.hs.length ca) := (hb3.cell (p := ⟨sb, 65, none⟩) (by show sb < _; omega)).trans g65
    have bw3 : Below w.heap.size w W3 := (hbel.trans (hb2.mono hbel.size)).trans (hb3.mono (by have := hbel.size; omega))
    refine hK _ _ ⟨⟨g0', g65'⟩, ?_⟩
    clear hK K hR HCE hb2 hb3
    try simp only [Act.put, setIfInBounds_toArray, set_cons_zero, set_cons_succ]
    refine till_ready (rs := [12]) (by kernel_rfl) (by simp) (TillAll.cons2 rfl (by kernel_rfl) (fun K hK => ?_) TillAll.nil)
    go_simp
    refine hK _ _ ?_
    clear hK K
    try simp only [Act.put, setIfInBounds_toArray, set_cons_zero, set_cons_succ]
    refine till_done (by kernel_rfl) ?_ _
    go_wp2
    refine bodyPost_ret (v := .int .i64 (verdM c ck t.M x)) (by simp [results, Tryz.results70, go_sem]) rfl ?_
    exact ⟨rfl, bw3⟩
   ·have hmb2 : (x.md == 2) = false := beq_eq_false_iff_ne.2 hmd
    have HV : Hid (verdM c ck t.M x = 0) := hid (by unfold verdM; rw [HNO.out]; simp [hmd])
    clear hmd HNO hL1 hS1 hT1
    go_wp2
    refine bodyPost_ret (v := .int .i64 0) (by simp [results, Tryz.results70, go_sem]) rfl ?_
    exact ⟨by rw [HV.out], hbel⟩
  ·obtain ⟨⟨a, y⟩, v, b⟩ := m
   have ht := HT.out.mi _ hm
   simp only at ht
   obtain ⟨n, rfl⟩ : ∃ n : Nat, a = (n : Int) := ⟨a.toNat, by omega⟩
   have hn : n < 32 := by omega
   have b1 : Below w.heap.size w w1 := hbel.trans (hf1.below hbs (fun q e => by rw [e]; exact Nat.le_refl _))
   have hsb1 : sb < w1.heap.size := by have := b1.size; omega
   obtain ⟨w2, hw2⟩ : ∃ z, z = w1.alloc (.cells #[.int .i64 (n : Int), .int .i64 y] 113) := ⟨_, rfl⟩
   have b2 : Below w.heap.size w w2 := by rw [hw2]; exact b1.alloc b1.size _
   have HIT2 : Hid (IT w2 w.heap.size t.mb t.M (((n : Int), y) :: D) ∧ w2.rangeLeft t.mb w.heap.size < wr.rangeLeft t.mb w.heap.size) := hid (by
    rw [hw2]
    have q := hit1.fr (Fr.of_below (fun _ => False) (below_alloc w1 (.cells #[.int .i64 (n : Int), .int .i64 y] 113))) (fun z => z) (fun z => z)
    exact ⟨q.1, by rw [q.2]; exact hlt⟩)
   have hsb2 : sb < w2.heap.size := by have := b2.size; omega
   have hva := (HL.out.below b2).vat HLB.out (HS.out.below b2 hsb) hsb2 n hn y
   obtain ⟨⟨ka, kn, kc, hek⟩, va, vn, vc, hev⟩ := HL.out.ff n y
   have HM := hid hm
   clear hit1 hf1 hlt hm hnD ht HIT
   simp only [sptV, vsnV] at hrun hen
   rw [hw2] at hva
   go_wp2_with (go_at_call 64; fail)
   refine hva.mono ?_
   rw [← hw2]
   rintro e w3 ⟨rfl, hb3⟩
   have b3 : Below w.heap.size w w3 := b2.trans (hb3.mono b2.size)
   have hl3 := HL.out.below b3
   have r1 : w3.ownsRow B 3 1 (L (.ek n y)) (c.T n y).length (((c.T n y).map (·.1)).map (Value.int .i64)) := hl3.rm.rows (.ek n y)
   obtain ⟨w4, hw4⟩ : ∃ z, z = w3.alloc (.cells #[L (.ek n y), L (.ev n y)] 155) := ⟨_, rfl⟩
   have b4 : Below w.heap.size w w4 := by rw [hw4]; exact b3.alloc b3.size _
   have kb := blk_new w3 [L (.ek n y), L (.ev n y)] 155
   rw [← hw4] at kb
   have hml : ((c.T n y).map (·.1)).length = (c.T n y).length := List.length_map _
   have hbh := behind_any B w3.heap.size 0 (L (.ek n y)) ((c.T n y).map (·.1)) x.bg w4 (kb 0 (by simp)).1 (by rw [hml, hw4]; exact own_below r1 (below_alloc _ _)) (by rw [hml]; exact Nat.le_of_lt (HLB.out.tb n y))
   have HI4 : Hid (IT w4 w.heap.size t.mb t.M (((n : Int), y) :: D) ∧ w4.rangeLeft t.mb w.heap.size < wr.rangeLeft t.mb w.heap.size) := hid (by
    have q := HIT2.out.1.fr (Fr.of_below (fun _ => False) hb3) (fun z => z) (fun z => z)
    have q2 := q.1.fr (Fr.of_below (fun _ => False) (below_alloc w3 (.cells #[L (.ek n y), L (.ev n y)] 155))) (fun z => z) (fun z => z)
    rw [← hw4] at q2
    exact ⟨q2.1, by rw [q2.2, q.2]; exact HIT2.out.2⟩)
   have d0 : w4.cell? ⟨t.g, 0, none⟩ = some (.int .i64 x.bg) := (HT.out.below b4).c0
   obtain ⟨bb, hbb⟩ : ∃ z, z = behindB ((c.T n y).map (·.1)) x.bg := ⟨_, rfl⟩
   rw [← hbb] at hbh
   have HBB : Hid (behM c x.bg ((n : Int), y) = bb) := hid (by unfold behM; rw [hbb]; simp)
   clear hva hl3 r1 kb hml hbb HIT2 hb3 b2 b1
   rw [hek, hev] at hw4 ⊢
   have gl3 : t.g < w3.heap.size := by have := b3.size; omega
   rw [hw4] at hbh d0
   go_wp2_with (go_at_call 87; fail)
   refine hbh.mono ?_
   rw [← hw4]
   rintro e w5 ⟨rfl, hb5⟩
   have b5 : Below w.heap.size w w5 := b4.trans (hb5.mono b4.size)
   have HI5 : Hid (IT w5 w.heap.size t.mb t.M (((n : Int), y) :: D) ∧ w5.rangeLeft t.mb w.heap.size < wr.rangeLeft t.mb w.heap.size) := hid (by
    have q := HI4.out.1.fr (Fr.of_below (fun _ => False) hb5) (fun z => z) (fun z => z)
    exact ⟨q.1, by rw [q.2]; exact HI4.out.2⟩)
   clear hbh HI4 hb5 b4 d0 hw4 hw2
   rcases bb with _ | _
   ·have HDN : Hid (∀ m ∈ t.M, m.1 ∈ (((n : Int), y) :: D) → behM c x.bg m.1 = false) := hid (fun m hm hd => by
     rcases List.mem_cons.1 hd with z | z
     ·rw [z]; exact HBB.out
     ·exact HD.out m hm z)
    clear HBB HD
    go_wp2
    go_roundw
    case rel => exact ⟨_, hid HI5.out.1, HDN, b5⟩
    case measure => exact HI5.out.2
   ·have HV : Hid (verdM c ck t.M x = 20) := hid (by
     have : t.M.any (fun m => behM c x.bg m.1) = true := List.any_eq_true.2 ⟨_, HM.out, HBB.out⟩
     unfold verdM; rw [this]; simp)
    clear HBB HD HI5
    go_wp2
    refine bodyPost_ret (v := .int .i64 20) (by simp [results, Tryz.results70, go_sem]) rfl ?_
    exact ⟨by rw [HV.out], b5⟩
end Go.Proofs.YtblkgicbimflhaaGreat
