import Derived.Test.YtblkgicbimflhaaGreatKBT
namespace Go.Proofs.YtblkgicbimflhaaGreat
open Go.ChangeShapes Go.WideShapes Go.ChangeAt Go.RowKit
set_option linter.unusedVariables false
set_option linter.unusedSimpArgs false
set_option maxRecDepth 100000
open List (setIfInBounds_toArray set_cons_zero set_cons_succ)
theorem fault_run (x : Bas) (o : Opn) (h : faultC o.kd o.ss o.tb o.md (!(x.tx.getD (o.ss - 1).toNat tx0).op) ≠ 0) : runF x o = (x, ⟨faultC o.kd o.ss o.tb o.md (!(x.tx.getD (o.ss - 1).toNat tx0).op), 0, 0, false, []⟩) := by
 unfold faultC at h ⊢
 unfold runF
 simp only
 generalize (x.tx.getD (o.ss - 1).toNat tx0).op = q at h ⊢
 by_cases h1 : ¬ (1 ≤ o.kd ∧ o.kd ≤ 10) ∨ ¬ (1 ≤ o.ss ∧ o.ss ≤ 4)
 ·rw [if_pos h1, if_pos (by omega)]
 rw [if_neg h1] at h ⊢
 rw [if_neg (by omega)]
 by_cases h2 : decide (o.kd = 1) ≠ !q
 ·rw [if_pos h2, if_pos]
  cases q
  ·have : decide (o.kd = 1) = false := by simpa using h2
   rw [show (o.kd == 1) = decide (o.kd = 1) from rfl]; exact this
  ·have : decide (o.kd = 1) = true := by simpa using h2
   rw [show (o.kd == 1) = decide (o.kd = 1) from rfl]; exact this
 rw [if_neg h2] at h ⊢
 rw [if_neg (fun e => h2 (by rw [show (o.kd == 1) = decide (o.kd = 1) from rfl] at e; rw [e]; cases q <;> simp))]
 by_cases h3 : (2 ≤ o.kd ∧ o.kd ≤ 5) ∧ ¬ (0 ≤ o.tb ∧ o.tb ≤ 31)
 ·rw [if_pos h3, if_pos (by omega)]
 rw [if_neg h3] at h ⊢
 rw [if_neg (by omega)]
 by_cases h4 : o.kd = 1 ∧ o.md ≠ 1 ∧ o.md ≠ 2
 ·rw [if_pos h4, if_pos h4.1, if_pos h4.2]
 ·rw [if_neg h4] at h
  exact absurd rfl h
theorem fault_no {k s tb md : Int} {q : Bool} (h : faultC k s tb md (!q) = 0) : (1 ≤ k ∧ k ≤ 10) ∧ (1 ≤ s ∧ s ≤ 4) ∧ (k = 1 → q = false ∧ (md = 1 ∨ md = 2)) ∧ (k ≠ 1 → q = true) ∧ (2 ≤ k → k ≤ 5 → 0 ≤ tb ∧ tb < 32) := by
 unfold faultC at h
 by_cases h1 : ¬ (1 ≤ k ∧ k ≤ 10) ∨ ¬ (1 ≤ s ∧ s ≤ 4)
 ·rw [if_pos h1] at h; omega
 rw [if_neg h1] at h
 by_cases h2 : decide (k = 1) ≠ !q
 ·rw [if_pos h2] at h; omega
 rw [if_neg h2] at h
 by_cases h3 : (2 ≤ k ∧ k ≤ 5) ∧ ¬ (0 ≤ tb ∧ tb ≤ 31)
 ·rw [if_pos h3] at h; omega
 rw [if_neg h3] at h
 by_cases h4 : k = 1 ∧ md ≠ 1 ∧ md ≠ 2
 ·rw [if_pos h4] at h; omega
 have h2' : decide (k = 1) = !q := Classical.byContradiction h2
 refine ⟨by omega, by omega, fun e => ⟨?_, by omega⟩, fun e => ?_, fun _ _ => by omega⟩
 ·rw [decide_eq_true e] at h2'; cases q
  ·rfl
  ·cases h2'
 ·rw [decide_eq_false e] at h2'; cases q
  ·cases h2'
  ·rfl
theorem IMem.put {B sb i : Nat} {w w' : World} {x : Bas} {L : LIx → Value} {c : Led} {gh : Nat → TG} {op : Nat → Option Addr} (h : IMem B sb w x L c gh op) (hi : i < 4) (ho : opn x i = true) {x' : Txn} (hx : x'.op = true) (ht : TrP B w (gh i) x' w') :
 ∃ gh', IMem B sb w' { x with tx := x.tx.set i x' } L c gh' op ∧ Fr (foot sb L x gh) w w' ∧ ∀ g, foot sb L { x with tx := x.tx.set i x' } gh' g → foot sb L x gh g ∨ w.heap.size ≤ g := by
 obtain ⟨t', hT, hg, hf, hfr⟩ := ht
 have hxl : i < x.tx.length := by rw [h.n4]; exact hi
 have hop : ∀ j, opn { x with tx := x.tx.set i x' } j = opn x j := fun j => by
  unfold opn
  simp only
  rw [set_opn x i j x' hxl]
  by_cases e : j = i
  ·rw [if_pos e, e, hx]; exact ho.symm
  ·rw [if_neg e]
 have hgh : ∀ j b, j < 4 → opn x j = true → trF (if j = i then t' else gh j) b → trF (gh j) b ∨ (j = i ∧ w.heap.size ≤ b) := fun j b hj hjo hb => by
  by_cases e : j = i
  ·rw [if_pos e] at hb
   subst e
   rcases hf b hb with z | z
   ·exact .inl z
   ·exact .inr ⟨rfl, z⟩
  ·rw [if_neg e] at hb; exact .inl hb
 have hlt : ∀ j b, j < 4 → opn x j = true → trF (gh j) b → b < w.heap.size := fun j b hj hjo hb => (h.tr j hj hjo).2.lt hb
 refine ⟨fun j => if j = i then t' else gh j, ⟨by simpa using h.n4, ?_, ?_, Nat.lt_of_lt_of_le h.sl hfr.size, h.sB, h.cT, h.cH, fun j hj hjo => ?_, fun j hj hjo => ?_, h.ns, fun j hj hjo b hb => ?_, fun j l hj hl hn hjo hlo b hb hb2 => ?_, h.cs⟩, hfr.mono (fun g z => .inr (.inr ⟨i, hi, ho, z⟩)), fun g hg2 => ?_⟩
 ·exact h.led.fr hfr (fun g hg z => (h.dl i hi ho g z).1 hg)
 ·exact h.ses.fr hfr h.sl (fun z => (h.dl i hi ho sb z).2 rfl)
 ·rw [hop] at hjo
  obtain ⟨q1, q2⟩ := h.tr j hj hjo
  simp only
  rw [set_opn x i j x' hxl]
  by_cases e : j = i
  ·subst e
   rw [if_pos rfl, if_pos rfl, hg]
   exact ⟨q1, hT⟩
  ·rw [if_neg e, if_neg e]
   exact ⟨q1, q2.fr hfr (fun b hb z => h.dt j i hj hi e hjo ho b hb z)⟩
 ·rw [hop] at hjo; exact h.no j hj hjo
 ·rw [hop] at hjo
  rcases hgh j b hj hjo hb with z | ⟨_, z⟩
  ·exact h.dl j hj hjo b z
  ·refine ⟨fun q => ?_, ?_⟩
   ·have := (h.led.rm.lt q).2; omega
   ·have := h.sl; omega
 ·rw [hop] at hjo hlo
  rcases hgh j b hj hjo hb with z | ⟨e1, z⟩
  ·rcases hgh l b hl hlo hb2 with z2 | ⟨_, z2⟩
   ·exact h.dt j l hj hl hn hjo hlo b z z2
   ·have := hlt j b hj hjo z; omega
  ·rcases hgh l b hl hlo hb2 with z2 | ⟨e2, z2⟩
   ·have := hlt l b hl hlo z2; omega
   ·exact hn (e1.trans e2.symm)
 ·rcases hg2 with z | z | ⟨j, hj, hjo, z⟩
  ·exact .inl (.inl z)
  ·exact .inl (.inr (.inl z))
  ·rw [hop] at hjo
   rcases hgh j g hj hjo z with q | ⟨_, q⟩
   ·exact .inl (.inr (.inr ⟨j, hj, hjo, q⟩))
   ·exact .inr q
theorem IMem.begun {B sb n : Nat} {w W : World} {x : Bas} {L : LIx → Value} {c : Led} {gh : Nat → TG} {op : Nat → Option Addr} {md : Int} (h : IMem B sb w x L c gh op) (hB : B ≤ w.heap.size) (hn1 : 1 ≤ n) (hn2 : n ≤ 4) (ho : opn x (n - 1) = false) (hb : Below w.heap.size w W) (hk : Blk W (w.heap.size + 1) (tranC x.ck md noMarks w.heap.size (.slice none 0 0))) (hm : MP W w.heap.size []) (hz : w.heap.size + 1 < W.heap.size) :
 ∃ gh' op', IMem B sb (W.setCell ⟨sb, 66 + n, none⟩ (.pointer (some ⟨w.heap.size + 1, 0, none⟩))) { x with tx := x.tx.set (n - 1) ⟨true, md, x.ck, [], rd0, []⟩ } L c gh' op' ∧ Fr (foot sb L x gh) w (W.setCell ⟨sb, 66 + n, none⟩ (.pointer (some ⟨w.heap.size + 1, 0, none⟩))) ∧ ∀ g, foot sb L { x with tx := x.tx.set (n - 1) ⟨true, md, x.ck, [], rd0, []⟩ } gh' g → foot sb L x gh g ∨ w.heap.size ≤ g := by
 have hi : n - 1 < 4 := by omega
 have hxl : n - 1 < x.tx.length := by rw [h.n4]; exact hi
 have f2 := Fr.setCell W sb (66 + n) (.pointer (some ⟨w.heap.size + 1, 0, none⟩))
 have hsl := h.sl
 obtain ⟨t', ht'⟩ : ∃ z : TG, z = ⟨w.heap.size + 1, w.heap.size, [], .slice none 0 0, []⟩ := ⟨_, rfl⟩
 have tf : ∀ b, trF t' b → b = w.heap.size + 1 ∨ b = w.heap.size := fun b hb => by
  rw [ht'] at hb
  rcases hb with z | z | z | z
  ·exact .inl z
  ·exact .inr z
  ·simp at z
  ·exact (nil_own b z).elim
 have hT : TrM B (W.setCell ⟨sb, 66 + n, none⟩ (.pointer (some ⟨w.heap.size + 1, 0, none⟩))) t' ⟨true, md, x.ck, [], rd0, []⟩ := by
  have : TrM B W t' ⟨true, md, x.ck, [], rd0, []⟩ := by
   rw [ht']
   refine ⟨hk, hz, by simp [rd0], hm, fun t y => rfl, fun m hm => absurd hm (by simp), rfl, Nat.zero_le _, World.ownsRow_nil _ _ _ _, fun j hj _ => absurd hj (by simp), by simp, fun e => nil_own _ e, fun b hb => ?_⟩
   rcases tf b (by rw [ht']; exact hb) with z | z <;> omega
  exact this.fr f2 (fun b hb e => by have e2 : b = sb := e; rcases tf b hb with z | z <;> omega)
 have hop : ∀ j, opn { x with tx := x.tx.set (n - 1) ⟨true, md, x.ck, [], rd0, []⟩ } j = if j = n - 1 then true else opn x j := fun j => by
  unfold opn
  simp only
  rw [set_opn x (n - 1) j _ hxl]
  split <;> rfl
 have hto : ∀ j, j ≠ n - 1 → opn { x with tx := x.tx.set (n - 1) ⟨true, md, x.ck, [], rd0, []⟩ } j = opn x j := fun j e => by rw [hop, if_neg e]
 have hold : ∀ j b, j < 4 → opn x j = true → trF (gh j) b → b < w.heap.size := fun j b hj hjo hb => (h.tr j hj hjo).2.lt hb
 have h1 := h.below hb
 refine ⟨fun j => if j = n - 1 then t' else gh j, fun j => if j = n then some ⟨w.heap.size + 1, 0, none⟩ else op j, ⟨by simpa using h.n4, ?_, ?_, ?_, h.sB, h.cT, h.cH, fun j hj hjo => ?_, fun j hj hjo => ?_, h.ns, fun j hj hjo b hb => ?_, fun j l hj hl hn hjo hlo b hb hb2 => ?_, h.cs⟩, ?_, fun g hg2 => ?_⟩
 ·exact h1.led.fr f2 (fun g hg e => h.ns (by rw [← (show g = sb from e)]; exact hg))
 ·exact ses_open h1.ses n (by omega) (some ⟨w.heap.size + 1, 0, none⟩)
 ·have := h1.sl; simp; omega
 ·by_cases e : j = n - 1
  ·simp only
   rw [set_opn x (n - 1) j _ hxl, if_pos e, if_pos e, if_pos (by omega)]
   exact ⟨by rw [ht'], hT⟩
  ·rw [hto j e] at hjo
   obtain ⟨q1, q2⟩ := h1.tr j hj hjo
   simp only
   rw [set_opn x (n - 1) j _ hxl, if_neg e, if_neg e, if_neg (by omega)]
   exact ⟨q1, q2.fr f2 (fun b hb z => (h.dl j hj hjo b hb).2 z)⟩
 ·by_cases e : j = n - 1
  ·rw [hop, if_pos e] at hjo; cases hjo
  ·rw [hto j e] at hjo
   exact (if_neg (by omega)).trans (h.no j hj hjo)
 ·by_cases e : j = n - 1
  ·simp only [if_pos e] at hb
   have := tf b hb
   refine ⟨fun q => ?_, by omega⟩
   have := (h.led.rm.lt q).2; omega
  ·rw [hto j e] at hjo
   simp only [if_neg e] at hb
   exact h.dl j hj hjo b hb
 ·by_cases e : j = n - 1
  ·have el : ¬ l = n - 1 := fun z => hn (e.trans z.symm)
   rw [hto l el] at hlo
   simp only [if_pos e] at hb
   simp only [if_neg el] at hb2
   have := hold l b hl hlo hb2
   have := tf b hb
   omega
  ·rw [hto j e] at hjo
   simp only [if_neg e] at hb
   by_cases el : l = n - 1
   ·simp only [if_pos el] at hb2
    have := hold j b hj hjo hb
    have := tf b hb2
    omega
   ·rw [hto l el] at hlo
    simp only [if_neg el] at hb2
    exact h.dt j l hj hl hn hjo hlo b hb hb2
 ·exact (Fr.of_below _ hb).trans (f2.mono (fun g z => .inl z))
 ·rcases hg2 with z | z | ⟨j, hj, hjo, z⟩
  ·exact .inl (.inl z)
  ·exact .inl (.inr (.inl z))
  ·by_cases e : j = n - 1
   ·simp only [if_pos e] at z
    rcases tf g z with q | q
    ·exact .inr (by omega)
    ·exact .inr (by omega)
   ·rw [hto j e] at hjo
    simp only [if_neg e] at z
    exact .inl (.inr (.inr ⟨j, hj, hjo, z⟩))
theorem AnsP.of {B sb q : Nat} {w W0 W W' : World} {x : Bas} {L L' : LIx → Value} {c' : Led} {gh gh' : Nat → TG} {op' : Nat → Option Addr} {r : Bas × Obn} {pv : Value} {e : Ending} (hx : ∀ g, foot sb L x gh g → g < w.heap.size) (hb0 : Below w.heap.size w W0) (hq : w.heap.size ≤ q) (hq0 : q < W0.heap.size) (hM : IMem B sb W r.1 L' c' gh' op') (hF : Fr (foot sb L x gh) W0 W) (hft : ∀ g, foot sb L' r.1 gh' g → foot sb L x gh g ∨ W0.heap.size ≤ g) (hfin : Fr (fun g => g = q) W W') (hpv : Gr pairV 92 2 w.heap.size W' pv r.2.ps) (hpn : ∀ g, pv.ownBlock = some g → ¬ foot sb L' r.1 gh' g) (he : e = .returned (.agg #[.int .i64 r.2.code, .int .i64 r.2.vl, .int .i64 r.2.st, .bool r.2.fd, pv])) : AnsP B sb w x L gh r e W' := by
 have nq : ∀ g, foot sb L' r.1 gh' g → ¬ g = q := fun g hg e => by
  rcases hft g hg with z | z
  ·have := hx g z; omega
  ·omega
 have := hb0.size
 exact ⟨L', c', gh', op', pv, he, hpv, hM.fr hfin nq, ((Fr.of_below _ hb0).trans hF).then hfin (fun g e => .inr (by rw [e]; exact hq)), fun g hg => by
  rcases hft g hg with z | z
  ·exact .inl z
  ·exact .inr (by omega), hpn⟩
def opC (k n tb ky vl md : Int) (nm : ByteArray) : List Value := [.int .i64 k, .int .i64 n, .int .i64 tb, .int .i64 ky, .int .i64 vl, .int .i64 md, .string nm]
theorem fault_ok (k n : Int) (tb md : Int) (pt : Addr) (hk : 6 ≤ k) (hk2 : k ≤ 10) (h1 : 1 ≤ n) (h2 : n ≤ 4) : faultC k n tb md (some pt).isNone = 0 := by
 unfold faultC
 rw [if_neg (by omega), if_neg (by simp; omega), if_neg (by omega), if_neg (by omega)]
theorem run_i7 (x : Bas) (n : Nat) (tb ky vl md : Int) (nm : ByteArray) (hn1 : 1 ≤ n) (hn2 : n ≤ 4) (ho : opn x (n - 1) = true) : runF x ⟨7, (n : Int), tb, ky, vl, md, nm⟩ = ({ x with tx := x.tx.set (n - 1) tx0 }, ⟨0, 0, 0, false, []⟩) := by
 have e : ((n : Int) - 1).toNat = n - 1 := by omega
 unfold runF
 simp only [e]
 rw [if_neg (by omega), if_neg (by rw [show (x.tx.getD (n - 1) tx0).op = true from ho]; decide)]
 rw [if_neg (by omega)]
 simp
set_option maxHeartbeats 8000000 in
theorem ans_7 (B sb n : Nat) (tb ky vl md : Int) (nm : ByteArray) (w : World) (x : Bas) (L : LIx → Value) (c : Led) (gh : Nat → TG) (op : Nat → Option Addr) (h : IMem B sb w x L c gh op) (hb : Bnd x) (hck : x.ck < 1000) (hhl : x.hs.length < 1000) (hB : B ≤ w.heap.size) (hn1 : 1 ≤ n) (hn2 : n ≤ 4) (ho : opn x (n - 1) = true) :
 Calls Tryz.prog 22 #[.pointer (some ⟨sb, 0, none⟩), .agg #[.int .i64 7, .int .i64 (n : Int), .int .i64 tb, .int .i64 ky, .int .i64 vl, .int .i64 md, .string nm]] w fun e w' => AnsP B sb w x L gh (runF x ⟨7, (n : Int), tb, ky, vl, md, nm⟩) e w' := by
 have hi : n - 1 < 4 := by omega
 have e1 : n - 1 + 1 = n := by omega
 obtain ⟨w0, hw0⟩ : ∃ z, z = (w.alloc (.cells #[.int .i64 7, .int .i64 (n : Int), .int .i64 tb, .int .i64 ky, .int .i64 vl, .int .i64 md, .string nm] 41)).alloc (.cells #[.int .i64 0, .int .i64 0, .int .i64 0, .bool false, .slice none 0 0] 38) := ⟨_, rfl⟩
 have hb0 : Below w.heap.size w w0 := by rw [hw0]; exact (below_alloc _ _).trans ((below_alloc _ _).mono (by simp))
 have hz0 : w0.heap.size = w.heap.size + 1 + 1 := by rw [hw0]; simp
 have KO0 : Blk w0 w.heap.size (opC 7 n tb ky vl md nm) := by rw [hw0]; exact (blk_new w (opC 7 n tb ky vl md nm) _).below (below_alloc _ _) (by simp)
 have KR0 : Blk w0 (w.heap.size + 1) (obsC 0 0 0 false (.slice none 0 0)) := by
  have := blk_new (w.alloc (.cells #[.int .i64 7, .int .i64 (n : Int), .int .i64 tb, .int .i64 ky, .int .i64 vl, .int .i64 md, .string nm] 41)) (obsC 0 0 0 false (.slice none 0 0)) 38
  have e : (w.alloc (.cells #[.int .i64 7, .int .i64 (n : Int), .int .i64 tb, .int .i64 ky, .int .i64 vl, .int .i64 md, .string nm] 41)).heap.size = w.heap.size + 1 := by simp
  rw [e] at this
  rw [hw0]
  exact this
 have h0 := h.below hb0
 obtain ⟨hop, hT⟩ := h0.tr (n - 1) hi ho
 rw [e1] at hop
 clear hT
 obtain ⟨c0, _⟩ := ses_cell h0.ses (j := 66 + n) (by omega)
 rw [sesAt_op, hop] at c0
 have hfa := fault_in sb n 7 tb md ky vl (.string nm) (some ⟨(gh (n - 1)).g, 0, none⟩) w0 h0.sl (by omega) (by omega) hn1 hn2 c0
 rw [show faultC 7 n tb md ((some ⟨(gh (n - 1)).g, 0, none⟩)).isNone = 0 from (fault_ok 7 n tb md _ (by omega) (by omega) (by omega) (by omega))] at hfa
 have hni : (n : Int) < 5 := by omega
 have hsl := h.sl
 have hfl : ∀ g, foot sb L x gh g → g < w.heap.size := fun g hg => (h.lt hg).2
 have HFL := hid hfl
 have HB := hid hb
 have HM := hid h0
 have HKO := hid KO0
 have HKR := hid KR0
 clear h0 h KO0 KR0 hfl hb
 rw [hw0] at hfa
 go_enter Tryz.func22, Tryz.ntmps22
 go_wp2_with (go_at_call 42; fail)
 refine hfa.mono ?_
 rw [← hw0]
 rintro e w1 ⟨rfl, hb1⟩
 have hs1 := hb1.size
 have HB1 := hid (hb0.trans (hb1.mono hb0.size) : Below w.heap.size w w1)
 have KO := HKO.out.below hb1 (by omega)
 have KR := HKR.out.below hb1 (by omega)
 have c1 := (World.cell?_of_block (a := ⟨sb, 66 + n, none⟩) (hb1.block sb (by omega))).trans c0
 have o0 : w1.cell? ⟨w.heap.size, 0, none⟩ = some (.int .i64 7) := (KO 0 (by simp [opC])).1
 have o1 : w1.cell? ⟨w.heap.size, 1, none⟩ = some (.int .i64 (n : Int)) := (KO 1 (by simp [opC])).1
 have o2 : w1.cell? ⟨w.heap.size, 2, none⟩ = some (.int .i64 tb) := (KO 2 (by simp [opC])).1
 have o3 : w1.cell? ⟨w.heap.size, 3, none⟩ = some (.int .i64 ky) := (KO 3 (by simp [opC])).1
 obtain ⟨w2, hw2⟩ : ∃ z, z = (w1.alloc (.cells #[.int .i64 tb, .int .i64 ky] 113)).drew := ⟨_, rfl⟩
 have b2 : Below w1.heap.size w1 w2 := by rw [hw2]; exact (below_alloc _ _).drew
 have hz2 : w2.heap.size = w1.heap.size + 1 := by rw [hw2]; simp
 have KO2 := KO.below b2 (by omega)
 have KR2 := KR.below b2 (by omega)
 have KS2 : Blk w2 w1.heap.size [.int .i64 tb, .int .i64 ky] := by rw [hw2]; exact (blk_new w1 [.int .i64 tb, .int .i64 ky] _).drewR
 have q0 : (w1.alloc (.cells #[.int .i64 tb, .int .i64 ky] 113)).cell? ⟨w.heap.size, 0, none⟩ = some (.int .i64 7) := by rw [hw2] at KO2; exact (KO2 0 (by simp [opC])).1
 have HKO := hid KO2
 have HKR := hid KR2
 have HKS := hid KS2
 have HM2 := hid ((HM.out.below hb1).below b2)
 have HB2 := hid (HB1.out.trans (b2.mono HB1.out.size) : Below w.heap.size w w2)
 have HW2 := hid hw2
 clear hfa c0 hb1 HM KO KR KO2 KR2 KS2 b2 HB1
 have q1 : (w1.alloc (.cells #[.int .i64 tb, .int .i64 ky] 113)).cell? ⟨w.heap.size, 1, none⟩ = some (.int .i64 (n : Int)) := by have := HKO.out; rw [hw2] at this; exact (this 1 (by simp [opC])).1
 clear hw2
 have hzz : w.heap.size + 1 < w1.heap.size := by omega
 go_wp2
 go_region
 go_wp2_with (go_at_call 48; fail)
 rw [← HW2.out]
 refine (end_any B sb n w2 x L c gh op HM2.out hn1 hn2 ho).mono ?_
 rintro e w3 ⟨⟨r, rfl⟩, ⟨op', hM3⟩, hfr⟩
 have hs3 := hfr.size
 have HM3 := hid hM3
 have HFR := hid hfr
 clear hM3 hfr
 have KR3 := HKR.out.fr HFR.out (by omega) (fun z => by have := HFL.out _ z; omega)
 have r0 : w3.cell? ⟨w.heap.size + 1, 0, none⟩ = some (.int .i64 0) := (KR3 0 (by simp [obsC, opC])).1
 have fr0 : w3.frozen? ⟨w.heap.size + 1, 0, none⟩ = false := (KR3 0 (by simp [obsC, opC])).2
 have r1 : w3.cell? ⟨w.heap.size + 1, 1, none⟩ = some (.int .i64 0) := (KR3 1 (by simp [obsC, opC])).1
 have fr1 : w3.frozen? ⟨w.heap.size + 1, 1, none⟩ = false := (KR3 1 (by simp [obsC, opC])).2
 have r2 : w3.cell? ⟨w.heap.size + 1, 2, none⟩ = some (.int .i64 0) := (KR3 2 (by simp [obsC, opC])).1
 have fr2 : w3.frozen? ⟨w.heap.size + 1, 2, none⟩ = false := (KR3 2 (by simp [obsC, opC])).2
 have r3 : w3.cell? ⟨w.heap.size + 1, 3, none⟩ = some (.bool false) := (KR3 3 (by simp [obsC, opC])).1
 have fr3 : w3.frozen? ⟨w.heap.size + 1, 3, none⟩ = false := (KR3 3 (by simp [obsC, opC])).2
 have r4 : w3.cell? ⟨w.heap.size + 1, 4, none⟩ = some (.slice none 0 0) := (KR3 4 (by simp [obsC, opC])).1
 have fr4 : w3.frozen? ⟨w.heap.size + 1, 4, none⟩ = false := (KR3 4 (by simp [obsC, opC])).2
 obtain ⟨W4, hW4⟩ : ∃ z, z = set5 w3 (w.heap.size + 1) (.int .i64 0) (.int .i64 0) (.int .i64 0) (.bool false) (.slice none 0 0) := ⟨_, rfl⟩
 have f4 : Fr (fun q => q = w.heap.size + 1) w3 W4 := by rw [hW4]; exact chg_5 _ _ _ _ _ _ _
 have K4 : Blk W4 (w.heap.size + 1) (obsC 0 0 0 false (.slice none 0 0)) := by rw [hW4]; exact blk_set5 KR3 rfl
 have t0 : W4.cell? ⟨w.heap.size + 1, 0, none⟩ = some (.int .i64 0) := (K4 0 (by simp [obsC, opC])).1
 have t1 : W4.cell? ⟨w.heap.size + 1, 1, none⟩ = some (.int .i64 0) := (K4 1 (by simp [obsC, opC])).1
 have t2 : W4.cell? ⟨w.heap.size + 1, 2, none⟩ = some (.int .i64 0) := (K4 2 (by simp [obsC, opC])).1
 have t3 : W4.cell? ⟨w.heap.size + 1, 3, none⟩ = some (.bool false) := (K4 3 (by simp [obsC, opC])).1
 have t4 : W4.cell? ⟨w.heap.size + 1, 4, none⟩ = some (.slice none 0 0) := (K4 4 (by simp [obsC, opC])).1
 have HF4 := hid f4
 unfold set5 at hW4
 clear K4 KR3 f4
 go_wp2
 rw [← hW4]
 refine bodyPost_ret (v := .agg #[.int .i64 0, .int .i64 0, .int .i64 0, .bool false, .slice none 0 0]) (by simp [results, Tryz.results22, go_sem, t0, t1, t2, t3, t4]) rfl ?_
 rw [run_i7 x n tb ky vl md nm hn1 hn2 ho]
 exact AnsP.of (q := w.heap.size + 1) (pv := .slice none 0 0) HFL.out HB2.out (by omega) (by omega) HM3.out HFR.out (fun g hg => .inl (foot_end (by rw [HM2.out.n4]; exact hi) hg)) HF4.out (gr_nil _ _ _ _ _) (fun g hg => (nil_own g hg).elim) rfl
end Go.Proofs.YtblkgicbimflhaaGreat
