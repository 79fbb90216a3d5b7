import Derived.Test.YtblkgicbimflhaaGreatSBN
import Derived.Test.YtblkgicbimflhaaGreatSAA
import Derived.Test.YtblkgicbimflhaaGreatSAR
import Derived.Deep.CutRange
import Derived.Deep.DeepCutAuto
namespace Go.Proofs.YtblkgicbimflhaaGreat
open Go.ChangeShapes Go.WideShapes Go.ChangeAt Go.RowKit
set_option linter.unusedVariables false
set_option linter.unusedSimpArgs false
set_option maxRecDepth 100000
set_option maxHeartbeats 16000000
theorem fault_run (x : Bas) (o : Opn) (h : faultC o.kd o.ss o.tb o.md (!(x.tx.getD (o.ss - 1).toNat tx0).op) ≠ 0) : runF x o = (x, ⟨faultC o.kd o.ss o.tb o.md (!(x.tx.getD (o.ss - 1).toNat tx0).op), 0, 0, false, []⟩) := by
 unfold faultC at h ⊢
 unfold runF
 simp only
 generalize (x.tx.getD (o.ss - 1).toNat tx0).op = q at h ⊢
 by_cases h1 : ¬ (1 <= o.kd /\ o.kd <= 10) \/ ¬ (1 <= o.ss /\ o.ss <= 4)
 .rw [if_pos h1, if_pos (by omega)]
 rw [if_neg h1] at h ⊢
 rw [if_neg (by omega)]
 by_cases h2 : decide (o.kd = 1) ≠ !q
 .rw [if_pos h2, if_pos]
  cases q
  .have : decide (o.kd = 1) = false := by simpa using h2
   rw [show (o.kd == 1) = decide (o.kd = 1) from rfl]; exact this
  .have : decide (o.kd = 1) = true := by simpa using h2
   rw [show (o.kd == 1) = decide (o.kd = 1) from rfl]; exact this
 rw [if_neg h2] at h ⊢
 rw [if_neg (fun e => h2 (by rw [show (o.kd == 1) = decide (o.kd = 1) from rfl] at e; rw [e]; cases q <;> simp))]
 by_cases h3 : (2 <= o.kd /\ o.kd <= 5) /\ ¬ (0 <= o.tb /\ o.tb <= 31)
 .rw [if_pos h3, if_pos (by omega)]
 rw [if_neg h3] at h ⊢
 rw [if_neg (by omega)]
 by_cases h4 : o.kd = 1 /\ o.md ≠ 1 /\ o.md ≠ 2
 .rw [if_pos h4, if_pos h4.1, if_pos h4.2]
 .rw [if_neg h4] at h
  exact absurd rfl h
theorem fault_no {k s tb md : Int} {q : Bool} (h : faultC k s tb md (!q) = 0) : (1 <= k /\ k <= 10) /\ (1 <= s /\ s <= 4) /\ (k = 1 -> q = false /\ (md = 1 \/ md = 2)) /\ (k ≠ 1 -> q = true) /\ (2 <= k -> k <= 5 -> 0 <= tb /\ tb < 32) := by
 unfold faultC at h
 by_cases h1 : ¬ (1 <= k /\ k <= 10) \/ ¬ (1 <= s /\ s <= 4)
 .rw [if_pos h1] at h; omega
 rw [if_neg h1] at h
 by_cases h2 : decide (k = 1) ≠ !q
 .rw [if_pos h2] at h; omega
 rw [if_neg h2] at h
 by_cases h3 : (2 <= k /\ k <= 5) /\ ¬ (0 <= tb /\ tb <= 31)
 .rw [if_pos h3] at h; omega
 rw [if_neg h3] at h
 by_cases h4 : k = 1 /\ md ≠ 1 /\ md ≠ 2
 .rw [if_pos h4] at h; omega
 have h2' : decide (k = 1) = !q := Classical.byContradiction h2
 refine ⟨by omega, by omega, fun e => ⟨?_, by omega⟩, fun e => ?_, fun _ _ => by omega⟩
 .rw [decide_eq_true e] at h2'; cases q
  .rfl
  .cases h2'
 .rw [decide_eq_false e] at h2'; cases q
  .cases h2'
  .rfl
theorem IMem.put {B sb i : Nat} {w w' : World} {x : Bas} {L : LIx -> Value} {c : Led} {gh : Nat -> TG} {op : Nat -> Option Addr} (h : IMem B sb w x L c gh op) (hi : i < 4) (ho : opn x i = true) {x' : Txn} (hx : x'.op = true) (ht : TrP B w (gh i) x' w') :
 ∃ gh', IMem B sb w' { x with tx := x.tx.set i x' } L c gh' op /\ Fr (foot sb L x gh) w w' /\ ∀ g, foot sb L { x with tx := x.tx.set i x' } gh' g -> foot sb L x gh g \/ w.heap.size <= g := by
 obtain ⟨t', hT, hg, hf, hfr⟩ := ht
 have hxl : i < x.tx.length := by rw [h.n4]; exact hi
 have hop : ∀ j, opn { x with tx := x.tx.set i x' } j = opn x j := fun j => by
  unfold opn
  simp only
  rw [set_opn x i j x' hxl]
  by_cases e : j = i
  .rw [if_pos e, e, hx]; exact ho.symm
  .rw [if_neg e]
 have hgh : ∀ j b, j < 4 -> opn x j = true -> trF (if j = i then t' else gh j) b -> trF (gh j) b \/ (j = i /\ w.heap.size <= b) := fun j b hj hjo hb => by
  by_cases e : j = i
  .rw [if_pos e] at hb
   subst e
   rcases hf b hb with z | z
   .exact .inl z
   .exact .inr ⟨rfl, z⟩
  .rw [if_neg e] at hb; exact .inl hb
 have hlt : ∀ j b, j < 4 -> opn x j = true -> trF (gh j) b -> b < w.heap.size := fun j b hj hjo hb => (h.tr j hj hjo).2.lt hb
 refine ⟨fun j => if j = i then t' else gh j, ⟨by simpa using h.n4, ?_, ?_, Nat.lt_of_lt_of_le h.sl hfr.size, h.sB, h.cT, h.cH, fun j hj hjo => ?_, fun j hj hjo => ?_, h.ns, fun j hj hjo b hb => ?_, fun j l hj hl hn hjo hlo b hb hb2 => ?_, h.cs⟩, hfr.mono (fun g z => .inr (.inr ⟨i, hi, ho, z⟩)), fun g hg2 => ?_⟩
 .exact h.led.fr hfr (fun g hg z => (h.dl i hi ho g z).1 hg)
 .exact h.ses.fr hfr h.sl (fun z => (h.dl i hi ho sb z).2 rfl)
 .rw [hop] at hjo
  obtain ⟨q1, q2⟩ := h.tr j hj hjo
  simp only
  rw [set_opn x i j x' hxl]
  by_cases e : j = i
  .subst e
   rw [if_pos rfl, if_pos rfl, hg]
   exact ⟨q1, hT⟩
  .rw [if_neg e, if_neg e]
   exact ⟨q1, q2.fr hfr (fun b hb z => h.dt j i hj hi e hjo ho b hb z)⟩
 .rw [hop] at hjo; exact h.no j hj hjo
 .rw [hop] at hjo
  rcases hgh j b hj hjo hb with z | ⟨_, z⟩
  .exact h.dl j hj hjo b z
  .refine ⟨fun q => ?_, ?_⟩
   .have := (h.led.rm.lt q).2; omega
   .have := h.sl; omega
 .rw [hop] at hjo hlo
  rcases hgh j b hj hjo hb with z | ⟨e1, z⟩
  .rcases hgh l b hl hlo hb2 with z2 | ⟨_, z2⟩
   .exact h.dt j l hj hl hn hjo hlo b z z2
   .have := hlt j b hj hjo z; omega
  .rcases hgh l b hl hlo hb2 with z2 | ⟨e2, z2⟩
   .have := hlt l b hl hlo z2; omega
   .exact hn (e1.trans e2.symm)
 .rcases hg2 with z | z | ⟨j, hj, hjo, z⟩
  .exact .inl (.inl z)
  .exact .inl (.inr (.inl z))
  .rw [hop] at hjo
   rcases hgh j g hj hjo z with q | ⟨_, q⟩
   .exact .inl (.inr (.inr ⟨j, hj, hjo, q⟩))
   .exact .inr q
theorem IMem.begun {B sb n : Nat} {w W : World} {x : Bas} {L : LIx -> Value} {c : Led} {gh : Nat -> TG} {op : Nat -> Option Addr} {md : Int} (h : IMem B sb w x L c gh op) (hB : B <= w.heap.size) (hn1 : 1 <= n) (hn2 : n <= 4) (ho : opn x (n - 1) = false) (hb : Below w.heap.size w W) (hk : Blk W (w.heap.size + 1) (tranC x.ck md noMarks w.heap.size (.slice none 0 0))) (hm : MP W w.heap.size []) (hz : w.heap.size + 1 < W.heap.size) :
 ∃ gh' op', IMem B sb (W.setCell ⟨sb, 66 + n, none⟩ (.pointer (some ⟨w.heap.size + 1, 0, none⟩))) { x with tx := x.tx.set (n - 1) ⟨true, md, x.ck, [], rd0, []⟩ } L c gh' op' /\ Fr (foot sb L x gh) w (W.setCell ⟨sb, 66 + n, none⟩ (.pointer (some ⟨w.heap.size + 1, 0, none⟩))) /\ ∀ g, foot sb L { x with tx := x.tx.set (n - 1) ⟨true, md, x.ck, [], rd0, []⟩ } gh' g -> foot sb L x gh g \/ w.heap.size <= g := by
 have hi : n - 1 < 4 := by omega
 have hxl : n - 1 < x.tx.length := by rw [h.n4]; exact hi
 have f2 := Fr.setCell W sb (66 + n) (.pointer (some ⟨w.heap.size + 1, 0, none⟩))
 have hsl := h.sl
 obtain ⟨t', ht'⟩ : ∃ z : TG, z = ⟨w.heap.size + 1, w.heap.size, [], .slice none 0 0, []⟩ := ⟨_, rfl⟩
 have tf : ∀ b, trF t' b -> b = w.heap.size + 1 \/ b = w.heap.size := fun b hb => by
  rw [ht'] at hb
  rcases hb with z | z | z | z
  .exact .inl z
  .exact .inr z
  .simp at z
  .exact (nil_own b z).elim
 have hT : TrM B (W.setCell ⟨sb, 66 + n, none⟩ (.pointer (some ⟨w.heap.size + 1, 0, none⟩))) t' ⟨true, md, x.ck, [], rd0, []⟩ := by
  have : TrM B W t' ⟨true, md, x.ck, [], rd0, []⟩ := by
   rw [ht']
   refine ⟨hk, hz, by simp [rd0], hm, fun t y => rfl, fun m hm => absurd hm (by simp), rfl, Nat.zero_le _, World.ownsRow_nil _ _ _ _, fun j hj _ => absurd hj (by simp), by simp, fun e => nil_own _ e, fun b hb => ?_⟩
   rcases tf b (by rw [ht']; exact hb) with z | z <;> omega
  exact this.fr f2 (fun b hb e => by have e2 : b = sb := e; rcases tf b hb with z | z <;> omega)
 have hop : ∀ j, opn { x with tx := x.tx.set (n - 1) ⟨true, md, x.ck, [], rd0, []⟩ } j = if j = n - 1 then true else opn x j := fun j => by
  unfold opn
  simp only
  rw [set_opn x (n - 1) j _ hxl]
  split <;> rfl
 have hto : ∀ j, j ≠ n - 1 -> opn { x with tx := x.tx.set (n - 1) ⟨true, md, x.ck, [], rd0, []⟩ } j = opn x j := fun j e => by rw [hop, if_neg e]
 have hold : ∀ j b, j < 4 -> opn x j = true -> trF (gh j) b -> b < w.heap.size := fun j b hj hjo hb => (h.tr j hj hjo).2.lt hb
 have h1 := h.below hb
 refine ⟨fun j => if j = n - 1 then t' else gh j, fun j => if j = n then some ⟨w.heap.size + 1, 0, none⟩ else op j, ⟨by simpa using h.n4, ?_, ?_, ?_, h.sB, h.cT, h.cH, fun j hj hjo => ?_, fun j hj hjo => ?_, h.ns, fun j hj hjo b hb => ?_, fun j l hj hl hn hjo hlo b hb hb2 => ?_, h.cs⟩, ?_, fun g hg2 => ?_⟩
 .exact h1.led.fr f2 (fun g hg e => h.ns (by rw [<- (show g = sb from e)]; exact hg))
 .exact ses_open h1.ses n (by omega) (some ⟨w.heap.size + 1, 0, none⟩)
 .have := h1.sl; simp; omega
 .by_cases e : j = n - 1
  .simp only
   rw [set_opn x (n - 1) j _ hxl, if_pos e, if_pos e, if_pos (by omega)]
   exact ⟨by rw [ht'], hT⟩
  .rw [hto j e] at hjo
   obtain ⟨q1, q2⟩ := h1.tr j hj hjo
   simp only
   rw [set_opn x (n - 1) j _ hxl, if_neg e, if_neg e, if_neg (by omega)]
   exact ⟨q1, q2.fr f2 (fun b hb z => (h.dl j hj hjo b hb).2 z)⟩
 .by_cases e : j = n - 1
  .rw [hop, if_pos e] at hjo; cases hjo
  .rw [hto j e] at hjo
   exact (if_neg (by omega)).trans (h.no j hj hjo)
 .by_cases e : j = n - 1
  .simp only [if_pos e] at hb
   have := tf b hb
   refine ⟨fun q => ?_, by omega⟩
   have := (h.led.rm.lt q).2; omega
  .rw [hto j e] at hjo
   simp only [if_neg e] at hb
   exact h.dl j hj hjo b hb
 .by_cases e : j = n - 1
  .have el : ¬ l = n - 1 := fun z => hn (e.trans z.symm)
   rw [hto l el] at hlo
   simp only [if_pos e] at hb
   simp only [if_neg el] at hb2
   have := hold l b hl hlo hb2
   have := tf b hb
   omega
  .rw [hto j e] at hjo
   simp only [if_neg e] at hb
   by_cases el : l = n - 1
   .simp only [if_pos el] at hb2
    have := hold j b hj hjo hb
    have := tf b hb2
    omega
   .rw [hto l el] at hlo
    simp only [if_neg el] at hb2
    exact h.dt j l hj hl hn hjo hlo b hb hb2
 .exact (Fr.of_below _ hb).trans (f2.mono (fun g z => .inl z))
 .rcases hg2 with z | z | ⟨j, hj, hjo, z⟩
  .exact .inl (.inl z)
  .exact .inl (.inr (.inl z))
  .by_cases e : j = n - 1
   .simp only [if_pos e] at z
    rcases tf g z with q | q
    .exact .inr (by omega)
    .exact .inr (by omega)
   .rw [hto j e] at hjo
    simp only [if_neg e] at z
    exact .inl (.inr (.inr ⟨j, hj, hjo, z⟩))
theorem AnsP.of {B sb q : Nat} {w W0 W W' : World} {x : Bas} {L L' : LIx -> Value} {c' : Led} {gh gh' : Nat -> TG} {op' : Nat -> Option Addr} {r : Bas × Obn} {pv : Value} {e : Ending} (hx : ∀ g, foot sb L x gh g -> g < w.heap.size) (hb0 : Below w.heap.size w W0) (hq : w.heap.size <= q) (hq0 : q < W0.heap.size) (hM : IMem B sb W r.1 L' c' gh' op') (hF : Fr (foot sb L x gh) W0 W) (hft : ∀ g, foot sb L' r.1 gh' g -> foot sb L x gh g \/ W0.heap.size <= g) (hfin : Fr (fun g => g = q) W W') (hpv : Gr pairV 92 2 w.heap.size W' pv r.2.ps) (hpn : ∀ g, pv.ownBlock = some g -> ¬ foot sb L' r.1 gh' g) (he : e = .returned (.agg #[.int .i64 r.2.code, .int .i64 r.2.vl, .int .i64 r.2.st, .bool r.2.fd, pv])) : AnsP B sb w x L gh r e W' := by
 have nq : ∀ g, foot sb L' r.1 gh' g -> ¬ g = q := fun g hg e => by
  rcases hft g hg with z | z
  .have := hx g z; omega
  .omega
 have := hb0.size
 exact ⟨L', c', gh', op', pv, he, hpv, hM.fr hfin nq, ((Fr.of_below _ hb0).trans hF).then hfin (fun g e => .inr (by rw [e]; exact hq)), fun g hg => by
  rcases hft g hg with z | z
  .exact .inl z
  .exact .inr (by omega), hpn⟩
def DOp (o : Opn) : Prop := (1 <= o.kd /\ o.kd <= 10) /\ (1 <= o.ss /\ o.ss <= 3) /\ o.nm.size <= 1
def opV (o : Opn) : Value := .agg #[.int .i64 o.kd, .int .i64 o.ss, .int .i64 o.tb, .int .i64 o.ky, .int .i64 o.vl, .int .i64 o.md, .string o.nm]
theorem Blk.upd {c : Nat} {w w' : World} {b : Nat} {cs : List Value} (h : Blk w b cs) (u : Upd c w w') (hb : b < w.heap.size) (hc : b ≠ c) : Blk w' b cs := fun j hj => ⟨(u.cell (p := ⟨b, j, none⟩) hb hc).trans (h j hj).1, (u.frozen (p := ⟨b, j, none⟩) hb hc).trans (h j hj).2⟩
theorem IsCur.alloc {w : World} {c : Nat} {A : Int} (h : IsCur w c A) (o : Obj) : IsCur (w.alloc o) c A := h.same (fun k hk => Below.heap_alloc w o k (by have := h.lt; omega)) (by have := h.lt; simp; omega)
def kinds16 : List Int := [1, 1, 2, 2, 3, 3, 4, 4, 4, 5, 6, 6, 7, 8, 9, 10]
theorem kinds_at {k : Nat} (h : k < 16) : ∃ v : Int, (kinds16.map (Value.int .i64))[k]? = some (.int .i64 v) /\ 1 <= v /\ v <= 10 := by
 have hl : k < kinds16.length := h
 refine ⟨kinds16[k], by rw [List.getElem?_map, List.getElem?_eq_getElem hl]; rfl, ?_⟩
 have : ∀ v ∈ kinds16, 1 <= v /\ v <= 10 := by decide
 exact this _ (List.getElem_mem hl)
theorem Upd.new {c g : Nat} {w W W' : World} (h : Upd c w W) (k : Upd g W W') (hg : w.heap.size <= g) : Upd c w W' := ⟨k.os.trans h.os, k.tape.trans h.tape, k.output.trans h.output, Nat.le_trans h.size k.size, fun j hj hc => (k.block j (Nat.lt_of_lt_of_le hj h.size) (by omega)).trans (h.block j hj hc)⟩
theorem IsCur.new {c g : Nat} {A : Int} {W W' : World} (h : IsCur W c A) (k : Upd g W W') (hg : c < g) : IsCur W' c A := h.same (fun j hj => k.block j (by have := h.lt; omega) (by omega)) (Nat.lt_of_lt_of_le h.lt k.size)
theorem IsCur.more {w : World} {c : Nat} {A : Int} (h : IsCur w c A) (B : Int) (hB : A <= B) : IsCur w c B := by
 obtain ⟨v0, len, cap, at', seed, room, hC⟩ := h
 exact ⟨v0, len, cap, at', seed, room, ⟨hC.c0, hC.c1, hC.c2, hC.c3, hC.f1, hC.f2, hC.a0, Int.le_trans hC.a1 hB, hC.s0, hC.s1, hC.ln, hC.lt, hC.bs⟩⟩
def set7 (w : World) (g : Nat) (a b d e f h : Int) (nm : ByteArray) : World := ((((((w.setCell ⟨g, 0, none⟩ (.int .i64 a)).setCell ⟨g, 1, none⟩ (.int .i64 b)).setCell ⟨g, 2, none⟩ (.int .i64 d)).setCell ⟨g, 3, none⟩ (.int .i64 e)).setCell ⟨g, 4, none⟩ (.int .i64 f)).setCell ⟨g, 5, none⟩ (.int .i64 h)).setCell ⟨g, 6, none⟩ (.string nm)
theorem upd_set7 (w : World) (g : Nat) (a b d e f h : Int) (nm : ByteArray) : Upd g w (set7 w g a b d e f h nm) := (((((((Upd.refl g w).setCell 0 _).setCell 1 _).setCell 2 _).setCell 3 _).setCell 4 _).setCell 5 _).setCell 6 _
def opL (a b d e f h : Int) (nm : ByteArray) : List Value := [.int .i64 a, .int .i64 b, .int .i64 d, .int .i64 e, .int .i64 f, .int .i64 h, .string nm]
theorem blk_set7 {w : World} {g : Nat} {a b d e f h : Int} {nm : ByteArray} {cs : List Value} (hk : Blk w g cs) (hl : cs.length = 7) : Blk (set7 w g a b d e f h nm) g (opL a b d e f h nm) := by
 have h1 := ((((((hk.set 0 (.int .i64 a) (by omega)).set 1 (.int .i64 b) (by simp; omega)).set 2 (.int .i64 d) (by simp; omega)).set 3 (.int .i64 e) (by simp; omega)).set 4 (.int .i64 f) (by simp; omega)).set 5 (.int .i64 h) (by simp; omega)).set 6 (.string nm) (by simp; omega)
 match cs, hl with
 | [_, _, _, _, _, _, _], _ => exact h1
theorem drawOp_any (c : Nat) (A : Int) (w : World) (h : IsCur w c A) (hA : A <= 10000000) :
 Calls Tryz.prog 37 #[.pointer (some ⟨c, 0, none⟩), .int .i64 0] w fun e w' => ∃ o : Opn, e = .returned (opV o) /\ DOp o /\ IsCur w' c (A + 14) /\ Upd c w w' := by
 have hcl := h.lt
 obtain ⟨w0, hw0⟩ : ∃ z, z = w.alloc (.cells #[.int .i64 0, .int .i64 0, .int .i64 0, .int .i64 0, .int .i64 0, .int .i64 0, .string ⟨#[]⟩] 41) := ⟨_, rfl⟩
 have u0 : Upd c w w0 := by rw [hw0]; exact Upd.of_below (below_alloc _ _)
 have K0 : Blk w0 w.heap.size [.int .i64 0, .int .i64 0, .int .i64 0, .int .i64 0, .int .i64 0, .int .i64 0, .string ⟨#[]⟩] := by rw [hw0]; exact blk_new w [.int .i64 0, .int .i64 0, .int .i64 0, .int .i64 0, .int .i64 0, .int .i64 0, .string ⟨#[]⟩] _
 have hz0 : w.heap.size < w0.heap.size := by rw [hw0]; simp
 have i0 : IsCur w0 c A := by rw [hw0]; exact h.alloc _
 have HP := hid (pick_any c A 3 w0 i0 (by omega) (by omega) (by omega))
 have HK0 := hid K0
 have HU0 := hid u0
 clear h i0 K0 u0
 rw [hw0] at HP
 go_enter Tryz.func37, Tryz.ntmps37
 go_wp2_with (go_at_call 28; fail)
 rw [<- hw0] at HP ⊢
 clear hw0
 refine HP.out.mono ?_
 rintro e w1 ⟨r1, a1, b1, rfl, hc1, hu1⟩
 have HP := hid (pick_any c (A + 2) 3 w1 hc1 (by omega) (by omega) (by omega))
 have hs1 := hu1.size
 have HU1 := hid (HU0.out.trans hu1)
 have HK1 := hid (HK0.out.upd hu1 hz0 (by omega))
 clear hc1 hu1
 go_wp2_with (go_at_call 28; fail)
 refine HP.out.mono ?_
 rintro e w2 ⟨r2, a2, b2, rfl, hc2, hu2⟩
 have HP := hid (pick_any c (A + 2 + 2) 3 w2 hc2 (by omega) (by omega) (by omega))
 have hs2 := hu2.size
 have HU2 := hid (HU1.out.trans hu2)
 have HK2 := hid (HK1.out.upd hu2 (by omega) (by omega))
 clear hc2 hu2
 go_wp2_with (go_at_call 28; fail)
 refine HP.out.mono ?_
 rintro e w3 ⟨r3, a3, b3, rfl, hc3, hu3⟩
 have HP := hid (pick_any c (A + 2 + 2 + 2) 99 w3 hc3 (by omega) (by omega) (by omega))
 have hs3 := hu3.size
 have HU3 := hid (HU2.out.trans hu3)
 have HK3 := hid (HK2.out.upd hu3 (by omega) (by omega))
 clear hc3 hu3
 go_wp2_with (go_at_call 28; fail)
 refine HP.out.mono ?_
 rintro e w4 ⟨r4, a4, b4, rfl, hc4, hu4⟩
 have hs4 := hu4.size
 have HU4 := hid (HU3.out.trans hu4)
 have HK4 := hid (HK3.out.upd hu4 (by omega) (by omega))
 have HC4 := hid hc4
 clear hc4 hu4 HP HU0 HU1 HU2 HU3 HK0 HK1 HK2 HK3
 obtain ⟨w5, hw5⟩ : ∃ z, z = (w4.alloc (.cells #[.int .i64 0, .int .i64 (1 + r1), .int .i64 r2, .int .i64 r3, .int .i64 (1 + r4), .int .i64 0, .string ⟨#[]⟩] 41)).alloc (.cells #[.int .i64 1, .int .i64 1, .int .i64 2, .int .i64 2, .int .i64 3, .int .i64 3, .int .i64 4, .int .i64 4, .int .i64 4, .int .i64 5, .int .i64 6, .int .i64 6, .int .i64 7, .int .i64 8, .int .i64 9, .int .i64 10] 3) := ⟨_, rfl⟩
 have b5 : Below w4.heap.size w4 w5 := by rw [hw5]; exact (below_alloc _ _).trans ((below_alloc _ _).mono (by simp))
 have hz5 : w4.heap.size + 1 < w5.heap.size := by rw [hw5]; simp
 have KO5 : Blk w5 w4.heap.size [.int .i64 0, .int .i64 (1 + r1), .int .i64 r2, .int .i64 r3, .int .i64 (1 + r4), .int .i64 0, .string ⟨#[]⟩] := by rw [hw5]; exact (blk_new w4 [.int .i64 0, .int .i64 (1 + r1), .int .i64 r2, .int .i64 r3, .int .i64 (1 + r4), .int .i64 0, .string ⟨#[]⟩] _).below (below_alloc _ _) (by simp)
 have KR5 : Blk w5 (w4.heap.size + 1) (kinds16.map (Value.int .i64)) := by
  have := blk_new (w4.alloc (.cells #[.int .i64 0, .int .i64 (1 + r1), .int .i64 r2, .int .i64 r3, .int .i64 (1 + r4), .int .i64 0, .string ⟨#[]⟩] 41)) (kinds16.map (Value.int .i64)) 3
  have e : (w4.alloc (.cells #[.int .i64 0, .int .i64 (1 + r1), .int .i64 r2, .int .i64 r3, .int .i64 (1 + r4), .int .i64 0, .string ⟨#[]⟩] 41)).heap.size = w4.heap.size + 1 := by simp
  rw [e] at this
  rw [hw5]; exact this
 have i5 : IsCur w5 c (A + 2 + 2 + 2 + 2) := by rw [hw5]; exact (HC4.out.alloc _).alloc _
 have HP := hid (pick_any c (A + 2 + 2 + 2 + 2) 16 w5 i5 (by omega) (by omega) (by omega))
 have HU5 := hid (HU4.out.trans (Upd.of_below b5))
 have HK5 := hid (HK4.out.below b5 (by omega))
 have HKO := hid KO5
 have HKR := hid KR5
 have HW5 := hid hw5
 clear i5 b5 KO5 KR5 hw5 HC4 HU4 HK4
 rw [HW5.out] at HP
 go_wp2_with (go_at_call 28; fail)
 rw [<- HW5.out] at HP ⊢
 clear HW5
 refine HP.out.mono ?_
 rintro e w6 ⟨r6, a6, b6, rfl, hc6, hu6⟩
 obtain ⟨k6, rfl⟩ : ∃ k : Nat, r6 = k := ⟨r6.toNat, by omega⟩
 have hs6 := hu6.size
 obtain ⟨kd, hkd, kd1, kd2⟩ := kinds_at (k := k6) (by omega)
 have HKO6 := hid (HKO.out.upd hu6 (by omega) (by omega))
 have KR6 := HKR.out.upd hu6 hz5 (by omega)
 have x6 : w6.cell? ⟨w4.heap.size + 1, k6, none⟩ = some (.int .i64 kd) := (KR6 k6 (by simp [kinds16]; omega)).1.trans hkd
 have y0 : w6.cell? ⟨w4.heap.size, 0, none⟩ = some (.int .i64 0) := (HKO6.out 0 (by simp)).1
 have z0 : w6.frozen? ⟨w4.heap.size, 0, none⟩ = false := (HKO6.out 0 (by simp)).2
 have HU6 := hid (HU5.out.trans hu6)
 have HK6 := hid (HK5.out.upd hu6 (by omega) (by omega))
 have HC6 := hid hc6
 clear hc6 hu6 HP HKO HKR KR6 HU5 HK5 hkd
 obtain ⟨w8, hw8⟩ : ∃ z, z = (w6.setCell ⟨w4.heap.size, 0, none⟩ (.int .i64 kd)).alloc (.cells #[.string ⟨#[97]⟩, .string ⟨#[98]⟩] 9) := ⟨_, rfl⟩
 have u8 : Upd w4.heap.size w6 w8 := by rw [hw8]; exact ((Upd.refl _ w6).setCell 0 (.int .i64 kd)).trans (Upd.of_below (below_alloc _ _))
 have hz8 : w6.heap.size < w8.heap.size := by rw [hw8]; simp
 have KO8 : Blk w8 w4.heap.size [.int .i64 kd, .int .i64 (1 + r1), .int .i64 r2, .int .i64 r3, .int .i64 (1 + r4), .int .i64 0, .string ⟨#[]⟩] := by rw [hw8]; exact (HKO6.out.set 0 (.int .i64 kd) (by simp)).below (below_alloc _ _) (by simp; omega)
 have KR8 : Blk w8 w6.heap.size [.string ⟨#[97]⟩, .string ⟨#[98]⟩] := by
  have := blk_new (w6.setCell ⟨w4.heap.size, 0, none⟩ (.int .i64 kd)) [.string ⟨#[97]⟩, .string ⟨#[98]⟩] 9
  have e : (w6.setCell ⟨w4.heap.size, 0, none⟩ (.int .i64 kd)).heap.size = w6.heap.size := by simp
  rw [e] at this
  rw [hw8]; exact this
 have i8 : IsCur w8 c (A + 2 + 2 + 2 + 2 + 2) := HC6.out.same (fun k hk => u8.block k (by omega) (by omega)) (by omega)
 have HP := hid (pick_any c (A + 2 + 2 + 2 + 2 + 2) 2 w8 i8 (by omega) (by omega) (by omega))
 have HU8 : Hid (Upd c w w8) := hid ⟨u8.os.trans HU6.out.os, u8.tape.trans HU6.out.tape, u8.output.trans HU6.out.output, by omega, fun k hk hc => (u8.block k (by omega) (by omega)).trans (HU6.out.block k hk hc)⟩
 have HK8 := hid (HK6.out.upd u8 (by omega) (by omega))
 have HKO := hid KO8
 have HKR := hid KR8
 have HW8 := hid hw8
 clear i8 u8 KO8 KR8 hw8 HC6 HU6 HK6 HKO6
 rw [HW8.out] at HP
 go_wp2_with (go_at_call 28; fail)
 rw [<- HW8.out] at HP ⊢
 clear HW8 x6 y0 z0
 refine HP.out.mono ?_
 rintro e w9 ⟨r9, a9, b9, rfl, hc9, hu9⟩
 obtain ⟨k9, rfl⟩ : ∃ k : Nat, r9 = k := ⟨r9.toNat, by omega⟩
 have hs9 := hu9.size
 obtain ⟨nm, hnm, hn1⟩ : ∃ nm : ByteArray, ([.string ⟨#[97]⟩, .string ⟨#[98]⟩] : List Value)[k9]? = some (.string nm) /\ nm.size <= 1 := by
  have : k9 = 0 \/ k9 = 1 := by omega
  rcases this with rfl | rfl
  .exact ⟨_, rfl, by decide⟩
  .exact ⟨_, rfl, by decide⟩
 have HKO9 := hid (HKO.out.upd hu9 (by omega) (by omega))
 have KR9 := HKR.out.upd hu9 (by omega) (by omega)
 have x9 : w9.cell? ⟨w6.heap.size, k9, none⟩ = some (.string nm) := (KR9 k9 (by simp; omega)).1.trans hnm
 obtain ⟨⟨y0, -⟩, ⟨-, -⟩, ⟨-, -⟩, ⟨-, -⟩, ⟨-, -⟩, ⟨-, -⟩, ⟨y6, z6⟩⟩ := kb6 HKO9.out
 have HU9 := hid (HU8.out.trans hu9)
 have HK9 := hid (HK8.out.upd hu9 (by omega) (by omega))
 have HC9 := hid hc9
 clear hc9 hu9 HP HKO HKR KR9 HU8 HK8 hnm
 have u10 : Upd w4.heap.size w9 (w9.setCell ⟨w4.heap.size, 6, none⟩ (.string nm)) := (Upd.refl _ w9).setCell 6 (.string nm)
 have KO : Blk (w9.setCell ⟨w4.heap.size, 6, none⟩ (.string nm)) w4.heap.size (opL kd (1 + r1) r2 r3 (1 + r4) 0 nm) := HKO9.out.set 6 (.string nm) (by simp)
 have KZ := HK9.out.upd u10 (by omega) (by omega)
 have HC10 := hid (HC9.out.new u10 (by omega))
 have HU10 := hid (HU9.out.new u10 (by omega))
 clear u10 HC9 HU9 HK9 HKO9
 by_cases hk1 : kd = 1
 .subst hk1
  have u11 : Upd w4.heap.size (w9.setCell ⟨w4.heap.size, 6, none⟩ (.string nm)) ((w9.setCell ⟨w4.heap.size, 6, none⟩ (.string nm)).setCell ⟨w4.heap.size, 5, none⟩ (.int .i64 0)) := (Upd.refl _ _).setCell 5 (.int .i64 0)
  obtain ⟨⟨y00, -⟩, ⟨-, -⟩, ⟨-, -⟩, ⟨-, -⟩, ⟨-, -⟩, ⟨y5, g5⟩⟩ := kb5 KO
  have KO : Blk ((w9.setCell ⟨w4.heap.size, 6, none⟩ (.string nm)).setCell ⟨w4.heap.size, 5, none⟩ (.int .i64 0)) w4.heap.size (opL 1 (1 + r1) r2 r3 (1 + r4) 0 nm) := KO.set 5 (.int .i64 0) (by simp [opL])
  have hl10 : w.heap.size < (w9.setCell ⟨w4.heap.size, 6, none⟩ (.string nm)).heap.size := by simp; omega
  have KZ := KZ.upd u11 hl10 (by omega)
  have HC11 := hid (HC10.out.new u11 (by omega))
  have HU11 := hid (HU10.out.new u11 (by omega))
  clear u11 HC10 HU10
  have HP := hid (pick_any c (A + 2 + 2 + 2 + 2 + 2 + 2) 2 ((w9.setCell ⟨w4.heap.size, 6, none⟩ (.string nm)).setCell ⟨w4.heap.size, 5, none⟩ (.int .i64 0)) HC11.out (by omega) (by omega) (by omega))
  have HKO := hid KO
  have HKZ := hid KZ
  clear KO KZ
  go_wp2_with (go_at_call 28; fail)
  refine HP.out.mono ?_
  rintro e w12 ⟨r12, a12, b12, rfl, hc12, hu12⟩
  have hl11 : w.heap.size < ((w9.setCell ⟨w4.heap.size, 6, none⟩ (.string nm)).setCell ⟨w4.heap.size, 5, none⟩ (.int .i64 0)).heap.size := by simp; omega
  have hl12 : w4.heap.size < ((w9.setCell ⟨w4.heap.size, 6, none⟩ (.string nm)).setCell ⟨w4.heap.size, 5, none⟩ (.int .i64 0)).heap.size := by simp; omega
  have u13 : Upd w4.heap.size w12 (w12.setCell ⟨w4.heap.size, 5, none⟩ (.int .i64 (1 + r12))) := (Upd.refl _ _).setCell 5 (.int .i64 (1 + r12))
  have KO12 := HKO.out.upd hu12 hl12 (by omega)
  obtain ⟨⟨-, -⟩, ⟨-, -⟩, ⟨-, -⟩, ⟨-, -⟩, ⟨-, -⟩, ⟨y512, g512⟩⟩ := kb5 KO12
  have KO : Blk (w12.setCell ⟨w4.heap.size, 5, none⟩ (.int .i64 (1 + r12))) w4.heap.size (opL 1 (1 + r1) r2 r3 (1 + r4) (1 + r12) nm) := KO12.set 5 (.int .i64 (1 + r12)) (by simp [opL])
  have hs12 := hu12.size
  have KZ := (HKZ.out.upd hu12 hl11 (by omega)).upd u13 (by omega) (by omega)
  have HC13 := hid (hc12.new u13 (by omega))
  have HU13 := hid ((HU11.out.trans hu12).new u13 (by omega))
  clear hc12 hu12 u13 HP HKO HKZ KO12 HC11 HU11 y5 g5 y00 y0 y6 z6 x9
  obtain ⟨p0, p1, p2, p3, p4, p5, p6⟩ := kc6 KO
  obtain ⟨⟨s0, f0⟩, ⟨s1, f1⟩, ⟨s2, f2⟩, ⟨s3, f3⟩, ⟨s4, f4⟩, ⟨s5, f5⟩, ⟨s6, f6⟩⟩ := kb6 KZ
  obtain ⟨wf, hwf⟩ : ∃ z, z = set7 (w12.setCell ⟨w4.heap.size, 5, none⟩ (.int .i64 (1 + r12))) w.heap.size 1 (1 + r1) r2 r3 (1 + r4) (1 + r12) nm := ⟨_, rfl⟩
  have kf : Blk wf w.heap.size (opL 1 (1 + r1) r2 r3 (1 + r4) (1 + r12) nm) := by rw [hwf]; exact blk_set7 KZ rfl
  have uf : Upd w.heap.size (w12.setCell ⟨w4.heap.size, 5, none⟩ (.int .i64 (1 + r12))) wf := by rw [hwf]; exact upd_set7 _ _ _ _ _ _ _ _ _
  obtain ⟨t0, t1, t2, t3, t4, t5, t6⟩ := kc6 kf
  have HUF := hid uf
  unfold set7 at hwf
  clear KO KZ kf uf
  go_wp2
  rw [<- hwf]
  refine bodyPost_ret (v := opV ⟨1, 1 + r1, r2, r3, 1 + r4, (1 + r12), nm⟩) (by simp [results, Tryz.results37, go_sem, opV, t0, t1, t2, t3, t4, t5, t6]) rfl ?_
  exact ⟨_, rfl, ⟨⟨by simp only; omega, by simp only; omega⟩, ⟨by simp only; omega, by simp only; omega⟩, hn1⟩, (HC13.out.more (A + 14) (by omega)).new HUF.out (by omega), (HU13.out).new HUF.out (Nat.le_refl _)⟩
 .have e1 : (kd == 1) = false := by simpa using hk1
  have HC14 := hid (HC10.out.more (A + 14) (by omega))
  obtain ⟨p0, p1, p2, p3, p4, p5, p6⟩ := kc6 KO
  obtain ⟨⟨s0, f0⟩, ⟨s1, f1⟩, ⟨s2, f2⟩, ⟨s3, f3⟩, ⟨s4, f4⟩, ⟨s5, f5⟩, ⟨s6, f6⟩⟩ := kb6 KZ
  obtain ⟨wf, hwf⟩ : ∃ z, z = set7 (w9.setCell ⟨w4.heap.size, 6, none⟩ (.string nm)) w.heap.size kd (1 + r1) r2 r3 (1 + r4) 0 nm := ⟨_, rfl⟩
  have kf : Blk wf w.heap.size (opL kd (1 + r1) r2 r3 (1 + r4) 0 nm) := by rw [hwf]; exact blk_set7 KZ rfl
  have uf : Upd w.heap.size (w9.setCell ⟨w4.heap.size, 6, none⟩ (.string nm)) wf := by rw [hwf]; exact upd_set7 _ _ _ _ _ _ _ _ _
  obtain ⟨t0, t1, t2, t3, t4, t5, t6⟩ := kc6 kf
  have HUF := hid uf
  unfold set7 at hwf
  clear KO KZ kf uf
  go_wp2
  rw [<- hwf]
  refine bodyPost_ret (v := opV ⟨kd, 1 + r1, r2, r3, 1 + r4, 0, nm⟩) (by simp [results, Tryz.results37, go_sem, opV, t0, t1, t2, t3, t4, t5, t6]) rfl ?_
  exact ⟨_, rfl, ⟨⟨by simp only; omega, by simp only; omega⟩, ⟨by simp only; omega, by simp only; omega⟩, hn1⟩, (HC14.out).new HUF.out (by omega), (HU10.out).new HUF.out (Nat.le_refl _)⟩
def opK (o : Opn) : List Value := [.int .i64 o.kd, .int .i64 o.ss, .int .i64 o.tb, .int .i64 o.ky, .int .i64 o.vl, .int .i64 o.md, .string o.nm]
structure DS (w : World) (c : Nat) (A : Int) (ob : Nat) (wr : World) (us : List Opn) (v : Value) : Prop where
 row : wr.ownsRow w.heap.size 41 7 v us.length (us.flatMap opK)
 opn : ∃ bs : List Bool, bs.length = 5 /\ Blk wr ob (bs.map Value.bool)
 cur : IsCur wr c A
 upd : Upd c w wr
 nam : ∀ u ∈ us, u.nm.size <= 1
 obl : w.heap.size <= ob /\ ob < wr.heap.size
 nob : v.ownBlock ≠ some ob
theorem own_upd {c : Nat} {w w' : World} {b e k n : Nat} {v : Value} {xs : List Value} (h : w.ownsRow b e k v n xs) (u : Upd c w w') (hc : c < b) : w'.ownsRow b e k v n xs := by
 have hl := fun g hg => h.lt g hg
 obtain ⟨h1, h2⟩ := h
 refine ⟨h1, ?_⟩
 rcases h2 with h2 | ⟨g, cap, cur, rfl, hg1, hg2, hg3⟩
 .exact .inl h2
 .exact .inr ⟨g, cap, cur, rfl, hg1, by rw [u.block g (hl g rfl).2 (by omega)]; exact hg2, hg3⟩
theorem DS.draw {w : World} {c : Nat} {A A' : Int} {ob : Nat} {wr w' : World} {us : List Opn} {v : Value} (h : DS w c A ob wr us v) (hcl : c < w.heap.size) (hc : IsCur w' c A') (hu : Upd c wr w') : DS w c A' ob w' us v := by
 obtain ⟨bs, hb, kb⟩ := h.opn
 have := h.obl
 have hs := hu.size
 exact ⟨own_upd h.row hu hcl, ⟨bs, hb, kb.upd hu h.obl.2 (by omega)⟩, hc, h.upd.trans hu, h.nam, ⟨h.obl.1, by omega⟩, h.nob⟩
theorem DS.more {w : World} {c : Nat} {A A' : Int} {ob : Nat} {wr : World} {us : List Opn} {v : Value} (h : DS w c A ob wr us v) (hA : A <= A') : DS w c A' ob wr us v := ⟨h.row, h.opn, h.cur.more _ hA, h.upd, h.nam, h.obl, h.nob⟩
theorem DS.below {w : World} {c : Nat} {A : Int} {ob : Nat} {wr w' : World} {us : List Opn} {v : Value} (h : DS w c A ob wr us v) (hcl : c < w.heap.size) (hb : Below wr.heap.size wr w') : DS w c A ob w' us v := h.draw hcl (h.cur.same (fun k hk => hb.block k (by have := h.cur.lt; omega)) (Nat.lt_of_lt_of_le h.cur.lt hb.size)) (Upd.of_below hb)
theorem DS.setO {w : World} {c : Nat} {A : Int} {ob : Nat} {wr : World} {us : List Opn} {v : Value} (h : DS w c A ob wr us v) (hcl : c < w.heap.size) {s : Nat} (hs : s < 5) (b : Bool) : DS w c A ob (wr.setCell ⟨ob, s, none⟩ (.bool b)) us v := by
 obtain ⟨bs, hb, kb⟩ := h.opn
 have ho := h.obl
 have u : Upd ob wr (wr.setCell ⟨ob, s, none⟩ (.bool b)) := (Upd.refl _ _).setCell s (.bool b)
 refine ⟨own_fr h.row (Fr.setCell wr ob s (.bool b)) (fun g hg e => h.nob (by rw [hg]; exact congrArg some e)), ⟨bs.set s b, by simpa using hb, ?_⟩, h.cur.new u (by omega), h.upd.new u ho.1, h.nam, ⟨ho.1, by simpa using ho.2⟩, h.nob⟩
 have := kb.set s (.bool b) (by simp; omega)
 rwa [<- List.map_set] at this
theorem DS.at {w : World} {c : Nat} {A : Int} {ob : Nat} {wr : World} {us : List Opn} {v : Value} (h : DS w c A ob wr us v) {s : Nat} (hs : s < 5) : ∃ b, wr.cell? ⟨ob, s, none⟩ = some (.bool b) /\ wr.frozen? ⟨ob, s, none⟩ = false := by
 obtain ⟨bs, hb, kb⟩ := h.opn
 have := kb s (by simp; omega)
 rw [List.getElem?_map, List.getElem?_eq_getElem (by omega)] at this
 exact ⟨_, this.1, this.2⟩
theorem DS.push {w : World} {c : Nat} {A : Int} {ob : Nat} {wr w' : World} {us : List Opn} {v v' : Value} {o : Opn} (h : DS w c A ob wr us v) (hcl : c < w.heap.size) (hg : wr.grownBy w' v.ownBlock) (ho : w'.ownsRow w.heap.size 41 7 v' (us.length + 1) (us.flatMap opK ++ opK o)) (hat : v'.ownBlock = v.ownBlock \/ v'.ownBlock = some wr.heap.size) (hn : o.nm.size <= 1) : DS w c A ob w' (us ++ [o]) v' := by
 have hbl := h.obl
 have hl : ∀ g, v.ownBlock = some g -> w.heap.size <= g := fun g hg => (h.row.lt g hg).1
 have hne : ∀ k, k < wr.heap.size -> v.ownBlock ≠ some k -> w'.heap[k]? = wr.heap[k]? := fun k hk hn => hg.block k hk hn.symm
 obtain ⟨bs, hb, kb⟩ := h.opn
 refine ⟨by rw [List.length_append, List.flatMap_append]; simpa using ho, ⟨bs, hb, kb.fr (Fr.grown hg) hbl.2 (fun z => h.nob z)⟩, h.cur.same (fun k hk => hne k (by have := h.cur.lt; omega) (fun e => by have := hl k e; omega)) (Nat.lt_of_lt_of_le h.cur.lt hg.size), ⟨hg.os.trans h.upd.os, hg.tape.trans h.upd.tape, hg.output.trans h.upd.output, Nat.le_trans h.upd.size hg.size, fun k hk hc => (hne k (Nat.lt_of_lt_of_le hk h.upd.size) (fun e => by have := hl k e; omega)).trans (h.upd.block k hk hc)⟩, fun u hu => ?_, ⟨hbl.1, Nat.lt_of_lt_of_le hbl.2 hg.size⟩, fun e => ?_⟩
 .rcases List.mem_append.1 hu with z | z
  .exact h.nam u z
  .rw [List.mem_singleton] at z; rw [z]; exact hn
 .rcases hat with z | z
  .exact h.nob (z ▸ e)
  .rw [z] at e; injection e with e; omega
end Go.Proofs.YtblkgicbimflhaaGreat
