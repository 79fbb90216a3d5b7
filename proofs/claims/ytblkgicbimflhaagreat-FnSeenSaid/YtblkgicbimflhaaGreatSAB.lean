import Derived.Test.YtblkgicbimflhaaGreatSAA
namespace Go.Proofs.YtblkgicbimflhaaGreat
open Go.ChangeShapes Go.WideShapes Go.ChangeAt Go.RowKit
set_option linter.unusedVariables false
set_option linter.unusedSimpArgs false
set_option maxRecDepth 100000
set_option maxHeartbeats 16000000
structure Cel where
 tb : Int
 ky : Int
 vl : Int
 gn : Bool
def celV (c : Cel) : List Value := [.int .i64 c.tb, .int .i64 c.ky, .int .i64 c.vl, .bool c.gn]
def CC (B : Nat) (w : World) (cs : List Value) (c : Cel) : Prop := cs = celV c
theorem liesC : Lies 4 CC := ⟨fun h => by rw [h]; rfl, fun h _ => h, fun h _ => h, fun h _ => h⟩
theorem oneC : ∀ {B : Nat} {w : World} {cs : List Value} {x : Cel}, CC B w cs x -> ∀ u ∈ cs, u.oneCell' = true := fun h u hu => by
 rw [h] at hu
 unfold celV at hu
 simp at hu
 rcases hu with rfl | rfl | rfl | rfl <;> rfl
theorem cel_at {B : Nat} {w : World} {a : Option Addr} {n c : Nat} {us : List Cel} (h : RS 4 CC B w (.slice a n c) us) (hp : 0 < us.length) : ∃ g o, a = some ⟨g, o, none⟩ /\ B <= g /\ g < w.heap.size /\ ∀ j (hj : j < us.length), w.cell? ⟨g, o + j * 4, none⟩ = some (.int .i64 us[j].tb) /\ w.cell? ⟨g, o + j * 4 + 1, none⟩ = some (.int .i64 us[j].ky) /\ w.cell? ⟨g, o + j * 4 + 2, none⟩ = some (.int .i64 us[j].vl) /\ w.cell? ⟨g, o + j * 4 + 3, none⟩ = some (.bool us[j].gn) := by
 obtain ⟨a', c', he, hh⟩ := h
 obtain ⟨g, o, e2, h1, h2, h3⟩ := hh hp
 simp only [Value.slice.injEq] at he
 refine ⟨g, o, he.1.trans e2, h1, h2, fun j hj => ?_⟩
 obtain ⟨cs, hc, hcell⟩ := h3 j hj
 cases hc
 exact ⟨hcell 0 (by omega), hcell 1 (by omega), hcell 2 (by omega), hcell 3 (by omega)⟩
def hits (tb ky : Int) (c : Cel) : Bool := c.tb == tb && c.ky == ky
def newC (cs : List Cel) (tb ky : Int) : Option Cel := (cs.filter (hits tb ky)).getLast?
theorem newC_hit {cs : List Cel} {tb ky : Int} {k : Nat} (hk : k < cs.length) (hh : hits tb ky cs[k] = true) (hn : ∀ c ∈ cs.drop (k + 1), hits tb ky c = false) : newC cs tb ky = some cs[k] := by
 have e : cs = cs.take k ++ cs[k] :: cs.drop (k + 1) := by
  rw [List.getElem_cons_drop, List.take_append_drop]
 have h2 : (cs.drop (k + 1)).filter (hits tb ky) = [] := List.filter_eq_nil_iff.2 (fun c hc => by rw [hn c hc]; simp)
 unfold newC
 have e3 : cs.filter (hits tb ky) = (cs.take k).filter (hits tb ky) ++ [cs[k]] := by
  conv => lhs; rw [e]
  rw [List.filter_append, List.filter_cons, hh, h2]
  simp
 rw [e3]
 simp
theorem newC_none {cs : List Cel} {tb ky : Int} (hn : ∀ c ∈ cs, hits tb ky c = false) : newC cs tb ky = none := by
 unfold newC
 rw [List.filter_eq_nil_iff.2 (fun c hc => by rw [hn c hc]; simp)]
 rfl
theorem drop_step {α : Type} {xs : List α} {P : α -> Prop} {k : Nat} (hlt : k < xs.length) (h : ∀ x ∈ xs.drop (k + 1), P x) (z : P xs[k]) : ∀ x ∈ xs.drop k, P x := fun t ht => by
 rw [<- List.getElem_cons_drop hlt] at ht
 rcases List.mem_cons.1 ht with rfl | h'
 .exact z
 .exact h t h'
def celA : Option Cel -> Value
 | some c => .agg #[.int .i64 c.tb, .int .i64 c.ky, .int .i64 c.vl, .bool c.gn]
 | none => .agg #[.int .i64 0, .int .i64 0, .int .i64 0, .bool false]
theorem newest_spec (a : Option Addr) (ca : Nat) (cs : List Cel) (tb ky : Int) (w : World) (hn : cs.length <= 1048576) (ha : RS 4 CC 0 w (.slice a cs.length ca) cs) :
 Calls Tryz.prog 57 #[.slice a cs.length ca, .int .i64 tb, .int .i64 ky] w fun e w' => e = .returned (.tuple #[celA (newC cs tb ky), .bool (newC cs tb ky).isSome]) /\ Below w.heap.size w w' := by
 have HR := hid ha
 clear ha
 have hw0 : IntKind.i64.wrap ((cs.length : Int) - 1) = (cs.length : Int) - 1 := by simp only [IntKind.wrap_i64, wrap64]; omega
 go_enter Tryz.func57, Tryz.ntmps57
 go_wp2
 go_loopw [8] (fun iv wr => ∃ k : Nat, k <= cs.length /\ iv = .int .i64 ((k : Int) - 1) /\ Hid (∀ c ∈ cs.drop k, hits tb ky c = false) /\ wr = w.alloc (.cells #[.int .i64 0, .int .i64 0, .int .i64 0, .bool false] 106)) (fun iv _ => ((intOf iv) + 1).toNat)
 case atStart => exact ⟨cs.length, Nat.le_refl _, rfl, (fun c h => by simp at h : ∀ c ∈ cs.drop cs.length, hits tb ky c = false), rfl⟩
 case round =>
  obtain ⟨k, hk, rfl, HO, rfl⟩ := hrel
  by_cases hlt : 0 < k
  .obtain ⟨j, rfl⟩ : ∃ j, k = j + 1 := ⟨k - 1, by omega⟩
   have hjl : j < cs.length := by omega
   have hji : (j : Int) < cs.length := by omega
   have hcast : ((j + 1 : Nat) : Int) - 1 = (j : Int) := by omega
   rw [hcast]
   obtain ⟨g, o, rfl, _, hg, hgc⟩ := cel_at HR.out (by omega)
   obtain ⟨c0, c1, c2, c3⟩ := hgc j hjl
   have HST := hid (fun z => drop_step (P := fun c => hits tb ky c = false) hjl HO.out z)
   have HHT := hid (fun z => newC_hit hjl z HO.out)
   have hw1 : IntKind.i64.wrap ((j : Int) - 1) = (j : Int) - 1 := by simp only [IntKind.wrap_i64, wrap64]; omega
   clear hgc HO
   generalize cs[j] = c at c0 c1 c2 c3 HST HHT
   obtain ⟨ct, ck, cv, cg⟩ := c
   simp only at c0 c1 c2 c3
   by_cases h1 : ct = tb
   .by_cases h2 : ck = ky
    .have HF := hid (HHT.out (by simp [hits, h1, h2]))
     have b1 : (ct == tb) = true := by simpa using h1
     have b2 : (ck == ky) = true := by simpa using h2
     clear HST HHT h1 h2
     go_wp2
     refine bodyPost_ret (v := .tuple #[.agg #[.int .i64 ct, .int .i64 ck, .int .i64 cv, .bool cg], .bool true]) (by simp [results, Tryz.results57, go_sem]) rfl ⟨by rw [HF.out]; rfl, ?_⟩
     exact below_alloc _ _
    .have HV := hid (HST.out (by simp [hits, h2]))
     have b1 : (ct == tb) = true := by simpa using h1
     have b2 : (ck == ky) = false := by simpa using h2
     clear HST HHT h1 h2
     go_wp2
     go_roundw
     case rel => exact ⟨j, by omega, by first | rfl | go_num, HV, by first | rfl | trivial⟩
     case measure => simp [intOf]
   .have HV := hid (HST.out (by simp [hits, h1]))
    have b1 : (ct == tb) = false := by simpa using h1
    clear HST HHT h1
    go_wp2
    go_roundw
    case rel => exact ⟨j, by omega, by first | rfl | go_num, HV, by first | rfl | trivial⟩
    case measure => simp [intOf]
  .have hk0 : k = 0 := by omega
   subst hk0
   have HF := hid (newC_none (cs := cs) (tb := tb) (ky := ky) (by simpa using HO.out))
   clear HO
   go_wp2
   refine bodyPost_ret (v := .tuple #[.agg #[.int .i64 0, .int .i64 0, .int .i64 0, .bool false], .bool false]) (by simp [results, Tryz.results57, go_sem]) rfl ⟨by rw [HF.out]; rfl, ?_⟩
   exact below_alloc _ _
structure Com where
 st : Int
 cs : List Cel
def CCm (B : Nat) (w : World) (vs : List Value) (c : Com) : Prop := ∃ cv, vs = [.int .i64 c.st, cv] /\ RS 4 CC B w cv c.cs
theorem liesM : Lies 2 CCm :=
 ⟨fun ⟨_, h, _⟩ => by rw [h]; rfl, fun ⟨a, h, r⟩ hd => ⟨a, h, r.mono liesC hd⟩, fun ⟨a, h, r⟩ hb => ⟨a, h, r.below liesC hb⟩, fun ⟨a, h, r⟩ hc => ⟨a, h, r.set liesC hc⟩⟩
def BM (cms : List Com) : Prop := cms.length <= 1048576 /\ ∀ c ∈ cms, c.cs.length <= 1048576
def comN (bg tb ky : Int) (c : Com) : Option Cel := if bg < c.st then none else newC c.cs tb ky
def seenC (cms : List Com) (bg tb ky : Int) : Option Cel := cms.reverse.findSome? (comN bg tb ky)
theorem seenC_hit {cms : List Com} {bg tb ky : Int} {k : Nat} {c : Cel} (hk : k < cms.length) (hh : comN bg tb ky cms[k] = some c) (hn : ∀ x ∈ cms.drop (k + 1), comN bg tb ky x = none) : seenC cms bg tb ky = some c := by
 have e : cms = cms.take k ++ cms[k] :: cms.drop (k + 1) := by
  rw [List.getElem_cons_drop, List.take_append_drop]
 unfold seenC
 conv => lhs; rw [e]
 rw [List.reverse_append, List.findSome?_append, List.reverse_cons, List.findSome?_append]
 have h2 : (cms.drop (k + 1)).reverse.findSome? (comN bg tb ky) = none := List.findSome?_eq_none_iff.2 (fun x hx => hn x (List.mem_reverse.1 hx))
 rw [h2]
 simp [hh]
theorem seenC_none {cms : List Com} {bg tb ky : Int} (hn : ∀ x ∈ cms, comN bg tb ky x = none) : seenC cms bg tb ky = none := by
 unfold seenC
 exact List.findSome?_eq_none_iff.2 (fun x hx => hn x (List.mem_reverse.1 hx))
def telC : Option Cel -> Int × Bool
 | some c => (c.vl, !c.gn)
 | none => (0, false)
def seesF (cms : List Com) (bg : Int) (own : List Cel) (tb ky : Int) : Int × Bool := telC ((newC own tb ky).or (seenC cms bg tb ky))
theorem sees_own {cms : List Com} {bg tb ky : Int} {own : List Cel} {c : Cel} (h : newC own tb ky = some c) : seesF cms bg own tb ky = (c.vl, !c.gn) := by
 unfold seesF; rw [h]; rfl
theorem sees_com {cms : List Com} {bg tb ky : Int} {own : List Cel} (h : newC own tb ky = none) : seesF cms bg own tb ky = telC (seenC cms bg tb ky) := by
 unfold seesF; rw [h]; rfl
theorem sees_spec (bb : Nat) (ck : Int) (ma : Option Addr) (mc : Nat) (hv tv rv sv : Value) (op : Bool) (md bg : Int) (oa : Option Addr) (oc : Nat) (cms : List Com) (own : List Cel) (tb ky : Int) (w : World) (hm : BM cms) (ho : own.length <= 1048576) (hbb : bb < w.heap.size)
 (hB : Blk w bb [.int .i64 ck, .slice ma cms.length mc, hv, tv]) (hms : RS 2 CCm 0 w (.slice ma cms.length mc) cms) (hown : RS 4 CC 0 w (.slice oa own.length oc) own) :
 Calls Tryz.prog 38 #[.pointer (some ⟨bb, 0, none⟩), .agg #[.bool op, .int .i64 md, .int .i64 bg, .slice oa own.length oc, rv, sv], .int .i64 tb, .int .i64 ky] w fun e w' => e = .returned (.tuple #[.int .i64 (seesF cms bg own tb ky).1, .bool (seesF cms bg own tb ky).2]) /\ Below w.heap.size w w' := by
 have bw := below_alloc w (.cells #[.bool op, .int .i64 md, .int .i64 bg, .slice oa own.length oc, rv, sv] 70)
 have K5 := hid (blk_new w [.bool op, .int .i64 md, .int .i64 bg, .slice oa own.length oc, rv, sv] 70)
 have hz5 : w.heap.size < (w.alloc (.cells #[.bool op, .int .i64 md, .int .i64 bg, .slice oa own.length oc, rv, sv] 70)).heap.size := by simp
 have h1 := newest_spec oa oc own tb ky (w.alloc (.cells #[.bool op, .int .i64 md, .int .i64 bg, .slice oa own.length oc, rv, sv] 70)) ho (hown.below liesC bw)
 have HB := hid hB
 have HMS := hid hms
 have hml := hm.1
 have HMC := hid hm.2
 clear hown hB hms hm
 go_enter Tryz.func38, Tryz.ntmps38
 go_wp2_with (go_at_call 57; fail)
 refine h1.mono ?_
 rintro e w1 ⟨rfl, hb1⟩
 have bw1 := bw.trans (hb1.mono bw.size)
 replace K5 := hid (K5.out.below hb1 hz5)
 replace hz5 : w.heap.size < w1.heap.size := Nat.lt_of_lt_of_le hz5 hb1.size
 clear h1 hb1 bw
 cases hnc : newC own tb ky with
 | some c =>
   have HF := hid (sees_own (cms := cms) (bg := bg) hnc)
   obtain ⟨ct, ckk, cv, cg⟩ := c
   simp only [celA, Option.isSome]
   clear hnc K5
   have bw2 := bw1.alloc bw1.size (.cells #[.int .i64 ct, .int .i64 ckk, .int .i64 cv, .bool cg] 106)
   go_wp2
   go_quiet (fail)
   go_wp2
   refine bodyPost_ret (v := .tuple #[.int .i64 cv, .bool (!cg)]) (by simp [results, Tryz.results38, go_sem]) rfl ⟨by rw [HF.out], ?_⟩
   exact bw2.trans ((below_drewNt _ _).mono bw2.size)
 | none =>
   have HF := hid (sees_com (cms := cms) (bg := bg) hnc)
   simp only [celA, Option.isSome]
   clear hnc
   have bw2 := bw1.alloc bw1.size (.cells #[.int .i64 0, .int .i64 0, .int .i64 0, .bool false] 106)
   have K5b := hid (K5.out.below (below_alloc w1 (.cells #[.int .i64 0, .int .i64 0, .int .i64 0, .bool false] 106)) hz5)
   have KC := hid (blk_new w1 [.int .i64 0, .int .i64 0, .int .i64 0, .bool false] 106)
   have b1 : (w1.alloc (.cells #[.int .i64 0, .int .i64 0, .int .i64 0, .bool false] 106)).cell? ⟨bb, 1, none⟩ = some (.slice ma cms.length mc) := (bw2.cell (p := ⟨bb, 1, none⟩) hbb).trans (HB.out 1 (by simp)).1
   have hw0 : IntKind.i64.wrap ((cms.length : Int) - 1) = (cms.length : Int) - 1 := by simp only [IntKind.wrap_i64, wrap64]; omega
   have hz1 : w1.heap.size < (w1.alloc (.cells #[.int .i64 0, .int .i64 0, .int .i64 0, .bool false] 106)).heap.size := by simp
   have hzz : w.heap.size < (w1.alloc (.cells #[.int .i64 0, .int .i64 0, .int .i64 0, .bool false] 106)).heap.size := by simp; omega
   clear K5
   have hbw1 : bb < w1.heap.size := by have := bw1.size; omega
   go_wp2
   clear b1
   obtain ⟨gc, hgc⟩ : ∃ x, x = w1.heap.size := ⟨_, rfl⟩
   rw [<- hgc] at KC hz1 hz5
   rw [<- hgc]
   clear hgc
   go_loopw [11, 12] (fun bv iv wr => ∃ (k : Nat) (fb : Bool) (x0 x1 x2 : Int) (x3 : Bool), k <= cms.length /\ bv = .bool fb /\ iv = .int .i64 ((k : Int) - 1) /\ Hid (∀ x ∈ cms.drop k, comN bg tb ky x = none) /\ Hid (Blk wr w.heap.size [.bool op, .int .i64 md, .int .i64 bg, .slice oa own.length oc, rv, sv]) /\ Hid (Blk wr gc [.int .i64 x0, .int .i64 x1, .int .i64 x2, .bool x3]) /\ w.heap.size < wr.heap.size /\ gc < wr.heap.size /\ Below w.heap.size w wr) (fun _ iv _ => ((intOf iv) + 1).toNat)
   case atStart => exact ⟨cms.length, false, 0, 0, 0, false, Nat.le_refl _, rfl, rfl, (fun c h => by simp at h : ∀ x ∈ cms.drop cms.length, comN bg tb ky x = none), K5b, KC, hzz, hz1, bw2⟩
   case round =>
    clear K5b KC hzz hz1 bw2 bw1
    obtain ⟨k, fb, x0, x1, x2, x3, hk, rfl, rfl, HO, K5, KC, hzt, hzc, hbel⟩ := hrel
    have hbs := hbel.size
    by_cases hlt : 0 < k
    .obtain ⟨j, rfl⟩ : ∃ j, k = j + 1 := ⟨k - 1, by omega⟩
     have hjl : j < cms.length := by omega
     have hji : (j : Int) < cms.length := by omega
     have hcast : ((j + 1 : Nat) : Int) - 1 = (j : Int) := by omega
     rw [hcast]
     obtain ⟨a', c', he, hh⟩ := id HMS.out
     simp only [Value.slice.injEq] at he
     obtain ⟨g, o, e2, _, hg, h3⟩ := hh (by omega)
     obtain ⟨vs, hC, hcell⟩ := h3 j hjl
     obtain ⟨cv, rfl, hrc⟩ := hC
     rw [e2] at he
     obtain ⟨rfl, _, rfl⟩ := he
     have c0 : wr.cell? ⟨g, o + j * 2, none⟩ = some (.int .i64 cms[j].st) := ct hbel hg (hcell 0 (by omega))
     have c1 : wr.cell? ⟨g, o + j * 2 + 1, none⟩ = some cv := (hbel.cell (p := ⟨g, o + j * 2 + 1, none⟩) hg).trans (hcell 1 (by omega))
     have hgw : g < wr.heap.size := by omega
     have b1 : wr.cell? ⟨bb, 1, none⟩ = some (.slice (some ⟨g, o, none⟩) cms.length mc) := (hbel.cell (p := ⟨bb, 1, none⟩) hbb).trans (HB.out 1 (by simp)).1
     have hbw : bb < wr.heap.size := by omega
     have t2 : wr.cell? ⟨w.heap.size, 2, none⟩ = some (.int .i64 bg) := (K5.out 2 (by simp)).1
     have HST := hid (fun z => drop_step (P := fun c => comN bg tb ky c = none) hjl HO.out z)
     have HHT := hid (fun c z => seenC_hit (c := c) hjl z HO.out)
     have HRC := hid (hrc.below liesC hbel)
     have HLC := hid (HMC.out cms[j] (List.getElem_mem hjl))
     have hw1 : IntKind.i64.wrap ((j : Int) - 1) = (j : Int) - 1 := by simp only [IntKind.wrap_i64, wrap64]; omega
     obtain ⟨ea, ec, hcv, _⟩ := id hrc
     subst hcv
     clear h3 hh hcell hrc HO
     generalize cms[j] = m at c0 c1 HST HHT HRC HLC
     by_cases h1 : bg < m.st
     .have HV := hid (HST.out (by unfold comN; rw [if_pos h1]))
      clear HST HHT HRC
      go_wp2
      have g0 : decide (bg < m.st) = true := decide_eq_true (by omega)
      go_quiet (fail)
      go_wp2
      go_roundw
      case rel => exact ⟨j, fb, x0, x1, x2, x3, by omega, rfl, by first | rfl | go_num, HV, hid (K5.out.below (below_drewNt _ _) hzt), hid (KC.out.below (below_drewNt _ _) hzc), by simpa using hzt, by simpa using hzc, hbel.trans ((below_drewNt _ _).mono hbs)⟩
      case measure => simp [intOf]
     .have hN : comN bg tb ky m = newC m.cs tb ky := by unfold comN; rw [if_neg h1]
      have hq := fun n => newest_spec ea ec m.cs tb ky (wr.drewN n) HLC.out (HRC.out.below liesC (below_drewNt _ _))
      have HQ := hid hq
      clear hq
      rw [hN] at HST HHT
      clear hN
      go_wp2
      have g0 : decide (bg < m.st) = false := decide_eq_false (by omega)
      go_quiet (fail)
      go_wp2_with (go_at_call 57; fail)
      refine (HQ.out _).mono ?_
      rintro e w3 ⟨rfl, hb3⟩
      replace hb3 : Below wr.heap.size wr w3 := (below_drewNt _ _).trans (hb3.mono (below_drewNt _ _).size)
      have K5c := hid (K5.out.below hb3 hzt)
      have KCc := hid (KC.out.below hb3 hzc)
      have bw3 : Below w.heap.size w w3 := hbel.trans (hb3.mono hbs)
      have hz3 : gc < w3.heap.size := Nat.lt_of_lt_of_le hzc hb3.size
      have hzt3 : w.heap.size < w3.heap.size := Nat.lt_of_lt_of_le hzt hb3.size
      obtain ⟨⟨kc0, kf0⟩, ⟨kc1, kf1⟩, ⟨kc2, kf2⟩, ⟨kc3, kf3⟩⟩ := kb3 KCc.out
      clear HQ hb3 c0 c1 b1 t2
      have HSET : Hid (∀ y0 y1 y2 y3, Blk ((((w3.setCell ⟨gc, 0, none⟩ y0).setCell ⟨gc, 1, none⟩ y1).setCell ⟨gc, 2, none⟩ y2).setCell ⟨gc, 3, none⟩ y3) gc [y0, y1, y2, y3] /\ Blk ((((w3.setCell ⟨gc, 0, none⟩ y0).setCell ⟨gc, 1, none⟩ y1).setCell ⟨gc, 2, none⟩ y2).setCell ⟨gc, 3, none⟩ y3) w.heap.size [.bool op, .int .i64 md, .int .i64 bg, .slice oa own.length oc, rv, sv] /\ Below w.heap.size w ((((w3.setCell ⟨gc, 0, none⟩ y0).setCell ⟨gc, 1, none⟩ y1).setCell ⟨gc, 2, none⟩ y2).setCell ⟨gc, 3, none⟩ y3) /\ ((((w3.setCell ⟨gc, 0, none⟩ y0).setCell ⟨gc, 1, none⟩ y1).setCell ⟨gc, 2, none⟩ y2).setCell ⟨gc, 3, none⟩ y3).heap.size = w3.heap.size) := hid (fun y0 y1 y2 y3 => by
       have hge : ∀ i, w.heap.size <= (⟨gc, i, none⟩ : Addr).block := fun i => Nat.le_of_lt hz5
       refine ⟨(((KCc.out.set 0 y0).set 1 y1).set 2 y2).set 3 y3, (((K5c.out.other (by omega)).other (by omega)).other (by omega)).other (by omega), (((bw3.setCell (hge 0) y0).setCell (hge 1) y1).setCell (hge 2) y2).setCell (hge 3) y3, by simp⟩)
      cases hnm : newC m.cs tb ky with
      | some c =>
        have HG := hid (HHT.out c hnm)
        obtain ⟨ct, ckk, cv, cg⟩ := c
        simp only [celA, Option.isSome]
        clear hnm HST HHT HRC
        obtain ⟨_, _, bz, _⟩ := HSET.out (.int .i64 ct) (.int .i64 ckk) (.int .i64 cv) (.bool cg)
        clear HSET
        go_wp2
        go_quiet (fail)
        go_wp2
        refine bodyPost_ret (v := .tuple #[.int .i64 cv, .bool (!cg)]) (by simp [results, Tryz.results38, go_sem]) rfl ⟨by rw [HF.out, HG.out]; rfl, ?_⟩
        exact bz.trans ((below_drewNt _ _).mono bz.size)
      | none =>
        have HV := hid (HST.out hnm)
        simp only [celA, Option.isSome]
        clear hnm HST HHT HRC
        obtain ⟨za, zb, bz, zs⟩ := HSET.out (.int .i64 0) (.int .i64 0) (.int .i64 0) (.bool false)
        have ZA := hid za
        have ZB := hid zb
        have ZS := hid zs
        clear HSET za zb zs
        go_wp2
        go_roundw
        case rel => exact ⟨j, false, 0, 0, 0, false, by omega, rfl, by first | rfl | go_num, HV, ZB, ZA, by rw [ZS.out]; exact hzt3, by rw [ZS.out]; exact hz3, bz⟩
        case measure => simp [intOf]
    .have hk0 : k = 0 := by omega
     subst hk0
     have HG := hid (seenC_none (cms := cms) (bg := bg) (tb := tb) (ky := ky) (by simpa using HO.out))
     clear HO
     go_wp2
     refine bodyPost_ret (v := .tuple #[.int .i64 0, .bool false]) (by simp [results, Tryz.results38, go_sem]) rfl ⟨by rw [HF.out, HG.out]; rfl, ?_⟩
     exact hbel
def clashC (bg : Int) (own : List Cel) (c : Com) : Bool := decide (bg < c.st) && own.any (fun x => (newC c.cs x.tb x.ky).isSome)
def conflictF (cms : List Com) (bg : Int) (own : List Cel) : Bool := cms.any (clashC bg own)
theorem com_at {w : World} {a : Option Addr} {n c : Nat} {us : List Com} (h : RS 2 CCm 0 w (.slice a n c) us) (hp : 0 < us.length) : ∃ g o, a = some ⟨g, o, none⟩ /\ g < w.heap.size /\ ∀ j (hj : j < us.length), ∃ ea ec, w.cell? ⟨g, o + j * 2, none⟩ = some (.int .i64 us[j].st) /\ w.cell? ⟨g, o + j * 2 + 1, none⟩ = some (.slice ea us[j].cs.length ec) /\ RS 4 CC 0 w (.slice ea us[j].cs.length ec) us[j].cs := by
 obtain ⟨a', c', he, hh⟩ := h
 obtain ⟨g, o, e2, h1, h2, h3⟩ := hh hp
 simp only [Value.slice.injEq] at he
 refine ⟨g, o, he.1.trans e2, h2, fun j hj => ?_⟩
 obtain ⟨cs, hc, hcell⟩ := h3 j hj
 obtain ⟨cv, rfl, hr⟩ := hc
 obtain ⟨ea, ec, he3, hr3⟩ := id hr
 subst he3
 exact ⟨ea, ec, hcell 0 (by omega), hcell 1 (by omega), hr⟩
theorem any_take {α : Type} {xs : List α} {p : α -> Bool} {k : Nat} (hlt : k < xs.length) (h : ∀ x ∈ xs.take k, p x = false) (z : p xs[k] = false) : ∀ x ∈ xs.take (k + 1), p x = false := fun t ht => by
 rw [show xs.take (k + 1) = xs.take k ++ [xs[k]] by rw [List.take_add_one, List.getElem?_eq_getElem hlt]; rfl] at ht
 rcases List.mem_append.1 ht with h' | h'
 .exact h t h'
 .rw [List.mem_singleton] at h'; rw [h']; exact z
theorem any_false {α : Type} {xs : List α} {p : α -> Bool} (h : ∀ x ∈ xs, p x = false) : xs.any p = false := by
 rw [List.any_eq_false]; exact fun x hx => by rw [h x hx]; simp
theorem any_true {α : Type} {xs : List α} {p : α -> Bool} {k : Nat} (hlt : k < xs.length) (h : p xs[k] = true) : xs.any p = true := by
 rw [List.any_eq_true]; exact ⟨_, List.getElem_mem hlt, h⟩
theorem conflict_spec (bb : Nat) (ck : Int) (ma : Option Addr) (mc : Nat) (hv tv rv sv : Value) (op : Bool) (md bg : Int) (oa : Option Addr) (oc : Nat) (cms : List Com) (own : List Cel) (w : World) (hm : BM cms) (ho : own.length <= 1048576) (hbb : bb < w.heap.size)
 (hB : Blk w bb [.int .i64 ck, .slice ma cms.length mc, hv, tv]) (hms : RS 2 CCm 0 w (.slice ma cms.length mc) cms) (hown : RS 4 CC 0 w (.slice oa own.length oc) own) :
 Calls Tryz.prog 59 #[.pointer (some ⟨bb, 0, none⟩), .agg #[.bool op, .int .i64 md, .int .i64 bg, .slice oa own.length oc, rv, sv]] w fun e w' => e = .returned (.bool (conflictF cms bg own)) /\ Below w.heap.size w w' := by
 have bw := below_alloc w (.cells #[.bool op, .int .i64 md, .int .i64 bg, .slice oa own.length oc, rv, sv] 70)
 have K5 := hid (blk_new w [.bool op, .int .i64 md, .int .i64 bg, .slice oa own.length oc, rv, sv] 70)
 have hz5 : w.heap.size < (w.alloc (.cells #[.bool op, .int .i64 md, .int .i64 bg, .slice oa own.length oc, rv, sv] 70)).heap.size := by simp
 have b1 : w.cell? ⟨bb, 1, none⟩ = some (.slice ma cms.length mc) := (hB 1 (by simp)).1
 have HMS := hid hms
 have HOW := hid hown
 have hml := hm.1
 have HMC := hid hm.2
 clear hown hB hms hm
 go_enter Tryz.func59, Tryz.ntmps59
 go_wp2
 clear b1
 go_loopw [16] (fun iv wr => ∃ k : Nat, k <= cms.length /\ iv = .int .i64 k /\ Hid (∀ x ∈ cms.take k, clashC bg own x = false) /\ Hid (Blk wr w.heap.size [.bool op, .int .i64 md, .int .i64 bg, .slice oa own.length oc, rv, sv]) /\ w.heap.size < wr.heap.size /\ Below w.heap.size w wr) (fun iv _ => cms.length - (intOf iv).toNat)
 case atStart => exact ⟨0, Nat.zero_le _, rfl, (fun x h => by simp at h : ∀ x ∈ cms.take 0, clashC bg own x = false), K5, hz5, bw⟩
 case round =>
  clear K5 hz5 bw
  obtain ⟨k, hk, rfl, HO, K5, hzt, hbel⟩ := hrel
  have hbs := hbel.size
  by_cases hlt : k < cms.length
  .have hlti : (k : Int) < cms.length := by omega
   obtain ⟨g, o, rfl, hg, hgc⟩ := com_at HMS.out (by omega)
   obtain ⟨ea, ec, c0, c1, hrc⟩ := hgc k hlt
   have HST := hid (fun z => any_take hlt HO.out z)
   have HYes := hid (fun z => any_true (p := clashC bg own) hlt z)
   have HLC := hid (HMC.out cms[k] (List.getElem_mem hlt))
   have HRC := hid hrc
   clear hgc hrc HO
   generalize cms[k] = m at c0 c1 HST HYes HLC HRC
   replace c0 := (hbel.cell (p := ⟨g, o + k * 2, none⟩) hg).trans c0
   replace c1 := (hbel.cell (p := ⟨g, o + k * 2 + 1, none⟩) hg).trans c1
   obtain ⟨-, -, t2, t3⟩ := kc3 K5.out
   have bwA : Below w.heap.size w (wr.alloc (.cells #[.int .i64 m.st, .slice ea m.cs.length ec] 140)) := hbel.alloc hbs _
   have K5A := hid (K5.out.below (below_alloc wr (.cells #[.int .i64 m.st, .slice ea m.cs.length ec] 140)) hzt)
   have K6A := hid (blk_new wr [.int .i64 m.st, .slice ea m.cs.length ec] 140)
   have hztA : w.heap.size < (wr.alloc (.cells #[.int .i64 m.st, .slice ea m.cs.length ec] 140)).heap.size := by simp; omega
   have hzcA : wr.heap.size < (wr.alloc (.cells #[.int .i64 m.st, .slice ea m.cs.length ec] 140)).heap.size := by simp
   by_cases h1 : m.st <= bg
   .have HV := hid (HST.out (by unfold clashC; rw [decide_eq_false (by omega)]; rfl))
    clear HST HYes HRC
    go_wp2
    go_roundw
    case rel => exact ⟨k + 1, by omega, by go_num, HV, K5A, hztA, bwA⟩
    case measure => simp [intOf]; omega
   .have HN := hid (HST.out)
    have HCL : Hid (clashC bg own m = own.any (fun x => (newC m.cs x.tb x.ky).isSome)) := hid (by unfold clashC; rw [decide_eq_true (show bg < m.st by omega)]; rfl)
    clear HN
    go_wp2
    obtain ⟨gc, hgc⟩ : ∃ x, x = wr.heap.size := ⟨_, rfl⟩
    rw [<- hgc] at K6A hzcA
    rw [<- hgc]
    go_loopw [28] (fun jv wx => ∃ l : Nat, l <= own.length /\ jv = .int .i64 l /\ Hid (∀ x ∈ own.take l, (newC m.cs x.tb x.ky).isSome = false) /\ Hid (Blk wx w.heap.size [.bool op, .int .i64 md, .int .i64 bg, .slice oa own.length oc, rv, sv]) /\ Hid (Blk wx gc [.int .i64 m.st, .slice ea m.cs.length ec]) /\ w.heap.size < wx.heap.size /\ gc < wx.heap.size /\ Below w.heap.size w wx) (fun jv _ => own.length - (intOf jv).toNat)
    case atStart => exact ⟨0, Nat.zero_le _, rfl, (fun x h => by simp at h : ∀ x ∈ own.take 0, (newC m.cs x.tb x.ky).isSome = false), K5A, K6A, hztA, hzcA, bwA⟩
    case round =>
     clear K5A K6A hztA hzcA bwA hbel hbs K5 c0 c1 t2 t3 hgc hzt
     obtain ⟨l, hl, rfl, HP, K5, K6, hzt, hzc, hbel⟩ := hrel
     have hbs := hbel.size
     by_cases hlt2 : l < own.length
     .have hlti2 : (l : Int) < own.length := by omega
      obtain ⟨og, oo, rfl, _, hog, hoc⟩ := cel_at HOW.out (by omega)
      obtain ⟨d0, d1, d2, d3⟩ := hoc l hlt2
      have HST2 := hid (fun z => any_take (p := fun x => (newC m.cs x.tb x.ky).isSome) hlt2 HP.out z)
      have HYes2 := hid (fun z => any_true (p := fun x => (newC m.cs x.tb x.ky).isSome) hlt2 z)
      clear hoc HP
      generalize own[l] = x at d0 d1 d2 d3 HST2 HYes2
      obtain ⟨xt, xk, xv, xg⟩ := x
      simp only at d0 d1 d2 d3 HST2 HYes2
      replace d0 := (hbel.cell (p := ⟨og, oo + l * 4, none⟩) hog).trans d0
      replace d1 := (hbel.cell (p := ⟨og, oo + l * 4 + 1, none⟩) hog).trans d1
      replace d2 := (hbel.cell (p := ⟨og, oo + l * 4 + 2, none⟩) hog).trans d2
      replace d3 := (hbel.cell (p := ⟨og, oo + l * 4 + 3, none⟩) hog).trans d3
      have hogw : og < wr.heap.size := by omega
      have e1 : wr.cell? ⟨gc, 1, none⟩ = some (.slice ea m.cs.length ec) := (K6.out 1 (by simp)).1
      have bwA : Below w.heap.size w (wr.alloc (.cells #[.int .i64 xt, .int .i64 xk, .int .i64 xv, .bool xg] 106)) := hbel.alloc hbs _
      have hq := newest_spec ea ec m.cs xt xk (wr.alloc (.cells #[.int .i64 xt, .int .i64 xk, .int .i64 xv, .bool xg] 106)) HLC.out (HRC.out.below liesC bwA)
      replace K5 := hid (K5.out.below (below_alloc wr (.cells #[.int .i64 xt, .int .i64 xk, .int .i64 xv, .bool xg] 106)) hzt)
      replace K6 := hid (K6.out.below (below_alloc wr (.cells #[.int .i64 xt, .int .i64 xk, .int .i64 xv, .bool xg] 106)) hzc)
      have hztA : w.heap.size < (wr.alloc (.cells #[.int .i64 xt, .int .i64 xk, .int .i64 xv, .bool xg] 106)).heap.size := by simp; omega
      have hzcA : gc < (wr.alloc (.cells #[.int .i64 xt, .int .i64 xk, .int .i64 xv, .bool xg] 106)).heap.size := by simp; omega
      go_wp2_with (go_at_call 57; fail)
      refine hq.mono ?_
      rintro e w3 ⟨rfl, hb3⟩
      replace K5 := hid (K5.out.below hb3 hztA)
      replace K6 := hid (K6.out.below hb3 hzcA)
      have bw3 : Below w.heap.size w w3 := bwA.trans (hb3.mono bwA.size)
      have hz3 : w.heap.size < w3.heap.size := Nat.lt_of_lt_of_le hztA hb3.size
      have hc3 : gc < w3.heap.size := Nat.lt_of_lt_of_le hzcA hb3.size
      clear hq hb3 d0 d1 d2 d3 e1 hbel hbs bwA hztA hzcA
      cases hnm : newC m.cs xt xk with
      | some c =>
        have HF : Hid (conflictF cms bg own = true) := hid (HYes.out (by rw [HCL.out]; exact HYes2.out (by rw [hnm]; rfl)))
        obtain ⟨ct, ckk, cv, cg⟩ := c
        simp only [celA, Option.isSome]
        clear hnm HST HYes HST2 HYes2 HRC HCL
        have bw4 := bw3.alloc bw3.size (.cells #[.int .i64 ct, .int .i64 ckk, .int .i64 cv, .bool cg] 106)
        go_wp2
        go_ret
        exact ⟨by rw [HF.out]; rfl, bw4⟩
      | none =>
        have HV := hid (HST2.out (by rw [hnm]; rfl))
        simp only [celA, Option.isSome]
        clear hnm HST2 HYes2
        have bw4 := bw3.alloc bw3.size (.cells #[.int .i64 0, .int .i64 0, .int .i64 0, .bool false] 106)
        have K5C := hid (K5.out.below (below_alloc w3 (.cells #[.int .i64 0, .int .i64 0, .int .i64 0, .bool false] 106)) hz3)
        have K6C := hid (K6.out.below (below_alloc w3 (.cells #[.int .i64 0, .int .i64 0, .int .i64 0, .bool false] 106)) hc3)
        have hz4 : w.heap.size < (w3.alloc (.cells #[.int .i64 0, .int .i64 0, .int .i64 0, .bool false] 106)).heap.size := by simp; omega
        have hc4 : gc < (w3.alloc (.cells #[.int .i64 0, .int .i64 0, .int .i64 0, .bool false] 106)).heap.size := by simp; omega
        clear K5 K6
        go_wp2
        go_roundw
        case rel => exact ⟨l + 1, by omega, by go_num, HV, K5C, K6C, hz4, hc4, bw4⟩
        case measure => simp [intOf]; omega
     .have hln : l = own.length := by omega
      subst hln
      have hlti2 : ¬ (own.length : Int) < own.length := by omega
      have HV := hid (HST.out (by rw [HCL.out]; exact any_false (by simpa using HP.out)))
      clear HST HYes HP K6
      go_wp2
      go_roundw
      case rel => exact ⟨k + 1, by omega, by go_num, HV, K5, hzt, hbel⟩
      case measure => simp [intOf]; omega
  .have hkn : k = cms.length := by omega
   subst hkn
   have hlti : ¬ (cms.length : Int) < cms.length := by omega
   have HF : Hid (conflictF cms bg own = false) := hid (any_false (by simpa using HO.out))
   clear HO
   go_wp2
   go_ret
   exact ⟨by rw [HF.out]; rfl, hbel⟩
end Go.Proofs.YtblkgicbimflhaaGreat
