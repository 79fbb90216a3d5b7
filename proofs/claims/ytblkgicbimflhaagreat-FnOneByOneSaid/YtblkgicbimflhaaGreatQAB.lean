import Derived.Test.YtblkgicbimflhaaGreatQAA
import Derived.Deep.RegionLawGrows
import Derived.Maps.AppendAt
import Derived.Lib.AppendZeros
namespace Go.Proofs.YtblkgicbimflhaaGreat
open Go.ChangeShapes Go.WideShapes Go.ChangeAt Go.RowKit
set_option linter.unusedVariables false
set_option linter.unusedSimpArgs false
set_option maxRecDepth 100000
set_option maxHeartbeats 16000000
structure Com where
 st : Int
 cs : List Cel
def CCm (B : Nat) (w : World) (vs : List Value) (c : Com) : Prop := ∃ cv, vs = [.int .i64 c.st, cv] /\ RS 4 CC B w cv c.cs
theorem liesM : Lies 2 CCm :=
 ⟨fun ⟨_, h, _⟩ => by rw [h]; rfl, fun ⟨a, h, r⟩ hd => ⟨a, h, r.mono liesC hd⟩, fun ⟨a, h, r⟩ hb => ⟨a, h, r.below liesC hb⟩, fun ⟨a, h, r⟩ hc => ⟨a, h, r.set liesC hc⟩⟩
def BM (cms : List Com) : Prop := cms.length <= 1048576 /\ ∀ c ∈ cms, c.cs.length <= 1048576
def comN (bg tb ky : Int) (c : Com) : Option Cel := if bg < c.st then none else newC c.cs tb ky
def seenC (cms : List Com) (bg tb ky : Int) : Option Cel := cms.reverse.findSome? (comN bg tb ky)
theorem seenC_hit {cms : List Com} {bg tb ky : Int} {k : Nat} {c : Cel} (hk : k < cms.length) (hh : comN bg tb ky cms[k] = some c) (hn : ∀ x ∈ cms.drop (k + 1), comN bg tb ky x = none) : seenC cms bg tb ky = some c := by
 have e : cms = cms.take k ++ cms[k] :: cms.drop (k + 1) := by
  rw [List.getElem_cons_drop, List.take_append_drop]
 unfold seenC
 conv => lhs; rw [e]
 rw [List.reverse_append, List.findSome?_append, List.reverse_cons, List.findSome?_append]
 have h2 : (cms.drop (k + 1)).reverse.findSome? (comN bg tb ky) = none := List.findSome?_eq_none_iff.2 (fun x hx => hn x (List.mem_reverse.1 hx))
 rw [h2]
 simp [hh]
theorem seenC_none {cms : List Com} {bg tb ky : Int} (hn : ∀ x ∈ cms, comN bg tb ky x = none) : seenC cms bg tb ky = none := by
 unfold seenC
 exact List.findSome?_eq_none_iff.2 (fun x hx => hn x (List.mem_reverse.1 hx))
def telC : Option Cel -> Int × Bool
 | some c => (c.vl, !c.gn)
 | none => (0, false)
def seesF (cms : List Com) (bg : Int) (own : List Cel) (tb ky : Int) : Int × Bool := telC ((newC own tb ky).or (seenC cms bg tb ky))
theorem sees_own {cms : List Com} {bg tb ky : Int} {own : List Cel} {c : Cel} (h : newC own tb ky = some c) : seesF cms bg own tb ky = (c.vl, !c.gn) := by
 unfold seesF; rw [h]; rfl
theorem sees_com {cms : List Com} {bg tb ky : Int} {own : List Cel} (h : newC own tb ky = none) : seesF cms bg own tb ky = telC (seenC cms bg tb ky) := by
 unfold seesF; rw [h]; rfl
theorem sees_spec (bb : Nat) (ck : Int) (ma : Option Addr) (mc : Nat) (hv tv rv sv : Value) (op : Bool) (md bg : Int) (oa : Option Addr) (oc : Nat) (cms : List Com) (own : List Cel) (tb ky : Int) (w : World) (hm : BM cms) (ho : own.length <= 1048576) (hbb : bb < w.heap.size)
 (hB : Blk w bb [.int .i64 ck, .slice ma cms.length mc, hv, tv]) (hms : RS 2 CCm 0 w (.slice ma cms.length mc) cms) (hown : RS 4 CC 0 w (.slice oa own.length oc) own) :
 Calls Tryz.prog 38 #[.pointer (some ⟨bb, 0, none⟩), .agg #[.bool op, .int .i64 md, .int .i64 bg, .slice oa own.length oc, rv, sv], .int .i64 tb, .int .i64 ky] w fun e w' => e = .returned (.tuple #[.int .i64 (seesF cms bg own tb ky).1, .bool (seesF cms bg own tb ky).2]) /\ Below w.heap.size w w' := by
 have bw := below_alloc w (.cells #[.bool op, .int .i64 md, .int .i64 bg, .slice oa own.length oc, rv, sv] 70)
 have K5 := hid (blk_new w [.bool op, .int .i64 md, .int .i64 bg, .slice oa own.length oc, rv, sv] 70)
 have hz5 : w.heap.size < (w.alloc (.cells #[.bool op, .int .i64 md, .int .i64 bg, .slice oa own.length oc, rv, sv] 70)).heap.size := by simp
 have h1 := newest_spec oa oc own tb ky (w.alloc (.cells #[.bool op, .int .i64 md, .int .i64 bg, .slice oa own.length oc, rv, sv] 70)) ho (hown.below liesC bw)
 have HB := hid hB
 have HMS := hid hms
 have hml := hm.1
 have HMC := hid hm.2
 clear hown hB hms hm
 go_enter Tryz.func38, Tryz.ntmps38
 go_wp2_with (go_at_call 57; fail)
 refine h1.mono ?_
 rintro e w1 ⟨rfl, hb1⟩
 have bw1 := bw.trans (hb1.mono bw.size)
 replace K5 := hid (K5.out.below hb1 hz5)
 replace hz5 : w.heap.size < w1.heap.size := Nat.lt_of_lt_of_le hz5 hb1.size
 clear h1 hb1 bw
 cases hnc : newC own tb ky with
 | some c =>
   have HF := hid (sees_own (cms := cms) (bg := bg) hnc)
   obtain ⟨ct, ckk, cv, cg⟩ := c
   simp only [celA, Option.isSome]
   clear hnc K5
   have bw2 := bw1.alloc bw1.size (.cells #[.int .i64 ct, .int .i64 ckk, .int .i64 cv, .bool cg] 106)
   go_wp2
   go_quiet (fail)
   go_wp2
   refine bodyPost_ret (v := .tuple #[.int .i64 cv, .bool (!cg)]) (by simp [results, Tryz.results38, go_sem]) rfl ⟨by rw [HF.out], ?_⟩
   exact bw2.trans ((below_drewNt _ _).mono bw2.size)
 | none =>
   have HF := hid (sees_com (cms := cms) (bg := bg) hnc)
   simp only [celA, Option.isSome]
   clear hnc
   have bw2 := bw1.alloc bw1.size (.cells #[.int .i64 0, .int .i64 0, .int .i64 0, .bool false] 106)
   have K5b := hid (K5.out.below (below_alloc w1 (.cells #[.int .i64 0, .int .i64 0, .int .i64 0, .bool false] 106)) hz5)
   have KC := hid (blk_new w1 [.int .i64 0, .int .i64 0, .int .i64 0, .bool false] 106)
   have b1 : (w1.alloc (.cells #[.int .i64 0, .int .i64 0, .int .i64 0, .bool false] 106)).cell? ⟨bb, 1, none⟩ = some (.slice ma cms.length mc) := (bw2.cell (p := ⟨bb, 1, none⟩) hbb).trans (HB.out 1 (by simp)).1
   have hw0 : IntKind.i64.wrap ((cms.length : Int) - 1) = (cms.length : Int) - 1 := by simp only [IntKind.wrap_i64, wrap64]; omega
   have hz1 : w1.heap.size < (w1.alloc (.cells #[.int .i64 0, .int .i64 0, .int .i64 0, .bool false] 106)).heap.size := by simp
   have hzz : w.heap.size < (w1.alloc (.cells #[.int .i64 0, .int .i64 0, .int .i64 0, .bool false] 106)).heap.size := by simp; omega
   clear K5
   have hbw1 : bb < w1.heap.size := by have := bw1.size; omega
   go_wp2
   clear b1
   obtain ⟨gc, hgc⟩ : ∃ x, x = w1.heap.size := ⟨_, rfl⟩
   rw [<- hgc] at KC hz1 hz5
   rw [<- hgc]
   clear hgc
   go_loopw [11, 12] (fun bv iv wr => ∃ (k : Nat) (fb : Bool) (x0 x1 x2 : Int) (x3 : Bool), k <= cms.length /\ bv = .bool fb /\ iv = .int .i64 ((k : Int) - 1) /\ Hid (∀ x ∈ cms.drop k, comN bg tb ky x = none) /\ Hid (Blk wr w.heap.size [.bool op, .int .i64 md, .int .i64 bg, .slice oa own.length oc, rv, sv]) /\ Hid (Blk wr gc [.int .i64 x0, .int .i64 x1, .int .i64 x2, .bool x3]) /\ w.heap.size < wr.heap.size /\ gc < wr.heap.size /\ Below w.heap.size w wr) (fun _ iv _ => ((intOf iv) + 1).toNat)
   case atStart => exact ⟨cms.length, false, 0, 0, 0, false, Nat.le_refl _, rfl, rfl, (fun c h => by simp at h : ∀ x ∈ cms.drop cms.length, comN bg tb ky x = none), K5b, KC, hzz, hz1, bw2⟩
   case round =>
    clear K5b KC hzz hz1 bw2 bw1
    obtain ⟨k, fb, x0, x1, x2, x3, hk, rfl, rfl, HO, K5, KC, hzt, hzc, hbel⟩ := hrel
    have hbs := hbel.size
    by_cases hlt : 0 < k
    .obtain ⟨j, rfl⟩ : ∃ j, k = j + 1 := ⟨k - 1, by omega⟩
     have hjl : j < cms.length := by omega
     have hji : (j : Int) < cms.length := by omega
     have hcast : ((j + 1 : Nat) : Int) - 1 = (j : Int) := by omega
     rw [hcast]
     obtain ⟨a', c', he, hh⟩ := id HMS.out
     simp only [Value.slice.injEq] at he
     obtain ⟨g, o, e2, _, hg, h3⟩ := hh (by omega)
     obtain ⟨vs, hC, hcell⟩ := h3 j hjl
     obtain ⟨cv, rfl, hrc⟩ := hC
     rw [e2] at he
     obtain ⟨rfl, _, rfl⟩ := he
     have c0 : wr.cell? ⟨g, o + j * 2, none⟩ = some (.int .i64 cms[j].st) := ct hbel hg (hcell 0 (by omega))
     have c1 : wr.cell? ⟨g, o + j * 2 + 1, none⟩ = some cv := (hbel.cell (p := ⟨g, o + j * 2 + 1, none⟩) hg).trans (hcell 1 (by omega))
     have hgw : g < wr.heap.size := by omega
     have b1 : wr.cell? ⟨bb, 1, none⟩ = some (.slice (some ⟨g, o, none⟩) cms.length mc) := (hbel.cell (p := ⟨bb, 1, none⟩) hbb).trans (HB.out 1 (by simp)).1
     have hbw : bb < wr.heap.size := by omega
     have t2 : wr.cell? ⟨w.heap.size, 2, none⟩ = some (.int .i64 bg) := (K5.out 2 (by simp)).1
     have HST := hid (fun z => drop_step (P := fun c => comN bg tb ky c = none) hjl HO.out z)
     have HHT := hid (fun c z => seenC_hit (c := c) hjl z HO.out)
     have HRC := hid (hrc.below liesC hbel)
     have HLC := hid (HMC.out cms[j] (List.getElem_mem hjl))
     have hw1 : IntKind.i64.wrap ((j : Int) - 1) = (j : Int) - 1 := by simp only [IntKind.wrap_i64, wrap64]; omega
     obtain ⟨ea, ec, hcv, _⟩ := id hrc
     subst hcv
     clear h3 hh hcell hrc HO
     generalize cms[j] = m at c0 c1 HST HHT HRC HLC
     by_cases h1 : bg < m.st
     .have HV := hid (HST.out (by unfold comN; rw [if_pos h1]))
      clear HST HHT HRC
      go_wp2
      have g0 : decide (bg < m.st) = true := decide_eq_true (by omega)
      go_quiet (fail)
      go_wp2
      go_roundw
      case rel => exact ⟨j, fb, x0, x1, x2, x3, by omega, rfl, by first | rfl | go_num, HV, hid (K5.out.below (below_drewNt _ _) hzt), hid (KC.out.below (below_drewNt _ _) hzc), by simpa using hzt, by simpa using hzc, hbel.trans ((below_drewNt _ _).mono hbs)⟩
      case measure => simp [intOf]
     .have hN : comN bg tb ky m = newC m.cs tb ky := by unfold comN; rw [if_neg h1]
      have hq := fun n => newest_spec ea ec m.cs tb ky (wr.drewN n) HLC.out (HRC.out.below liesC (below_drewNt _ _))
      have HQ := hid hq
      clear hq
      rw [hN] at HST HHT
      clear hN
      go_wp2
      have g0 : decide (bg < m.st) = false := decide_eq_false (by omega)
      go_quiet (fail)
      go_wp2_with (go_at_call 57; fail)
      refine (HQ.out _).mono ?_
      rintro e w3 ⟨rfl, hb3⟩
      replace hb3 : Below wr.heap.size wr w3 := (below_drewNt _ _).trans (hb3.mono (below_drewNt _ _).size)
      have K5c := hid (K5.out.below hb3 hzt)
      have KCc := hid (KC.out.below hb3 hzc)
      have bw3 : Below w.heap.size w w3 := hbel.trans (hb3.mono hbs)
      have hz3 : gc < w3.heap.size := Nat.lt_of_lt_of_le hzc hb3.size
      have hzt3 : w.heap.size < w3.heap.size := Nat.lt_of_lt_of_le hzt hb3.size
      obtain ⟨⟨kc0, kf0⟩, ⟨kc1, kf1⟩, ⟨kc2, kf2⟩, ⟨kc3, kf3⟩⟩ := kb3 KCc.out
      clear HQ hb3 c0 c1 b1 t2
      have HSET : Hid (∀ y0 y1 y2 y3, Blk ((((w3.setCell ⟨gc, 0, none⟩ y0).setCell ⟨gc, 1, none⟩ y1).setCell ⟨gc, 2, none⟩ y2).setCell ⟨gc, 3, none⟩ y3) gc [y0, y1, y2, y3] /\ Blk ((((w3.setCell ⟨gc, 0, none⟩ y0).setCell ⟨gc, 1, none⟩ y1).setCell ⟨gc, 2, none⟩ y2).setCell ⟨gc, 3, none⟩ y3) w.heap.size [.bool op, .int .i64 md, .int .i64 bg, .slice oa own.length oc, rv, sv] /\ Below w.heap.size w ((((w3.setCell ⟨gc, 0, none⟩ y0).setCell ⟨gc, 1, none⟩ y1).setCell ⟨gc, 2, none⟩ y2).setCell ⟨gc, 3, none⟩ y3) /\ ((((w3.setCell ⟨gc, 0, none⟩ y0).setCell ⟨gc, 1, none⟩ y1).setCell ⟨gc, 2, none⟩ y2).setCell ⟨gc, 3, none⟩ y3).heap.size = w3.heap.size) := hid (fun y0 y1 y2 y3 => by
       have hge : ∀ i, w.heap.size <= (⟨gc, i, none⟩ : Addr).block := fun i => Nat.le_of_lt hz5
       refine ⟨(((KCc.out.set 0 y0).set 1 y1).set 2 y2).set 3 y3, (((K5c.out.other (by omega)).other (by omega)).other (by omega)).other (by omega), (((bw3.setCell (hge 0) y0).setCell (hge 1) y1).setCell (hge 2) y2).setCell (hge 3) y3, by simp⟩)
      cases hnm : newC m.cs tb ky with
      | some c =>
        have HG := hid (HHT.out c hnm)
        obtain ⟨ct, ckk, cv, cg⟩ := c
        simp only [celA, Option.isSome]
        clear hnm HST HHT HRC
        obtain ⟨_, _, bz, _⟩ := HSET.out (.int .i64 ct) (.int .i64 ckk) (.int .i64 cv) (.bool cg)
        clear HSET
        go_wp2
        go_quiet (fail)
        go_wp2
        refine bodyPost_ret (v := .tuple #[.int .i64 cv, .bool (!cg)]) (by simp [results, Tryz.results38, go_sem]) rfl ⟨by rw [HF.out, HG.out]; rfl, ?_⟩
        exact bz.trans ((below_drewNt _ _).mono bz.size)
      | none =>
        have HV := hid (HST.out hnm)
        simp only [celA, Option.isSome]
        clear hnm HST HHT HRC
        obtain ⟨za, zb, bz, zs⟩ := HSET.out (.int .i64 0) (.int .i64 0) (.int .i64 0) (.bool false)
        have ZA := hid za
        have ZB := hid zb
        have ZS := hid zs
        clear HSET za zb zs
        go_wp2
        go_roundw
        case rel => exact ⟨j, false, 0, 0, 0, false, by omega, rfl, by first | rfl | go_num, HV, ZB, ZA, by rw [ZS.out]; exact hzt3, by rw [ZS.out]; exact hz3, bz⟩
        case measure => simp [intOf]
    .have hk0 : k = 0 := by omega
     subst hk0
     have HG := hid (seenC_none (cms := cms) (bg := bg) (tb := tb) (ky := ky) (by simpa using HO.out))
     clear HO
     go_wp2
     refine bodyPost_ret (v := .tuple #[.int .i64 0, .bool false]) (by simp [results, Tryz.results38, go_sem]) rfl ⟨by rw [HF.out, HG.out]; rfl, ?_⟩
     exact hbel
def clashC (bg : Int) (own : List Cel) (c : Com) : Bool := decide (bg < c.st) && own.any (fun x => (newC c.cs x.tb x.ky).isSome)
def conflictF (cms : List Com) (bg : Int) (own : List Cel) : Bool := cms.any (clashC bg own)
theorem com_at {w : World} {a : Option Addr} {n c : Nat} {us : List Com} (h : RS 2 CCm 0 w (.slice a n c) us) (hp : 0 < us.length) : ∃ g o, a = some ⟨g, o, none⟩ /\ g < w.heap.size /\ ∀ j (hj : j < us.length), ∃ ea ec, w.cell? ⟨g, o + j * 2, none⟩ = some (.int .i64 us[j].st) /\ w.cell? ⟨g, o + j * 2 + 1, none⟩ = some (.slice ea us[j].cs.length ec) /\ RS 4 CC 0 w (.slice ea us[j].cs.length ec) us[j].cs := by
 obtain ⟨a', c', he, hh⟩ := h
 obtain ⟨g, o, e2, h1, h2, h3⟩ := hh hp
 simp only [Value.slice.injEq] at he
 refine ⟨g, o, he.1.trans e2, h2, fun j hj => ?_⟩
 obtain ⟨cs, hc, hcell⟩ := h3 j hj
 obtain ⟨cv, rfl, hr⟩ := hc
 obtain ⟨ea, ec, he3, hr3⟩ := id hr
 subst he3
 exact ⟨ea, ec, hcell 0 (by omega), hcell 1 (by omega), hr⟩
theorem any_take {α : Type} {xs : List α} {p : α -> Bool} {k : Nat} (hlt : k < xs.length) (h : ∀ x ∈ xs.take k, p x = false) (z : p xs[k] = false) : ∀ x ∈ xs.take (k + 1), p x = false := fun t ht => by
 rw [show xs.take (k + 1) = xs.take k ++ [xs[k]] by rw [List.take_add_one, List.getElem?_eq_getElem hlt]; rfl] at ht
 rcases List.mem_append.1 ht with h' | h'
 .exact h t h'
 .rw [List.mem_singleton] at h'; rw [h']; exact z
theorem any_false {α : Type} {xs : List α} {p : α -> Bool} (h : ∀ x ∈ xs, p x = false) : xs.any p = false := by
 rw [List.any_eq_false]; exact fun x hx => by rw [h x hx]; simp
theorem any_true {α : Type} {xs : List α} {p : α -> Bool} {k : Nat} (hlt : k < xs.length) (h : p xs[k] = true) : xs.any p = true := by
 rw [List.any_eq_true]; exact ⟨_, List.getElem_mem hlt, h⟩
theorem conflict_spec (bb : Nat) (ck : Int) (ma : Option Addr) (mc : Nat) (hv tv rv sv : Value) (op : Bool) (md bg : Int) (oa : Option Addr) (oc : Nat) (cms : List Com) (own : List Cel) (w : World) (hm : BM cms) (ho : own.length <= 1048576) (hbb : bb < w.heap.size)
 (hB : Blk w bb [.int .i64 ck, .slice ma cms.length mc, hv, tv]) (hms : RS 2 CCm 0 w (.slice ma cms.length mc) cms) (hown : RS 4 CC 0 w (.slice oa own.length oc) own) :
 Calls Tryz.prog 59 #[.pointer (some ⟨bb, 0, none⟩), .agg #[.bool op, .int .i64 md, .int .i64 bg, .slice oa own.length oc, rv, sv]] w fun e w' => e = .returned (.bool (conflictF cms bg own)) /\ Below w.heap.size w w' := by
 have bw := below_alloc w (.cells #[.bool op, .int .i64 md, .int .i64 bg, .slice oa own.length oc, rv, sv] 70)
 have K5 := hid (blk_new w [.bool op, .int .i64 md, .int .i64 bg, .slice oa own.length oc, rv, sv] 70)
 have hz5 : w.heap.size < (w.alloc (.cells #[.bool op, .int .i64 md, .int .i64 bg, .slice oa own.length oc, rv, sv] 70)).heap.size := by simp
 have b1 : w.cell? ⟨bb, 1, none⟩ = some (.slice ma cms.length mc) := (hB 1 (by simp)).1
 have HMS := hid hms
 have HOW := hid hown
 have hml := hm.1
 have HMC := hid hm.2
 clear hown hB hms hm
 go_enter Tryz.func59, Tryz.ntmps59
 go_wp2
 clear b1
 go_loopw [16] (fun iv wr => ∃ k : Nat, k <= cms.length /\ iv = .int .i64 k /\ Hid (∀ x ∈ cms.take k, clashC bg own x = false) /\ Hid (Blk wr w.heap.size [.bool op, .int .i64 md, .int .i64 bg, .slice oa own.length oc, rv, sv]) /\ w.heap.size < wr.heap.size /\ Below w.heap.size w wr) (fun iv _ => cms.length - (intOf iv).toNat)
 case atStart => exact ⟨0, Nat.zero_le _, rfl, (fun x h => by simp at h : ∀ x ∈ cms.take 0, clashC bg own x = false), K5, hz5, bw⟩
 case round =>
  clear K5 hz5 bw
  obtain ⟨k, hk, rfl, HO, K5, hzt, hbel⟩ := hrel
  have hbs := hbel.size
  by_cases hlt : k < cms.length
  .have hlti : (k : Int) < cms.length := by omega
   obtain ⟨g, o, rfl, hg, hgc⟩ := com_at HMS.out (by omega)
   obtain ⟨ea, ec, c0, c1, hrc⟩ := hgc k hlt
   have HST := hid (fun z => any_take hlt HO.out z)
   have HYes := hid (fun z => any_true (p := clashC bg own) hlt z)
   have HLC := hid (HMC.out cms[k] (List.getElem_mem hlt))
   have HRC := hid hrc
   clear hgc hrc HO
   generalize cms[k] = m at c0 c1 HST HYes HLC HRC
   replace c0 := (hbel.cell (p := ⟨g, o + k * 2, none⟩) hg).trans c0
   replace c1 := (hbel.cell (p := ⟨g, o + k * 2 + 1, none⟩) hg).trans c1
   obtain ⟨-, -, t2, t3⟩ := kc3 K5.out
   have bwA : Below w.heap.size w (wr.alloc (.cells #[.int .i64 m.st, .slice ea m.cs.length ec] 140)) := hbel.alloc hbs _
   have K5A := hid (K5.out.below (below_alloc wr (.cells #[.int .i64 m.st, .slice ea m.cs.length ec] 140)) hzt)
   have K6A := hid (blk_new wr [.int .i64 m.st, .slice ea m.cs.length ec] 140)
   have hztA : w.heap.size < (wr.alloc (.cells #[.int .i64 m.st, .slice ea m.cs.length ec] 140)).heap.size := by simp; omega
   have hzcA : wr.heap.size < (wr.alloc (.cells #[.int .i64 m.st, .slice ea m.cs.length ec] 140)).heap.size := by simp
   by_cases h1 : m.st <= bg
   .have HV := hid (HST.out (by unfold clashC; rw [decide_eq_false (by omega)]; rfl))
    clear HST HYes HRC
    go_wp2
    go_roundw
    case rel => exact ⟨k + 1, by omega, by go_num, HV, K5A, hztA, bwA⟩
    case measure => simp [intOf]; omega
   .have HN := hid (HST.out)
    have HCL : Hid (clashC bg own m = own.any (fun x => (newC m.cs x.tb x.ky).isSome)) := hid (by unfold clashC; rw [decide_eq_true (show bg < m.st by omega)]; rfl)
    clear HN
    go_wp2
    obtain ⟨gc, hgc⟩ : ∃ x, x = wr.heap.size := ⟨_, rfl⟩
    rw [<- hgc] at K6A hzcA
    rw [<- hgc]
    go_loopw [28] (fun jv wx => ∃ l : Nat, l <= own.length /\ jv = .int .i64 l /\ Hid (∀ x ∈ own.take l, (newC m.cs x.tb x.ky).isSome = false) /\ Hid (Blk wx w.heap.size [.bool op, .int .i64 md, .int .i64 bg, .slice oa own.length oc, rv, sv]) /\ Hid (Blk wx gc [.int .i64 m.st, .slice ea m.cs.length ec]) /\ w.heap.size < wx.heap.size /\ gc < wx.heap.size /\ Below w.heap.size w wx) (fun jv _ => own.length - (intOf jv).toNat)
    case atStart => exact ⟨0, Nat.zero_le _, rfl, (fun x h => by simp at h : ∀ x ∈ own.take 0, (newC m.cs x.tb x.ky).isSome = false), K5A, K6A, hztA, hzcA, bwA⟩
    case round =>
     clear K5A K6A hztA hzcA bwA hbel hbs K5 c0 c1 t2 t3 hgc hzt
     obtain ⟨l, hl, rfl, HP, K5, K6, hzt, hzc, hbel⟩ := hrel
     have hbs := hbel.size
     by_cases hlt2 : l < own.length
     .have hlti2 : (l : Int) < own.length := by omega
      obtain ⟨og, oo, rfl, _, hog, hoc⟩ := cel_at HOW.out (by omega)
      obtain ⟨d0, d1, d2, d3⟩ := hoc l hlt2
      have HST2 := hid (fun z => any_take (p := fun x => (newC m.cs x.tb x.ky).isSome) hlt2 HP.out z)
      have HYes2 := hid (fun z => any_true (p := fun x => (newC m.cs x.tb x.ky).isSome) hlt2 z)
      clear hoc HP
      generalize own[l] = x at d0 d1 d2 d3 HST2 HYes2
      obtain ⟨xt, xk, xv, xg⟩ := x
      simp only at d0 d1 d2 d3 HST2 HYes2
      replace d0 := (hbel.cell (p := ⟨og, oo + l * 4, none⟩) hog).trans d0
      replace d1 := (hbel.cell (p := ⟨og, oo + l * 4 + 1, none⟩) hog).trans d1
      replace d2 := (hbel.cell (p := ⟨og, oo + l * 4 + 2, none⟩) hog).trans d2
      replace d3 := (hbel.cell (p := ⟨og, oo + l * 4 + 3, none⟩) hog).trans d3
      have hogw : og < wr.heap.size := by omega
      have e1 : wr.cell? ⟨gc, 1, none⟩ = some (.slice ea m.cs.length ec) := (K6.out 1 (by simp)).1
      have bwA : Below w.heap.size w (wr.alloc (.cells #[.int .i64 xt, .int .i64 xk, .int .i64 xv, .bool xg] 106)) := hbel.alloc hbs _
      have hq := newest_spec ea ec m.cs xt xk (wr.alloc (.cells #[.int .i64 xt, .int .i64 xk, .int .i64 xv, .bool xg] 106)) HLC.out (HRC.out.below liesC bwA)
      replace K5 := hid (K5.out.below (below_alloc wr (.cells #[.int .i64 xt, .int .i64 xk, .int .i64 xv, .bool xg] 106)) hzt)
      replace K6 := hid (K6.out.below (below_alloc wr (.cells #[.int .i64 xt, .int .i64 xk, .int .i64 xv, .bool xg] 106)) hzc)
      have hztA : w.heap.size < (wr.alloc (.cells #[.int .i64 xt, .int .i64 xk, .int .i64 xv, .bool xg] 106)).heap.size := by simp; omega
      have hzcA : gc < (wr.alloc (.cells #[.int .i64 xt, .int .i64 xk, .int .i64 xv, .bool xg] 106)).heap.size := by simp; omega
      go_wp2_with (go_at_call 57; fail)
      refine hq.mono ?_
      rintro e w3 ⟨rfl, hb3⟩
      replace K5 := hid (K5.out.below hb3 hztA)
      replace K6 := hid (K6.out.below hb3 hzcA)
      have bw3 : Below w.heap.size w w3 := bwA.trans (hb3.mono bwA.size)
      have hz3 : w.heap.size < w3.heap.size := Nat.lt_of_lt_of_le hztA hb3.size
      have hc3 : gc < w3.heap.size := Nat.lt_of_lt_of_le hzcA hb3.size
      clear hq hb3 d0 d1 d2 d3 e1 hbel hbs bwA hztA hzcA
      cases hnm : newC m.cs xt xk with
      | some c =>
        have HF : Hid (conflictF cms bg own = true) := hid (HYes.out (by rw [HCL.out]; exact HYes2.out (by rw [hnm]; rfl)))
        obtain ⟨ct, ckk, cv, cg⟩ := c
        simp only [celA, Option.isSome]
        clear hnm HST HYes HST2 HYes2 HRC HCL
        have bw4 := bw3.alloc bw3.size (.cells #[.int .i64 ct, .int .i64 ckk, .int .i64 cv, .bool cg] 106)
        go_wp2
        go_ret
        exact ⟨by rw [HF.out]; rfl, bw4⟩
      | none =>
        have HV := hid (HST2.out (by rw [hnm]; rfl))
        simp only [celA, Option.isSome]
        clear hnm HST2 HYes2
        have bw4 := bw3.alloc bw3.size (.cells #[.int .i64 0, .int .i64 0, .int .i64 0, .bool false] 106)
        have K5C := hid (K5.out.below (below_alloc w3 (.cells #[.int .i64 0, .int .i64 0, .int .i64 0, .bool false] 106)) hz3)
        have K6C := hid (K6.out.below (below_alloc w3 (.cells #[.int .i64 0, .int .i64 0, .int .i64 0, .bool false] 106)) hc3)
        have hz4 : w.heap.size < (w3.alloc (.cells #[.int .i64 0, .int .i64 0, .int .i64 0, .bool false] 106)).heap.size := by simp; omega
        have hc4 : gc < (w3.alloc (.cells #[.int .i64 0, .int .i64 0, .int .i64 0, .bool false] 106)).heap.size := by simp; omega
        clear K5 K6
        go_wp2
        go_roundw
        case rel => exact ⟨l + 1, by omega, by go_num, HV, K5C, K6C, hz4, hc4, bw4⟩
        case measure => simp [intOf]; omega
     .have hln : l = own.length := by omega
      subst hln
      have hlti2 : ¬ (own.length : Int) < own.length := by omega
      have HV := hid (HST.out (by rw [HCL.out]; exact any_false (by simpa using HP.out)))
      clear HST HYes HP K6
      go_wp2
      go_roundw
      case rel => exact ⟨k + 1, by omega, by go_num, HV, K5, hzt, hbel⟩
      case measure => simp [intOf]; omega
  .have hkn : k = cms.length := by omega
   subst hkn
   have hlti : ¬ (cms.length : Int) < cms.length := by omega
   have HF : Hid (conflictF cms bg own = false) := hid (any_false (by simpa using HO.out))
   clear HO
   go_wp2
   go_ret
   exact ⟨by rw [HF.out]; rfl, hbel⟩
theorem list_of {α : Type} (P : Nat -> α -> Prop) : ∀ n, (∀ i, i < n -> ∃ x, P i x) -> ∃ l : List α, l.length = n /\ ∀ i (h : i < l.length), P i l[i]
 | 0, _ => ⟨[], rfl, fun i h => absurd h (Nat.not_lt_zero _)⟩
 | n + 1, hp => by
   obtain ⟨l, hl, hq⟩ := list_of P n (fun i hi => hp i (by omega))
   obtain ⟨x, hx⟩ := hp n (by omega)
   refine ⟨l ++ [x], by simp [hl], fun i h => ?_⟩
   by_cases e : i < l.length
   .rw [List.getElem_append_left e]; exact hq i e
   .have : i = l.length := by simp at h; omega
    subst this
    simp
    rw [hl]; exact hx
theorem RS.flat {α : Type} {k : Nat} {C : Nat -> World -> List Value -> α -> Prop} (hC : Lies k C) {B g o cap : Nat} {w : World} {us : List α} (h : RS k C B w (.slice (some ⟨g, o, none⟩) us.length cap) us) : ∃ news, Fill k C B us us.length news w /\ ∀ j u, news[j]? = some u -> w.cell? ⟨g, o + j, none⟩ = some u := by
 obtain ⟨a, c, he, hc⟩ := h
 simp only [Value.slice.injEq] at he
 obtain ⟨rfl, _, rfl⟩ := he
 have key : ∀ i, i < us.length * k -> ∃ x, w.cell? ⟨g, o + i, none⟩ = some x := fun i hi => by
  have hk : 0 < k := by
   rcases Nat.eq_zero_or_pos k with h0 | h0
   .rw [h0, Nat.mul_zero] at hi; omega
   .exact h0
  have hq : i / k < us.length := Nat.div_lt_of_lt_mul (by rw [Nat.mul_comm]; exact hi)
  obtain ⟨g', o', ha, _, _, hcc⟩ := hc (Nat.lt_of_le_of_lt (Nat.zero_le _) hq)
  cases ha
  obtain ⟨cs, hcs, hcell⟩ := hcc _ hq
  have hm : i % k < k := Nat.mod_lt _ hk
  have := hcell (i % k) hm
  rw [show o + i / k * k + i % k = o + i by have := Nat.div_add_mod' i k; omega, List.getElem?_eq_getElem (by rw [hC.len hcs]; exact hm)] at this
  exact ⟨_, this⟩
 obtain ⟨news, hl, hn⟩ := list_of _ _ key
 refine ⟨news, ⟨hl, fun i hi _ => ?_⟩, fun j u hj => ?_⟩
 .obtain ⟨g', o', ha, _, _, hcc⟩ := hc (by omega)
  cases ha
  obtain ⟨cs, hcs, hcell⟩ := hcc i hi
  refine ⟨cs, hcs, fun j hj => ?_⟩
  have hlt : i * k + j < news.length := by rw [hl]; have := mul_le (K := k) hi; omega
  rw [<- hcell j hj, show o + i * k + j = o + (i * k + j) by omega, hn _ hlt, List.getElem?_eq_getElem hlt]
 .obtain ⟨hlt, rfl⟩ := List.getElem?_eq_some_iff.1 hj
  exact hn j hlt
theorem Fill.below {α : Type} {K : Nat} {C : Nat -> World -> List Value -> α -> Prop} (hC : Lies K C) {B k : Nat} {us : List α} {xs : List Value} {w w' : World} (h : Fill K C B us k xs w) (hb : Below w.heap.size w w') : Fill K C B us k xs w' :=
 ⟨h.1, fun i hi hik => let ⟨cs, a, b⟩ := h.2 i hi hik; ⟨cs, hC.below a hb, b⟩⟩
theorem fill_nil {α : Type} (K : Nat) (C : Nat -> World -> List Value -> α -> Prop) (B : Nat) (w : World) : Fill K C B ([] : List α) 0 [] w := ⟨by simp, fun i h => absurd h (Nat.not_lt_zero _)⟩
theorem Fill.append {α : Type} {K : Nat} {C : Nat -> World -> List Value -> α -> Prop} {B : Nat} {us vs : List α} {xs ys : List Value} {w : World} (h : Fill K C B us us.length xs w) (g : Fill K C B vs vs.length ys w) : Fill K C B (us ++ vs) (us ++ vs).length (xs ++ ys) w := by
 refine ⟨by rw [List.length_append, h.1, g.1, List.length_append, Nat.add_mul], fun i hi _ => ?_⟩
 by_cases e : i < us.length
 .obtain ⟨cs, a, b⟩ := h.2 i e e
  refine ⟨cs, by rw [List.getElem_append_left e]; exact a, fun j hj => ?_⟩
  rw [List.getElem?_append_left (by rw [h.1]; have := mul_le (K := K) e; omega)]
  exact b j hj
 .have hi' : i - us.length < vs.length := by rw [List.length_append] at hi; omega
  obtain ⟨cs, a, b⟩ := g.2 _ hi' hi'
  refine ⟨cs, by rw [List.getElem_append_right (by omega)]; exact a, fun j hj => ?_⟩
  have hge : us.length * K <= i * K := Nat.mul_le_mul_right K (by omega)
  rw [List.getElem?_append_right (by rw [h.1]; omega), h.1, show i * K + j - us.length * K = (i - us.length) * K + j by rw [Nat.sub_mul]; omega]
  exact b j hj
theorem fill_one {α : Type} {K : Nat} {C : Nat -> World -> List Value -> α -> Prop} (hC : Lies K C) {B : Nat} {t : α} {cs : List Value} {w : World} (h : C B w cs t) : Fill K C B [t] 1 cs w :=
 ⟨by rw [hC.len h]; simp, fun i hi _ => by
  have : i = 0 := by simp at hi; omega
  subst this
  exact ⟨cs, h, fun j hj => by simp⟩⟩
theorem Fill.own {α : Type} {K : Nat} {C : Nat -> World -> List Value -> α -> Prop} (hC : Lies K C) {B D e : Nat} {us : List α} {xs : List Value} {v : Value} {w : World} (h : Fill K C B us us.length xs w) (ho : w.ownsRow D e K v us.length xs) (hB : D <= B) : RS K C D w v us := by
 obtain ⟨hl, h2⟩ := ho
 rcases h2 with ⟨rfl, h0⟩ | ⟨g, cap, cur, rfl, hg1, hg2, hg3⟩
 .exact ⟨none, 0, by rw [h0], fun hp => by omega⟩
 .have ho : w.ownsRow D e K (.slice (some ⟨g, 0, none⟩) us.length cap) us.length xs := ⟨hl, .inr ⟨g, cap, cur, rfl, hg1, hg2, hg3⟩⟩
  refine ⟨_, _, rfl, fun _ => ⟨g, 0, rfl, hg1, (ho.lt _ rfl).2, fun i hi => ?_⟩⟩
  obtain ⟨cs, a, b⟩ := h.2 i hi hi
  refine ⟨cs, hC.mono a hB, fun j hj => ?_⟩
  rw [Nat.zero_add, <- b j hj]
  have hx : i * K + j < xs.length := by rw [h.1]; have := mul_le (K := K) hi; omega
  rw [List.getElem?_eq_getElem hx]
  exact own_cell ho (List.getElem?_eq_getElem hx)
theorem Fill.one {α : Type} {K : Nat} {C : Nat -> World -> List Value -> α -> Prop} (h1 : ∀ {B w cs x}, C B w cs x -> ∀ u ∈ cs, u.oneCell' = true) (hC : Lies K C) {B : Nat} {us : List α} {xs : List Value} {w : World} (h : Fill K C B us us.length xs w) : ∀ u ∈ xs, u.oneCell' = true := fun u hu => by
 obtain ⟨i, hi, rfl⟩ := List.getElem_of_mem hu
 have hk : 0 < K := by
  rcases Nat.eq_zero_or_pos K with h0 | h0
  .have := h.1; rw [h0, Nat.mul_zero] at this; omega
  .exact h0
 have hq : i / K < us.length := Nat.div_lt_of_lt_mul (by rw [Nat.mul_comm, <- h.1]; exact hi)
 obtain ⟨cs, a, b⟩ := h.2 _ hq hq
 have hm : i % K < K := Nat.mod_lt _ hk
 have := b _ hm
 rw [show i / K * K + i % K = i from Nat.div_add_mod' i K, List.getElem?_eq_getElem hi, List.getElem?_eq_getElem (by rw [hC.len a]; exact hm)] at this
 rw [Option.some.inj this]
 exact h1 a _ (List.getElem_mem _)
theorem oneI : ∀ {B : Nat} {w : World} {cs : List Value} {x : Int}, CI B w cs x -> ∀ u ∈ cs, u.oneCell' = true := fun h u hu => by
 unfold CI at h; subst h; simp at hu; subst hu; rfl
theorem Blk.grown {w w' : World} {b : Nat} {cs : List Value} {row : Option Nat} (h : Blk w b cs) (hg : w.grownBy w' row) (hb : b < w.heap.size) (hr : some b ≠ row) : Blk w' b cs := fun j hj => by
 have e : w'.heap[(⟨b, j, none⟩ : Addr).block]? = w.heap[(⟨b, j, none⟩ : Addr).block]? := hg.block b hb hr
 exact ⟨(World.cell?_of_block e).trans (h j hj).1, (World.frozen?_of_block e).trans (h j hj).2⟩
theorem Blk.cells {w : World} {b : Nat} {cs : List Value} (h : Blk w b cs) : ∀ j u, cs[j]? = some u -> w.cell? ((⟨b, 0, none⟩ : Addr).add j) = some u := fun j u hj => by
 obtain ⟨hlt, rfl⟩ := List.getElem?_eq_some_iff.1 hj
 rw [Addr.add_lit, Nat.zero_add, (h j hlt).1]
 exact List.getElem?_eq_getElem hlt
theorem step_append_own {P : Program} {ops : Array Oper} {o : Oper} {a : Act} {w : World} {K : Act -> World -> Prop} {Q : Exit -> Act -> World -> Prop} {E : Prop}
 (hg : o.guard = none) (s x : Operand) (t : TypeId) (hop : o.op = Op.call { callee := Callee.builtin Builtin.append, args := #[s, x], argTypes := #[t, t] })
 (base : Nat) (e : TypeId) (i : TypeInfo) (z : Value) (size bytes : Nat) (h1 : P.underlying t = some (.slice e)) (h2 : P.info? e = some i) (h3 : i.zero = some z) (h4 : i.size = size) (h5 : i.bytes = bytes) (h6 : z.cells.size = size) (h7 : 0 < size)
 (v : Value) (n : Nat) (xs : List Value) (hs : a.eval s = v) (hown : w.ownsRow base e size v n xs)
 (ad : Addr) (m c : Nat) (news : List Value) (hx : a.eval x = .slice (some ad) m c) (hn : news.length = m * size) (hc : ∀ j u, news[j]? = some u -> w.cell? (ad.add j) = some u) (h1c : ∀ u ∈ news, u.oneCell' = true)
 (b1 : n + m <= maxLen) (b2 : (n + m) * bytes <= 140737488355328) (hbase : base <= w.heap.size)
 (hK : ∀ v' w', w'.ownsRow base e size v' (n + m) (xs ++ news) -> w.grownBy w' v.ownBlock -> (v' = .slice none 0 0 ↔ v = .slice none 0 0 /\ m = 0) -> K (a.put o.dst v') w') :
 if Region.wanted o (yielded ops a.tmps) = true then Oper.wp P o a w K Q else E := by
 have hw : Region.wanted o (yielded ops a.tmps) = true := by simp [Region.wanted, hg]
 rw [if_pos hw]
 obtain ⟨v', w', hrun, r1, r2, r3⟩ := run_append_own (P := P) w base t o.type e i z size bytes h1 h2 h3 h4 h5 h6 h7 v n xs hown ad m c news hn hc h1c b1 b2 hbase
 unfold Oper.wp
 simp [execOp, hop, resolve, invoke, builtin, hs, hx, hrun, Result.andThen]
 exact hK v' w' r1 r2 r3
def tabsT (p : Nat -> Bool) (k : Nat) : List Int := ((List.range k).filter p).map Int.ofNat
theorem tabsT_yes {p : Nat -> Bool} {k : Nat} (h : p k = true) : tabsT p (k + 1) = tabsT p k ++ [(k : Int)] := by
 unfold tabsT; rw [List.range_succ, List.filter_append, List.map_append]; simp [h]
theorem tabsT_no {p : Nat -> Bool} {k : Nat} (h : p k = false) : tabsT p (k + 1) = tabsT p k := by
 unfold tabsT; rw [List.range_succ, List.filter_append, List.map_append]; simp [h]
theorem tabsT_len (p : Nat -> Bool) (k : Nat) : (tabsT p k).length <= k := by
 unfold tabsT; rw [List.length_map]; exact Nat.le_trans (List.length_filter_le _ _) (by simp)
def readAt (rs : List Bool) (k : Nat) : Bool := rs.getD k false
def wroteAt (own : List Cel) (k : Nat) : Bool := own.any (fun c => c.tb == (k : Int))
def infoF (bg st : Int) (own : List Cel) (rs : List Bool) : TI := ⟨bg, st, tabsT (readAt rs) 32, tabsT (wroteAt own) 32⟩
def IGr (b : Nat) (w : World) (v : Value) (xs : List Int) : Prop := w.ownsRow b 3 1 v xs.length (xs.map (Value.int .i64))
theorem IGr.nil (b : Nat) (w : World) : IGr b w (.slice none 0 0) [] := World.ownsRow_nil _ _ _ _
theorem IGr.below {b : Nat} {w w' : World} {v : Value} {xs : List Int} (h : IGr b w v xs) (hb : Below w.heap.size w w') : IGr b w' v xs := own_below h hb
theorem IGr.form {b : Nat} {w : World} {v : Value} {xs : List Int} (h : IGr b w v xs) : ∃ a c, v = .slice a xs.length c := by
 obtain ⟨_, h2⟩ := h
 rcases h2 with ⟨rfl, h0⟩ | ⟨q, cap, cur, rfl, _⟩
 .exact ⟨none, 0, by rw [h0]⟩
 .exact ⟨_, _, rfl⟩
theorem IGr.rs {b : Nat} {w : World} {v : Value} {xs : List Int} (h : IGr b w v xs) : RS 1 CI b w v xs := by
 have hf : Fill 1 CI b xs xs.length (xs.map (Value.int .i64)) w := ⟨by simp, fun i hi _ => ⟨[.int .i64 xs[i]], rfl, fun j hj => by
  have : j = 0 := by omega
  subst this
  simp [hi]⟩⟩
 exact hf.own liesI h (Nat.le_refl _)
theorem IGr.lt {b g : Nat} {w : World} {v : Value} {xs : List Int} (h : IGr b w v xs) (hg : v.ownBlock = some g) : b <= g /\ g < w.heap.size := World.ownsRow.lt h g hg
def CBl (B : Nat) (w : World) (cs : List Value) (x : Bool) : Prop := cs = [.bool x]
theorem liesB : Lies 1 CBl := ⟨fun h => by rw [h]; rfl, fun h _ => h, fun h _ => h, fun h _ => h⟩
theorem IGr.push {b : Nat} {w' : World} {v' : Value} {xs : List Int} {k : Int} (h : w'.ownsRow b 3 1 v' (xs.length + 1) (xs.map (Value.int .i64) ++ [.int .i64 k])) : IGr b w' v' (xs ++ [k]) := by
 unfold IGr; rw [List.map_append, List.length_append]; exact h
theorem IGr.other {b c j : Nat} {w : World} {v u : Value} {xs : List Int} (h : IGr b w v xs) (hc : v.ownBlock ≠ some c) : IGr b (w.setCell ⟨c, j, none⟩ u) v xs := ownsRow_setCell_other h hc u
theorem IGr.kept {b : Nat} {w w' : World} {v : Value} {xs : List Int} {row : Option Nat} (h : IGr b w v xs) (hg : w.grownBy w' row) (hr : ∀ g, v.ownBlock = some g -> row ≠ some g) : IGr b w' v xs := by
 cases hv : v.ownBlock with
 | none => exact World.ownsRow.kept h hg (.inl hv)
 | some g => exact World.ownsRow.kept h hg (.inr (by rw [hv]; exact fun e => hr g hv e.symm))
theorem Blk.keptG {w w' : World} {b : Nat} {cs : List Value} {row : Option Nat} (h : Blk w b cs) (hg : w.grownBy w' row) (hb : b < w.heap.size) (hr : row ≠ some b) : Blk w' b cs := h.grown hg hb (fun e => hr e.symm)
theorem form_push {b n : Nat} {w : World} {v : Value} {xs : List Value} (h : w.ownsRow b 3 1 v n xs) : ∃ a c, v = .slice a n c := by
 obtain ⟨_, h2⟩ := h
 rcases h2 with ⟨rfl, h0⟩ | ⟨q, cap, cur, rfl, _⟩
 .exact ⟨none, 0, by rw [h0]⟩
 .exact ⟨_, _, rfl⟩
theorem IGr.base {b c : Nat} {w : World} {v : Value} {xs : List Int} (h : IGr b w v xs) (hc : c <= b) : IGr c w v xs := by
 obtain ⟨h1, h2⟩ := h
 refine ⟨h1, ?_⟩
 rcases h2 with h2 | ⟨g, cap, cur, rfl, hg1, hg2⟩
 .exact .inl h2
 .exact .inr ⟨g, cap, cur, rfl, Nat.le_trans hc hg1, hg2⟩
theorem cells_new (W : World) (cs : List Value) (t b : Nat) (hb : b = W.heap.size) : ∀ j u, cs[j]? = some u -> (W.alloc (.cells cs.toArray t)).cell? ((⟨b, 0, none⟩ : Addr).add j) = some u := by subst hb; exact (blk_new W cs t).cells
structure Inf (g : Nat) (op : Bool) (md bg st : Int) (cv rv sv : Value) (w : World) (v2 v3 : Value) (x2 x3 : List Int) : Prop where
 bt : Blk w g [.bool op, .int .i64 md, .int .i64 bg, cv, rv, sv]
 bz : Blk w (g + 1) [.int .i64 0, .int .i64 0, .slice none 0 0, .slice none 0 0]
 bi : Blk w (g + 1 + 1) [.int .i64 bg, .int .i64 st, v2, v3]
 sz : g + 1 + 1 < w.heap.size
 r2 : IGr (g + 1 + 1 + 1) w v2 x2
 r3 : IGr (g + 1 + 1 + 1) w v3 x3
 ap : ∀ a, v2.ownBlock = some a -> v3.ownBlock ≠ some a
theorem Inf.below {g : Nat} {op : Bool} {md bg st : Int} {cv rv sv v2 v3 : Value} {w w' : World} {x2 x3 : List Int} (h : Inf g op md bg st cv rv sv w v2 v3 x2 x3) (hb : Below w.heap.size w w') : Inf g op md bg st cv rv sv w' v2 v3 x2 x3 :=
 ⟨h.bt.below hb (by have := h.sz; omega), h.bz.below hb (by have := h.sz; omega), h.bi.below hb h.sz, Nat.lt_of_lt_of_le h.sz hb.size, h.r2.below hb, h.r3.below hb, h.ap⟩
theorem own_no {b c : Nat} {w : World} {v : Value} {xs : List Int} (h : IGr b w v xs) (hc : c < b) : v.ownBlock ≠ some c := fun e => by have := (h.lt e).1; omega
theorem Inf.push2 {g : Nat} {op : Bool} {md bg st k : Int} {cv rv sv v2 v3 v' : Value} {w w' : World} {x2 x3 : List Int} (h : Inf g op md bg st cv rv sv w v2 v3 x2 x3) (hg : w.grownBy w' v2.ownBlock) (ho : w'.ownsRow (g + 1 + 1 + 1) 3 1 v' (x2.length + 1) (x2.map (Value.int .i64) ++ [.int .i64 k])) (hv : v'.ownBlock = v2.ownBlock \/ v'.ownBlock = some w.heap.size) :
 Inf g op md bg st cv rv sv (w'.setCell ⟨g + 1 + 1, 2, none⟩ v') v' v3 (x2 ++ [k]) x3 := by
 have hsz := h.sz
 have n0 := fun c (hc : c < g + 1 + 1 + 1) => own_no h.r2 hc
 have hk : IGr (g + 1 + 1 + 1) w' v' (x2 ++ [k]) := IGr.push ho
 have hk3 : IGr (g + 1 + 1 + 1) w' v3 x3 := h.r3.kept hg (fun a ha e => h.ap a e ha)
 refine ⟨(h.bt.keptG hg (by omega) (n0 _ (by omega))).other (by omega), (h.bz.keptG hg (by omega) (n0 _ (by omega))).other (by omega), (h.bi.keptG hg hsz (n0 _ (by omega))).set 2 v', by simpa using Nat.lt_of_lt_of_le hsz hg.size, hk.other (own_no hk (by omega)), hk3.other (own_no hk3 (by omega)), fun a ha hb => ?_⟩
 rcases hv with e | e
 .exact h.ap a (e ▸ ha) hb
 .rw [e] at ha
  cases ha
  have := (h.r3.lt hb).2
  omega
theorem Inf.push3 {g : Nat} {op : Bool} {md bg st k : Int} {cv rv sv v2 v3 v' : Value} {w w' : World} {x2 x3 : List Int} (h : Inf g op md bg st cv rv sv w v2 v3 x2 x3) (hg : w.grownBy w' v3.ownBlock) (ho : w'.ownsRow (g + 1 + 1 + 1) 3 1 v' (x3.length + 1) (x3.map (Value.int .i64) ++ [.int .i64 k])) (hv : v'.ownBlock = v3.ownBlock \/ v'.ownBlock = some w.heap.size) :
 Inf g op md bg st cv rv sv (w'.setCell ⟨g + 1 + 1, 3, none⟩ v') v2 v' x2 (x3 ++ [k]) := by
 have hsz := h.sz
 have n0 := fun c (hc : c < g + 1 + 1 + 1) => own_no h.r3 hc
 have hk : IGr (g + 1 + 1 + 1) w' v' (x3 ++ [k]) := IGr.push ho
 have hk2 : IGr (g + 1 + 1 + 1) w' v2 x2 := h.r2.kept hg (fun a ha e => h.ap a ha e)
 refine ⟨(h.bt.keptG hg (by omega) (n0 _ (by omega))).other (by omega), (h.bz.keptG hg (by omega) (n0 _ (by omega))).other (by omega), (h.bi.keptG hg hsz (n0 _ (by omega))).set 3 v', by simpa using Nat.lt_of_lt_of_le hsz hg.size, hk2.other (own_no hk2 (by omega)), hk.other (own_no hk (by omega)), fun a ha hb => ?_⟩
 rcases hv with e | e
 .exact h.ap a ha (e ▸ hb)
 .rw [e] at hb
  cases hb
  have := (h.r2.lt ha).2
  omega
theorem inf_start (w : World) (op : Bool) (md bg st : Int) (cv rv sv : Value) : Inf w.heap.size op md bg st cv rv sv (((w.alloc (.cells #[.bool op, .int .i64 md, .int .i64 bg, cv, rv, sv] 70)).alloc (.cells #[.int .i64 0, .int .i64 0, .slice none 0 0, .slice none 0 0] 131)).alloc (.cells #[.int .i64 bg, .int .i64 st, .slice none 0 0, .slice none 0 0] 131)) (.slice none 0 0) (.slice none 0 0) [] [] :=
 ⟨blkA w [.bool op, .int .i64 md, .int .i64 bg, cv, rv, sv] [.int .i64 0, .int .i64 0, .slice none 0 0, .slice none 0 0] [.int .i64 bg, .int .i64 st, .slice none 0 0, .slice none 0 0] _ _ _, blkB w [.bool op, .int .i64 md, .int .i64 bg, cv, rv, sv] [.int .i64 0, .int .i64 0, .slice none 0 0, .slice none 0 0] [.int .i64 bg, .int .i64 st, .slice none 0 0, .slice none 0 0] _ _ _, blkC w [.bool op, .int .i64 md, .int .i64 bg, cv, rv, sv] [.int .i64 0, .int .i64 0, .slice none 0 0, .slice none 0 0] [.int .i64 bg, .int .i64 st, .slice none 0 0, .slice none 0 0] _ _ _, by simp, IGr.nil _ _, IGr.nil _ _, fun a h => by simp [Value.ownBlock] at h⟩
theorem row_at {w : World} {a : Option Addr} {n c : Nat} {bs : List Bool} (h : RS 1 CBl 0 w (.slice a n c) bs) (hp : 0 < bs.length) : ∃ g o, a = some ⟨g, o, none⟩ /\ g < w.heap.size /\ ∀ j (hj : j < bs.length), w.cell? ⟨g, o + j, none⟩ = some (.bool bs[j]) := by
 obtain ⟨a', c', he, hh⟩ := h
 obtain ⟨g, o, e2, h1, h2, h3⟩ := hh hp
 simp only [Value.slice.injEq] at he
 refine ⟨g, o, he.1.trans e2, h2, fun j hj => ?_⟩
 obtain ⟨cs, hc, hcell⟩ := h3 j hj
 cases hc
 have := hcell 0 (by omega)
 rw [Nat.mul_one, Nat.add_zero] at this
 exact this
theorem info_spec (op : Bool) (md bg st : Int) (oa ra : Option Addr) (oc rc : Nat) (sv : Value) (own : List Cel) (rs : List Bool) (w : World) (ho : own.length <= 1048576) (hrl : rs.length = 32)
 (hown : RS 4 CC 0 w (.slice oa own.length oc) own) (hrs : RS 1 CBl 0 w (.slice ra rs.length rc) rs) :
 Calls Tryz.prog 60 #[.agg #[.bool op, .int .i64 md, .int .i64 bg, .slice oa own.length oc, .slice ra rs.length rc, sv], .int .i64 st] w fun e w' => ∃ v2 v3 : Value, e = .returned (.agg #[.int .i64 bg, .int .i64 st, v2, v3]) /\ CT w.heap.size w' [.int .i64 bg, .int .i64 st, v2, v3] (infoF bg st own rs) /\ Below w.heap.size w w' /\ IGr w.heap.size w' v2 (tabsT (readAt rs) 32) /\ IGr w.heap.size w' v3 (tabsT (wroteAt own) 32) := by
 obtain ⟨i0, hi, hz0, hz1, hz2⟩ := info_parts infoInt
 have HI : Hid (Inf w.heap.size op md bg st (.slice oa own.length oc) (.slice ra rs.length rc) sv (((w.alloc (.cells #[.bool op, .int .i64 md, .int .i64 bg, .slice oa own.length oc, .slice ra rs.length rc, sv] 70)).alloc (.cells #[.int .i64 0, .int .i64 0, .slice none 0 0, .slice none 0 0] 131)).alloc (.cells #[.int .i64 bg, .int .i64 st, .slice none 0 0, .slice none 0 0] 131)) (.slice none 0 0) (.slice none 0 0) (tabsT (readAt rs) 0) (tabsT (wroteAt own) 0)) := inf_start w op md bg st (.slice oa own.length oc) (.slice ra rs.length rc) sv
 have bw : Below w.heap.size w (((w.alloc (.cells #[.bool op, .int .i64 md, .int .i64 bg, .slice oa own.length oc, .slice ra rs.length rc, sv] 70)).alloc (.cells #[.int .i64 0, .int .i64 0, .slice none 0 0, .slice none 0 0] 131)).alloc (.cells #[.int .i64 bg, .int .i64 st, .slice none 0 0, .slice none 0 0] 131)) := ((below_alloc w _).alloc (by simp) _).alloc (by simp; omega) _
 have HOW := hid hown
 have HRS := hid hrs
 have HRL := hid hrl
 clear hown hrs hrl
 go_enter Tryz.func60, Tryz.ntmps60
 go_wp2
 go_loopw [6] (fun iv wr => ∃ (k : Nat) (v2 v3 : Value), k <= 32 /\ iv = .int .i64 k /\ Hid (Inf w.heap.size op md bg st (.slice oa own.length oc) (.slice ra rs.length rc) sv wr v2 v3 (tabsT (readAt rs) k) (tabsT (wroteAt own) k)) /\ Below w.heap.size w wr) (fun iv _ => 32 - (intOf iv).toNat)
 case atStart => exact ⟨0, _, _, by omega, rfl, HI, bw⟩
 case round =>
  clear HI bw
  obtain ⟨k, v2, v3, hk, rfl, HI, hbel⟩ := hrel
  have hbs := hbel.size
  by_cases hlt : k < 32
  .have hlti : (k : Int) < 32 := by omega
   obtain ⟨rg, ro, rfl, hrg, hrc⟩ := row_at HRS.out (by have := HRL.out; omega)
   have hkr : k < rs.length := by have := HRL.out; omega
   have hkri : (k : Int) < rs.length := by omega
   have c0 : wr.cell? ⟨rg, ro + k, none⟩ = some (.bool rs[k]) := ct hbel hrg (hrc k hkr)
   have HRD : Hid (readAt rs k = rs[k]) := hid (by unfold readAt; rw [List.getD_eq_getElem?_getD, List.getElem?_eq_getElem hkr]; rfl)
   have hrgw : rg < wr.heap.size := by omega
   obtain ⟨-, -, -, t3, t4⟩ := kc4 HI.out.bt
   have f2 : wr.cell? ⟨w.heap.size + 1 + 1, 2, none⟩ = some v2 := (HI.out.bi 2 (by simp)).1
   clear hrc
   generalize rs[k] = b at c0 HRD
   have HJ0 := HI.out.sz
   have HLN2 := hid (tabsT_len (readAt rs) k)
   have hln2 := HLN2.out
   rcases b with _ | _
   .have HT2 := hid (tabsT_no (p := readAt rs) (k := k) HRD.out)
    have HJ := HI
    have bwJ := hbel
    clear HRD
    go_wp2
    clear t3 t4 f2 c0 HI hbel hbs
    go_loopw [31] (fun jv wx => ∃ l : Nat, l <= own.length /\ jv = .int .i64 l /\ Hid (∀ x ∈ own.take l, (x.tb == (k : Int)) = false) /\ Hid (Inf w.heap.size op md bg st (.slice oa own.length oc) (.slice (some ⟨rg, ro, none⟩) rs.length rc) sv wx v2 v3 (tabsT (readAt rs) k) (tabsT (wroteAt own) k)) /\ Below w.heap.size w wx) (fun jv _ => own.length - (intOf jv).toNat)
    case atStart => exact ⟨0, Nat.zero_le _, rfl, (fun x h => by simp at h : ∀ x ∈ own.take 0, (x.tb == (k : Int)) = false), HJ, bwJ⟩
    case round =>
     clear HJ bwJ
     obtain ⟨l, hl, rfl, HP, HJ, hbel⟩ := hrel
     have hbs := hbel.size
     have hJ0 := HJ.out.sz
     by_cases hlt2 : l < own.length
     .have hlti2 : (l : Int) < own.length := by omega
      obtain ⟨og, oo, rfl, _, hog, hoc⟩ := cel_at HOW.out (by omega)
      obtain ⟨d0, d1, d2, d3⟩ := hoc l hlt2
      have HST2 := hid (fun z => any_take (p := fun x => x.tb == (k : Int)) hlt2 HP.out z)
      have HYes2 := hid (fun z => any_true (p := fun x => x.tb == (k : Int)) hlt2 z)
      clear hoc HP
      generalize own[l] = x at d0 d1 d2 d3 HST2 HYes2
      obtain ⟨xt, xk, xv, xg⟩ := x
      simp only at d0 d1 d2 d3 HST2 HYes2
      replace d0 := (hbel.cell (p := ⟨og, oo + l * 4, none⟩) hog).trans d0
      replace d1 := (hbel.cell (p := ⟨og, oo + l * 4 + 1, none⟩) hog).trans d1
      replace d2 := (hbel.cell (p := ⟨og, oo + l * 4 + 2, none⟩) hog).trans d2
      replace d3 := (hbel.cell (p := ⟨og, oo + l * 4 + 3, none⟩) hog).trans d3
      have hogw : og < wr.heap.size := by omega
      have bwA : Below w.heap.size w (wr.alloc (.cells #[.int .i64 xt, .int .i64 xk, .int .i64 xv, .bool xg] 106)) := hbel.alloc hbs _
      replace HJ := hid (HJ.out.below (below_alloc wr (.cells #[.int .i64 xt, .int .i64 xk, .int .i64 xv, .bool xg] 106)))
      by_cases hxk : xt = (k : Int)
      .have hxb : (xt == (k : Int)) = true := by simpa using hxk
       have HWR : Hid (wroteAt own k = true) := hid (HYes2.out hxb)
       have HTE := hid (tabsT_yes HWR.out)
       have hsz := HJ.out.sz
       have HLN := hid (tabsT_len (wroteAt own) k)
       have hln := HLN.out
       have f3 : (wr.alloc (.cells #[.int .i64 xt, .int .i64 xk, .int .i64 xv, .bool xg] 106)).cell? ⟨w.heap.size + 1 + 1, 3, none⟩ = some v3 := (HJ.out.bi 3 (by simp)).1
       have HJA := hid (HJ.out.below (below_alloc (wr.alloc (.cells #[.int .i64 xt, .int .i64 xk, .int .i64 xv, .bool xg] 106)) (.cells #[.int .i64 (k : Int)] 3)))
       have bwB := bwA.alloc bwA.size (.cells #[.int .i64 (k : Int)] 3)
       clear hxk HST2 HYes2 HWR
       go_wp2_with (at_builtin; go_loud (refine wpList_append_own_at _ rfl (.tmp 40) (.tmp 42) 32 rfl (w.heap.size + 1 + 1 + 1) 3 i0 (.int .i64 0) 1 8 Tryz.underlying32 hi hz0 hz1 hz2 rfl (by decide) v3 _ _ rfl HJA.out.r3 ⟨wr.heap.size + 1, 0, none⟩ 1 1 [.int .i64 (k : Int)] rfl rfl ?hcl (by intro u hu; simp at hu; subst hu; rfl) (by unfold maxLen; omega) (by omega) (by simp; omega) ?_; (case hcl => exact cells_new _ [.int .i64 (k : Int)] 3 _ (by simp)); intro v' w' hown hgrow _ hblk; obtain ⟨na, nc, hvn⟩ := form_push hown; subst hvn; have HN := hid (HJA.out.push3 hgrow hown hblk); have m3 : w'.cell? ⟨w.heap.size + 1 + 1, 3, none⟩ = some v3 := ((HJA.out.bi.keptG hgrow HJA.out.sz (own_no HJA.out.r3 (by omega))) 3 (by simp)).1; have m3f : w'.frozen? ⟨w.heap.size + 1 + 1, 3, none⟩ = false := ((HJA.out.bi.keptG hgrow HJA.out.sz (own_no HJA.out.r3 (by omega))) 3 (by simp)).2; have bwC : Below w.heap.size w w' := bwB.grown hgrow bwB.size (fun q hq => by have := (HJA.out.r3.lt hq).1; omega)))
       have bwD := bwC.setCell (show w.heap.size <= (⟨w.heap.size + 1 + 1, 3, none⟩ : Addr).block by simp; omega) (.slice na ((tabsT (wroteAt own) k).length + 1) nc)
       go_roundw
       case rel => exact ⟨k + 1, _, _, by omega, by go_num, hid (by have h := HN.out; rw [HTE.out, HT2.out]; exact h), bwD⟩
       case measure => simp [intOf]; omega
      .have hxb : (xt == (k : Int)) = false := by simpa using hxk
       have HV := hid (HST2.out hxb)
       clear HST2 HYes2 hxk
       go_wp2
       go_roundw
       case rel => exact ⟨l + 1, by omega, by go_num, HV, HJ, bwA⟩
       case measure => simp [intOf]; omega
     .have hln : l = own.length := by omega
      subst hln
      have hlti2 : ¬ (own.length : Int) < own.length := by omega
      have HTE := hid (tabsT_no (p := wroteAt own) (k := k) (any_false (by simpa using HP.out)))
      clear HP
      go_wp2
      go_roundw
      case rel => exact ⟨k + 1, _, _, by omega, by go_num, hid (by have h := HJ.out; rw [HTE.out, HT2.out]; exact h), hbel⟩
      case measure => simp [intOf]; omega
   .have HT2 := hid (tabsT_yes (p := readAt rs) (k := k) HRD.out)
    have HIA := hid (HI.out.below (below_alloc wr (.cells #[.int .i64 (k : Int)] 3)))
    have bwB := hbel.alloc hbs (.cells #[.int .i64 (k : Int)] 3)
    clear HRD
    go_wp2_with (at_builtin; go_loud (refine wpList_append_own_at _ rfl (.tmp 23) (.tmp 25) 32 rfl (w.heap.size + 1 + 1 + 1) 3 i0 (.int .i64 0) 1 8 Tryz.underlying32 hi hz0 hz1 hz2 rfl (by decide) v2 _ _ rfl HIA.out.r2 ⟨wr.heap.size, 0, none⟩ 1 1 [.int .i64 (k : Int)] rfl rfl (cells_new _ [.int .i64 (k : Int)] 3 _ (by simp)) (by intro u hu; simp at hu; subst hu; rfl) (by unfold maxLen; omega) (by omega) (by simp; omega) ?_; intro v' w' hown hgrow _ hblk; obtain ⟨na, nc, hvn⟩ := form_push hown; subst hvn; have HJ := hid (HIA.out.push2 hgrow hown hblk); have m2 : w'.cell? ⟨w.heap.size + 1 + 1, 2, none⟩ = some v2 := ((HIA.out.bi.keptG hgrow HIA.out.sz (own_no HIA.out.r2 (by omega))) 2 (by simp)).1; have m2f : w'.frozen? ⟨w.heap.size + 1 + 1, 2, none⟩ = false := ((HIA.out.bi.keptG hgrow HIA.out.sz (own_no HIA.out.r2 (by omega))) 2 (by simp)).2; have m3 : w'.cell? ⟨w.heap.size, 3, none⟩ = some (.slice oa own.length oc) := ((HIA.out.bt.keptG hgrow (by have := HIA.out.sz; omega) (own_no HIA.out.r2 (by omega))) 3 (by simp)).1; have bwC : Below w.heap.size w w' := bwB.grown hgrow bwB.size (fun q hq => by have := (HIA.out.r2.lt hq).1; omega); have bwJ := bwC.setCell (show w.heap.size <= (⟨w.heap.size + 1 + 1, 2, none⟩ : Addr).block by simp; omega) (.slice na ((tabsT (readAt rs) k).length + 1) nc); clear hown hgrow hblk))
    clear t3 t4 f2 c0 HI hbel hbs HIA bwB m2 m2f m3 bwC
    go_loopw [31] (fun jv wx => ∃ l : Nat, l <= own.length /\ jv = .int .i64 l /\ Hid (∀ x ∈ own.take l, (x.tb == (k : Int)) = false) /\ Hid (Inf w.heap.size op md bg st (.slice oa own.length oc) (.slice (some ⟨rg, ro, none⟩) rs.length rc) sv wx (.slice na ((tabsT (readAt rs) k).length + 1) nc) v3 (tabsT (readAt rs) k ++ [(k : Int)]) (tabsT (wroteAt own) k)) /\ Below w.heap.size w wx) (fun jv _ => own.length - (intOf jv).toNat)
    case atStart => exact ⟨0, Nat.zero_le _, rfl, (fun x h => by simp at h : ∀ x ∈ own.take 0, (x.tb == (k : Int)) = false), HJ, bwJ⟩
    case round =>
     clear HJ bwJ
     obtain ⟨l, hl, rfl, HP, HJ, hbel⟩ := hrel
     have hbs := hbel.size
     have hJ0 := HJ.out.sz
     by_cases hlt2 : l < own.length
     .have hlti2 : (l : Int) < own.length := by omega
      obtain ⟨og, oo, rfl, _, hog, hoc⟩ := cel_at HOW.out (by omega)
      obtain ⟨d0, d1, d2, d3⟩ := hoc l hlt2
      have HST2 := hid (fun z => any_take (p := fun x => x.tb == (k : Int)) hlt2 HP.out z)
      have HYes2 := hid (fun z => any_true (p := fun x => x.tb == (k : Int)) hlt2 z)
      clear hoc HP
      generalize own[l] = x at d0 d1 d2 d3 HST2 HYes2
      obtain ⟨xt, xk, xv, xg⟩ := x
      simp only at d0 d1 d2 d3 HST2 HYes2
      replace d0 := (hbel.cell (p := ⟨og, oo + l * 4, none⟩) hog).trans d0
      replace d1 := (hbel.cell (p := ⟨og, oo + l * 4 + 1, none⟩) hog).trans d1
      replace d2 := (hbel.cell (p := ⟨og, oo + l * 4 + 2, none⟩) hog).trans d2
      replace d3 := (hbel.cell (p := ⟨og, oo + l * 4 + 3, none⟩) hog).trans d3
      have hogw : og < wr.heap.size := by omega
      have bwA : Below w.heap.size w (wr.alloc (.cells #[.int .i64 xt, .int .i64 xk, .int .i64 xv, .bool xg] 106)) := hbel.alloc hbs _
      replace HJ := hid (HJ.out.below (below_alloc wr (.cells #[.int .i64 xt, .int .i64 xk, .int .i64 xv, .bool xg] 106)))
      by_cases hxk : xt = (k : Int)
      .have hxb : (xt == (k : Int)) = true := by simpa using hxk
       have HWR : Hid (wroteAt own k = true) := hid (HYes2.out hxb)
       have HTE := hid (tabsT_yes HWR.out)
       have hsz := HJ.out.sz
       have HLN := hid (tabsT_len (wroteAt own) k)
       have hln := HLN.out
       have f3 : (wr.alloc (.cells #[.int .i64 xt, .int .i64 xk, .int .i64 xv, .bool xg] 106)).cell? ⟨w.heap.size + 1 + 1, 3, none⟩ = some v3 := (HJ.out.bi 3 (by simp)).1
       have HJA := hid (HJ.out.below (below_alloc (wr.alloc (.cells #[.int .i64 xt, .int .i64 xk, .int .i64 xv, .bool xg] 106)) (.cells #[.int .i64 (k : Int)] 3)))
       have bwB := bwA.alloc bwA.size (.cells #[.int .i64 (k : Int)] 3)
       clear hxk HST2 HYes2 HWR
       go_wp2_with (at_builtin; go_loud (refine wpList_append_own_at _ rfl (.tmp 40) (.tmp 42) 32 rfl (w.heap.size + 1 + 1 + 1) 3 i0 (.int .i64 0) 1 8 Tryz.underlying32 hi hz0 hz1 hz2 rfl (by decide) v3 _ _ rfl HJA.out.r3 ⟨wr.heap.size + 1, 0, none⟩ 1 1 [.int .i64 (k : Int)] rfl rfl ?hcl (by intro u hu; simp at hu; subst hu; rfl) (by unfold maxLen; omega) (by omega) (by simp; omega) ?_; (case hcl => exact cells_new _ [.int .i64 (k : Int)] 3 _ (by simp)); intro v' w' hown hgrow _ hblk; obtain ⟨na, nc, hvn⟩ := form_push hown; subst hvn; have HN := hid (HJA.out.push3 hgrow hown hblk); have m3 : w'.cell? ⟨w.heap.size + 1 + 1, 3, none⟩ = some v3 := ((HJA.out.bi.keptG hgrow HJA.out.sz (own_no HJA.out.r3 (by omega))) 3 (by simp)).1; have m3f : w'.frozen? ⟨w.heap.size + 1 + 1, 3, none⟩ = false := ((HJA.out.bi.keptG hgrow HJA.out.sz (own_no HJA.out.r3 (by omega))) 3 (by simp)).2; have bwC : Below w.heap.size w w' := bwB.grown hgrow bwB.size (fun q hq => by have := (HJA.out.r3.lt hq).1; omega)))
       have bwD := bwC.setCell (show w.heap.size <= (⟨w.heap.size + 1 + 1, 3, none⟩ : Addr).block by simp; omega) (.slice na ((tabsT (wroteAt own) k).length + 1) nc)
       go_roundw
       case rel => exact ⟨k + 1, _, _, by omega, by go_num, hid (by have h := HN.out; rw [HTE.out, HT2.out]; exact h), bwD⟩
       case measure => simp [intOf]; omega
      .have hxb : (xt == (k : Int)) = false := by simpa using hxk
       have HV := hid (HST2.out hxb)
       clear HST2 HYes2 hxk
       go_wp2
       go_roundw
       case rel => exact ⟨l + 1, by omega, by go_num, HV, HJ, bwA⟩
       case measure => simp [intOf]; omega
     .have hln : l = own.length := by omega
      subst hln
      have hlti2 : ¬ (own.length : Int) < own.length := by omega
      have HTE := hid (tabsT_no (p := wroteAt own) (k := k) (any_false (by simpa using HP.out)))
      clear HP
      go_wp2
      go_roundw
      case rel => exact ⟨k + 1, _, _, by omega, by go_num, hid (by have h := HJ.out; rw [HTE.out, HT2.out]; exact h), hbel⟩
      case measure => simp [intOf]; omega
  .have hke : k = 32 := by omega
   subst hke
   obtain ⟨f0, f1⟩ := kc1 HI.out.bi
   have f2 : wr.cell? ⟨w.heap.size + 1 + 1, 2, none⟩ = some v2 := (HI.out.bi 2 (by simp)).1
   have f3 : wr.cell? ⟨w.heap.size + 1 + 1, 3, none⟩ = some v3 := (HI.out.bi 3 (by simp)).1
   obtain ⟨⟨z0, zf0⟩, ⟨z1, zf1⟩, ⟨z2, zf2⟩, ⟨z3, zf3⟩⟩ := kb3 HI.out.bz
   have hge : ∀ i, w.heap.size <= (⟨w.heap.size + 1, i, none⟩ : Addr).block := fun i => by simp
   have bz := (((hbel.setCell (hge 0) (.int .i64 bg)).setCell (hge 1) (.int .i64 st)).setCell (hge 2) v2).setCell (hge 3) v3
   have HR2 := hid ((((((HI.out.r2.other (c := w.heap.size + 1) (j := 0) (u := .int .i64 bg) (own_no HI.out.r2 (by omega))).other (c := w.heap.size + 1) (j := 1) (u := .int .i64 st) (own_no HI.out.r2 (by omega))).other (c := w.heap.size + 1) (j := 2) (u := v2) (own_no HI.out.r2 (by omega))).other (c := w.heap.size + 1) (j := 3) (u := v3) (own_no HI.out.r2 (by omega))).rs).mono liesI (show w.heap.size <= w.heap.size + 1 + 1 + 1 by omega))
   have HR3 := hid ((((((HI.out.r3.other (c := w.heap.size + 1) (j := 0) (u := .int .i64 bg) (own_no HI.out.r3 (by omega))).other (c := w.heap.size + 1) (j := 1) (u := .int .i64 st) (own_no HI.out.r3 (by omega))).other (c := w.heap.size + 1) (j := 2) (u := v2) (own_no HI.out.r3 (by omega))).other (c := w.heap.size + 1) (j := 3) (u := v3) (own_no HI.out.r3 (by omega))).rs).mono liesI (show w.heap.size <= w.heap.size + 1 + 1 + 1 by omega))
   have HG2 := hid (IGr.base ((((HI.out.r2.other (c := w.heap.size + 1) (j := 0) (u := .int .i64 bg) (own_no HI.out.r2 (by omega))).other (c := w.heap.size + 1) (j := 1) (u := .int .i64 st) (own_no HI.out.r2 (by omega))).other (c := w.heap.size + 1) (j := 2) (u := v2) (own_no HI.out.r2 (by omega))).other (c := w.heap.size + 1) (j := 3) (u := v3) (own_no HI.out.r2 (by omega))) (show w.heap.size <= w.heap.size + 1 + 1 + 1 by omega))
   have HG3 := hid (IGr.base ((((HI.out.r3.other (c := w.heap.size + 1) (j := 0) (u := .int .i64 bg) (own_no HI.out.r3 (by omega))).other (c := w.heap.size + 1) (j := 1) (u := .int .i64 st) (own_no HI.out.r3 (by omega))).other (c := w.heap.size + 1) (j := 2) (u := v2) (own_no HI.out.r3 (by omega))).other (c := w.heap.size + 1) (j := 3) (u := v3) (own_no HI.out.r3 (by omega))) (show w.heap.size <= w.heap.size + 1 + 1 + 1 by omega))
   obtain ⟨a2, c2, hv2⟩ := HI.out.r2.form
   obtain ⟨a3, c3, hv3⟩ := HI.out.r3.form
   subst hv2 hv3
   have HBZ := hid bz
   clear HI bz
   go_wp2
   refine bodyPost_ret (v := .agg #[.int .i64 bg, .int .i64 st, .slice a2 (tabsT (readAt rs) 32).length c2, .slice a3 (tabsT (wroteAt own) 32).length c3]) (by simp [results, Tryz.results60, go_sem, f0, f1, f2, f3, z0, z1, z2, z3, zf0, zf1, zf2, zf3]) rfl ⟨_, _, rfl, ⟨_, _, rfl, HR2.out, HR3.out⟩, HBZ.out, HG2.out, HG3.out⟩
theorem run_append_rs {P : Program} {α : Type} {C : Nat -> World -> List Value -> α -> Prop} {size : Nat} (hC : Lies size C) (h1C : ∀ {B w cs x}, C B w cs x -> ∀ u ∈ cs, u.oneCell' = true) (w : World) (base : Nat) (t ty e : TypeId) (i : TypeInfo) (z : Value) (bytes : Nat) (ht : P.underlying t = some (.slice e)) (hi : P.info? e = some i) (hz : i.zero = some z) (hsize : i.size = size) (hby : i.bytes = bytes) (hzs : z.cells.size = size) (hsz : 0 < size)
 (v : Value) (n : Nat) (xs : List Value) (hown : w.ownsRow base e size v n xs) (ad : Option Addr) (c : Nat) (us : List α) (hrs : RS size C 0 w (.slice ad us.length c) us) (h63 : n + us.length <= maxLen) (hb : (n + us.length) * bytes <= 140737488355328) (hbase : base <= w.heap.size) :
 ∃ news v' w', Fill size C 0 us us.length news w /\ (Builtin.append_ #[t, t] ty #[v, .slice ad us.length c]).run P w = .ok v' w' /\ w'.ownsRow base e size v' (n + us.length) (xs ++ news) /\ w.grownBy w' v.ownBlock /\ (v'.ownBlock = v.ownBlock \/ v'.ownBlock = some w.heap.size) /\ (v' = .slice none 0 0 ↔ v = .slice none 0 0 /\ us.length = 0) := by
 rcases Nat.eq_zero_or_pos us.length with h0 | hp
 .have hus : us = [] := List.length_eq_zero_iff.1 h0
  subst hus
  have hr : (Builtin.append_ #[t, t] ty #[v, .slice ad ([] : List α).length c]).run P w = .ok v w := by
   have hsz2 : ∀ W, (Go.sizeOf e).run P W = .ok i.size W := fun W => by simp [Go.sizeOf, typeInfo, hi]
   obtain ⟨_, h2⟩ := hown
   rcases h2 with ⟨rfl, rfl⟩ | ⟨g, cap, cur, rfl, _, _, hnc, _⟩
   .cases ad with
    | none => simp [Builtin.append_, run_underlying ht, hsz2, Builtin.lenOf, Builtin.firstCells]
    | some a => simp [Builtin.append_, run_underlying ht, hsz2, Builtin.lenOf, Builtin.firstCells, loadCells, loadCellsFrom]
   .cases ad with
    | none => simp [Builtin.append_, run_underlying ht, hsz2, Builtin.lenOf, Builtin.firstCells, hnc, storeCells]
    | some a => simp [Builtin.append_, run_underlying ht, hsz2, Builtin.lenOf, Builtin.firstCells, hnc, loadCells, loadCellsFrom, storeCells]
  refine ⟨[], v, w, fill_nil _ _ _ _, hr, by simpa using hown, ⟨rfl, rfl, rfl, Nat.le_refl _, fun _ _ _ => rfl⟩, .inl rfl, by simp⟩
 .obtain ⟨g, o, rfl⟩ : ∃ g o, ad = some ⟨g, o, none⟩ := by
   obtain ⟨a', c', he, hh⟩ := hrs
   obtain ⟨g, o, e2, _⟩ := hh hp
   simp only [Value.slice.injEq] at he
   exact ⟨g, o, he.1.trans e2⟩
  obtain ⟨news, hf, hcells⟩ := RS.flat hC hrs
  obtain ⟨v', w', hrun, r1, r2, r3, r4⟩ := run_append_own_at (P := P) w base t ty e i z size bytes ht hi hz hsize hby hzs hsz v n xs hown ⟨g, o, none⟩ us.length c news hf.1 (fun j u hj => by rw [Addr.add_lit]; exact hcells j u hj) (hf.one h1C hC) h63 hb hbase
  exact ⟨news, v', w', hf, hrun, r1, r2, r4, r3⟩
theorem wpList_append_rs {P : Program} {α : Type} {C : Nat -> World -> List Value -> α -> Prop} {size : Nat} (hC : Lies size C) (h1C : ∀ {B w cs x}, C B w cs x -> ∀ u ∈ cs, u.oneCell' = true) (w : World) {ops : Array Oper} {rest : List Oper} {o : Oper} {a : Act} {Q : Exit -> Act -> World -> Prop} (hgd : o.guard = none) (s x : Operand) (t : TypeId)
 (ho : o.op = .call { callee := .builtin .append, args := #[s, x], argTypes := #[t, t] })
 (base : Nat) (e : TypeId) (i : TypeInfo) (z : Value) (bytes : Nat) (ht : P.underlying t = some (.slice e)) (hi : P.info? e = some i) (hz : i.zero = some z) (hsize : i.size = size) (hby : i.bytes = bytes) (hzs : z.cells.size = size) (hsz : 0 < size)
 (v : Value) (n : Nat) (xs : List Value) (hs : a.eval s = v) (hown : w.ownsRow base e size v n xs) (ad : Option Addr) (c : Nat) (us : List α) (hx : a.eval x = .slice ad us.length c) (hrs : RS size C 0 w (.slice ad us.length c) us) (h63 : n + us.length <= maxLen) (hb : (n + us.length) * bytes <= 140737488355328) (hbase : base <= w.heap.size)
 (h : ∀ news v' w', Fill size C 0 us us.length news w -> w'.ownsRow base e size v' (n + us.length) (xs ++ news) -> w.grownBy w' v.ownBlock -> (v'.ownBlock = v.ownBlock \/ v'.ownBlock = some w.heap.size) -> wpList P ops Q rest (a.put o.dst v') w') : wpList P ops Q (o :: rest) a w := by
 obtain ⟨news, v', w', hf, hrun, r1, r2, r3, r4⟩ := run_append_rs (P := P) hC h1C w base t o.type e i z bytes ht hi hz hsize hby hzs hsz v n xs hown ad c us hrs h63 hb hbase
 exact Lib.wpList_append_run w hgd s x t t ho v (.slice ad us.length c) hs hx v' w' hrun (h news v' w' hf r1 r2 r3)
theorem step_append_rs {P : Program} {α : Type} {C : Nat -> World -> List Value -> α -> Prop} {size : Nat} (hC : Lies size C) (h1C : ∀ {B w cs x}, C B w cs x -> ∀ u ∈ cs, u.oneCell' = true) {ops : Array Oper} {o : Oper} {a : Act} {w : World} {K : Act -> World -> Prop} {Q : Exit -> Act -> World -> Prop} {E : Prop}
 (hg : o.guard = none) (s x : Operand) (t : TypeId) (hop : o.op = Op.call { callee := Callee.builtin Builtin.append, args := #[s, x], argTypes := #[t, t] })
 (base : Nat) (e : TypeId) (i : TypeInfo) (z : Value) (bytes : Nat) (ht : P.underlying t = some (.slice e)) (hi : P.info? e = some i) (hz : i.zero = some z) (hsize : i.size = size) (hby : i.bytes = bytes) (hzs : z.cells.size = size) (hsz : 0 < size)
 (v : Value) (n : Nat) (xs : List Value) (hs : a.eval s = v) (hown : w.ownsRow base e size v n xs) (ad : Option Addr) (c : Nat) (us : List α) (m : Nat) (hm : us.length = m) (hx : a.eval x = .slice ad m c) (hrs : RS size C 0 w (.slice ad us.length c) us) (h63 : n + us.length <= maxLen) (hb : (n + us.length) * bytes <= 140737488355328) (hbase : base <= w.heap.size)
 (hK : ∀ news v' w', Fill size C 0 us us.length news w -> w'.ownsRow base e size v' (n + us.length) (xs ++ news) -> w.grownBy w' v.ownBlock -> (v'.ownBlock = v.ownBlock \/ v'.ownBlock = some w.heap.size) -> (v' = .slice none 0 0 ↔ v = .slice none 0 0 /\ us.length = 0) -> K (a.put o.dst v') w') :
 if Region.wanted o (yielded ops a.tmps) = true then Oper.wp P o a w K Q else E := by
 subst hm
 have hw : Region.wanted o (yielded ops a.tmps) = true := by simp [Region.wanted, hg]
 rw [if_pos hw]
 obtain ⟨news, v', w', hf, hrun, r1, r2, r3, r4⟩ := run_append_rs (P := P) hC h1C w base t o.type e i z bytes ht hi hz hsize hby hzs hsz v n xs hown ad c us hrs h63 hb hbase
 unfold Oper.wp
 simp [execOp, hop, resolve, invoke, builtin, hs, hx, hrun, Result.andThen]
 exact hK news v' w' hf r1 r2 r3 r4
end Go.Proofs.YtblkgicbimflhaaGreat
