import Derived.Test.YtblkgicbimflhaaGreatKAB
import Derived.Maps.AppendAt
import Derived.Deep.RegionLawGrows
import Derived.Lib.AppendZeros
namespace Go.Proofs.YtblkgicbimflhaaGreat
open Go.ChangeShapes Go.WideShapes Go.ChangeAt Go.RowKit
set_option linter.unusedVariables false
set_option linter.unusedSimpArgs false
set_option maxRecDepth 100000
open List (setIfInBounds_toArray set_cons_zero set_cons_succ)
def CBl (B : Nat) (w : World) (cs : List Value) (x : Bool) : Prop := cs = [.bool x]
theorem liesB : Lies 1 CBl := ⟨fun h => by rw [h]; rfl, fun h _ => h, fun h _ => h, fun h _ => h⟩
theorem IGr.push {b : Nat} {w' : World} {v' : Value} {xs : List Int} {k : Int} (h : w'.ownsRow b 3 1 v' (xs.length + 1) (xs.map (Value.int .i64) ++ [.int .i64 k])) : IGr b w' v' (xs ++ [k]) := by
 unfold IGr; rw [List.map_append, List.length_append]; exact h
theorem IGr.other {b c j : Nat} {w : World} {v u : Value} {xs : List Int} (h : IGr b w v xs) (hc : v.ownBlock ≠ some c) : IGr b (w.setCell ⟨c, j, none⟩ u) v xs := ownsRow_setCell_other h hc u
theorem IGr.kept {b : Nat} {w w' : World} {v : Value} {xs : List Int} {row : Option Nat} (h : IGr b w v xs) (hg : w.grownBy w' row) (hr : ∀ g, v.ownBlock = some g → row ≠ some g) : IGr b w' v xs := by
 cases hv : v.ownBlock with
 | none => exact World.ownsRow.kept h hg (.inl hv)
 | some g => exact World.ownsRow.kept h hg (.inr (by rw [hv]; exact fun e => hr g hv e.symm))
theorem Blk.keptG {w w' : World} {b : Nat} {cs : List Value} {row : Option Nat} (h : Blk w b cs) (hg : w.grownBy w' row) (hb : b < w.heap.size) (hr : row ≠ some b) : Blk w' b cs := h.grown hg hb (fun e => hr e.symm)
theorem form_push {b n : Nat} {w : World} {v : Value} {xs : List Value} (h : w.ownsRow b 3 1 v n xs) : ∃ a c, v = .slice a n c := by
 obtain ⟨_, h2⟩ := h
 rcases h2 with ⟨rfl, h0⟩ | ⟨q, cap, cur, rfl, _⟩
 ·exact ⟨none, 0, by rw [h0]⟩
 ·exact ⟨_, _, rfl⟩
theorem IGr.base {b c : Nat} {w : World} {v : Value} {xs : List Int} (h : IGr b w v xs) (hc : c ≤ b) : IGr c w v xs := by
 obtain ⟨h1, h2⟩ := h
 refine ⟨h1, ?_⟩
 rcases h2 with h2 | ⟨g, cap, cur, rfl, hg1, hg2⟩
 ·exact .inl h2
 ·exact .inr ⟨g, cap, cur, rfl, Nat.le_trans hc hg1, hg2⟩
theorem cells_new (W : World) (cs : List Value) (t b : Nat) (hb : b = W.heap.size) : ∀ j u, cs[j]? = some u → (W.alloc (.cells cs.toArray t)).cell? ((⟨b, 0, none⟩ : Addr).add j) = some u := by subst hb; exact (blk_new W cs t).cells
structure Inf (g : Nat) (op : Bool) (md bg st : Int) (cv rv sv : Value) (w : World) (v2 v3 : Value) (x2 x3 : List Int) : Prop where
 bt : Blk w g [.bool op, .int .i64 md, .int .i64 bg, cv, rv, sv]
 bz : Blk w (g + 1) [.int .i64 0, .int .i64 0, .slice none 0 0, .slice none 0 0]
 bi : Blk w (g + 1 + 1) [.int .i64 bg, .int .i64 st, v2, v3]
 sz : g + 1 + 1 < w.heap.size
 r2 : IGr (g + 1 + 1 + 1) w v2 x2
 r3 : IGr (g + 1 + 1 + 1) w v3 x3
 ap : ∀ a, v2.ownBlock = some a → v3.ownBlock ≠ some a
theorem Inf.below {g : Nat} {op : Bool} {md bg st : Int} {cv rv sv v2 v3 : Value} {w w' : World} {x2 x3 : List Int} (h : Inf g op md bg st cv rv sv w v2 v3 x2 x3) (hb : Below w.heap.size w w') : Inf g op md bg st cv rv sv w' v2 v3 x2 x3 :=
 ⟨h.bt.below hb (by have := h.sz; omega), h.bz.below hb (by have := h.sz; omega), h.bi.below hb h.sz, Nat.lt_of_lt_of_le h.sz hb.size, h.r2.below hb, h.r3.below hb, h.ap⟩
theorem own_no {b c : Nat} {w : World} {v : Value} {xs : List Int} (h : IGr b w v xs) (hc : c < b) : v.ownBlock ≠ some c := fun e => by have := (h.lt e).1; omega
theorem Inf.push2 {g : Nat} {op : Bool} {md bg st k : Int} {cv rv sv v2 v3 v' : Value} {w w' : World} {x2 x3 : List Int} (h : Inf g op md bg st cv rv sv w v2 v3 x2 x3) (hg : w.grownBy w' v2.ownBlock) (ho : w'.ownsRow (g + 1 + 1 + 1) 3 1 v' (x2.length + 1) (x2.map (Value.int .i64) ++ [.int .i64 k])) (hv : v'.ownBlock = v2.ownBlock ∨ v'.ownBlock = some w.heap.size) :
 Inf g op md bg st cv rv sv (w'.setCell ⟨g + 1 + 1, 2, none⟩ v') v' v3 (x2 ++ [k]) x3 := by
 have hsz := h.sz
 have n0 := fun c (hc : c < g + 1 + 1 + 1) => own_no h.r2 hc
 have hk : IGr (g + 1 + 1 + 1) w' v' (x2 ++ [k]) := IGr.push ho
 have hk3 : IGr (g + 1 + 1 + 1) w' v3 x3 := h.r3.kept hg (fun a ha e => h.ap a e ha)
 refine ⟨(h.bt.keptG hg (by omega) (n0 _ (by omega))).other (by omega), (h.bz.keptG hg (by omega) (n0 _ (by omega))).other (by omega), (h.bi.keptG hg hsz (n0 _ (by omega))).set 2 v', by simpa using Nat.lt_of_lt_of_le hsz hg.size, hk.other (own_no hk (by omega)), hk3.other (own_no hk3 (by omega)), fun a ha hb => ?_⟩
 rcases hv with e | e
 ·exact h.ap a (e ▸ ha) hb
 ·rw [e] at ha
  cases ha
  have := (h.r3.lt hb).2
  omega
theorem Inf.push3 {g : Nat} {op : Bool} {md bg st k : Int} {cv rv sv v2 v3 v' : Value} {w w' : World} {x2 x3 : List Int} (h : Inf g op md bg st cv rv sv w v2 v3 x2 x3) (hg : w.grownBy w' v3.ownBlock) (ho : w'.ownsRow (g + 1 + 1 + 1) 3 1 v' (x3.length + 1) (x3.map (Value.int .i64) ++ [.int .i64 k])) (hv : v'.ownBlock = v3.ownBlock ∨ v'.ownBlock = some w.heap.size) :
 Inf g op md bg st cv rv sv (w'.setCell ⟨g + 1 + 1, 3, none⟩ v') v2 v' x2 (x3 ++ [k]) := by
 have hsz := h.sz
 have n0 := fun c (hc : c < g + 1 + 1 + 1) => own_no h.r3 hc
 have hk : IGr (g + 1 + 1 + 1) w' v' (x3 ++ [k]) := IGr.push ho
 have hk2 : IGr (g + 1 + 1 + 1) w' v2 x2 := h.r2.kept hg (fun a ha e => h.ap a ha e)
 refine ⟨(h.bt.keptG hg (by omega) (n0 _ (by omega))).other (by omega), (h.bz.keptG hg (by omega) (n0 _ (by omega))).other (by omega), (h.bi.keptG hg hsz (n0 _ (by omega))).set 3 v', by simpa using Nat.lt_of_lt_of_le hsz hg.size, hk2.other (own_no hk2 (by omega)), hk.other (own_no hk (by omega)), fun a ha hb => ?_⟩
 rcases hv with e | e
 ·exact h.ap a ha (e ▸ hb)
 ·rw [e] at hb
  cases hb
  have := (h.r2.lt ha).2
  omega
theorem inf_start (w : World) (op : Bool) (md bg st : Int) (cv rv sv : Value) : Inf w.heap.size op md bg st cv rv sv (((w.alloc (.cells #[.bool op, .int .i64 md, .int .i64 bg, cv, rv, sv] 70)).alloc (.cells #[.int .i64 0, .int .i64 0, .slice none 0 0, .slice none 0 0] 131)).alloc (.cells #[.int .i64 bg, .int .i64 st, .slice none 0 0, .slice none 0 0] 131)) (.slice none 0 0) (.slice none 0 0) [] [] :=
 ⟨blkA w [.bool op, .int .i64 md, .int .i64 bg, cv, rv, sv] [.int .i64 0, .int .i64 0, .slice none 0 0, .slice none 0 0] [.int .i64 bg, .int .i64 st, .slice none 0 0, .slice none 0 0] _ _ _, blkB w [.bool op, .int .i64 md, .int .i64 bg, cv, rv, sv] [.int .i64 0, .int .i64 0, .slice none 0 0, .slice none 0 0] [.int .i64 bg, .int .i64 st, .slice none 0 0, .slice none 0 0] _ _ _, blkC w [.bool op, .int .i64 md, .int .i64 bg, cv, rv, sv] [.int .i64 0, .int .i64 0, .slice none 0 0, .slice none 0 0] [.int .i64 bg, .int .i64 st, .slice none 0 0, .slice none 0 0] _ _ _, by simp, IGr.nil _ _, IGr.nil _ _, fun a h => by simp [Value.ownBlock] at h⟩
theorem row_at {w : World} {a : Option Addr} {n c : Nat} {bs : List Bool} (h : RS 1 CBl 0 w (.slice a n c) bs) (hp : 0 < bs.length) : ∃ g o, a = some ⟨g, o, none⟩ ∧ g < w.heap.size ∧ ∀ j (hj : j < bs.length), w.cell? ⟨g, o + j, none⟩ = some (.bool bs[j]) := by
 obtain ⟨a', c', he, hh⟩ := h
 obtain ⟨g, o, e2, h1, h2, h3⟩ := hh hp
 simp only [Value.slice.injEq] at he
 refine ⟨g, o, he.1.trans e2, h2, fun j hj => ?_⟩
 obtain ⟨cs, hc, hcell⟩ := h3 j hj
 cases hc
 have := hcell 0 (by omega)
 rw [Nat.mul_one, Nat.add_zero] at this
 exact this
set_option maxHeartbeats 8000000 in
theorem info_spec (op : Bool) (md bg st : Int) (oa ra : Option Addr) (oc rc : Nat) (sv : Value) (own : List Cel) (rs : List Bool) (w : World) (ho : own.length ≤ 1048576) (hrl : rs.length = 32)
 (hown : RS 4 CC 0 w (.slice oa own.length oc) own) (hrs : RS 1 CBl 0 w (.slice ra rs.length rc) rs) :
 Calls Tryz.prog 60 #[.agg #[.bool op, .int .i64 md, .int .i64 bg, .slice oa own.length oc, .slice ra rs.length rc, sv], .int .i64 st] w fun e w' => ∃ v2 v3 : Value, e = .returned (.agg #[.int .i64 bg, .int .i64 st, v2, v3]) ∧ CT w.heap.size w' [.int .i64 bg, .int .i64 st, v2, v3] (infoF bg st own rs) ∧ Below w.heap.size w w' ∧ IGr w.heap.size w' v2 (tabsT (readAt rs) 32) ∧ IGr w.heap.size w' v3 (tabsT (wroteAt own) 32) := by
 obtain ⟨i0, hi, hz0, hz1, hz2⟩ := info_parts infoInt
 have HI : Hid (Inf w.heap.size op md bg st (.slice oa own.length oc) (.slice ra rs.length rc) sv (((w.alloc (.cells #[.bool op, .int .i64 md, .int .i64 bg, .slice oa own.length oc, .slice ra rs.length rc, sv] 70)).alloc (.cells #[.int .i64 0, .int .i64 0, .slice none 0 0, .slice none 0 0] 131)).alloc (.cells #[.int .i64 bg, .int .i64 st, .slice none 0 0, .slice none 0 0] 131)) (.slice none 0 0) (.slice none 0 0) (tabsT (readAt rs) 0) (tabsT (wroteAt own) 0)) := inf_start w op md bg st (.slice oa own.length oc) (.slice ra rs.length rc) sv
 have bw : Below w.heap.size w (((w.alloc (.cells #[.bool op, .int .i64 md, .int .i64 bg, .slice oa own.length oc, .slice ra rs.length rc, sv] 70)).alloc (.cells #[.int .i64 0, .int .i64 0, .slice none 0 0, .slice none 0 0] 131)).alloc (.cells #[.int .i64 bg, .int .i64 st, .slice none 0 0, .slice none 0 0] 131)) := ((below_alloc w _).alloc (by simp) _).alloc (by simp; omega) _
 have HOW := hid hown
 have HRS := hid hrs
 have HRL := hid hrl
 clear hown hrs hrl
 go_enter Tryz.func60, Tryz.ntmps60
 go_wp2
 go_loopw [6] (fun iv wr => ∃ (k : Nat) (v2 v3 : Value), k ≤ 32 ∧ iv = .int .i64 k ∧ Hid (Inf w.heap.size op md bg st (.slice oa own.length oc) (.slice ra rs.length rc) sv wr v2 v3 (tabsT (readAt rs) k) (tabsT (wroteAt own) k)) ∧ Below w.heap.size w wr) (fun iv _ => 32 - (intOf iv).toNat)
 case atStart => exact ⟨0, _, _, by omega, rfl, HI, bw⟩
 case round =>
  clear HI bw
  obtain ⟨k, v2, v3, hk, rfl, HI, hbel⟩ := hrel
  have hbs := hbel.size
  by_cases hlt : k < 32
  ·have hlti : (k : Int) < 32 := by omega
   obtain ⟨rg, ro, rfl, hrg, hrc⟩ := row_at HRS.out (by have := HRL.out; omega)
   have hkr : k < rs.length := by have := HRL.out; omega
   have hkri : (k : Int) < rs.length := by omega
   have c0 : wr.cell? ⟨rg, ro + k, none⟩ = some (.bool rs[k]) := (hbel.cell (p := ⟨rg, ro + k, none⟩) hrg).trans (hrc k hkr)
   have HRD : Hid (readAt rs k = rs[k]) := hid (by unfold readAt; rw [List.getD_eq_getElem?_getD, List.getElem?_eq_getElem hkr]; rfl)
   have hrgw : rg < wr.heap.size := by omega
   have t3 : wr.cell? ⟨w.heap.size, 3, none⟩ = some (.slice oa own.length oc) := (HI.out.bt 3 (by simp)).1
   have t4 : wr.cell? ⟨w.heap.size, 4, none⟩ = some (.slice (some ⟨rg, ro, none⟩) rs.length rc) := (HI.out.bt 4 (by simp)).1
   have f2 : wr.cell? ⟨w.heap.size + 1 + 1, 2, none⟩ = some v2 := (HI.out.bi 2 (by simp)).1
   clear hrc
   generalize rs[k] = b at c0 HRD
   have HJ0 := HI.out.sz
   have HLN2 := hid (tabsT_len (readAt rs) k)
   have hln2 := HLN2.out
   rcases b with _ | _
   ·have HT2 := hid (tabsT_no (p := readAt rs) (k := k) HRD.out)
    have HJ := HI
    have bwJ := hbel
    clear HRD
    go_wp2
    clear t3 t4 f2 c0 HI hbel hbs
    go_loopw [31] (fun jv wx => ∃ l : Nat, l ≤ own.length ∧ jv = .int .i64 l ∧ Hid (∀ x ∈ own.take l, (x.tb == (k : Int)) = false) ∧ Hid (Inf w.heap.size op md bg st (.slice oa own.length oc) (.slice (some ⟨rg, ro, none⟩) rs.length rc) sv wx v2 v3 (tabsT (readAt rs) k) (tabsT (wroteAt own) k)) ∧ Below w.heap.size w wx) (fun jv _ => own.length - (intOf jv).toNat)
    case atStart => exact ⟨0, Nat.zero_le _, rfl, (fun x h => by simp at h : ∀ x ∈ own.take 0, (x.tb == (k : Int)) = false), HJ, bwJ⟩
    case round =>
     clear HJ bwJ
     obtain ⟨l, hl, rfl, HP, HJ, hbel⟩ := hrel
     have hbs := hbel.size
     have hJ0 := HJ.out.sz
     by_cases hlt2 : l < own.length
     ·have hlti2 : (l : Int) < own.length := by omega
      obtain ⟨og, oo, rfl, _, hog, hoc⟩ := cel_at HOW.out (by omega)
      obtain ⟨d0, d1, d2, d3⟩ := hoc l hlt2
      have HST2 := hid (fun z => any_take (p := fun x => x.tb == (k : Int)) hlt2 HP.out z)
      have HYes2 := hid (fun z => any_true (p := fun x => x.tb == (k : Int)) hlt2 z)
      clear hoc HP
      generalize own[l] = x at d0 d1 d2 d3 HST2 HYes2
      obtain ⟨xt, xk, xv, xg⟩ := x
      simp only at d0 d1 d2 d3 HST2 HYes2
      replace d0 := (hbel.cell (p := ⟨og, oo + l * 4, none⟩) hog).trans d0
      replace d1 := (hbel.cell (p := ⟨og, oo + l * 4 + 1, none⟩) hog).trans d1
      replace d2 := (hbel.cell (p := ⟨og, oo + l * 4 + 2, none⟩) hog).trans d2
      replace d3 := (hbel.cell (p := ⟨og, oo + l * 4 + 3, none⟩) hog).trans d3
      have hogw : og < wr.heap.size := by omega
      have bwA : Below w.heap.size w (wr.alloc (.cells #[.int .i64 xt, .int .i64 xk, .int .i64 xv, .bool xg] 106)) := hbel.alloc hbs _
      replace HJ := hid (HJ.out.below (below_alloc wr (.cells #[.int .i64 xt, .int .i64 xk, .int .i64 xv, .bool xg] 106)))
      by_cases hxk : xt = (k : Int)
      ·have hxb : (xt == (k : Int)) = true := by simpa using hxk
       have HWR : Hid (wroteAt own k = true) := hid (HYes2.out hxb)
       have HTE := hid (tabsT_yes HWR.out)
       have hsz := HJ.out.sz
       have HLN := hid (tabsT_len (wroteAt own) k)
       have hln := HLN.out
       have f3 : (wr.alloc (.cells #[.int .i64 xt, .int .i64 xk, .int .i64 xv, .bool xg] 106)).cell? ⟨w.heap.size + 1 + 1, 3, none⟩ = some v3 := (HJ.out.bi 3 (by simp)).1
       have HJA := hid (HJ.out.below (below_alloc (wr.alloc (.cells #[.int .i64 xt, .int .i64 xk, .int .i64 xv, .bool xg] 106)) (.cells #[.int .i64 (k : Int)] 3)))
       have bwB := bwA.alloc bwA.size (.cells #[.int .i64 (k : Int)] 3)
       clear hxk HST2 HYes2 HWR
       go_wp2_with (at_builtin; go_loud (refine wpList_append_own_at _ rfl (.tmp 40) (.tmp 42) 32 rfl (w.heap.size + 1 + 1 + 1) 3 i0 (.int .i64 0) 1 8 Tryz.underlying32 hi hz0 hz1 hz2 rfl (by decide) v3 _ _ rfl HJA.out.r3 ⟨wr.heap.size + 1, 0, none⟩ 1 1 [.int .i64 (k : Int)] rfl rfl ?hcl (by intro u hu; simp at hu; subst hu; rfl) (by unfold maxLen; omega) (by omega) (by simp; omega) ?_; (case hcl => exact cells_new _ [.int .i64 (k : Int)] 3 _ (by simp)); intro v' w' hown hgrow _ hblk; obtain ⟨na, nc, hvn⟩ := form_push hown; subst hvn; have HN := hid (HJA.out.push3 hgrow hown hblk); have m3 : w'.cell? ⟨w.heap.size + 1 + 1, 3, none⟩ = some v3 := ((HJA.out.bi.keptG hgrow HJA.out.sz (own_no HJA.out.r3 (by omega))) 3 (by simp)).1; have m3f : w'.frozen? ⟨w.heap.size + 1 + 1, 3, none⟩ = false := ((HJA.out.bi.keptG hgrow HJA.out.sz (own_no HJA.out.r3 (by omega))) 3 (by simp)).2; have bwC : Below w.heap.size w w' := bwB.grown hgrow bwB.size (fun q hq => by have := (HJA.out.r3.lt hq).1; omega)))
       have bwD := bwC.setCell (show w.heap.size ≤ (⟨w.heap.size + 1 + 1, 3, none⟩ : Addr).block by simp; omega) (.slice na ((tabsT (wroteAt own) k).length + 1) nc)
       go_roundw
       case rel => exact ⟨k + 1, _, _, by omega, by go_num, hid (by have h := HN.out; rw [HTE.out, HT2.out]; exact h), bwD⟩
       case measure => simp [intOf]; omega
      ·have hxb : (xt == (k : Int)) = false := by simpa using hxk
       have HV := hid (HST2.out hxb)
       clear HST2 HYes2 hxk
       go_wp2
       go_roundw
       case rel => exact ⟨l + 1, by omega, by go_num, HV, HJ, bwA⟩
       case measure => simp [intOf]; omega
     ·have hln : l = own.length := by omega
      subst hln
      have hlti2 : ¬ (own.length : Int) < own.length := by omega
      have HTE := hid (tabsT_no (p := wroteAt own) (k := k) (any_false (by simpa using HP.out)))
      clear HP
      go_wp2
      go_roundw
      case rel => exact ⟨k + 1, _, _, by omega, by go_num, hid (by have h := HJ.out; rw [HTE.out, HT2.out]; exact h), hbel⟩
      case measure => simp [intOf]; omega
   ·have HT2 := hid (tabsT_yes (p := readAt rs) (k := k) HRD.out)
    have HIA := hid (HI.out.below (below_alloc wr (.cells #[.int .i64 (k : Int)] 3)))
    have bwB := hbel.alloc hbs (.cells #[.int .i64 (k : Int)] 3)
    clear HRD
    go_wp2_with (at_builtin; go_loud (refine wpList_append_own_at _ rfl (.tmp 23) (.tmp 25) 32 rfl (w.heap.size + 1 + 1 + 1) 3 i0 (.int .i64 0) 1 8 Tryz.underlying32 hi hz0 hz1 hz2 rfl (by decide) v2 _ _ rfl HIA.out.r2 ⟨wr.heap.size, 0, none⟩ 1 1 [.int .i64 (k : Int)] rfl rfl (cells_new _ [.int .i64 (k : Int)] 3 _ (by simp)) (by intro u hu; simp at hu; subst hu; rfl) (by unfold maxLen; omega) (by omega) (by simp; omega) ?_; intro v' w' hown hgrow _ hblk; obtain ⟨na, nc, hvn⟩ := form_push hown; subst hvn; have HJ := hid (HIA.out.push2 hgrow hown hblk); have m2 : w'.cell? ⟨w.heap.size + 1 + 1, 2, none⟩ = some v2 := ((HIA.out.bi.keptG hgrow HIA.out.sz (own_no HIA.out.r2 (by omega))) 2 (by simp)).1; have m2f : w'.frozen? ⟨w.heap.size + 1 + 1, 2, none⟩ = false := ((HIA.out.bi.keptG hgrow HIA.out.sz (own_no HIA.out.r2 (by omega))) 2 (by simp)).2; have m3 : w'.cell? ⟨w.heap.size, 3, none⟩ = some (.slice oa own.length oc) := ((HIA.out.bt.keptG hgrow (by have := HIA.out.sz; omega) (own_no HIA.out.r2 (by omega))) 3 (by simp)).1; have bwC : Below w.heap.size w w' := bwB.grown hgrow bwB.size (fun q hq => by have := (HIA.out.r2.lt hq).1; omega); have bwJ := bwC.setCell (show w.heap.size ≤ (⟨w.heap.size + 1 + 1, 2, none⟩ : Addr).block by simp; omega) (.slice na ((tabsT (readAt rs) k).length + 1) nc); clear hown hgrow hblk))
    clear t3 t4 f2 c0 HI hbel hbs HIA bwB m2 m2f m3 bwC
    go_loopw [31] (fun jv wx => ∃ l : Nat, l ≤ own.length ∧ jv = .int .i64 l ∧ Hid (∀ x ∈ own.take l, (x.tb == (k : Int)) = false) ∧ Hid (Inf w.heap.size op md bg st (.slice oa own.length oc) (.slice (some ⟨rg, ro, none⟩) rs.length rc) sv wx (.slice na ((tabsT (readAt rs) k).length + 1) nc) v3 (tabsT (readAt rs) k ++ [(k : Int)]) (tabsT (wroteAt own) k)) ∧ Below w.heap.size w wx) (fun jv _ => own.length - (intOf jv).toNat)
    case atStart => exact ⟨0, Nat.zero_le _, rfl, (fun x h => by simp at h : ∀ x ∈ own.take 0, (x.tb == (k : Int)) = false), HJ, bwJ⟩
    case round =>
     clear HJ bwJ
     obtain ⟨l, hl, rfl, HP, HJ, hbel⟩ := hrel
     have hbs := hbel.size
     have hJ0 := HJ.out.sz
     by_cases hlt2 : l < own.length
     ·have hlti2 : (l : Int) < own.length := by omega
      obtain ⟨og, oo, rfl, _, hog, hoc⟩ := cel_at HOW.out (by omega)
      obtain ⟨d0, d1, d2, d3⟩ := hoc l hlt2
      have HST2 := hid (fun z => any_take (p := fun x => x.tb == (k : Int)) hlt2 HP.out z)
      have HYes2 := hid (fun z => any_true (p := fun x => x.tb == (k : Int)) hlt2 z)
      clear hoc HP
      generalize own[l] = x at d0 d1 d2 d3 HST2 HYes2
      obtain ⟨xt, xk, xv, xg⟩ := x
      simp only at d0 d1 d2 d3 HST2 HYes2
      replace d0 := (hbel.cell (p := ⟨og, oo + l * 4, none⟩) hog).trans d0
      replace d1 := (hbel.cell (p := ⟨og, oo + l * 4 + 1, none⟩) hog).trans d1
      replace d2 := (hbel.cell (p := ⟨og, oo + l * 4 + 2, none⟩) hog).trans d2
      replace d3 := (hbel.cell (p := ⟨og, oo + l * 4 + 3, none⟩) hog).trans d3
      have hogw : og < wr.heap.size := by omega
      have bwA : Below w.heap.size w (wr.alloc (.cells #[.int .i64 xt, .int .i64 xk, .int .i64 xv, .bool xg] 106)) := hbel.alloc hbs _
      replace HJ := hid (HJ.out.below (below_alloc wr (.cells #[.int .i64 xt, .int .i64 xk, .int .i64 xv, .bool xg] 106)))
      by_cases hxk : xt = (k : Int)
      ·have hxb : (xt == (k : Int)) = true := by simpa using hxk
       have HWR : Hid (wroteAt own k = true) := hid (HYes2.out hxb)
       have HTE := hid (tabsT_yes HWR.out)
       have hsz := HJ.out.sz
       have HLN := hid (tabsT_len (wroteAt own) k)
       have hln := HLN.out
       have f3 : (wr.alloc (.cells #[.int .i64 xt, .int .i64 xk, .int .i64 xv, .bool xg] 106)).cell? ⟨w.heap.size + 1 + 1, 3, none⟩ = some v3 := (HJ.out.bi 3 (by simp)).1
       have HJA := hid (HJ.out.below (below_alloc (wr.alloc (.cells #[.int .i64 xt, .int .i64 xk, .int .i64 xv, .bool xg] 106)) (.cells #[.int .i64 (k : Int)] 3)))
       have bwB := bwA.alloc bwA.size (.cells #[.int .i64 (k : Int)] 3)
       clear hxk HST2 HYes2 HWR
       go_wp2_with (at_builtin; go_loud (refine wpList_append_own_at _ rfl (.tmp 40) (.tmp 42) 32 rfl (w.heap.size + 1 + 1 + 1) 3 i0 (.int .i64 0) 1 8 Tryz.underlying32 hi hz0 hz1 hz2 rfl (by decide) v3 _ _ rfl HJA.out.r3 ⟨wr.heap.size + 1, 0, none⟩ 1 1 [.int .i64 (k : Int)] rfl rfl ?hcl (by intro u hu; simp at hu; subst hu; rfl) (by unfold maxLen; omega) (by omega) (by simp; omega) ?_; (case hcl => exact cells_new _ [.int .i64 (k : Int)] 3 _ (by simp)); intro v' w' hown hgrow _ hblk; obtain ⟨na, nc, hvn⟩ := form_push hown; subst hvn; have HN := hid (HJA.out.push3 hgrow hown hblk); have m3 : w'.cell? ⟨w.heap.size + 1 + 1, 3, none⟩ = some v3 := ((HJA.out.bi.keptG hgrow HJA.out.sz (own_no HJA.out.r3 (by omega))) 3 (by simp)).1; have m3f : w'.frozen? ⟨w.heap.size + 1 + 1, 3, none⟩ = false := ((HJA.out.bi.keptG hgrow HJA.out.sz (own_no HJA.out.r3 (by omega))) 3 (by simp)).2; have bwC : Below w.heap.size w w' := bwB.grown hgrow bwB.size (fun q hq => by have := (HJA.out.r3.lt hq).1; omega)))
       have bwD := bwC.setCell (show w.heap.size ≤ (⟨w.heap.size + 1 + 1, 3, none⟩ : Addr).block by simp; omega) (.slice na ((tabsT (wroteAt own) k).length + 1) nc)
       go_roundw
       case rel => exact ⟨k + 1, _, _, by omega, by go_num, hid (by have h := HN.out; rw [HTE.out, HT2.out]; exact h), bwD⟩
       case measure => simp [intOf]; omega
      ·have hxb : (xt == (k : Int)) = false := by simpa using hxk
       have HV := hid (HST2.out hxb)
       clear HST2 HYes2 hxk
       go_wp2
       go_roundw
       case rel => exact ⟨l + 1, by omega, by go_num, HV, HJ, bwA⟩
       case measure => simp [intOf]; omega
     ·have hln : l = own.length := by omega
      subst hln
      have hlti2 : ¬ (own.length : Int) < own.length := by omega
      have HTE := hid (tabsT_no (p := wroteAt own) (k := k) (any_false (by simpa using HP.out)))
      clear HP
      go_wp2
      go_roundw
      case rel => exact ⟨k + 1, _, _, by omega, by go_num, hid (by have h := HJ.out; rw [HTE.out, HT2.out]; exact h), hbel⟩
      case measure => simp [intOf]; omega
  ·have hke : k = 32 := by omega
   subst hke
   have f0 : wr.cell? ⟨w.heap.size + 1 + 1, 0, none⟩ = some (.int .i64 bg) := (HI.out.bi 0 (by simp)).1
   have f1 : wr.cell? ⟨w.heap.size + 1 + 1, 1, none⟩ = some (.int .i64 st) := (HI.out.bi 1 (by simp)).1
   have f2 : wr.cell? ⟨w.heap.size + 1 + 1, 2, none⟩ = some v2 := (HI.out.bi 2 (by simp)).1
   have f3 : wr.cell? ⟨w.heap.size + 1 + 1, 3, none⟩ = some v3 := (HI.out.bi 3 (by simp)).1
   have z0 : wr.cell? ⟨w.heap.size + 1, 0, none⟩ = some (.int .i64 0) := (HI.out.bz 0 (by simp)).1
   have z1 : wr.cell? ⟨w.heap.size + 1, 1, none⟩ = some (.int .i64 0) := (HI.out.bz 1 (by simp)).1
   have z2 : wr.cell? ⟨w.heap.size + 1, 2, none⟩ = some (.slice none 0 0) := (HI.out.bz 2 (by simp)).1
   have z3 : wr.cell? ⟨w.heap.size + 1, 3, none⟩ = some (.slice none 0 0) := (HI.out.bz 3 (by simp)).1
   have zf0 : wr.frozen? ⟨w.heap.size + 1, 0, none⟩ = false := (HI.out.bz 0 (by simp)).2
   have zf1 : wr.frozen? ⟨w.heap.size + 1, 1, none⟩ = false := (HI.out.bz 1 (by simp)).2
   have zf2 : wr.frozen? ⟨w.heap.size + 1, 2, none⟩ = false := (HI.out.bz 2 (by simp)).2
   have zf3 : wr.frozen? ⟨w.heap.size + 1, 3, none⟩ = false := (HI.out.bz 3 (by simp)).2
   have hge : ∀ i, w.heap.size ≤ (⟨w.heap.size + 1, i, none⟩ : Addr).block := fun i => by simp
   have bz := (((hbel.setCell (hge 0) (.int .i64 bg)).setCell (hge 1) (.int .i64 st)).setCell (hge 2) v2).setCell (hge 3) v3
   have HR2 := hid ((((((HI.out.r2.other (c := w.heap.size + 1) (j := 0) (u := .int .i64 bg) (own_no HI.out.r2 (by omega))).other (c := w.heap.size + 1) (j := 1) (u := .int .i64 st) (own_no HI.out.r2 (by omega))).other (c := w.heap.size + 1) (j := 2) (u := v2) (own_no HI.out.r2 (by omega))).other (c := w.heap.size + 1) (j := 3) (u := v3) (own_no HI.out.r2 (by omega))).rs).mono liesI (show w.heap.size ≤ w.heap.size + 1 + 1 + 1 by omega))
   have HR3 := hid ((((((HI.out.r3.other (c := w.heap.size + 1) (j := 0) (u := .int .i64 bg) (own_no HI.out.r3 (by omega))).other (c := w.heap.size + 1) (j := 1) (u := .int .i64 st) (own_no HI.out.r3 (by omega))).other (c := w.heap.size + 1) (j := 2) (u := v2) (own_no HI.out.r3 (by omega))).other (c := w.heap.size + 1) (j := 3) (u := v3) (own_no HI.out.r3 (by omega))).rs).mono liesI (show w.heap.size ≤ w.heap.size + 1 + 1 + 1 by omega))
   have HG2 := hid (IGr.base ((((HI.out.r2.other (c := w.heap.size + 1) (j := 0) (u := .int .i64 bg) (own_no HI.out.r2 (by omega))).other (c := w.heap.size + 1) (j := 1) (u := .int .i64 st) (own_no HI.out.r2 (by omega))).other (c := w.heap.size + 1) (j := 2) (u := v2) (own_no HI.out.r2 (by omega))).other (c := w.heap.size + 1) (j := 3) (u := v3) (own_no HI.out.r2 (by omega))) (show w.heap.size ≤ w.heap.size + 1 + 1 + 1 by omega))
   have HG3 := hid (IGr.base ((((HI.out.r3.other (c := w.heap.size + 1) (j := 0) (u := .int .i64 bg) (own_no HI.out.r3 (by omega))).other (c := w.heap.size + 1) (j := 1) (u := .int .i64 st) (own_no HI.out.r3 (by omega))).other (c := w.heap.size + 1) (j := 2) (u := v2) (own_no HI.out.r3 (by omega))).other (c := w.heap.size + 1) (j := 3) (u := v3) (own_no HI.out.r3 (by omega))) (show w.heap.size ≤ w.heap.size + 1 + 1 + 1 by omega))
   obtain ⟨a2, c2, hv2⟩ := HI.out.r2.form
   obtain ⟨a3, c3, hv3⟩ := HI.out.r3.form
   subst hv2 hv3
   have HBZ := hid bz
   clear HI bz
   go_wp2
   refine bodyPost_ret (v := .agg #[.int .i64 bg, .int .i64 st, .slice a2 (tabsT (readAt rs) 32).length c2, .slice a3 (tabsT (wroteAt own) 32).length c3]) (by simp [results, Tryz.results60, go_sem, f0, f1, f2, f3, z0, z1, z2, z3, zf0, zf1, zf2, zf3]) rfl ⟨_, _, rfl, ⟨_, _, rfl, HR2.out, HR3.out⟩, HBZ.out, HG2.out, HG3.out⟩
theorem run_append_rs {P : Program} {α : Type} {C : Nat → World → List Value → α → Prop} {size : Nat} (hC : Lies size C) (h1C : ∀ {B w cs x}, C B w cs x → ∀ u ∈ cs, u.oneCell' = true) (w : World) (base : Nat) (t ty e : TypeId) (i : TypeInfo) (z : Value) (bytes : Nat) (ht : P.underlying t = some (.slice e)) (hi : P.info? e = some i) (hz : i.zero = some z) (hsize : i.size = size) (hby : i.bytes = bytes) (hzs : z.cells.size = size) (hsz : 0 < size)
 (v : Value) (n : Nat) (xs : List Value) (hown : w.ownsRow base e size v n xs) (ad : Option Addr) (c : Nat) (us : List α) (hrs : RS size C 0 w (.slice ad us.length c) us) (h63 : n + us.length ≤ maxLen) (hb : (n + us.length) * bytes ≤ 140737488355328) (hbase : base ≤ w.heap.size) :
 ∃ news v' w', Fill size C 0 us us.length news w ∧ (Builtin.append_ #[t, t] ty #[v, .slice ad us.length c]).run P w = .ok v' w' ∧ w'.ownsRow base e size v' (n + us.length) (xs ++ news) ∧ w.grownBy w' v.ownBlock ∧ (v'.ownBlock = v.ownBlock ∨ v'.ownBlock = some w.heap.size) ∧ (v' = .slice none 0 0 ↔ v = .slice none 0 0 ∧ us.length = 0) := by
 rcases Nat.eq_zero_or_pos us.length with h0 | hp
 ·have hus : us = [] := List.length_eq_zero_iff.1 h0
  subst hus
  have hr : (Builtin.append_ #[t, t] ty #[v, .slice ad ([] : List α).length c]).run P w = .ok v w := by
   have hsz2 : ∀ W, (Go.sizeOf e).run P W = .ok i.size W := fun W => by simp [Go.sizeOf, typeInfo, hi]
   obtain ⟨_, h2⟩ := hown
   rcases h2 with ⟨rfl, rfl⟩ | ⟨g, cap, cur, rfl, _, _, hnc, _⟩
   ·cases ad with
    | none => simp [Builtin.append_, run_underlying ht, hsz2, Builtin.lenOf, Builtin.firstCells]
    | some a => simp [Builtin.append_, run_underlying ht, hsz2, Builtin.lenOf, Builtin.firstCells, loadCells, loadCellsFrom]
   ·cases ad with
    | none => simp [Builtin.append_, run_underlying ht, hsz2, Builtin.lenOf, Builtin.firstCells, hnc, storeCells]
    | some a => simp [Builtin.append_, run_underlying ht, hsz2, Builtin.lenOf, Builtin.firstCells, hnc, loadCells, loadCellsFrom, storeCells]
  refine ⟨[], v, w, fill_nil _ _ _ _, hr, by simpa using hown, ⟨rfl, rfl, rfl, Nat.le_refl _, fun _ _ _ => rfl⟩, .inl rfl, by simp⟩
 ·obtain ⟨g, o, rfl⟩ : ∃ g o, ad = some ⟨g, o, none⟩ := by
   obtain ⟨a', c', he, hh⟩ := hrs
   obtain ⟨g, o, e2, _⟩ := hh hp
   simp only [Value.slice.injEq] at he
   exact ⟨g, o, he.1.trans e2⟩
  obtain ⟨news, hf, hcells⟩ := RS.flat hC hrs
  obtain ⟨v', w', hrun, r1, r2, r3, r4⟩ := run_append_own_at (P := P) w base t ty e i z size bytes ht hi hz hsize hby hzs hsz v n xs hown ⟨g, o, none⟩ us.length c news hf.1 (fun j u hj => by rw [Addr.add_lit]; exact hcells j u hj) (hf.one h1C hC) h63 hb hbase
  exact ⟨news, v', w', hf, hrun, r1, r2, r4, r3⟩
theorem wpList_append_rs {P : Program} {α : Type} {C : Nat → World → List Value → α → Prop} {size : Nat} (hC : Lies size C) (h1C : ∀ {B w cs x}, C B w cs x → ∀ u ∈ cs, u.oneCell' = true) (w : World) {ops : Array Oper} {rest : List Oper} {o : Oper} {a : Act} {Q : Exit → Act → World → Prop} (hgd : o.guard = none) (s x : Operand) (t : TypeId)
 (ho : o.op = .call { callee := .builtin .append, args := #[s, x], argTypes := #[t, t] })
 (base : Nat) (e : TypeId) (i : TypeInfo) (z : Value) (bytes : Nat) (ht : P.underlying t = some (.slice e)) (hi : P.info? e = some i) (hz : i.zero = some z) (hsize : i.size = size) (hby : i.bytes = bytes) (hzs : z.cells.size = size) (hsz : 0 < size)
 (v : Value) (n : Nat) (xs : List Value) (hs : a.eval s = v) (hown : w.ownsRow base e size v n xs) (ad : Option Addr) (c : Nat) (us : List α) (hx : a.eval x = .slice ad us.length c) (hrs : RS size C 0 w (.slice ad us.length c) us) (h63 : n + us.length ≤ maxLen) (hb : (n + us.length) * bytes ≤ 140737488355328) (hbase : base ≤ w.heap.size)
 (h : ∀ news v' w', Fill size C 0 us us.length news w → w'.ownsRow base e size v' (n + us.length) (xs ++ news) → w.grownBy w' v.ownBlock → (v'.ownBlock = v.ownBlock ∨ v'.ownBlock = some w.heap.size) → wpList P ops Q rest (a.put o.dst v') w') : wpList P ops Q (o :: rest) a w := by
 obtain ⟨news, v', w', hf, hrun, r1, r2, r3, r4⟩ := run_append_rs (P := P) hC h1C w base t o.type e i z bytes ht hi hz hsize hby hzs hsz v n xs hown ad c us hrs h63 hb hbase
 exact Lib.wpList_append_run w hgd s x t t ho v (.slice ad us.length c) hs hx v' w' hrun (h news v' w' hf r1 r2 r3)
theorem step_append_rs {P : Program} {α : Type} {C : Nat → World → List Value → α → Prop} {size : Nat} (hC : Lies size C) (h1C : ∀ {B w cs x}, C B w cs x → ∀ u ∈ cs, u.oneCell' = true) {ops : Array Oper} {o : Oper} {a : Act} {w : World} {K : Act → World → Prop} {Q : Exit → Act → World → Prop} {E : Prop}
 (hg : o.guard = none) (s x : Operand) (t : TypeId) (hop : o.op = Op.call { callee := Callee.builtin Builtin.append, args := #[s, x], argTypes := #[t, t] })
 (base : Nat) (e : TypeId) (i : TypeInfo) (z : Value) (bytes : Nat) (ht : P.underlying t = some (.slice e)) (hi : P.info? e = some i) (hz : i.zero = some z) (hsize : i.size = size) (hby : i.bytes = bytes) (hzs : z.cells.size = size) (hsz : 0 < size)
 (v : Value) (n : Nat) (xs : List Value) (hs : a.eval s = v) (hown : w.ownsRow base e size v n xs) (ad : Option Addr) (c : Nat) (us : List α) (m : Nat) (hm : us.length = m) (hx : a.eval x = .slice ad m c) (hrs : RS size C 0 w (.slice ad us.length c) us) (h63 : n + us.length ≤ maxLen) (hb : (n + us.length) * bytes ≤ 140737488355328) (hbase : base ≤ w.heap.size)
 (hK : ∀ news v' w', Fill size C 0 us us.length news w → w'.ownsRow base e size v' (n + us.length) (xs ++ news) → w.grownBy w' v.ownBlock → (v'.ownBlock = v.ownBlock ∨ v'.ownBlock = some w.heap.size) → (v' = .slice none 0 0 ↔ v = .slice none 0 0 ∧ us.length = 0) → K (a.put o.dst v') w') :
 if Region.wanted o (yielded ops a.tmps) = true then Oper.wp P o a w K Q else E := by
 subst hm
 have hw : Region.wanted o (yielded ops a.tmps) = true := by simp [Region.wanted, hg]
 rw [if_pos hw]
 obtain ⟨news, v', w', hf, hrun, r1, r2, r3, r4⟩ := run_append_rs (P := P) hC h1C w base t o.type e i z bytes ht hi hz hsize hby hzs hsz v n xs hown ad c us hrs h63 hb hbase
 unfold Oper.wp
 simp [execOp, hop, resolve, invoke, builtin, hs, hx, hrun, Result.andThen]
 exact hK news v' w' hf r1 r2 r3 r4
end Go.Proofs.YtblkgicbimflhaaGreat
